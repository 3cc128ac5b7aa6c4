/-
  The checked code answers as the plain functions do; written by program. Conditions: none.
-/
import Derived.Test.YtgnjabkkcglmkaaDoorGN
import Derived.Test.YtgnjabkkcglmkaaDoorProg
set_option linter.unusedVariables false
set_option linter.unusedSimpArgs false
set_option maxRecDepth 100000
namespace Go.Rv
open Go.Proofs
theorem ty3 : TIOk Tryd.prog 3 ⟨.int .i64, 1, 8, some (.int .i64), [.int .i64 0]⟩ := ⟨⟨infoOf (Tryd.prog.info? 3), by kernel_rfl, by kernel_rfl, by kernel_rfl, .int .i64 0, by kernel_rfl, by kernel_rfl⟩, (by kernel_rfl : Tryd.prog.underlying 3 = some (.int .i64))⟩
theorem ty4 : TIOk Tryd.prog 4 ⟨.bool, 1, 1, some .bool, [.bool false]⟩ := ⟨⟨infoOf (Tryd.prog.info? 4), by kernel_rfl, by kernel_rfl, by kernel_rfl, .bool false, by kernel_rfl, by kernel_rfl⟩, (by kernel_rfl : Tryd.prog.underlying 4 = some .bool)⟩
theorem ty5 : TIOk Tryd.prog 5 ⟨.int .u8, 1, 1, some (.int .u8), [.int .u8 0]⟩ := ⟨⟨infoOf (Tryd.prog.info? 5), by kernel_rfl, by kernel_rfl, by kernel_rfl, .int .u8 0, by kernel_rfl, by kernel_rfl⟩, (by kernel_rfl : Tryd.prog.underlying 5 = some (.int .u8))⟩
theorem ty22 : TIOk Tryd.prog 22 ⟨.slice 5, 1, 24, some (.list (.int .u8)), [.slice none 0 0]⟩ := ⟨⟨infoOf (Tryd.prog.info? 22), by kernel_rfl, by kernel_rfl, by kernel_rfl, .slice none 0 0, by kernel_rfl, by kernel_rfl⟩, (by kernel_rfl : Tryd.prog.underlying 22 = some (.slice 5))⟩
theorem ty23 : TIOk Tryd.prog 23 ⟨.slice 3, 1, 24, some (.list (.int .i64)), [.slice none 0 0]⟩ := ⟨⟨infoOf (Tryd.prog.info? 23), by kernel_rfl, by kernel_rfl, by kernel_rfl, .slice none 0 0, by kernel_rfl, by kernel_rfl⟩, (by kernel_rfl : Tryd.prog.underlying 23 = some (.slice 3))⟩
theorem ty37 : TIOk Tryd.prog 37 ⟨.slice 23, 1, 24, some (.list (.list (.int .i64))), [.slice none 0 0]⟩ := ⟨⟨infoOf (Tryd.prog.info? 37), by kernel_rfl, by kernel_rfl, by kernel_rfl, .slice none 0 0, by kernel_rfl, by kernel_rfl⟩, (by kernel_rfl : Tryd.prog.underlying 37 = some (.slice 23))⟩
theorem ty46 : TIOk Tryd.prog 46 ⟨.int .u64, 1, 8, some (.int .u64), [.int .u64 0]⟩ := ⟨⟨infoOf (Tryd.prog.info? 46), by kernel_rfl, by kernel_rfl, by kernel_rfl, .int .u64 0, by kernel_rfl, by kernel_rfl⟩, (by kernel_rfl : Tryd.prog.underlying 46 = some (.int .u64))⟩
theorem ty47 : TIOk Tryd.prog 47 ⟨.slice 46, 1, 24, some (.list (.int .u64)), [.slice none 0 0]⟩ := ⟨⟨infoOf (Tryd.prog.info? 47), by kernel_rfl, by kernel_rfl, by kernel_rfl, .slice none 0 0, by kernel_rfl, by kernel_rfl⟩, (by kernel_rfl : Tryd.prog.underlying 47 = some (.slice 46))⟩
theorem ty54 : TIOk Tryd.prog 54 ⟨.strct [(0, 23), (1, 3), (2, 3)], 3, 40, some (.pair (.list (.int .i64)) (.pair (.int .i64) (.pair (.int .i64) .unit))), [.slice none 0 0, .int .i64 0, .int .i64 0]⟩ := ⟨⟨infoOf (Tryd.prog.info? 54), by kernel_rfl, by kernel_rfl, by kernel_rfl, .agg #[.slice none 0 0, .int .i64 0, .int .i64 0], by kernel_rfl, by kernel_rfl⟩, ⟨fieldsOf (Tryd.prog.underlying 54), by kernel_rfl, by kernel_rfl⟩⟩
theorem ty62 : TIOk Tryd.prog 62 ⟨.strct [(0, 3), (1, 3)], 2, 16, some (.pair (.int .i64) (.pair (.int .i64) .unit)), [.int .i64 0, .int .i64 0]⟩ := ⟨⟨infoOf (Tryd.prog.info? 62), by kernel_rfl, by kernel_rfl, by kernel_rfl, .agg #[.int .i64 0, .int .i64 0], by kernel_rfl, by kernel_rfl⟩, ⟨fieldsOf (Tryd.prog.underlying 62), by kernel_rfl, by kernel_rfl⟩⟩
theorem ty63 : TIOk Tryd.prog 63 ⟨.slice 62, 1, 24, some (.list (.pair (.int .i64) (.pair (.int .i64) .unit))), [.slice none 0 0]⟩ := ⟨⟨infoOf (Tryd.prog.info? 63), by kernel_rfl, by kernel_rfl, by kernel_rfl, .slice none 0 0, by kernel_rfl, by kernel_rfl⟩, (by kernel_rfl : Tryd.prog.underlying 63 = some (.slice 62))⟩
theorem ty74 : TIOk Tryd.prog 74 ⟨.strct [(0, 22), (1, 3)], 2, 32, some (.pair (.list (.int .u8)) (.pair (.int .i64) .unit)), [.slice none 0 0, .int .i64 0]⟩ := ⟨⟨infoOf (Tryd.prog.info? 74), by kernel_rfl, by kernel_rfl, by kernel_rfl, .agg #[.slice none 0 0, .int .i64 0], by kernel_rfl, by kernel_rfl⟩, ⟨fieldsOf (Tryd.prog.underlying 74), by kernel_rfl, by kernel_rfl⟩⟩
theorem ty88 : TIOk Tryd.prog 88 ⟨.int .u64, 1, 8, some (.int .u64), [.int .u64 0]⟩ := ⟨⟨infoOf (Tryd.prog.info? 88), by kernel_rfl, by kernel_rfl, by kernel_rfl, .int .u64 0, by kernel_rfl, by kernel_rfl⟩, (by kernel_rfl : Tryd.prog.underlying 88 = some (.int .u64))⟩
theorem ty89 : TIOk Tryd.prog 89 ⟨.arr 9 4, 9, 9, none, [.bool false, .bool false, .bool false, .bool false, .bool false, .bool false, .bool false, .bool false, .bool false]⟩ := ⟨⟨infoOf (Tryd.prog.info? 89), by kernel_rfl, by kernel_rfl, by kernel_rfl, .agg #[.bool false, .bool false, .bool false, .bool false, .bool false, .bool false, .bool false, .bool false, .bool false], by kernel_rfl, by kernel_rfl⟩, (by kernel_rfl : Tryd.prog.underlying 89 = some (.array 9 4))⟩
theorem ty91 : TIOk Tryd.prog 91 ⟨.arr 64 5, 64, 64, none, [.int .u8 0, .int .u8 0, .int .u8 0, .int .u8 0, .int .u8 0, .int .u8 0, .int .u8 0, .int .u8 0, .int .u8 0, .int .u8 0, .int .u8 0, .int .u8 0, .int .u8 0, .int .u8 0, .int .u8 0, .int .u8 0, .int .u8 0, .int .u8 0, .int .u8 0, .int .u8 0, .int .u8 0, .int .u8 0, .int .u8 0, .int .u8 0, .int .u8 0, .int .u8 0, .int .u8 0, .int .u8 0, .int .u8 0, .int .u8 0, .int .u8 0, .int .u8 0, .int .u8 0, .int .u8 0, .int .u8 0, .int .u8 0, .int .u8 0, .int .u8 0, .int .u8 0, .int .u8 0, .int .u8 0, .int .u8 0, .int .u8 0, .int .u8 0, .int .u8 0, .int .u8 0, .int .u8 0, .int .u8 0, .int .u8 0, .int .u8 0, .int .u8 0, .int .u8 0, .int .u8 0, .int .u8 0, .int .u8 0, .int .u8 0, .int .u8 0, .int .u8 0, .int .u8 0, .int .u8 0, .int .u8 0, .int .u8 0, .int .u8 0, .int .u8 0]⟩ := ⟨⟨infoOf (Tryd.prog.info? 91), by kernel_rfl, by kernel_rfl, by kernel_rfl, .agg #[.int .u8 0, .int .u8 0, .int .u8 0, .int .u8 0, .int .u8 0, .int .u8 0, .int .u8 0, .int .u8 0, .int .u8 0, .int .u8 0, .int .u8 0, .int .u8 0, .int .u8 0, .int .u8 0, .int .u8 0, .int .u8 0, .int .u8 0, .int .u8 0, .int .u8 0, .int .u8 0, .int .u8 0, .int .u8 0, .int .u8 0, .int .u8 0, .int .u8 0, .int .u8 0, .int .u8 0, .int .u8 0, .int .u8 0, .int .u8 0, .int .u8 0, .int .u8 0, .int .u8 0, .int .u8 0, .int .u8 0, .int .u8 0, .int .u8 0, .int .u8 0, .int .u8 0, .int .u8 0, .int .u8 0, .int .u8 0, .int .u8 0, .int .u8 0, .int .u8 0, .int .u8 0, .int .u8 0, .int .u8 0, .int .u8 0, .int .u8 0, .int .u8 0, .int .u8 0, .int .u8 0, .int .u8 0, .int .u8 0, .int .u8 0, .int .u8 0, .int .u8 0, .int .u8 0, .int .u8 0, .int .u8 0, .int .u8 0, .int .u8 0, .int .u8 0], by kernel_rfl, by kernel_rfl⟩, (by kernel_rfl : Tryd.prog.underlying 91 = some (.array 64 5))⟩
def tys : List (TypeId × TI) := [(3, ⟨.int .i64, 1, 8, some (.int .i64), [.int .i64 0]⟩), (4, ⟨.bool, 1, 1, some .bool, [.bool false]⟩), (5, ⟨.int .u8, 1, 1, some (.int .u8), [.int .u8 0]⟩), (22, ⟨.slice 5, 1, 24, some (.list (.int .u8)), [.slice none 0 0]⟩), (23, ⟨.slice 3, 1, 24, some (.list (.int .i64)), [.slice none 0 0]⟩), (37, ⟨.slice 23, 1, 24, some (.list (.list (.int .i64))), [.slice none 0 0]⟩), (46, ⟨.int .u64, 1, 8, some (.int .u64), [.int .u64 0]⟩), (47, ⟨.slice 46, 1, 24, some (.list (.int .u64)), [.slice none 0 0]⟩), (54, ⟨.strct [(0, 23), (1, 3), (2, 3)], 3, 40, some (.pair (.list (.int .i64)) (.pair (.int .i64) (.pair (.int .i64) .unit))), [.slice none 0 0, .int .i64 0, .int .i64 0]⟩), (62, ⟨.strct [(0, 3), (1, 3)], 2, 16, some (.pair (.int .i64) (.pair (.int .i64) .unit)), [.int .i64 0, .int .i64 0]⟩), (63, ⟨.slice 62, 1, 24, some (.list (.pair (.int .i64) (.pair (.int .i64) .unit))), [.slice none 0 0]⟩), (74, ⟨.strct [(0, 22), (1, 3)], 2, 32, some (.pair (.list (.int .u8)) (.pair (.int .i64) .unit)), [.slice none 0 0, .int .i64 0]⟩), (88, ⟨.int .u64, 1, 8, some (.int .u64), [.int .u64 0]⟩), (89, ⟨.arr 9 4, 9, 9, none, [.bool false, .bool false, .bool false, .bool false, .bool false, .bool false, .bool false, .bool false, .bool false]⟩), (91, ⟨.arr 64 5, 64, 64, none, [.int .u8 0, .int .u8 0, .int .u8 0, .int .u8 0, .int .u8 0, .int .u8 0, .int .u8 0, .int .u8 0, .int .u8 0, .int .u8 0, .int .u8 0, .int .u8 0, .int .u8 0, .int .u8 0, .int .u8 0, .int .u8 0, .int .u8 0, .int .u8 0, .int .u8 0, .int .u8 0, .int .u8 0, .int .u8 0, .int .u8 0, .int .u8 0, .int .u8 0, .int .u8 0, .int .u8 0, .int .u8 0, .int .u8 0, .int .u8 0, .int .u8 0, .int .u8 0, .int .u8 0, .int .u8 0, .int .u8 0, .int .u8 0, .int .u8 0, .int .u8 0, .int .u8 0, .int .u8 0, .int .u8 0, .int .u8 0, .int .u8 0, .int .u8 0, .int .u8 0, .int .u8 0, .int .u8 0, .int .u8 0, .int .u8 0, .int .u8 0, .int .u8 0, .int .u8 0, .int .u8 0, .int .u8 0, .int .u8 0, .int .u8 0, .int .u8 0, .int .u8 0, .int .u8 0, .int .u8 0, .int .u8 0, .int .u8 0, .int .u8 0, .int .u8 0]⟩)]
theorem tys_ok : TOk Tryd.prog (tlook tys) := tok_of (List.forall_mem_cons.2 ⟨ty3, List.forall_mem_cons.2 ⟨ty4, List.forall_mem_cons.2 ⟨ty5, List.forall_mem_cons.2 ⟨ty22, List.forall_mem_cons.2 ⟨ty23, List.forall_mem_cons.2 ⟨ty37, List.forall_mem_cons.2 ⟨ty46, List.forall_mem_cons.2 ⟨ty47, List.forall_mem_cons.2 ⟨ty54, List.forall_mem_cons.2 ⟨ty62, List.forall_mem_cons.2 ⟨ty63, List.forall_mem_cons.2 ⟨ty74, List.forall_mem_cons.2 ⟨ty88, List.forall_mem_cons.2 ⟨ty89, List.forall_mem_cons.2 ⟨ty91, by simp⟩⟩⟩⟩⟩⟩⟩⟩⟩⟩⟩⟩⟩⟩⟩)
def ioF (f : FuncId) (i : Nat) : Bool := [(71, 0), (88, 1)].any fun (p : Nat × Nat) => Nat.beq p.1 f && Nat.beq p.2 i


/-! loop.example/headtrees/spec.l1In -/

def spec_l1In_an : Ann := (.seq (.leaf [0, 1, 2]) (.seq (.leaf [6]) (.leaf [6])))

noncomputable def spec_l1In_ctx : Ctx := ⟨tlook tys, olook [], ioF, 0, false⟩

theorem spec_l1In_n1_l (x781 : Int) (x782 : Int) (x783 : Int) : Link spec_l1In_ctx LL (bodyOf Tryd.f45) spec_l1In_an (⟨mkE 15 0 [(0, .dat (.int .i64) x781), (1, .dat (.int .i64) x782), (2, .dat (.int .i64) x783)], []⟩ : St) (spec_l1In_n1 x781 x782 x783) (fun (t : Bool) => (Exit.ret, (⟨mkE 15 0 [(6, .dat .bool t)], []⟩ : St))) := by
  refine Link.of fun K h => ?_
  simp only [spec_l1In_n1, wpO_bind, wpO_cond, wpO_map, wpO_some] at h
  exact Awp.of (by kernel_rfl) h

theorem spec_l1In_e (x781 : Int) (x782 : Int) (x783 : Int) {r : AV} {H' : Heap} (h : (Ans.mk _ (spec_l1In x781 x782 x783) (fun (t : Bool) => (.dat .bool t, []))).run = some (r, H')) : Awp spec_l1In_ctx LL (bodyOf Tryd.f45) spec_l1In_an (⟨mkE 15 0 [(0, .dat (.int .i64) x781), (1, .dat (.int .i64) x782), (2, .dat (.int .i64) x783)], []⟩ : St) (Ret (tlook tys) Tryd.f45.results.toList r H') :=
  ret_of' (spec_l1In_n1_l x781 x782 x783) (by unfold spec_l1In; kernel_rfl) (by
  intro t
  exact ret_mk [.dat .bool t] (by kernel_rfl) (by kernel_rfl) (by kernel_rfl) (by kernel_rfl)) h

def F_spec_l1In : Fun := fun avs H =>
  match avs, H with
  | [.dat (.int .i64) x781, .dat (.int .i64) x782, .dat (.int .i64) x783], [] => ⟨_, spec_l1In x781 x782 x783, fun (t : Bool) => (.dat .bool t, [])⟩
  | _, _ => Ans.no

theorem spec_l1In_sound : Sound Tryd.prog 45 F_spec_l1In := by
  refine fn_sound' (C := spec_l1In_ctx) (c := bodyOf Tryd.f45) (cok_of tys_ok (by simp) (by simp) (by kernel_rfl)) Tryd.func45 (by kernel_rfl) LL spec_l1In_an ?_
  intro avs H r H' h
  unfold F_spec_l1In at h
  split at h
  · refine Awp.cast ?_ ?_ ?_ (spec_l1In_e _ _ _ h) <;> kernel_rfl
  · simp [Ans.no, Ans.run] at h


/-! loop.example/headtrees/spec.TreeOk -/

def spec_TreeOk_an : Ann := (.seq (.leaf [0]) (.seq (.leaf [0, 3]) (.seq (.seq (.leaf [0, 3, 12]) (.cond (.seq (.leaf [2]) (.leaf [2])) (.leaf [0, 3]))) (.seq (.leaf [0, 3, 4]) (.seq (.seq (.leaf [0, 3, 4, 5]) (.block (.loop (.seq (.seq (.leaf [0, 3, 4, 5, 15]) (.cond (.leaf [0, 3, 4, 5]) (.leaf [4]))) (.seq (.block (.seq (.seq (.leaf [0, 3, 4, 5, 33]) (.cond (.seq (.leaf [2]) (.leaf [2])) (.leaf [0, 3, 4, 5]))) (.seq (.seq (.leaf [0, 3, 4, 5, 38]) (.cond (.leaf [0, 3, 4, 5]) (.leaf [0, 3, 4, 5]))) (.seq (.leaf [0, 3, 4, 5, 6]) (.seq (.seq (.leaf [0, 3, 4, 5, 6, 7]) (.block (.loop (.seq (.seq (.leaf [0, 3, 4, 5, 6, 7, 49]) (.cond (.leaf [0, 3, 4, 5, 6, 7]) (.leaf [0, 3, 4, 5, 6]))) (.seq (.block (.seq (.leaf [0, 3, 4, 5, 6, 7]) (.seq (.leaf [0, 3, 4, 5, 6, 7, 60]) (.cond (.seq (.leaf [2]) (.leaf [2])) (.leaf [0, 3, 4, 5, 6, 7]))))) (.leaf [0, 3, 4, 5, 6, 7])))))) (.seq (.leaf [0, 3, 4, 5, 62]) (.cond (.seq (.leaf [2]) (.leaf [2])) (.leaf [0, 3, 4, 5])))))))) (.leaf [0, 3, 4, 5])))))) (.seq (.leaf [2]) (.leaf [2])))))))

noncomputable def spec_TreeOk_ctx : Ctx := ⟨tlook tys, olook [(45, F_spec_l1In)], ioF, 0, false⟩

theorem spec_TreeOk_n1_l (x777 : List Int) : Link spec_TreeOk_ctx LL (Code.seq (Code.fst (bodyOf Tryd.f32)) (Code.seq (Code.fst (Code.snd (bodyOf Tryd.f32))) (Code.seq (Code.fst (Code.snd (Code.snd (bodyOf Tryd.f32)))) (Code.fst (Code.snd (Code.snd (Code.snd (bodyOf Tryd.f32)))))))) (Ann.seq (Ann.fst spec_TreeOk_an) (Ann.seq (Ann.fst (Ann.snd spec_TreeOk_an)) (Ann.seq (Ann.fst (Ann.snd (Ann.snd spec_TreeOk_an))) (Ann.fst (Ann.snd (Ann.snd (Ann.snd spec_TreeOk_an))))))) (⟨mkE 65 0 [(0, .dat (.list (.int .i64)) x777)], []⟩ : St) (spec_TreeOk_n1 x777) (Sum.elim (fun (t : Int) => (Exit.normal, (⟨mkE 65 0 [(0, .dat (.list (.int .i64)) x777), (3, .dat (.int .i64) t), (4, .dat (.int .i64) 0)], []⟩ : St))) (fun (t : Bool) => (Exit.ret, (⟨mkE 65 0 [(2, .dat .bool t)], []⟩ : St)))) := by
  refine Link.of fun K h => ?_
  simp only [spec_TreeOk_n1, wpO_bind, wpO_cond, wpO_map, wpO_some] at h
  exact Awp.of (by kernel_rfl) h

theorem spec_TreeOk_n2_l (x777 : List Int) (x791 : Int) : Link spec_TreeOk_ctx LL (Code.fst (Code.fst (Code.snd (Code.snd (Code.snd (Code.snd (bodyOf Tryd.f32))))))) (Ann.fst (Ann.fst (Ann.snd (Ann.snd (Ann.snd (Ann.snd spec_TreeOk_an)))))) (⟨mkE 65 0 [(0, .dat (.list (.int .i64)) x777), (3, .dat (.int .i64) x791), (4, .dat (.int .i64) 0)], []⟩ : St) (spec_TreeOk_n2) (fun (t : Unit) => (Exit.normal, (⟨mkE 65 0 [(0, .dat (.list (.int .i64)) x777), (3, .dat (.int .i64) x791), (4, .dat (.int .i64) 0), (5, .dat (.int .i64) 0)], []⟩ : St))) := by
  refine Link.of fun K h => ?_
  simp only [spec_TreeOk_n2, wpO_bind, wpO_cond, wpO_map, wpO_some] at h
  exact Awp.of (by kernel_rfl) h

theorem spec_TreeOk_n3_l (x777 : List Int) (x791 : Int) (x858 : Int) (x859 : Int) : Link spec_TreeOk_ctx LL (Code.fst (Code.fst (Code.fst (Code.snd (Code.fst (Code.snd (Code.snd (Code.snd (Code.snd (bodyOf Tryd.f32)))))))))) (Ann.fst (Ann.fst (Ann.fst (Ann.snd (Ann.fst (Ann.snd (Ann.snd (Ann.snd (Ann.snd spec_TreeOk_an))))))))) (⟨mkE 65 0 [(0, .dat (.list (.int .i64)) x777), (3, .dat (.int .i64) x791), (4, .dat (.int .i64) x858), (5, .dat (.int .i64) x859)], []⟩ : St) (spec_TreeOk_n3 x791 x858 x859) (Sum.elim (fun (t : Unit) => (Exit.normal, (⟨mkE 65 0 [(0, .dat (.list (.int .i64)) x777), (3, .dat (.int .i64) x791), (4, .dat (.int .i64) x858), (5, .dat (.int .i64) x859)], []⟩ : St))) (fun (t : Int) => ((Exit.exit 0), (⟨mkE 65 0 [(4, .dat (.int .i64) t)], []⟩ : St)))) := by
  refine Link.of fun K h => ?_
  simp only [spec_TreeOk_n3, wpO_bind, wpO_cond, wpO_map, wpO_some] at h
  exact Awp.of (by kernel_rfl) h

theorem spec_TreeOk_n4_l (x777 : List Int) (x791 : Int) (x858 : Int) (x859 : Int) : Link spec_TreeOk_ctx LL (Code.seq (Code.fst (Code.fst (Code.fst (Code.snd (Code.fst (Code.fst (Code.snd (Code.fst (Code.snd (Code.snd (Code.snd (Code.snd (bodyOf Tryd.f32))))))))))))) (Code.seq (Code.fst (Code.snd (Code.fst (Code.fst (Code.snd (Code.fst (Code.fst (Code.snd (Code.fst (Code.snd (Code.snd (Code.snd (Code.snd (bodyOf Tryd.f32)))))))))))))) (Code.fst (Code.snd (Code.snd (Code.fst (Code.fst (Code.snd (Code.fst (Code.fst (Code.snd (Code.fst (Code.snd (Code.snd (Code.snd (Code.snd (bodyOf Tryd.f32))))))))))))))))) (Ann.seq (Ann.fst (Ann.fst (Ann.fst (Ann.snd (Ann.fst (Ann.fst (Ann.snd (Ann.fst (Ann.snd (Ann.snd (Ann.snd (Ann.snd spec_TreeOk_an)))))))))))) (Ann.seq (Ann.fst (Ann.snd (Ann.fst (Ann.fst (Ann.snd (Ann.fst (Ann.fst (Ann.snd (Ann.fst (Ann.snd (Ann.snd (Ann.snd (Ann.snd spec_TreeOk_an))))))))))))) (Ann.fst (Ann.snd (Ann.snd (Ann.fst (Ann.fst (Ann.snd (Ann.fst (Ann.fst (Ann.snd (Ann.fst (Ann.snd (Ann.snd (Ann.snd (Ann.snd spec_TreeOk_an)))))))))))))))) (⟨mkE 65 0 [(0, .dat (.list (.int .i64)) x777), (3, .dat (.int .i64) x791), (4, .dat (.int .i64) x858), (5, .dat (.int .i64) x859)], []⟩ : St) (spec_TreeOk_n4 x777 x791 x858 x859) (Sum.elim (fun (t : Int × Int) => (Exit.normal, (⟨mkE 65 0 [(0, .dat (.list (.int .i64)) x777), (3, .dat (.int .i64) x791), (4, .dat (.int .i64) t.1), (5, .dat (.int .i64) x859), (6, .dat (.int .i64) t.2)], []⟩ : St))) (fun (t : Bool) => (Exit.ret, (⟨mkE 65 0 [(2, .dat .bool t)], []⟩ : St)))) := by
  refine Link.of fun K h => ?_
  simp only [spec_TreeOk_n4, wpO_bind, wpO_cond, wpO_map, wpO_some] at h
  exact Awp.of (by kernel_rfl) h

theorem spec_TreeOk_n5_l (x777 : List Int) (x791 : Int) (x887 : Int) (x859 : Int) (x888 : Int) : Link spec_TreeOk_ctx LL (Code.fst (Code.fst (Code.snd (Code.snd (Code.snd (Code.fst (Code.fst (Code.snd (Code.fst (Code.fst (Code.snd (Code.fst (Code.snd (Code.snd (Code.snd (Code.snd (bodyOf Tryd.f32))))))))))))))))) (Ann.fst (Ann.fst (Ann.snd (Ann.snd (Ann.snd (Ann.fst (Ann.fst (Ann.snd (Ann.fst (Ann.fst (Ann.snd (Ann.fst (Ann.snd (Ann.snd (Ann.snd (Ann.snd spec_TreeOk_an)))))))))))))))) (⟨mkE 65 0 [(0, .dat (.list (.int .i64)) x777), (3, .dat (.int .i64) x791), (4, .dat (.int .i64) x887), (5, .dat (.int .i64) x859), (6, .dat (.int .i64) x888)], []⟩ : St) (spec_TreeOk_n5) (fun (t : Unit) => (Exit.normal, (⟨mkE 65 0 [(0, .dat (.list (.int .i64)) x777), (3, .dat (.int .i64) x791), (4, .dat (.int .i64) x887), (5, .dat (.int .i64) x859), (6, .dat (.int .i64) x888), (7, .dat (.int .i64) 0)], []⟩ : St))) := by
  refine Link.of fun K h => ?_
  simp only [spec_TreeOk_n5, wpO_bind, wpO_cond, wpO_map, wpO_some] at h
  exact Awp.of (by kernel_rfl) h

theorem spec_TreeOk_n6_l (x777 : List Int) (x791 : Int) (x887 : Int) (x859 : Int) (x904 : Int) (x905 : Int) : Link spec_TreeOk_ctx LL (Code.fst (Code.fst (Code.snd (Code.fst (Code.snd (Code.snd (Code.snd (Code.fst (Code.fst (Code.snd (Code.fst (Code.fst (Code.snd (Code.fst (Code.snd (Code.snd (Code.snd (Code.snd (bodyOf Tryd.f32))))))))))))))))))) (Ann.fst (Ann.fst (Ann.snd (Ann.fst (Ann.snd (Ann.snd (Ann.snd (Ann.fst (Ann.fst (Ann.snd (Ann.fst (Ann.fst (Ann.snd (Ann.fst (Ann.snd (Ann.snd (Ann.snd (Ann.snd spec_TreeOk_an)))))))))))))))))) (⟨mkE 65 0 [(0, .dat (.list (.int .i64)) x777), (3, .dat (.int .i64) x791), (4, .dat (.int .i64) x887), (5, .dat (.int .i64) x859), (6, .dat (.int .i64) x904), (7, .dat (.int .i64) x905)], []⟩ : St) (spec_TreeOk_n6 x777 x791 x904 x905) (Sum.elim (fun (t : Int × Int) => (Exit.normal, (⟨mkE 65 0 [(0, .dat (.list (.int .i64)) x777), (3, .dat (.int .i64) x791), (4, .dat (.int .i64) x887), (5, .dat (.int .i64) x859), (6, .dat (.int .i64) t.1), (7, .dat (.int .i64) t.2)], []⟩ : St))) (Sum.elim (fun (t : Bool) => (Exit.ret, (⟨mkE 65 0 [(2, .dat .bool t)], []⟩ : St))) (fun (t : Int) => ((Exit.exit 2), (⟨mkE 65 0 [(0, .dat (.list (.int .i64)) x777), (3, .dat (.int .i64) x791), (4, .dat (.int .i64) x887), (5, .dat (.int .i64) x859), (6, .dat (.int .i64) t)], []⟩ : St))))) := by
  refine Link.of fun K h => ?_
  simp only [spec_TreeOk_n6, wpO_bind, wpO_cond, wpO_map, wpO_some] at h
  exact Awp.of (by kernel_rfl) h

theorem spec_TreeOk_n7_l (x777 : List Int) (x791 : Int) (x887 : Int) (x859 : Int) (x888 : Int) : Link spec_TreeOk_ctx LL (Code.fst (Code.snd (Code.fst (Code.snd (Code.snd (Code.snd (Code.fst (Code.fst (Code.snd (Code.fst (Code.fst (Code.snd (Code.fst (Code.snd (Code.snd (Code.snd (Code.snd (bodyOf Tryd.f32)))))))))))))))))) (Ann.fst (Ann.snd (Ann.fst (Ann.snd (Ann.snd (Ann.snd (Ann.fst (Ann.fst (Ann.snd (Ann.fst (Ann.fst (Ann.snd (Ann.fst (Ann.snd (Ann.snd (Ann.snd (Ann.snd spec_TreeOk_an))))))))))))))))) (⟨mkE 65 0 [(0, .dat (.list (.int .i64)) x777), (3, .dat (.int .i64) x791), (4, .dat (.int .i64) x887), (5, .dat (.int .i64) x859), (6, .dat (.int .i64) x888), (7, .dat (.int .i64) 0)], []⟩ : St) (spec_TreeOk_n7 x777 x791 x888) (Sum.elim (fun (t : Bool) => (Exit.ret, (⟨mkE 65 0 [(2, .dat .bool t)], []⟩ : St))) (fun (t : Int) => ((Exit.exit 2), (⟨mkE 65 0 [(0, .dat (.list (.int .i64)) x777), (3, .dat (.int .i64) x791), (4, .dat (.int .i64) x887), (5, .dat (.int .i64) x859), (6, .dat (.int .i64) t)], []⟩ : St)))) := by
  unfold spec_TreeOk_n7
  exact Link.cast (by kernel_rfl) (by kernel_rfl) (link_loop (mk := fun (s : Int × Int) => (⟨mkE 65 0 [(0, .dat (.list (.int .i64)) x777), (3, .dat (.int .i64) x791), (4, .dat (.int .i64) x887), (5, .dat (.int .i64) x859), (6, .dat (.int .i64) s.1), (7, .dat (.int .i64) s.2)], []⟩ : St)) (fin := (Sum.elim (fun (t : Bool) => (Exit.ret, (⟨mkE 65 0 [(2, .dat .bool t)], []⟩ : St))) (fun (t : Int) => ((Exit.exit 2), (⟨mkE 65 0 [(0, .dat (.list (.int .i64)) x777), (3, .dat (.int .i64) x791), (4, .dat (.int .i64) x887), (5, .dat (.int .i64) x859), (6, .dat (.int .i64) t)], []⟩ : St))))) (by
  rintro (t | t) f K h
  · exact h
  · exact h) (fun s => link_map (spec_TreeOk_n6_l x777 x791 x887 x859 s.1 s.2) (Sum.elim (fun (t : Int × Int) => Sum.inl (t.1, t.2)) (Sum.elim (fun (t : Bool) => Sum.inr (Sum.inl t)) (fun (t : Int) => Sum.inr (Sum.inr t)))) (by
  rintro (t | t | t)
  · kernel_rfl
  · kernel_rfl
  · kernel_rfl)) (x888, 0))

theorem spec_TreeOk_n8_l (x777 : List Int) (x791 : Int) (x887 : Int) (x859 : Int) (x888 : Int) : Link spec_TreeOk_ctx LL (Code.snd (Code.fst (Code.snd (Code.snd (Code.snd (Code.fst (Code.fst (Code.snd (Code.fst (Code.fst (Code.snd (Code.fst (Code.snd (Code.snd (Code.snd (Code.snd (bodyOf Tryd.f32))))))))))))))))) (Ann.snd (Ann.fst (Ann.snd (Ann.snd (Ann.snd (Ann.fst (Ann.fst (Ann.snd (Ann.fst (Ann.fst (Ann.snd (Ann.fst (Ann.snd (Ann.snd (Ann.snd (Ann.snd spec_TreeOk_an)))))))))))))))) (⟨mkE 65 0 [(0, .dat (.list (.int .i64)) x777), (3, .dat (.int .i64) x791), (4, .dat (.int .i64) x887), (5, .dat (.int .i64) x859), (6, .dat (.int .i64) x888), (7, .dat (.int .i64) 0)], []⟩ : St) (spec_TreeOk_n8 x777 x791 x888) (Sum.elim (fun (t : Int) => (Exit.normal, (⟨mkE 65 0 [(0, .dat (.list (.int .i64)) x777), (3, .dat (.int .i64) x791), (4, .dat (.int .i64) x887), (5, .dat (.int .i64) x859), (6, .dat (.int .i64) t)], []⟩ : St))) (fun (t : Bool) => (Exit.ret, (⟨mkE 65 0 [(2, .dat .bool t)], []⟩ : St)))) := by
  unfold spec_TreeOk_n8
  exact Link.cast (by kernel_rfl) (by kernel_rfl) (link_block (id := 2) (spec_TreeOk_n7_l x777 x791 x887 x859 x888) (Sum.elim (fun (t : Bool) => (Sum.inr t)) (fun (t : Int) => (Sum.inl t))) (by
  rintro (t | t) K h
  · exact Eq.mp (by kernel_rfl) h
  · exact Eq.mp (by kernel_rfl) h))

theorem spec_TreeOk_n9_l (x777 : List Int) (x791 : Int) (x887 : Int) (x859 : Int) (x888 : Int) : Link spec_TreeOk_ctx LL (Code.fst (Code.snd (Code.snd (Code.snd (Code.fst (Code.fst (Code.snd (Code.fst (Code.fst (Code.snd (Code.fst (Code.snd (Code.snd (Code.snd (Code.snd (bodyOf Tryd.f32)))))))))))))))) (Ann.fst (Ann.snd (Ann.snd (Ann.snd (Ann.fst (Ann.fst (Ann.snd (Ann.fst (Ann.fst (Ann.snd (Ann.fst (Ann.snd (Ann.snd (Ann.snd (Ann.snd spec_TreeOk_an))))))))))))))) (⟨mkE 65 0 [(0, .dat (.list (.int .i64)) x777), (3, .dat (.int .i64) x791), (4, .dat (.int .i64) x887), (5, .dat (.int .i64) x859), (6, .dat (.int .i64) x888)], []⟩ : St) (spec_TreeOk_n9 x777 x791 x888) (Sum.elim (fun (t : Int) => (Exit.normal, (⟨mkE 65 0 [(0, .dat (.list (.int .i64)) x777), (3, .dat (.int .i64) x791), (4, .dat (.int .i64) x887), (5, .dat (.int .i64) x859), (6, .dat (.int .i64) t)], []⟩ : St))) (fun (t : Bool) => (Exit.ret, (⟨mkE 65 0 [(2, .dat .bool t)], []⟩ : St)))) := by
  unfold spec_TreeOk_n9
  exact Link.cast (by kernel_rfl) (by kernel_rfl) (link_seq (b := (Code.snd (Code.fst (Code.snd (Code.snd (Code.snd (Code.fst (Code.fst (Code.snd (Code.fst (Code.fst (Code.snd (Code.fst (Code.snd (Code.snd (Code.snd (Code.snd (bodyOf Tryd.f32)))))))))))))))))) (y := (Ann.snd (Ann.fst (Ann.snd (Ann.snd (Ann.snd (Ann.fst (Ann.fst (Ann.snd (Ann.fst (Ann.fst (Ann.snd (Ann.fst (Ann.snd (Ann.snd (Ann.snd (Ann.snd spec_TreeOk_an))))))))))))))))) (spec_TreeOk_n5_l x777 x791 x887 x859 x888) (fun (t : Unit) => (spec_TreeOk_n8_l x777 x791 x887 x859 x888)))

theorem spec_TreeOk_n10_l (x777 : List Int) (x791 : Int) (x887 : Int) (x859 : Int) (x904 : Int) : Link spec_TreeOk_ctx LL (Code.snd (Code.snd (Code.snd (Code.snd (Code.fst (Code.fst (Code.snd (Code.fst (Code.fst (Code.snd (Code.fst (Code.snd (Code.snd (Code.snd (Code.snd (bodyOf Tryd.f32)))))))))))))))) (Ann.snd (Ann.snd (Ann.snd (Ann.snd (Ann.fst (Ann.fst (Ann.snd (Ann.fst (Ann.fst (Ann.snd (Ann.fst (Ann.snd (Ann.snd (Ann.snd (Ann.snd spec_TreeOk_an))))))))))))))) (⟨mkE 65 0 [(0, .dat (.list (.int .i64)) x777), (3, .dat (.int .i64) x791), (4, .dat (.int .i64) x887), (5, .dat (.int .i64) x859), (6, .dat (.int .i64) x904)], []⟩ : St) (spec_TreeOk_n10 x904) (Sum.elim (fun (t : Unit) => (Exit.normal, (⟨mkE 65 0 [(0, .dat (.list (.int .i64)) x777), (3, .dat (.int .i64) x791), (4, .dat (.int .i64) x887), (5, .dat (.int .i64) x859)], []⟩ : St))) (fun (t : Bool) => (Exit.ret, (⟨mkE 65 0 [(2, .dat .bool t)], []⟩ : St)))) := by
  refine Link.of fun K h => ?_
  simp only [spec_TreeOk_n10, wpO_bind, wpO_cond, wpO_map, wpO_some] at h
  exact Awp.of (by kernel_rfl) h

theorem spec_TreeOk_n11_l (x777 : List Int) (x791 : Int) (x887 : Int) (x859 : Int) (x888 : Int) : Link spec_TreeOk_ctx LL (Code.snd (Code.snd (Code.snd (Code.fst (Code.fst (Code.snd (Code.fst (Code.fst (Code.snd (Code.fst (Code.snd (Code.snd (Code.snd (Code.snd (bodyOf Tryd.f32))))))))))))))) (Ann.snd (Ann.snd (Ann.snd (Ann.fst (Ann.fst (Ann.snd (Ann.fst (Ann.fst (Ann.snd (Ann.fst (Ann.snd (Ann.snd (Ann.snd (Ann.snd spec_TreeOk_an)))))))))))))) (⟨mkE 65 0 [(0, .dat (.list (.int .i64)) x777), (3, .dat (.int .i64) x791), (4, .dat (.int .i64) x887), (5, .dat (.int .i64) x859), (6, .dat (.int .i64) x888)], []⟩ : St) (spec_TreeOk_n11 x777 x791 x888) (Sum.elim (fun (t : Unit) => (Exit.normal, (⟨mkE 65 0 [(0, .dat (.list (.int .i64)) x777), (3, .dat (.int .i64) x791), (4, .dat (.int .i64) x887), (5, .dat (.int .i64) x859)], []⟩ : St))) (fun (t : Bool) => (Exit.ret, (⟨mkE 65 0 [(2, .dat .bool t)], []⟩ : St)))) := by
  unfold spec_TreeOk_n11
  exact Link.cast (by kernel_rfl) (by kernel_rfl) (link_seq2 (b := (Code.snd (Code.snd (Code.snd (Code.snd (Code.fst (Code.fst (Code.snd (Code.fst (Code.fst (Code.snd (Code.fst (Code.snd (Code.snd (Code.snd (Code.snd (bodyOf Tryd.f32))))))))))))))))) (y := (Ann.snd (Ann.snd (Ann.snd (Ann.snd (Ann.fst (Ann.fst (Ann.snd (Ann.fst (Ann.fst (Ann.snd (Ann.fst (Ann.snd (Ann.snd (Ann.snd (Ann.snd spec_TreeOk_an)))))))))))))))) (spec_TreeOk_n9_l x777 x791 x887 x859 x888) (fun (t : Int) => (spec_TreeOk_n10_l x777 x791 x887 x859 t)) (fun (t : Bool) => (Sum.inr t)) (by
  rintro t
  · kernel_rfl) (by
  rintro t f K h
  · exact h))

theorem spec_TreeOk_n12_l (x777 : List Int) (x791 : Int) (x858 : Int) (x859 : Int) : Link spec_TreeOk_ctx LL (Code.fst (Code.fst (Code.snd (Code.fst (Code.fst (Code.snd (Code.fst (Code.snd (Code.snd (Code.snd (Code.snd (bodyOf Tryd.f32)))))))))))) (Ann.fst (Ann.fst (Ann.snd (Ann.fst (Ann.fst (Ann.snd (Ann.fst (Ann.snd (Ann.snd (Ann.snd (Ann.snd spec_TreeOk_an))))))))))) (⟨mkE 65 0 [(0, .dat (.list (.int .i64)) x777), (3, .dat (.int .i64) x791), (4, .dat (.int .i64) x858), (5, .dat (.int .i64) x859)], []⟩ : St) (spec_TreeOk_n12 x777 x791 x858 x859) (Sum.elim (fun (t : Int) => (Exit.normal, (⟨mkE 65 0 [(0, .dat (.list (.int .i64)) x777), (3, .dat (.int .i64) x791), (4, .dat (.int .i64) t), (5, .dat (.int .i64) x859)], []⟩ : St))) (fun (t : Bool) => (Exit.ret, (⟨mkE 65 0 [(2, .dat .bool t)], []⟩ : St)))) := by
  unfold spec_TreeOk_n12
  exact Link.cast (by kernel_rfl) (by kernel_rfl) (link_group (c := (Code.fst (Code.snd (Code.snd (Code.fst (Code.fst (Code.snd (Code.fst (Code.fst (Code.snd (Code.fst (Code.snd (Code.snd (Code.snd (Code.snd (bodyOf Tryd.f32)))))))))))))))) (a := (Ann.fst (Ann.snd (Ann.snd (Ann.fst (Ann.fst (Ann.snd (Ann.fst (Ann.fst (Ann.snd (Ann.fst (Ann.snd (Ann.snd (Ann.snd (Ann.snd spec_TreeOk_an))))))))))))))) [(Code.fst (Code.fst (Code.fst (Code.snd (Code.fst (Code.fst (Code.snd (Code.fst (Code.snd (Code.snd (Code.snd (Code.snd (bodyOf Tryd.f32))))))))))))), (Code.fst (Code.snd (Code.fst (Code.fst (Code.snd (Code.fst (Code.fst (Code.snd (Code.fst (Code.snd (Code.snd (Code.snd (Code.snd (bodyOf Tryd.f32))))))))))))))] [(Ann.fst (Ann.fst (Ann.fst (Ann.snd (Ann.fst (Ann.fst (Ann.snd (Ann.fst (Ann.snd (Ann.snd (Ann.snd (Ann.snd spec_TreeOk_an)))))))))))), (Ann.fst (Ann.snd (Ann.fst (Ann.fst (Ann.snd (Ann.fst (Ann.fst (Ann.snd (Ann.fst (Ann.snd (Ann.snd (Ann.snd (Ann.snd spec_TreeOk_an)))))))))))))] rfl (link_seq2 (b := (Code.snd (Code.snd (Code.snd (Code.fst (Code.fst (Code.snd (Code.fst (Code.fst (Code.snd (Code.fst (Code.snd (Code.snd (Code.snd (Code.snd (bodyOf Tryd.f32)))))))))))))))) (y := (Ann.snd (Ann.snd (Ann.snd (Ann.fst (Ann.fst (Ann.snd (Ann.fst (Ann.fst (Ann.snd (Ann.fst (Ann.snd (Ann.snd (Ann.snd (Ann.snd spec_TreeOk_an))))))))))))))) (spec_TreeOk_n4_l x777 x791 x858 x859) (fun (t : Int × Int) => (link_map (spec_TreeOk_n11_l x777 x791 t.1 x859 t.2) (Sum.elim (fun (u : Unit) => (Sum.inl t.1)) (fun (u : Bool) => (Sum.inr u))) (by
  rintro (t | t)
  · kernel_rfl
  · kernel_rfl))) (fun (t : Bool) => (Sum.inr t)) (by
  rintro t
  · kernel_rfl) (by
  rintro t f K h
  · exact h)))

theorem spec_TreeOk_n13_l (x777 : List Int) (x791 : Int) (x858 : Int) (x859 : Int) : Link spec_TreeOk_ctx LL (Code.fst (Code.snd (Code.fst (Code.fst (Code.snd (Code.fst (Code.snd (Code.snd (Code.snd (Code.snd (bodyOf Tryd.f32))))))))))) (Ann.fst (Ann.snd (Ann.fst (Ann.fst (Ann.snd (Ann.fst (Ann.snd (Ann.snd (Ann.snd (Ann.snd spec_TreeOk_an)))))))))) (⟨mkE 65 0 [(0, .dat (.list (.int .i64)) x777), (3, .dat (.int .i64) x791), (4, .dat (.int .i64) x858), (5, .dat (.int .i64) x859)], []⟩ : St) (spec_TreeOk_n13 x777 x791 x858 x859) (Sum.elim (fun (t : Int) => (Exit.normal, (⟨mkE 65 0 [(0, .dat (.list (.int .i64)) x777), (3, .dat (.int .i64) x791), (4, .dat (.int .i64) t), (5, .dat (.int .i64) x859)], []⟩ : St))) (fun (t : Bool) => (Exit.ret, (⟨mkE 65 0 [(2, .dat .bool t)], []⟩ : St)))) := by
  unfold spec_TreeOk_n13
  exact Link.cast (by kernel_rfl) (by kernel_rfl) (link_block (id := 1) (spec_TreeOk_n12_l x777 x791 x858 x859) (Sum.elim (fun (t : Int) => (Sum.inl t)) (fun (t : Bool) => (Sum.inr t))) (by
  rintro (t | t) K h
  · exact Eq.mp (by kernel_rfl) h
  · exact Eq.mp (by kernel_rfl) h))

theorem spec_TreeOk_n14_l (x777 : List Int) (x791 : Int) (x887 : Int) (x859 : Int) : Link spec_TreeOk_ctx LL (Code.snd (Code.snd (Code.fst (Code.fst (Code.snd (Code.fst (Code.snd (Code.snd (Code.snd (Code.snd (bodyOf Tryd.f32))))))))))) (Ann.snd (Ann.snd (Ann.fst (Ann.fst (Ann.snd (Ann.fst (Ann.snd (Ann.snd (Ann.snd (Ann.snd spec_TreeOk_an)))))))))) (⟨mkE 65 0 [(0, .dat (.list (.int .i64)) x777), (3, .dat (.int .i64) x791), (4, .dat (.int .i64) x887), (5, .dat (.int .i64) x859)], []⟩ : St) (spec_TreeOk_n14 x859) (fun (t : Int) => (Exit.normal, (⟨mkE 65 0 [(0, .dat (.list (.int .i64)) x777), (3, .dat (.int .i64) x791), (4, .dat (.int .i64) x887), (5, .dat (.int .i64) t)], []⟩ : St))) := by
  refine Link.of fun K h => ?_
  simp only [spec_TreeOk_n14, wpO_bind, wpO_cond, wpO_map, wpO_some] at h
  exact Awp.of (by kernel_rfl) h

theorem spec_TreeOk_n15_l (x777 : List Int) (x791 : Int) (x858 : Int) (x859 : Int) : Link spec_TreeOk_ctx LL (Code.snd (Code.fst (Code.fst (Code.snd (Code.fst (Code.snd (Code.snd (Code.snd (Code.snd (bodyOf Tryd.f32)))))))))) (Ann.snd (Ann.fst (Ann.fst (Ann.snd (Ann.fst (Ann.snd (Ann.snd (Ann.snd (Ann.snd spec_TreeOk_an))))))))) (⟨mkE 65 0 [(0, .dat (.list (.int .i64)) x777), (3, .dat (.int .i64) x791), (4, .dat (.int .i64) x858), (5, .dat (.int .i64) x859)], []⟩ : St) (spec_TreeOk_n15 x777 x791 x858 x859) (Sum.elim (fun (t : Int × Int) => (Exit.normal, (⟨mkE 65 0 [(0, .dat (.list (.int .i64)) x777), (3, .dat (.int .i64) x791), (4, .dat (.int .i64) t.1), (5, .dat (.int .i64) t.2)], []⟩ : St))) (fun (t : Bool) => (Exit.ret, (⟨mkE 65 0 [(2, .dat .bool t)], []⟩ : St)))) := by
  unfold spec_TreeOk_n15
  exact Link.cast (by kernel_rfl) (by kernel_rfl) (link_seq2 (b := (Code.snd (Code.snd (Code.fst (Code.fst (Code.snd (Code.fst (Code.snd (Code.snd (Code.snd (Code.snd (bodyOf Tryd.f32)))))))))))) (y := (Ann.snd (Ann.snd (Ann.fst (Ann.fst (Ann.snd (Ann.fst (Ann.snd (Ann.snd (Ann.snd (Ann.snd spec_TreeOk_an))))))))))) (spec_TreeOk_n13_l x777 x791 x858 x859) (fun (t : Int) => (link_map (spec_TreeOk_n14_l x777 x791 t x859) (fun (u : Int) => (Sum.inl (t, u))) (by
  rintro t
  · kernel_rfl))) (fun (t : Bool) => (Sum.inr t)) (by
  rintro t
  · kernel_rfl) (by
  rintro t f K h
  · exact h))

theorem spec_TreeOk_n16_l (x777 : List Int) (x791 : Int) (x858 : Int) (x859 : Int) : Link spec_TreeOk_ctx LL (Code.fst (Code.fst (Code.snd (Code.fst (Code.snd (Code.snd (Code.snd (Code.snd (bodyOf Tryd.f32))))))))) (Ann.fst (Ann.fst (Ann.snd (Ann.fst (Ann.snd (Ann.snd (Ann.snd (Ann.snd spec_TreeOk_an)))))))) (⟨mkE 65 0 [(0, .dat (.list (.int .i64)) x777), (3, .dat (.int .i64) x791), (4, .dat (.int .i64) x858), (5, .dat (.int .i64) x859)], []⟩ : St) (spec_TreeOk_n16 x777 x791 x858 x859) (Sum.elim (fun (t : Int × Int) => (Exit.normal, (⟨mkE 65 0 [(0, .dat (.list (.int .i64)) x777), (3, .dat (.int .i64) x791), (4, .dat (.int .i64) t.1), (5, .dat (.int .i64) t.2)], []⟩ : St))) (Sum.elim (fun (t : Bool) => (Exit.ret, (⟨mkE 65 0 [(2, .dat .bool t)], []⟩ : St))) (fun (t : Int) => ((Exit.exit 0), (⟨mkE 65 0 [(4, .dat (.int .i64) t)], []⟩ : St))))) := by
  unfold spec_TreeOk_n16
  exact Link.cast (by kernel_rfl) (by kernel_rfl) (link_seq2 (b := (Code.snd (Code.fst (Code.fst (Code.snd (Code.fst (Code.snd (Code.snd (Code.snd (Code.snd (bodyOf Tryd.f32))))))))))) (y := (Ann.snd (Ann.fst (Ann.fst (Ann.snd (Ann.fst (Ann.snd (Ann.snd (Ann.snd (Ann.snd spec_TreeOk_an)))))))))) (spec_TreeOk_n3_l x777 x791 x858 x859) (fun (t : Unit) => (link_map (spec_TreeOk_n15_l x777 x791 x858 x859) (Sum.elim (fun (t : Int × Int) => (Sum.inl (t.1, t.2))) (fun (t : Bool) => (Sum.inr (Sum.inl t)))) (by
  rintro (t | t)
  · kernel_rfl
  · kernel_rfl))) (fun (t : Int) => (Sum.inr (Sum.inr t))) (by
  rintro t
  · kernel_rfl) (by
  rintro t f K h
  · exact h))

theorem spec_TreeOk_n17_l (x777 : List Int) (x791 : Int) : Link spec_TreeOk_ctx LL (Code.fst (Code.snd (Code.fst (Code.snd (Code.snd (Code.snd (Code.snd (bodyOf Tryd.f32)))))))) (Ann.fst (Ann.snd (Ann.fst (Ann.snd (Ann.snd (Ann.snd (Ann.snd spec_TreeOk_an))))))) (⟨mkE 65 0 [(0, .dat (.list (.int .i64)) x777), (3, .dat (.int .i64) x791), (4, .dat (.int .i64) 0), (5, .dat (.int .i64) 0)], []⟩ : St) (spec_TreeOk_n17 x777 x791) (Sum.elim (fun (t : Bool) => (Exit.ret, (⟨mkE 65 0 [(2, .dat .bool t)], []⟩ : St))) (fun (t : Int) => ((Exit.exit 0), (⟨mkE 65 0 [(4, .dat (.int .i64) t)], []⟩ : St)))) := by
  unfold spec_TreeOk_n17
  exact Link.cast (by kernel_rfl) (by kernel_rfl) (link_loop (mk := fun (s : Int × Int) => (⟨mkE 65 0 [(0, .dat (.list (.int .i64)) x777), (3, .dat (.int .i64) x791), (4, .dat (.int .i64) s.1), (5, .dat (.int .i64) s.2)], []⟩ : St)) (fin := (Sum.elim (fun (t : Bool) => (Exit.ret, (⟨mkE 65 0 [(2, .dat .bool t)], []⟩ : St))) (fun (t : Int) => ((Exit.exit 0), (⟨mkE 65 0 [(4, .dat (.int .i64) t)], []⟩ : St))))) (by
  rintro (t | t) f K h
  · exact h
  · exact h) (fun s => link_map (spec_TreeOk_n16_l x777 x791 s.1 s.2) (Sum.elim (fun (t : Int × Int) => Sum.inl (t.1, t.2)) (Sum.elim (fun (t : Bool) => Sum.inr (Sum.inl t)) (fun (t : Int) => Sum.inr (Sum.inr t)))) (by
  rintro (t | t | t)
  · kernel_rfl
  · kernel_rfl
  · kernel_rfl)) (0, 0))

theorem spec_TreeOk_n18_l (x777 : List Int) (x791 : Int) : Link spec_TreeOk_ctx LL (Code.snd (Code.fst (Code.snd (Code.snd (Code.snd (Code.snd (bodyOf Tryd.f32))))))) (Ann.snd (Ann.fst (Ann.snd (Ann.snd (Ann.snd (Ann.snd spec_TreeOk_an)))))) (⟨mkE 65 0 [(0, .dat (.list (.int .i64)) x777), (3, .dat (.int .i64) x791), (4, .dat (.int .i64) 0), (5, .dat (.int .i64) 0)], []⟩ : St) (spec_TreeOk_n18 x777 x791) (Sum.elim (fun (t : Int) => (Exit.normal, (⟨mkE 65 0 [(4, .dat (.int .i64) t)], []⟩ : St))) (fun (t : Bool) => (Exit.ret, (⟨mkE 65 0 [(2, .dat .bool t)], []⟩ : St)))) := by
  unfold spec_TreeOk_n18
  exact Link.cast (by kernel_rfl) (by kernel_rfl) (link_block (id := 0) (spec_TreeOk_n17_l x777 x791) (Sum.elim (fun (t : Bool) => (Sum.inr t)) (fun (t : Int) => (Sum.inl t))) (by
  rintro (t | t) K h
  · exact Eq.mp (by kernel_rfl) h
  · exact Eq.mp (by kernel_rfl) h))

theorem spec_TreeOk_n19_l (x777 : List Int) (x791 : Int) : Link spec_TreeOk_ctx LL (Code.fst (Code.snd (Code.snd (Code.snd (Code.snd (bodyOf Tryd.f32)))))) (Ann.fst (Ann.snd (Ann.snd (Ann.snd (Ann.snd spec_TreeOk_an))))) (⟨mkE 65 0 [(0, .dat (.list (.int .i64)) x777), (3, .dat (.int .i64) x791), (4, .dat (.int .i64) 0)], []⟩ : St) (spec_TreeOk_n19 x777 x791) (Sum.elim (fun (t : Int) => (Exit.normal, (⟨mkE 65 0 [(4, .dat (.int .i64) t)], []⟩ : St))) (fun (t : Bool) => (Exit.ret, (⟨mkE 65 0 [(2, .dat .bool t)], []⟩ : St)))) := by
  unfold spec_TreeOk_n19
  exact Link.cast (by kernel_rfl) (by kernel_rfl) (link_seq (b := (Code.snd (Code.fst (Code.snd (Code.snd (Code.snd (Code.snd (bodyOf Tryd.f32)))))))) (y := (Ann.snd (Ann.fst (Ann.snd (Ann.snd (Ann.snd (Ann.snd spec_TreeOk_an))))))) (spec_TreeOk_n2_l x777 x791) (fun (t : Unit) => (spec_TreeOk_n18_l x777 x791)))

theorem spec_TreeOk_n20_l (x858 : Int) : Link spec_TreeOk_ctx LL (Code.snd (Code.snd (Code.snd (Code.snd (Code.snd (bodyOf Tryd.f32)))))) (Ann.snd (Ann.snd (Ann.snd (Ann.snd (Ann.snd spec_TreeOk_an))))) (⟨mkE 65 0 [(4, .dat (.int .i64) x858)], []⟩ : St) (spec_TreeOk_n20 x858) (fun (t : Bool) => (Exit.ret, (⟨mkE 65 0 [(2, .dat .bool t)], []⟩ : St))) := by
  refine Link.of fun K h => ?_
  simp only [spec_TreeOk_n20, wpO_bind, wpO_cond, wpO_map, wpO_some] at h
  exact Awp.of (by kernel_rfl) h

theorem spec_TreeOk_n21_l (x777 : List Int) (x791 : Int) : Link spec_TreeOk_ctx LL (Code.snd (Code.snd (Code.snd (Code.snd (bodyOf Tryd.f32))))) (Ann.snd (Ann.snd (Ann.snd (Ann.snd spec_TreeOk_an)))) (⟨mkE 65 0 [(0, .dat (.list (.int .i64)) x777), (3, .dat (.int .i64) x791), (4, .dat (.int .i64) 0)], []⟩ : St) (spec_TreeOk_n21 x777 x791) (fun (t : Bool) => (Exit.ret, (⟨mkE 65 0 [(2, .dat .bool t)], []⟩ : St))) := by
  unfold spec_TreeOk_n21
  exact Link.cast (by kernel_rfl) (by kernel_rfl) (link_seq2 (b := (Code.snd (Code.snd (Code.snd (Code.snd (Code.snd (bodyOf Tryd.f32))))))) (y := (Ann.snd (Ann.snd (Ann.snd (Ann.snd (Ann.snd spec_TreeOk_an)))))) (spec_TreeOk_n19_l x777 x791) (fun (t : Int) => (spec_TreeOk_n20_l t)) (fun (t : Bool) => t) (by
  rintro t
  · kernel_rfl) (by
  rintro t f K h
  · exact h))

theorem spec_TreeOk_n22_l (x777 : List Int) : Link spec_TreeOk_ctx LL (bodyOf Tryd.f32) spec_TreeOk_an (⟨mkE 65 0 [(0, .dat (.list (.int .i64)) x777)], []⟩ : St) (spec_TreeOk_n22 x777) (fun (t : Bool) => (Exit.ret, (⟨mkE 65 0 [(2, .dat .bool t)], []⟩ : St))) := by
  unfold spec_TreeOk_n22
  exact Link.cast (by kernel_rfl) (by kernel_rfl) (link_group (c := (Code.fst (Code.snd (Code.snd (Code.snd (bodyOf Tryd.f32)))))) (a := (Ann.fst (Ann.snd (Ann.snd (Ann.snd spec_TreeOk_an))))) [(Code.fst (bodyOf Tryd.f32)), (Code.fst (Code.snd (bodyOf Tryd.f32))), (Code.fst (Code.snd (Code.snd (bodyOf Tryd.f32))))] [(Ann.fst spec_TreeOk_an), (Ann.fst (Ann.snd spec_TreeOk_an)), (Ann.fst (Ann.snd (Ann.snd spec_TreeOk_an)))] rfl (link_seq2 (b := (Code.snd (Code.snd (Code.snd (Code.snd (bodyOf Tryd.f32)))))) (y := (Ann.snd (Ann.snd (Ann.snd (Ann.snd spec_TreeOk_an))))) (spec_TreeOk_n1_l x777) (fun (t : Int) => (spec_TreeOk_n21_l x777 t)) (fun (t : Bool) => t) (by
  rintro t
  · kernel_rfl) (by
  rintro t f K h
  · exact h)))

theorem spec_TreeOk_e (x777 : List Int) {r : AV} {H' : Heap} (h : (Ans.mk _ (spec_TreeOk x777) (fun (t : Bool) => (.dat .bool t, []))).run = some (r, H')) : Awp spec_TreeOk_ctx LL (bodyOf Tryd.f32) spec_TreeOk_an (⟨mkE 65 0 [(0, .dat (.list (.int .i64)) x777)], []⟩ : St) (Ret (tlook tys) Tryd.f32.results.toList r H') :=
  ret_of' (spec_TreeOk_n22_l x777) (by unfold spec_TreeOk; kernel_rfl) (by
  intro t
  exact ret_mk [.dat .bool t] (by kernel_rfl) (by kernel_rfl) (by kernel_rfl) (by kernel_rfl)) h

def F_spec_TreeOk : Fun := fun avs H =>
  match avs, H with
  | [.dat (.list (.int .i64)) x777], [] => ⟨_, spec_TreeOk x777, fun (t : Bool) => (.dat .bool t, [])⟩
  | _, _ => Ans.no

theorem spec_TreeOk_sound : Sound Tryd.prog 32 F_spec_TreeOk := by
  refine fn_sound' (C := spec_TreeOk_ctx) (c := bodyOf Tryd.f32) (cok_of tys_ok (List.forall_mem_cons.2 ⟨spec_l1In_sound, by simp⟩) (List.forall_mem_cons.2 ⟨Tryd.call45, by simp⟩) (by kernel_rfl)) Tryd.func32 (by kernel_rfl) LL spec_TreeOk_an ?_
  intro avs H r H' h
  unfold F_spec_TreeOk at h
  split at h
  · refine Awp.cast ?_ ?_ ?_ (spec_TreeOk_e _ h) <;> kernel_rfl
  · simp [Ans.no, Ans.run] at h


/-! loop.example/headtrees/impl.oneRoot -/

def impl_oneRoot_an : Ann := (.seq (.leaf [0]) (.seq (.leaf [0, 3]) (.seq (.seq (.leaf [0, 3, 6, 7, 8]) (.block (.loop (.seq (.leaf [0, 3, 6, 7, 8, 9]) (.seq (.cond (.leaf [0, 3, 6, 7, 8]) (.leaf [3])) (.seq (.block (.seq (.leaf [0, 3, 5, 6, 7, 8]) (.seq (.seq (.leaf [0, 3, 5, 6, 7, 8, 19]) (.cond (.seq (.leaf [2]) (.leaf [2])) (.leaf [0, 3, 5, 6, 7, 8]))) (.seq (.leaf [0, 3, 6, 7, 8, 21]) (.cond (.leaf [0, 3, 6, 7, 8]) (.leaf [0, 3, 6, 7, 8])))))) (.leaf [0, 3, 6, 7, 8]))))))) (.seq (.leaf [2]) (.leaf [2])))))

noncomputable def impl_oneRoot_ctx : Ctx := ⟨tlook tys, olook [], ioF, 0, false⟩

theorem impl_oneRoot_n1_l (x1453 : List Int) : Link impl_oneRoot_ctx LL (Code.seq (Code.fst (bodyOf Tryd.f53)) (Code.fst (Code.snd (bodyOf Tryd.f53)))) (Ann.seq (Ann.fst impl_oneRoot_an) (Ann.fst (Ann.snd impl_oneRoot_an))) (⟨mkE 27 0 [(0, .dat (.list (.int .i64)) x1453)], []⟩ : St) (impl_oneRoot_n1) (fun (t : Unit) => (Exit.normal, (⟨mkE 27 0 [(0, .dat (.list (.int .i64)) x1453), (3, .dat (.int .i64) 0)], []⟩ : St))) := by
  refine Link.of fun K h => ?_
  simp only [impl_oneRoot_n1, wpO_bind, wpO_cond, wpO_map, wpO_some] at h
  exact Awp.of (by kernel_rfl) h

theorem impl_oneRoot_n2_l (x1453 : List Int) : Link impl_oneRoot_ctx LL (Code.fst (Code.fst (Code.snd (Code.snd (bodyOf Tryd.f53))))) (Ann.fst (Ann.fst (Ann.snd (Ann.snd impl_oneRoot_an)))) (⟨mkE 27 0 [(0, .dat (.list (.int .i64)) x1453), (3, .dat (.int .i64) 0)], []⟩ : St) (impl_oneRoot_n2 x1453) (fun (t : Int) => (Exit.normal, (⟨mkE 27 0 [(0, .dat (.list (.int .i64)) x1453), (3, .dat (.int .i64) 0), (6, .dat (.list (.int .i64)) x1453), (7, .dat (.int .i64) t), (8, .dat (.int .i64) 0)], []⟩ : St))) := by
  refine Link.of fun K h => ?_
  simp only [impl_oneRoot_n2, wpO_bind, wpO_cond, wpO_map, wpO_some] at h
  exact Awp.of (by kernel_rfl) h

theorem impl_oneRoot_n3_l (x1453 : List Int) (x1475 : Int) (x1454 : Int) (x1476 : Int) : Link impl_oneRoot_ctx LL (Code.fst (Code.fst (Code.snd (Code.fst (Code.snd (Code.snd (bodyOf Tryd.f53))))))) (Ann.fst (Ann.fst (Ann.snd (Ann.fst (Ann.snd (Ann.snd impl_oneRoot_an)))))) (⟨mkE 27 0 [(0, .dat (.list (.int .i64)) x1453), (3, .dat (.int .i64) x1475), (6, .dat (.list (.int .i64)) x1453), (7, .dat (.int .i64) x1454), (8, .dat (.int .i64) x1476)], []⟩ : St) (impl_oneRoot_n3 x1453 x1475 x1454 x1476) (Sum.elim (fun (t : Int × Int) => (Exit.normal, (⟨mkE 27 0 [(0, .dat (.list (.int .i64)) x1453), (3, .dat (.int .i64) t.1), (6, .dat (.list (.int .i64)) x1453), (7, .dat (.int .i64) x1454), (8, .dat (.int .i64) t.2)], []⟩ : St))) (Sum.elim (fun (t : Bool) => (Exit.ret, (⟨mkE 27 0 [(2, .dat .bool t)], []⟩ : St))) (fun (t : Int) => ((Exit.exit 0), (⟨mkE 27 0 [(3, .dat (.int .i64) t)], []⟩ : St))))) := by
  refine Link.of fun K h => ?_
  simp only [impl_oneRoot_n3, wpO_bind, wpO_cond, wpO_map, wpO_some] at h
  exact Awp.of (by kernel_rfl) h

theorem impl_oneRoot_n4_l (x1453 : List Int) (x1454 : Int) : Link impl_oneRoot_ctx LL (Code.fst (Code.snd (Code.fst (Code.snd (Code.snd (bodyOf Tryd.f53)))))) (Ann.fst (Ann.snd (Ann.fst (Ann.snd (Ann.snd impl_oneRoot_an))))) (⟨mkE 27 0 [(0, .dat (.list (.int .i64)) x1453), (3, .dat (.int .i64) 0), (6, .dat (.list (.int .i64)) x1453), (7, .dat (.int .i64) x1454), (8, .dat (.int .i64) 0)], []⟩ : St) (impl_oneRoot_n4 x1453 x1454) (Sum.elim (fun (t : Bool) => (Exit.ret, (⟨mkE 27 0 [(2, .dat .bool t)], []⟩ : St))) (fun (t : Int) => ((Exit.exit 0), (⟨mkE 27 0 [(3, .dat (.int .i64) t)], []⟩ : St)))) := by
  unfold impl_oneRoot_n4
  exact Link.cast (by kernel_rfl) (by kernel_rfl) (link_loop (mk := fun (s : Int × Int) => (⟨mkE 27 0 [(0, .dat (.list (.int .i64)) x1453), (3, .dat (.int .i64) s.1), (6, .dat (.list (.int .i64)) x1453), (7, .dat (.int .i64) x1454), (8, .dat (.int .i64) s.2)], []⟩ : St)) (fin := (Sum.elim (fun (t : Bool) => (Exit.ret, (⟨mkE 27 0 [(2, .dat .bool t)], []⟩ : St))) (fun (t : Int) => ((Exit.exit 0), (⟨mkE 27 0 [(3, .dat (.int .i64) t)], []⟩ : St))))) (by
  rintro (t | t) f K h
  · exact h
  · exact h) (fun s => link_map (impl_oneRoot_n3_l x1453 s.1 x1454 s.2) (Sum.elim (fun (t : Int × Int) => Sum.inl (t.1, t.2)) (Sum.elim (fun (t : Bool) => Sum.inr (Sum.inl t)) (fun (t : Int) => Sum.inr (Sum.inr t)))) (by
  rintro (t | t | t)
  · kernel_rfl
  · kernel_rfl
  · kernel_rfl)) (0, 0))

theorem impl_oneRoot_n5_l (x1453 : List Int) (x1454 : Int) : Link impl_oneRoot_ctx LL (Code.snd (Code.fst (Code.snd (Code.snd (bodyOf Tryd.f53))))) (Ann.snd (Ann.fst (Ann.snd (Ann.snd impl_oneRoot_an)))) (⟨mkE 27 0 [(0, .dat (.list (.int .i64)) x1453), (3, .dat (.int .i64) 0), (6, .dat (.list (.int .i64)) x1453), (7, .dat (.int .i64) x1454), (8, .dat (.int .i64) 0)], []⟩ : St) (impl_oneRoot_n5 x1453 x1454) (Sum.elim (fun (t : Int) => (Exit.normal, (⟨mkE 27 0 [(3, .dat (.int .i64) t)], []⟩ : St))) (fun (t : Bool) => (Exit.ret, (⟨mkE 27 0 [(2, .dat .bool t)], []⟩ : St)))) := by
  unfold impl_oneRoot_n5
  exact Link.cast (by kernel_rfl) (by kernel_rfl) (link_block (id := 0) (impl_oneRoot_n4_l x1453 x1454) (Sum.elim (fun (t : Bool) => (Sum.inr t)) (fun (t : Int) => (Sum.inl t))) (by
  rintro (t | t) K h
  · exact Eq.mp (by kernel_rfl) h
  · exact Eq.mp (by kernel_rfl) h))

theorem impl_oneRoot_n6_l (x1453 : List Int) : Link impl_oneRoot_ctx LL (Code.fst (Code.snd (Code.snd (bodyOf Tryd.f53)))) (Ann.fst (Ann.snd (Ann.snd impl_oneRoot_an))) (⟨mkE 27 0 [(0, .dat (.list (.int .i64)) x1453), (3, .dat (.int .i64) 0)], []⟩ : St) (impl_oneRoot_n6 x1453) (Sum.elim (fun (t : Int) => (Exit.normal, (⟨mkE 27 0 [(3, .dat (.int .i64) t)], []⟩ : St))) (fun (t : Bool) => (Exit.ret, (⟨mkE 27 0 [(2, .dat .bool t)], []⟩ : St)))) := by
  unfold impl_oneRoot_n6
  exact Link.cast (by kernel_rfl) (by kernel_rfl) (link_seq (b := (Code.snd (Code.fst (Code.snd (Code.snd (bodyOf Tryd.f53)))))) (y := (Ann.snd (Ann.fst (Ann.snd (Ann.snd impl_oneRoot_an))))) (impl_oneRoot_n2_l x1453) (fun (t : Int) => (impl_oneRoot_n5_l x1453 t)))

theorem impl_oneRoot_n7_l (x1475 : Int) : Link impl_oneRoot_ctx LL (Code.snd (Code.snd (Code.snd (bodyOf Tryd.f53)))) (Ann.snd (Ann.snd (Ann.snd impl_oneRoot_an))) (⟨mkE 27 0 [(3, .dat (.int .i64) x1475)], []⟩ : St) (impl_oneRoot_n7 x1475) (fun (t : Bool) => (Exit.ret, (⟨mkE 27 0 [(2, .dat .bool t)], []⟩ : St))) := by
  refine Link.of fun K h => ?_
  simp only [impl_oneRoot_n7, wpO_bind, wpO_cond, wpO_map, wpO_some] at h
  exact Awp.of (by kernel_rfl) h

theorem impl_oneRoot_n8_l (x1453 : List Int) : Link impl_oneRoot_ctx LL (Code.snd (Code.snd (bodyOf Tryd.f53))) (Ann.snd (Ann.snd impl_oneRoot_an)) (⟨mkE 27 0 [(0, .dat (.list (.int .i64)) x1453), (3, .dat (.int .i64) 0)], []⟩ : St) (impl_oneRoot_n8 x1453) (fun (t : Bool) => (Exit.ret, (⟨mkE 27 0 [(2, .dat .bool t)], []⟩ : St))) := by
  unfold impl_oneRoot_n8
  exact Link.cast (by kernel_rfl) (by kernel_rfl) (link_seq2 (b := (Code.snd (Code.snd (Code.snd (bodyOf Tryd.f53))))) (y := (Ann.snd (Ann.snd (Ann.snd impl_oneRoot_an)))) (impl_oneRoot_n6_l x1453) (fun (t : Int) => (impl_oneRoot_n7_l t)) (fun (t : Bool) => t) (by
  rintro t
  · kernel_rfl) (by
  rintro t f K h
  · exact h))

theorem impl_oneRoot_n9_l (x1453 : List Int) : Link impl_oneRoot_ctx LL (bodyOf Tryd.f53) impl_oneRoot_an (⟨mkE 27 0 [(0, .dat (.list (.int .i64)) x1453)], []⟩ : St) (impl_oneRoot_n9 x1453) (fun (t : Bool) => (Exit.ret, (⟨mkE 27 0 [(2, .dat .bool t)], []⟩ : St))) := by
  unfold impl_oneRoot_n9
  exact Link.cast (by kernel_rfl) (by kernel_rfl) (link_group (c := (Code.fst (Code.snd (bodyOf Tryd.f53)))) (a := (Ann.fst (Ann.snd impl_oneRoot_an))) [(Code.fst (bodyOf Tryd.f53))] [(Ann.fst impl_oneRoot_an)] rfl (link_seq (b := (Code.snd (Code.snd (bodyOf Tryd.f53)))) (y := (Ann.snd (Ann.snd impl_oneRoot_an))) (impl_oneRoot_n1_l x1453) (fun (t : Unit) => (impl_oneRoot_n8_l x1453))))

theorem impl_oneRoot_e (x1453 : List Int) {r : AV} {H' : Heap} (h : (Ans.mk _ (impl_oneRoot x1453) (fun (t : Bool) => (.dat .bool t, []))).run = some (r, H')) : Awp impl_oneRoot_ctx LL (bodyOf Tryd.f53) impl_oneRoot_an (⟨mkE 27 0 [(0, .dat (.list (.int .i64)) x1453)], []⟩ : St) (Ret (tlook tys) Tryd.f53.results.toList r H') :=
  ret_of' (impl_oneRoot_n9_l x1453) (by unfold impl_oneRoot; kernel_rfl) (by
  intro t
  exact ret_mk [.dat .bool t] (by kernel_rfl) (by kernel_rfl) (by kernel_rfl) (by kernel_rfl)) h

def F_impl_oneRoot : Fun := fun avs H =>
  match avs, H with
  | [.dat (.list (.int .i64)) x1453], [] => ⟨_, impl_oneRoot x1453, fun (t : Bool) => (.dat .bool t, [])⟩
  | _, _ => Ans.no

theorem impl_oneRoot_sound : Sound Tryd.prog 53 F_impl_oneRoot := by
  refine fn_sound' (C := impl_oneRoot_ctx) (c := bodyOf Tryd.f53) (cok_of tys_ok (by simp) (by simp) (by kernel_rfl)) Tryd.func53 (by kernel_rfl) LL impl_oneRoot_an ?_
  intro avs H r H' h
  unfold F_impl_oneRoot at h
  split at h
  · refine Awp.cast ?_ ?_ ?_ (impl_oneRoot_e _ h) <;> kernel_rfl
  · simp [Ans.no, Ans.run] at h


/-! (*loop.example/headtrees/impl.walker).up -/

def impl_walker_up_an : Ann := (.seq (.leaf [0]) (.seq (.draw [] [0, 1, 2, 3, 4, 5, 6, 7, 8, 9, 10, 11] [] [0, 3]) (.seq (.seq (.leaf [0, 3, 16]) (.cond (.seq (.leaf [2]) (.leaf [2])) (.leaf [0, 3]))) (.seq (.leaf [0]) (.seq (.leaf []) (.seq (.leaf [2]) (.leaf [2])))))))

noncomputable def impl_walker_up_ctx : Ctx := ⟨tlook tys, olook [], ioF, 1, false⟩

theorem impl_walker_up_n1_l (x1509 : List Int) (x1510 : Int) (x1511 : Int) : Link impl_walker_up_ctx LL (bodyOf Tryd.f50) impl_walker_up_an (⟨mkE 28 0 [(0, .ptr 0 0)], [some (.box [.dat (.list (.int .i64)) x1509, .dat (.int .i64) x1510, .dat (.int .i64) x1511])]⟩ : St) (impl_walker_up_n1 x1509 x1510 x1511) (fun (t : Bool × Int × Int) => (Exit.ret, (⟨mkE 28 0 [(2, .dat .bool t.1)], [some (.box [.dat (.list (.int .i64)) x1509, .dat (.int .i64) t.2.1, .dat (.int .i64) t.2.2])]⟩ : St))) := by
  refine Link.of fun K h => ?_
  simp only [impl_walker_up_n1, wpO_bind, wpO_cond, wpO_map, wpO_some] at h
  exact Awp.of (by kernel_rfl) h

theorem impl_walker_up_e (x1509 : List Int) (x1510 : Int) (x1511 : Int) {r : AV} {H' : Heap} (h : (Ans.mk _ (impl_walker_up x1509 x1510 x1511) (fun (t : Bool × Int × Int) => (.dat .bool t.1, [some (.box [.dat (.list (.int .i64)) x1509, .dat (.int .i64) t.2.1, .dat (.int .i64) t.2.2])]))).run = some (r, H')) : Awp impl_walker_up_ctx LL (bodyOf Tryd.f50) impl_walker_up_an (⟨mkE 28 0 [(0, .ptr 0 0)], [some (.box [.dat (.list (.int .i64)) x1509, .dat (.int .i64) x1510, .dat (.int .i64) x1511])]⟩ : St) (Ret (tlook tys) Tryd.f50.results.toList r H') :=
  ret_of' (impl_walker_up_n1_l x1509 x1510 x1511) (by unfold impl_walker_up; kernel_rfl) (by
  intro t
  exact ret_mk [.dat .bool t.1] (by kernel_rfl) (by kernel_rfl) (by kernel_rfl) (by kernel_rfl)) h

def F_impl_walker_up : Fun := fun avs H =>
  match avs, H with
  | [.ptr 0 0], [some (.box [.dat (.list (.int .i64)) x1509, .dat (.int .i64) x1510, .dat (.int .i64) x1511])] => ⟨_, impl_walker_up x1509 x1510 x1511, fun (t : Bool × Int × Int) => (.dat .bool t.1, [some (.box [.dat (.list (.int .i64)) x1509, .dat (.int .i64) t.2.1, .dat (.int .i64) t.2.2])])⟩
  | _, _ => Ans.no

theorem impl_walker_up_sound : Sound Tryd.prog 50 F_impl_walker_up := by
  refine fn_sound' (C := impl_walker_up_ctx) (c := bodyOf Tryd.f50) (cok_of tys_ok (by simp) (by simp) (by kernel_rfl)) Tryd.func50 (by kernel_rfl) LL impl_walker_up_an ?_
  intro avs H r H' h
  unfold F_impl_walker_up at h
  split at h
  · refine Awp.cast ?_ ?_ ?_ (impl_walker_up_e _ _ _ h) <;> kernel_rfl
  · simp [Ans.no, Ans.run] at h


/-! loop.example/headtrees/impl.stepsToRoot -/

def impl_stepsToRoot_an : Ann := (.seq (.leaf [0, 1]) (.seq (.leaf [0, 6]) (.seq (.block (.loop (.seq (.seq (.leaf [0, 6, 10]) (.cond (.leaf [0, 6]) (.leaf [6]))) (.block (.seq (.leaf [0, 6, 15]) (.cond (.seq (.leaf [4, 5]) (.leaf [4, 5])) (.leaf [0, 6]))))))) (.seq (.leaf [4, 5]) (.leaf [4, 5])))))

noncomputable def impl_stepsToRoot_ctx : Ctx := ⟨tlook tys, olook [(50, F_impl_walker_up)], ioF, 0, false⟩

theorem impl_stepsToRoot_n1_l (x1507 : List Int) (x1508 : Int) : Link impl_stepsToRoot_ctx LL (Code.seq (Code.fst (bodyOf Tryd.f54)) (Code.fst (Code.snd (bodyOf Tryd.f54)))) (Ann.seq (Ann.fst impl_stepsToRoot_an) (Ann.fst (Ann.snd impl_stepsToRoot_an))) (⟨mkE 18 0 [(0, .dat (.list (.int .i64)) x1507), (1, .dat (.int .i64) x1508)], []⟩ : St) (impl_stepsToRoot_n1) (fun (t : Unit) => (Exit.normal, (⟨mkE 18 0 [(0, .dat (.list (.int .i64)) x1507), (6, .ptr 0 0)], [some (.box [.dat (.list (.int .i64)) x1507, .dat (.int .i64) x1508, .dat (.int .i64) 0])]⟩ : St))) := by
  refine Link.of fun K h => ?_
  simp only [impl_stepsToRoot_n1, wpO_bind, wpO_cond, wpO_map, wpO_some] at h
  exact Awp.of (by kernel_rfl) h

theorem impl_stepsToRoot_n2_l (x1507 : List Int) (x1545 : Int) (x1546 : Int) : Link impl_stepsToRoot_ctx LL (Code.fst (Code.fst (Code.fst (Code.snd (Code.snd (bodyOf Tryd.f54)))))) (Ann.fst (Ann.fst (Ann.fst (Ann.snd (Ann.snd impl_stepsToRoot_an))))) (⟨mkE 18 0 [(0, .dat (.list (.int .i64)) x1507), (6, .ptr 0 0)], [some (.box [.dat (.list (.int .i64)) x1507, .dat (.int .i64) x1545, .dat (.int .i64) x1546])]⟩ : St) (impl_stepsToRoot_n2 x1507 x1545 x1546) (Sum.elim (fun (t : Int × Int) => (Exit.normal, (⟨mkE 18 0 [(0, .dat (.list (.int .i64)) x1507), (6, .ptr 0 0)], [some (.box [.dat (.list (.int .i64)) x1507, .dat (.int .i64) t.1, .dat (.int .i64) t.2])]⟩ : St))) (Sum.elim (fun (t : Int × Bool) => (Exit.ret, (⟨mkE 18 0 [(4, .dat (.int .i64) t.1), (5, .dat .bool t.2)], []⟩ : St))) (fun (t : Int × Int) => ((Exit.exit 0), (⟨mkE 18 0 [(6, .ptr 0 0)], [some (.box [.dat (.list (.int .i64)) x1507, .dat (.int .i64) t.1, .dat (.int .i64) t.2])]⟩ : St))))) := by
  refine Link.of fun K h => ?_
  simp only [impl_stepsToRoot_n2, wpO_bind, wpO_cond, wpO_map, wpO_some] at h
  exact Awp.of (by kernel_rfl) h

theorem impl_stepsToRoot_n3_l (x1507 : List Int) (x1508 : Int) : Link impl_stepsToRoot_ctx LL (Code.fst (Code.fst (Code.snd (Code.snd (bodyOf Tryd.f54))))) (Ann.fst (Ann.fst (Ann.snd (Ann.snd impl_stepsToRoot_an)))) (⟨mkE 18 0 [(0, .dat (.list (.int .i64)) x1507), (6, .ptr 0 0)], [some (.box [.dat (.list (.int .i64)) x1507, .dat (.int .i64) x1508, .dat (.int .i64) 0])]⟩ : St) (impl_stepsToRoot_n3 x1507 x1508) (Sum.elim (fun (t : Int × Bool) => (Exit.ret, (⟨mkE 18 0 [(4, .dat (.int .i64) t.1), (5, .dat .bool t.2)], []⟩ : St))) (fun (t : Int × Int) => ((Exit.exit 0), (⟨mkE 18 0 [(6, .ptr 0 0)], [some (.box [.dat (.list (.int .i64)) x1507, .dat (.int .i64) t.1, .dat (.int .i64) t.2])]⟩ : St)))) := by
  unfold impl_stepsToRoot_n3
  exact Link.cast (by kernel_rfl) (by kernel_rfl) (link_loop (mk := fun (s : Int × Int) => (⟨mkE 18 0 [(0, .dat (.list (.int .i64)) x1507), (6, .ptr 0 0)], [some (.box [.dat (.list (.int .i64)) x1507, .dat (.int .i64) s.1, .dat (.int .i64) s.2])]⟩ : St)) (fin := (Sum.elim (fun (t : Int × Bool) => (Exit.ret, (⟨mkE 18 0 [(4, .dat (.int .i64) t.1), (5, .dat .bool t.2)], []⟩ : St))) (fun (t : Int × Int) => ((Exit.exit 0), (⟨mkE 18 0 [(6, .ptr 0 0)], [some (.box [.dat (.list (.int .i64)) x1507, .dat (.int .i64) t.1, .dat (.int .i64) t.2])]⟩ : St))))) (by
  rintro (t | t) f K h
  · exact h
  · exact h) (fun s => link_map (impl_stepsToRoot_n2_l x1507 s.1 s.2) (Sum.elim (fun (t : Int × Int) => Sum.inl (t.1, t.2)) (Sum.elim (fun (t : Int × Bool) => Sum.inr (Sum.inl t)) (fun (t : Int × Int) => Sum.inr (Sum.inr t)))) (by
  rintro (t | t | t)
  · kernel_rfl
  · kernel_rfl
  · kernel_rfl)) (x1508, 0))

theorem impl_stepsToRoot_n4_l (x1507 : List Int) (x1508 : Int) : Link impl_stepsToRoot_ctx LL (Code.fst (Code.snd (Code.snd (bodyOf Tryd.f54)))) (Ann.fst (Ann.snd (Ann.snd impl_stepsToRoot_an))) (⟨mkE 18 0 [(0, .dat (.list (.int .i64)) x1507), (6, .ptr 0 0)], [some (.box [.dat (.list (.int .i64)) x1507, .dat (.int .i64) x1508, .dat (.int .i64) 0])]⟩ : St) (impl_stepsToRoot_n4 x1507 x1508) (Sum.elim (fun (t : Int × Int) => (Exit.normal, (⟨mkE 18 0 [(6, .ptr 0 0)], [some (.box [.dat (.list (.int .i64)) x1507, .dat (.int .i64) t.1, .dat (.int .i64) t.2])]⟩ : St))) (fun (t : Int × Bool) => (Exit.ret, (⟨mkE 18 0 [(4, .dat (.int .i64) t.1), (5, .dat .bool t.2)], []⟩ : St)))) := by
  unfold impl_stepsToRoot_n4
  exact Link.cast (by kernel_rfl) (by kernel_rfl) (link_block (id := 0) (impl_stepsToRoot_n3_l x1507 x1508) (Sum.elim (fun (t : Int × Bool) => (Sum.inr t)) (fun (t : Int × Int) => (Sum.inl (t.1, t.2)))) (by
  rintro (t | t) K h
  · exact Eq.mp (by kernel_rfl) h
  · exact Eq.mp (by kernel_rfl) h))

theorem impl_stepsToRoot_n5_l (x1507 : List Int) (x1553 : Int) (x1554 : Int) : Link impl_stepsToRoot_ctx LL (Code.snd (Code.snd (Code.snd (bodyOf Tryd.f54)))) (Ann.snd (Ann.snd (Ann.snd impl_stepsToRoot_an))) (⟨mkE 18 0 [(6, .ptr 0 0)], [some (.box [.dat (.list (.int .i64)) x1507, .dat (.int .i64) x1553, .dat (.int .i64) x1554])]⟩ : St) (impl_stepsToRoot_n5 x1554) (fun (t : Int × Bool) => (Exit.ret, (⟨mkE 18 0 [(4, .dat (.int .i64) t.1), (5, .dat .bool t.2)], []⟩ : St))) := by
  refine Link.of fun K h => ?_
  simp only [impl_stepsToRoot_n5, wpO_bind, wpO_cond, wpO_map, wpO_some] at h
  exact Awp.of (by kernel_rfl) h

theorem impl_stepsToRoot_n6_l (x1507 : List Int) (x1508 : Int) : Link impl_stepsToRoot_ctx LL (Code.snd (Code.snd (bodyOf Tryd.f54))) (Ann.snd (Ann.snd impl_stepsToRoot_an)) (⟨mkE 18 0 [(0, .dat (.list (.int .i64)) x1507), (6, .ptr 0 0)], [some (.box [.dat (.list (.int .i64)) x1507, .dat (.int .i64) x1508, .dat (.int .i64) 0])]⟩ : St) (impl_stepsToRoot_n6 x1507 x1508) (fun (t : Int × Bool) => (Exit.ret, (⟨mkE 18 0 [(4, .dat (.int .i64) t.1), (5, .dat .bool t.2)], []⟩ : St))) := by
  unfold impl_stepsToRoot_n6
  exact Link.cast (by kernel_rfl) (by kernel_rfl) (link_seq2 (b := (Code.snd (Code.snd (Code.snd (bodyOf Tryd.f54))))) (y := (Ann.snd (Ann.snd (Ann.snd impl_stepsToRoot_an)))) (impl_stepsToRoot_n4_l x1507 x1508) (fun (t : Int × Int) => (impl_stepsToRoot_n5_l x1507 t.1 t.2)) (fun (t : Int × Bool) => t) (by
  rintro t
  · kernel_rfl) (by
  rintro t f K h
  · exact h))

theorem impl_stepsToRoot_n7_l (x1507 : List Int) (x1508 : Int) : Link impl_stepsToRoot_ctx LL (bodyOf Tryd.f54) impl_stepsToRoot_an (⟨mkE 18 0 [(0, .dat (.list (.int .i64)) x1507), (1, .dat (.int .i64) x1508)], []⟩ : St) (impl_stepsToRoot_n7 x1507 x1508) (fun (t : Int × Bool) => (Exit.ret, (⟨mkE 18 0 [(4, .dat (.int .i64) t.1), (5, .dat .bool t.2)], []⟩ : St))) := by
  unfold impl_stepsToRoot_n7
  exact Link.cast (by kernel_rfl) (by kernel_rfl) (link_group (c := (Code.fst (Code.snd (bodyOf Tryd.f54)))) (a := (Ann.fst (Ann.snd impl_stepsToRoot_an))) [(Code.fst (bodyOf Tryd.f54))] [(Ann.fst impl_stepsToRoot_an)] rfl (link_seq (b := (Code.snd (Code.snd (bodyOf Tryd.f54)))) (y := (Ann.snd (Ann.snd impl_stepsToRoot_an))) (impl_stepsToRoot_n1_l x1507 x1508) (fun (t : Unit) => (impl_stepsToRoot_n6_l x1507 x1508))))

theorem impl_stepsToRoot_e (x1507 : List Int) (x1508 : Int) {r : AV} {H' : Heap} (h : (Ans.mk _ (impl_stepsToRoot x1507 x1508) (fun (t : Int × Bool) => (.tup [.dat (.int .i64) t.1, .dat .bool t.2], []))).run = some (r, H')) : Awp impl_stepsToRoot_ctx LL (bodyOf Tryd.f54) impl_stepsToRoot_an (⟨mkE 18 0 [(0, .dat (.list (.int .i64)) x1507), (1, .dat (.int .i64) x1508)], []⟩ : St) (Ret (tlook tys) Tryd.f54.results.toList r H') :=
  ret_of' (impl_stepsToRoot_n7_l x1507 x1508) (by unfold impl_stepsToRoot; kernel_rfl) (by
  intro t
  exact ret_mk [.dat (.int .i64) t.1, .dat .bool t.2] (by kernel_rfl) (by kernel_rfl) (by kernel_rfl) (by kernel_rfl)) h

def F_impl_stepsToRoot : Fun := fun avs H =>
  match avs, H with
  | [.dat (.list (.int .i64)) x1507, .dat (.int .i64) x1508], [] => ⟨_, impl_stepsToRoot x1507 x1508, fun (t : Int × Bool) => (.tup [.dat (.int .i64) t.1, .dat .bool t.2], [])⟩
  | _, _ => Ans.no

theorem impl_stepsToRoot_sound : Sound Tryd.prog 54 F_impl_stepsToRoot := by
  refine fn_sound' (C := impl_stepsToRoot_ctx) (c := bodyOf Tryd.f54) (cok_of tys_ok (List.forall_mem_cons.2 ⟨impl_walker_up_sound, by simp⟩) (List.forall_mem_cons.2 ⟨Tryd.call50, by simp⟩) (by kernel_rfl)) Tryd.func54 (by kernel_rfl) LL impl_stepsToRoot_an ?_
  intro avs H r H' h
  unfold F_impl_stepsToRoot at h
  split at h
  · refine Awp.cast ?_ ?_ ?_ (impl_stepsToRoot_e _ _ h) <;> kernel_rfl
  · simp [Ans.no, Ans.run] at h


/-! loop.example/headtrees/impl.TreeOk -/

def impl_TreeOk_an : Ann := (.seq (.leaf [0]) (.seq (.seq (.leaf [0, 18]) (.cond (.seq (.leaf [2]) (.leaf [2])) (.leaf [0]))) (.seq (.seq (.leaf [0, 20, 21]) (.block (.loop (.seq (.leaf [0, 20, 21, 22]) (.seq (.cond (.leaf [0, 20, 21]) (.leaf [])) (.seq (.block (.seq (.leaf [0, 3, 20, 21]) (.seq (.leaf [0, 5, 20, 21]) (.seq (.leaf [0, 20, 21, 32]) (.cond (.seq (.leaf [2]) (.leaf [2])) (.leaf [0, 20, 21])))))) (.leaf [0, 20, 21]))))))) (.seq (.leaf [2]) (.leaf [2])))))

noncomputable def impl_TreeOk_ctx : Ctx := ⟨tlook tys, olook [(53, F_impl_oneRoot), (54, F_impl_stepsToRoot)], ioF, 0, false⟩

theorem impl_TreeOk_n1_l (x1448 : List Int) : Link impl_TreeOk_ctx LL (Code.seq (Code.fst (bodyOf Tryd.f22)) (Code.fst (Code.snd (bodyOf Tryd.f22)))) (Ann.seq (Ann.fst impl_TreeOk_an) (Ann.fst (Ann.snd impl_TreeOk_an))) (⟨mkE 34 0 [(0, .dat (.list (.int .i64)) x1448)], []⟩ : St) (impl_TreeOk_n1 x1448) (Sum.elim (fun (t : Unit) => (Exit.normal, (⟨mkE 34 0 [(0, .dat (.list (.int .i64)) x1448)], []⟩ : St))) (fun (t : Bool) => (Exit.ret, (⟨mkE 34 0 [(2, .dat .bool t)], []⟩ : St)))) := by
  refine Link.of fun K h => ?_
  simp only [impl_TreeOk_n1, wpO_bind, wpO_cond, wpO_map, wpO_some] at h
  exact Awp.of (by kernel_rfl) h

theorem impl_TreeOk_n2_l (x1448 : List Int) : Link impl_TreeOk_ctx LL (Code.fst (Code.fst (Code.snd (Code.snd (bodyOf Tryd.f22))))) (Ann.fst (Ann.fst (Ann.snd (Ann.snd impl_TreeOk_an)))) (⟨mkE 34 0 [(0, .dat (.list (.int .i64)) x1448)], []⟩ : St) (impl_TreeOk_n2 x1448) (fun (t : Int) => (Exit.normal, (⟨mkE 34 0 [(0, .dat (.list (.int .i64)) x1448), (20, .dat (.int .i64) t), (21, .dat (.int .i64) 0)], []⟩ : St))) := by
  refine Link.of fun K h => ?_
  simp only [impl_TreeOk_n2, wpO_bind, wpO_cond, wpO_map, wpO_some] at h
  exact Awp.of (by kernel_rfl) h

theorem impl_TreeOk_n3_l (x1448 : List Int) (x1502 : Int) (x1570 : Int) : Link impl_TreeOk_ctx LL (Code.fst (Code.fst (Code.snd (Code.fst (Code.snd (Code.snd (bodyOf Tryd.f22))))))) (Ann.fst (Ann.fst (Ann.snd (Ann.fst (Ann.snd (Ann.snd impl_TreeOk_an)))))) (⟨mkE 34 0 [(0, .dat (.list (.int .i64)) x1448), (20, .dat (.int .i64) x1502), (21, .dat (.int .i64) x1570)], []⟩ : St) (impl_TreeOk_n3 x1448 x1502 x1570) (Sum.elim (fun (t : Int) => (Exit.normal, (⟨mkE 34 0 [(0, .dat (.list (.int .i64)) x1448), (20, .dat (.int .i64) x1502), (21, .dat (.int .i64) t)], []⟩ : St))) (Sum.elim (fun (t : Bool) => (Exit.ret, (⟨mkE 34 0 [(2, .dat .bool t)], []⟩ : St))) (fun (t : Unit) => ((Exit.exit 0), (⟨mkE 34 0 [], []⟩ : St))))) := by
  refine Link.of fun K h => ?_
  simp only [impl_TreeOk_n3, wpO_bind, wpO_cond, wpO_map, wpO_some] at h
  exact Awp.of (by kernel_rfl) h

theorem impl_TreeOk_n4_l (x1448 : List Int) (x1502 : Int) : Link impl_TreeOk_ctx LL (Code.fst (Code.snd (Code.fst (Code.snd (Code.snd (bodyOf Tryd.f22)))))) (Ann.fst (Ann.snd (Ann.fst (Ann.snd (Ann.snd impl_TreeOk_an))))) (⟨mkE 34 0 [(0, .dat (.list (.int .i64)) x1448), (20, .dat (.int .i64) x1502), (21, .dat (.int .i64) 0)], []⟩ : St) (impl_TreeOk_n4 x1448 x1502) (Sum.elim (fun (t : Bool) => (Exit.ret, (⟨mkE 34 0 [(2, .dat .bool t)], []⟩ : St))) (fun (t : Unit) => ((Exit.exit 0), (⟨mkE 34 0 [], []⟩ : St)))) := by
  unfold impl_TreeOk_n4
  exact Link.cast (by kernel_rfl) (by kernel_rfl) (link_loop (mk := fun (s : Int) => (⟨mkE 34 0 [(0, .dat (.list (.int .i64)) x1448), (20, .dat (.int .i64) x1502), (21, .dat (.int .i64) s)], []⟩ : St)) (fin := (Sum.elim (fun (t : Bool) => (Exit.ret, (⟨mkE 34 0 [(2, .dat .bool t)], []⟩ : St))) (fun (t : Unit) => ((Exit.exit 0), (⟨mkE 34 0 [], []⟩ : St))))) (by
  rintro (t | t) f K h
  · exact h
  · exact h) (fun s => link_map (impl_TreeOk_n3_l x1448 x1502 s) (Sum.elim (fun (t : Int) => Sum.inl t) (Sum.elim (fun (t : Bool) => Sum.inr (Sum.inl t)) (fun (t : Unit) => Sum.inr (Sum.inr t)))) (by
  rintro (t | t | t)
  · kernel_rfl
  · kernel_rfl
  · kernel_rfl)) 0)

theorem impl_TreeOk_n5_l (x1448 : List Int) (x1502 : Int) : Link impl_TreeOk_ctx LL (Code.snd (Code.fst (Code.snd (Code.snd (bodyOf Tryd.f22))))) (Ann.snd (Ann.fst (Ann.snd (Ann.snd impl_TreeOk_an)))) (⟨mkE 34 0 [(0, .dat (.list (.int .i64)) x1448), (20, .dat (.int .i64) x1502), (21, .dat (.int .i64) 0)], []⟩ : St) (impl_TreeOk_n5 x1448 x1502) (Sum.elim (fun (t : Unit) => (Exit.normal, (⟨mkE 34 0 [], []⟩ : St))) (fun (t : Bool) => (Exit.ret, (⟨mkE 34 0 [(2, .dat .bool t)], []⟩ : St)))) := by
  unfold impl_TreeOk_n5
  exact Link.cast (by kernel_rfl) (by kernel_rfl) (link_block (id := 0) (impl_TreeOk_n4_l x1448 x1502) (Sum.elim (fun (t : Bool) => (Sum.inr t)) (fun (t : Unit) => (Sum.inl ()))) (by
  rintro (t | t) K h
  · exact Eq.mp (by kernel_rfl) h
  · exact Eq.mp (by kernel_rfl) h))

theorem impl_TreeOk_n6_l (x1448 : List Int) : Link impl_TreeOk_ctx LL (Code.fst (Code.snd (Code.snd (bodyOf Tryd.f22)))) (Ann.fst (Ann.snd (Ann.snd impl_TreeOk_an))) (⟨mkE 34 0 [(0, .dat (.list (.int .i64)) x1448)], []⟩ : St) (impl_TreeOk_n6 x1448) (Sum.elim (fun (t : Unit) => (Exit.normal, (⟨mkE 34 0 [], []⟩ : St))) (fun (t : Bool) => (Exit.ret, (⟨mkE 34 0 [(2, .dat .bool t)], []⟩ : St)))) := by
  unfold impl_TreeOk_n6
  exact Link.cast (by kernel_rfl) (by kernel_rfl) (link_seq (b := (Code.snd (Code.fst (Code.snd (Code.snd (bodyOf Tryd.f22)))))) (y := (Ann.snd (Ann.fst (Ann.snd (Ann.snd impl_TreeOk_an))))) (impl_TreeOk_n2_l x1448) (fun (t : Int) => (impl_TreeOk_n5_l x1448 t)))

theorem impl_TreeOk_n7_l : Link impl_TreeOk_ctx LL (Code.snd (Code.snd (Code.snd (bodyOf Tryd.f22)))) (Ann.snd (Ann.snd (Ann.snd impl_TreeOk_an))) (⟨mkE 34 0 [], []⟩ : St) (impl_TreeOk_n7) (fun (t : Bool) => (Exit.ret, (⟨mkE 34 0 [(2, .dat .bool t)], []⟩ : St))) := by
  refine Link.of fun K h => ?_
  simp only [impl_TreeOk_n7, wpO_bind, wpO_cond, wpO_map, wpO_some] at h
  exact Awp.of (by kernel_rfl) h

theorem impl_TreeOk_n8_l (x1448 : List Int) : Link impl_TreeOk_ctx LL (Code.snd (Code.snd (bodyOf Tryd.f22))) (Ann.snd (Ann.snd impl_TreeOk_an)) (⟨mkE 34 0 [(0, .dat (.list (.int .i64)) x1448)], []⟩ : St) (impl_TreeOk_n8 x1448) (fun (t : Bool) => (Exit.ret, (⟨mkE 34 0 [(2, .dat .bool t)], []⟩ : St))) := by
  unfold impl_TreeOk_n8
  exact Link.cast (by kernel_rfl) (by kernel_rfl) (link_seq2 (b := (Code.snd (Code.snd (Code.snd (bodyOf Tryd.f22))))) (y := (Ann.snd (Ann.snd (Ann.snd impl_TreeOk_an)))) (impl_TreeOk_n6_l x1448) (fun (t : Unit) => (impl_TreeOk_n7_l)) (fun (t : Bool) => t) (by
  rintro t
  · kernel_rfl) (by
  rintro t f K h
  · exact h))

theorem impl_TreeOk_n9_l (x1448 : List Int) : Link impl_TreeOk_ctx LL (bodyOf Tryd.f22) impl_TreeOk_an (⟨mkE 34 0 [(0, .dat (.list (.int .i64)) x1448)], []⟩ : St) (impl_TreeOk_n9 x1448) (fun (t : Bool) => (Exit.ret, (⟨mkE 34 0 [(2, .dat .bool t)], []⟩ : St))) := by
  unfold impl_TreeOk_n9
  exact Link.cast (by kernel_rfl) (by kernel_rfl) (link_group (c := (Code.fst (Code.snd (bodyOf Tryd.f22)))) (a := (Ann.fst (Ann.snd impl_TreeOk_an))) [(Code.fst (bodyOf Tryd.f22))] [(Ann.fst impl_TreeOk_an)] rfl (link_seq2 (b := (Code.snd (Code.snd (bodyOf Tryd.f22)))) (y := (Ann.snd (Ann.snd impl_TreeOk_an))) (impl_TreeOk_n1_l x1448) (fun (t : Unit) => (impl_TreeOk_n8_l x1448)) (fun (t : Bool) => t) (by
  rintro t
  · kernel_rfl) (by
  rintro t f K h
  · exact h)))

theorem impl_TreeOk_e (x1448 : List Int) {r : AV} {H' : Heap} (h : (Ans.mk _ (impl_TreeOk x1448) (fun (t : Bool) => (.dat .bool t, []))).run = some (r, H')) : Awp impl_TreeOk_ctx LL (bodyOf Tryd.f22) impl_TreeOk_an (⟨mkE 34 0 [(0, .dat (.list (.int .i64)) x1448)], []⟩ : St) (Ret (tlook tys) Tryd.f22.results.toList r H') :=
  ret_of' (impl_TreeOk_n9_l x1448) (by unfold impl_TreeOk; kernel_rfl) (by
  intro t
  exact ret_mk [.dat .bool t] (by kernel_rfl) (by kernel_rfl) (by kernel_rfl) (by kernel_rfl)) h

def F_impl_TreeOk : Fun := fun avs H =>
  match avs, H with
  | [.dat (.list (.int .i64)) x1448], [] => ⟨_, impl_TreeOk x1448, fun (t : Bool) => (.dat .bool t, [])⟩
  | _, _ => Ans.no

theorem impl_TreeOk_sound : Sound Tryd.prog 22 F_impl_TreeOk := by
  refine fn_sound' (C := impl_TreeOk_ctx) (c := bodyOf Tryd.f22) (cok_of tys_ok (List.forall_mem_cons.2 ⟨impl_oneRoot_sound, List.forall_mem_cons.2 ⟨impl_stepsToRoot_sound, by simp⟩⟩) (List.forall_mem_cons.2 ⟨Tryd.call53, List.forall_mem_cons.2 ⟨Tryd.call54, by simp⟩⟩) (by kernel_rfl)) Tryd.func22 (by kernel_rfl) LL impl_TreeOk_an ?_
  intro avs H r H' h
  unfold F_impl_TreeOk at h
  split at h
  · refine Awp.cast ?_ ?_ ?_ (impl_TreeOk_e _ h) <;> kernel_rfl
  · simp [Ans.no, Ans.run] at h


/-! loop.example/headtrees/impl.RootOf -/

def impl_RootOf_an : Ann := (.seq (.leaf [0]) (.seq (.seq (.leaf [0, 6]) (.cond (.seq (.leaf [2]) (.leaf [2])) (.leaf [0]))) (.seq (.leaf [3]) (.seq (.block (.loop (.seq (.seq (.leaf [3, 9]) (.cond (.leaf [3]) (.leaf [3]))) (.block (.leaf [3]))))) (.seq (.leaf [2]) (.leaf [2]))))))

noncomputable def impl_RootOf_ctx : Ctx := ⟨tlook tys, olook [(22, F_impl_TreeOk), (50, F_impl_walker_up)], ioF, 0, false⟩

theorem impl_RootOf_n1_l (x1607 : List Int) : Link impl_RootOf_ctx LL (Code.seq (Code.fst (bodyOf Tryd.f16)) (Code.seq (Code.fst (Code.snd (bodyOf Tryd.f16))) (Code.fst (Code.snd (Code.snd (bodyOf Tryd.f16)))))) (Ann.seq (Ann.fst impl_RootOf_an) (Ann.seq (Ann.fst (Ann.snd impl_RootOf_an)) (Ann.fst (Ann.snd (Ann.snd impl_RootOf_an))))) (⟨mkE 12 0 [(0, .dat (.list (.int .i64)) x1607)], []⟩ : St) (impl_RootOf_n1 x1607) (Sum.elim (fun (t : Unit) => (Exit.normal, (⟨mkE 12 0 [(3, .ptr 0 0)], [some (.box [.dat (.list (.int .i64)) x1607, .dat (.int .i64) 1, .dat (.int .i64) 0])]⟩ : St))) (fun (t : Int) => (Exit.ret, (⟨mkE 12 0 [(2, .dat (.int .i64) t)], []⟩ : St)))) := by
  refine Link.of fun K h => ?_
  simp only [impl_RootOf_n1, wpO_bind, wpO_cond, wpO_map, wpO_some] at h
  exact Awp.of (by kernel_rfl) h

theorem impl_RootOf_n2_l (x1607 : List Int) (x1620 : Int) (x1621 : Int) : Link impl_RootOf_ctx LL (Code.fst (Code.fst (Code.fst (Code.snd (Code.snd (Code.snd (bodyOf Tryd.f16))))))) (Ann.fst (Ann.fst (Ann.fst (Ann.snd (Ann.snd (Ann.snd impl_RootOf_an)))))) (⟨mkE 12 0 [(3, .ptr 0 0)], [some (.box [.dat (.list (.int .i64)) x1607, .dat (.int .i64) x1620, .dat (.int .i64) x1621])]⟩ : St) (impl_RootOf_n2 x1607 x1620 x1621) (Sum.elim (fun (t : Int × Int) => (Exit.normal, (⟨mkE 12 0 [(3, .ptr 0 0)], [some (.box [.dat (.list (.int .i64)) x1607, .dat (.int .i64) t.1, .dat (.int .i64) t.2])]⟩ : St))) (fun (t : Int × Int) => ((Exit.exit 0), (⟨mkE 12 0 [(3, .ptr 0 0)], [some (.box [.dat (.list (.int .i64)) x1607, .dat (.int .i64) t.1, .dat (.int .i64) t.2])]⟩ : St)))) := by
  refine Link.of fun K h => ?_
  simp only [impl_RootOf_n2, wpO_bind, wpO_cond, wpO_map, wpO_some] at h
  exact Awp.of (by kernel_rfl) h

theorem impl_RootOf_n3_l (x1607 : List Int) : Link impl_RootOf_ctx LL (Code.fst (Code.fst (Code.snd (Code.snd (Code.snd (bodyOf Tryd.f16)))))) (Ann.fst (Ann.fst (Ann.snd (Ann.snd (Ann.snd impl_RootOf_an))))) (⟨mkE 12 0 [(3, .ptr 0 0)], [some (.box [.dat (.list (.int .i64)) x1607, .dat (.int .i64) 1, .dat (.int .i64) 0])]⟩ : St) (impl_RootOf_n3 x1607) (fun (t : Int × Int) => ((Exit.exit 0), (⟨mkE 12 0 [(3, .ptr 0 0)], [some (.box [.dat (.list (.int .i64)) x1607, .dat (.int .i64) t.1, .dat (.int .i64) t.2])]⟩ : St))) := by
  unfold impl_RootOf_n3
  exact Link.cast (by kernel_rfl) (by kernel_rfl) (link_loop (mk := fun (s : Int × Int) => (⟨mkE 12 0 [(3, .ptr 0 0)], [some (.box [.dat (.list (.int .i64)) x1607, .dat (.int .i64) s.1, .dat (.int .i64) s.2])]⟩ : St)) (fin := (fun (t : Int × Int) => ((Exit.exit 0), (⟨mkE 12 0 [(3, .ptr 0 0)], [some (.box [.dat (.list (.int .i64)) x1607, .dat (.int .i64) t.1, .dat (.int .i64) t.2])]⟩ : St)))) (by
  rintro t f K h
  · exact h) (fun s => link_map (impl_RootOf_n2_l x1607 s.1 s.2) (Sum.elim (fun (t : Int × Int) => Sum.inl (t.1, t.2)) (fun (t : Int × Int) => Sum.inr t)) (by
  rintro (t | t)
  · kernel_rfl
  · kernel_rfl)) (1, 0))

theorem impl_RootOf_n4_l (x1607 : List Int) : Link impl_RootOf_ctx LL (Code.fst (Code.snd (Code.snd (Code.snd (bodyOf Tryd.f16))))) (Ann.fst (Ann.snd (Ann.snd (Ann.snd impl_RootOf_an)))) (⟨mkE 12 0 [(3, .ptr 0 0)], [some (.box [.dat (.list (.int .i64)) x1607, .dat (.int .i64) 1, .dat (.int .i64) 0])]⟩ : St) (impl_RootOf_n4 x1607) (fun (t : Int × Int) => (Exit.normal, (⟨mkE 12 0 [(3, .ptr 0 0)], [some (.box [.dat (.list (.int .i64)) x1607, .dat (.int .i64) t.1, .dat (.int .i64) t.2])]⟩ : St))) := by
  unfold impl_RootOf_n4
  exact Link.cast (by kernel_rfl) (by kernel_rfl) (link_block (id := 0) (impl_RootOf_n3_l x1607) (fun (t : Int × Int) => (t.1, t.2)) (by
  rintro t K h
  · exact Eq.mp (by kernel_rfl) h))

theorem impl_RootOf_n5_l (x1607 : List Int) (x1628 : Int) (x1629 : Int) : Link impl_RootOf_ctx LL (Code.snd (Code.snd (Code.snd (Code.snd (bodyOf Tryd.f16))))) (Ann.snd (Ann.snd (Ann.snd (Ann.snd impl_RootOf_an)))) (⟨mkE 12 0 [(3, .ptr 0 0)], [some (.box [.dat (.list (.int .i64)) x1607, .dat (.int .i64) x1628, .dat (.int .i64) x1629])]⟩ : St) (impl_RootOf_n5 x1628) (fun (t : Int) => (Exit.ret, (⟨mkE 12 0 [(2, .dat (.int .i64) t)], []⟩ : St))) := by
  refine Link.of fun K h => ?_
  simp only [impl_RootOf_n5, wpO_bind, wpO_cond, wpO_map, wpO_some] at h
  exact Awp.of (by kernel_rfl) h

theorem impl_RootOf_n6_l (x1607 : List Int) : Link impl_RootOf_ctx LL (Code.snd (Code.snd (Code.snd (bodyOf Tryd.f16)))) (Ann.snd (Ann.snd (Ann.snd impl_RootOf_an))) (⟨mkE 12 0 [(3, .ptr 0 0)], [some (.box [.dat (.list (.int .i64)) x1607, .dat (.int .i64) 1, .dat (.int .i64) 0])]⟩ : St) (impl_RootOf_n6 x1607) (fun (t : Int) => (Exit.ret, (⟨mkE 12 0 [(2, .dat (.int .i64) t)], []⟩ : St))) := by
  unfold impl_RootOf_n6
  exact Link.cast (by kernel_rfl) (by kernel_rfl) (link_seq (b := (Code.snd (Code.snd (Code.snd (Code.snd (bodyOf Tryd.f16)))))) (y := (Ann.snd (Ann.snd (Ann.snd (Ann.snd impl_RootOf_an))))) (impl_RootOf_n4_l x1607) (fun (t : Int × Int) => (impl_RootOf_n5_l x1607 t.1 t.2)))

theorem impl_RootOf_n7_l (x1607 : List Int) : Link impl_RootOf_ctx LL (bodyOf Tryd.f16) impl_RootOf_an (⟨mkE 12 0 [(0, .dat (.list (.int .i64)) x1607)], []⟩ : St) (impl_RootOf_n7 x1607) (fun (t : Int) => (Exit.ret, (⟨mkE 12 0 [(2, .dat (.int .i64) t)], []⟩ : St))) := by
  unfold impl_RootOf_n7
  exact Link.cast (by kernel_rfl) (by kernel_rfl) (link_group (c := (Code.fst (Code.snd (Code.snd (bodyOf Tryd.f16))))) (a := (Ann.fst (Ann.snd (Ann.snd impl_RootOf_an)))) [(Code.fst (bodyOf Tryd.f16)), (Code.fst (Code.snd (bodyOf Tryd.f16)))] [(Ann.fst impl_RootOf_an), (Ann.fst (Ann.snd impl_RootOf_an))] rfl (link_seq2 (b := (Code.snd (Code.snd (Code.snd (bodyOf Tryd.f16))))) (y := (Ann.snd (Ann.snd (Ann.snd impl_RootOf_an)))) (impl_RootOf_n1_l x1607) (fun (t : Unit) => (impl_RootOf_n6_l x1607)) (fun (t : Int) => t) (by
  rintro t
  · kernel_rfl) (by
  rintro t f K h
  · exact h)))

theorem impl_RootOf_e (x1607 : List Int) {r : AV} {H' : Heap} (h : (Ans.mk _ (impl_RootOf x1607) (fun (t : Int) => (.dat (.int .i64) t, []))).run = some (r, H')) : Awp impl_RootOf_ctx LL (bodyOf Tryd.f16) impl_RootOf_an (⟨mkE 12 0 [(0, .dat (.list (.int .i64)) x1607)], []⟩ : St) (Ret (tlook tys) Tryd.f16.results.toList r H') :=
  ret_of' (impl_RootOf_n7_l x1607) (by unfold impl_RootOf; kernel_rfl) (by
  intro t
  exact ret_mk [.dat (.int .i64) t] (by kernel_rfl) (by kernel_rfl) (by kernel_rfl) (by kernel_rfl)) h

def F_impl_RootOf : Fun := fun avs H =>
  match avs, H with
  | [.dat (.list (.int .i64)) x1607], [] => ⟨_, impl_RootOf x1607, fun (t : Int) => (.dat (.int .i64) t, [])⟩
  | _, _ => Ans.no

theorem impl_RootOf_sound : Sound Tryd.prog 16 F_impl_RootOf := by
  refine fn_sound' (C := impl_RootOf_ctx) (c := bodyOf Tryd.f16) (cok_of tys_ok (List.forall_mem_cons.2 ⟨impl_TreeOk_sound, List.forall_mem_cons.2 ⟨impl_walker_up_sound, by simp⟩⟩) (List.forall_mem_cons.2 ⟨Tryd.call22, List.forall_mem_cons.2 ⟨Tryd.call50, by simp⟩⟩) (by kernel_rfl)) Tryd.func16 (by kernel_rfl) LL impl_RootOf_an ?_
  intro avs H r H' h
  unfold F_impl_RootOf at h
  split at h
  · refine Awp.cast ?_ ?_ ?_ (impl_RootOf_e _ h) <;> kernel_rfl
  · simp [Ans.no, Ans.run] at h


/-! loop.example/headtrees/impl.only -/

def impl_only_an : Ann := (.seq (.leaf [0]) (.seq (.leaf [2]) (.leaf [2])))

noncomputable def impl_only_ctx : Ctx := ⟨tlook tys, olook [], ioF, 0, false⟩

theorem impl_only_n1_l (x1635 : Int) : Link impl_only_ctx LL (bodyOf Tryd.f62) impl_only_an (⟨mkE 6 0 [(0, .dat (.int .i64) x1635)], []⟩ : St) (impl_only_n1 x1635) (fun (t : Int) => (Exit.ret, (⟨mkE 6 0 [(2, .dat (.int .u64) t)], []⟩ : St))) := by
  refine Link.of fun K h => ?_
  simp only [impl_only_n1, wpO_bind, wpO_cond, wpO_map, wpO_some] at h
  exact Awp.of (by kernel_rfl) h

theorem impl_only_e (x1635 : Int) {r : AV} {H' : Heap} (h : (Ans.mk _ (impl_only x1635) (fun (t : Int) => (.dat (.int .u64) t, []))).run = some (r, H')) : Awp impl_only_ctx LL (bodyOf Tryd.f62) impl_only_an (⟨mkE 6 0 [(0, .dat (.int .i64) x1635)], []⟩ : St) (Ret (tlook tys) Tryd.f62.results.toList r H') :=
  ret_of' (impl_only_n1_l x1635) (by unfold impl_only; kernel_rfl) (by
  intro t
  exact ret_mk [.dat (.int .u64) t] (by kernel_rfl) (by kernel_rfl) (by kernel_rfl) (by kernel_rfl)) h

def F_impl_only : Fun := fun avs H =>
  match avs, H with
  | [.dat (.int .i64) x1635], [] => ⟨_, impl_only x1635, fun (t : Int) => (.dat (.int .u64) t, [])⟩
  | _, _ => Ans.no

theorem impl_only_sound : Sound Tryd.prog 62 F_impl_only := by
  refine fn_sound' (C := impl_only_ctx) (c := bodyOf Tryd.f62) (cok_of tys_ok (by simp) (by simp) (by kernel_rfl)) Tryd.func62 (by kernel_rfl) LL impl_only_an ?_
  intro avs H r H' h
  unfold F_impl_only at h
  split at h
  · refine Awp.cast ?_ ?_ ?_ (impl_only_e _ h) <;> kernel_rfl
  · simp [Ans.no, Ans.run] at h


/-! loop.example/headtrees/impl.dependents -/

def impl_dependents_an : Ann := (.seq (.leaf [0, 1]) (.seq (.leaf [0, 1, 5]) (.seq (.seq (.leaf [0, 1, 5, 8, 9]) (.block (.loop (.seq (.leaf [0, 1, 5, 8, 9, 10]) (.seq (.cond (.leaf [0, 1, 5, 8, 9]) (.leaf [5])) (.seq (.block (.seq (.leaf [0, 1, 5, 6, 8, 9]) (.seq (.leaf [0, 1, 5, 6, 8, 9, 17]) (.cond (.leaf [0, 1, 5, 8, 9]) (.leaf [0, 1, 5, 8, 9]))))) (.leaf [0, 1, 5, 8, 9]))))))) (.seq (.leaf [4]) (.leaf [4])))))

noncomputable def impl_dependents_ctx : Ctx := ⟨tlook tys, olook [(62, F_impl_only)], ioF, 0, false⟩

theorem impl_dependents_n1_l (x1641 : List Int) (x1642 : Int) : Link impl_dependents_ctx LL (Code.seq (Code.fst (bodyOf Tryd.f48)) (Code.fst (Code.snd (bodyOf Tryd.f48)))) (Ann.seq (Ann.fst impl_dependents_an) (Ann.fst (Ann.snd impl_dependents_an))) (⟨mkE 25 0 [(0, .dat (.list (.int .i64)) x1641), (1, .dat (.int .i64) x1642)], []⟩ : St) (impl_dependents_n1) (fun (t : Unit) => (Exit.normal, (⟨mkE 25 0 [(0, .dat (.list (.int .i64)) x1641), (1, .dat (.int .i64) x1642), (5, .dat (.int .u64) 0)], []⟩ : St))) := by
  refine Link.of fun K h => ?_
  simp only [impl_dependents_n1, wpO_bind, wpO_cond, wpO_map, wpO_some] at h
  exact Awp.of (by kernel_rfl) h

theorem impl_dependents_n2_l (x1641 : List Int) (x1642 : Int) : Link impl_dependents_ctx LL (Code.fst (Code.fst (Code.snd (Code.snd (bodyOf Tryd.f48))))) (Ann.fst (Ann.fst (Ann.snd (Ann.snd impl_dependents_an)))) (⟨mkE 25 0 [(0, .dat (.list (.int .i64)) x1641), (1, .dat (.int .i64) x1642), (5, .dat (.int .u64) 0)], []⟩ : St) (impl_dependents_n2 x1641) (fun (t : Int) => (Exit.normal, (⟨mkE 25 0 [(0, .dat (.list (.int .i64)) x1641), (1, .dat (.int .i64) x1642), (5, .dat (.int .u64) 0), (8, .dat (.int .i64) t), (9, .dat (.int .i64) 0)], []⟩ : St))) := by
  refine Link.of fun K h => ?_
  simp only [impl_dependents_n2, wpO_bind, wpO_cond, wpO_map, wpO_some] at h
  exact Awp.of (by kernel_rfl) h

theorem impl_dependents_n3_l (x1641 : List Int) (x1642 : Int) (x1662 : Int) (x1643 : Int) (x1663 : Int) : Link impl_dependents_ctx LL (Code.fst (Code.fst (Code.snd (Code.fst (Code.snd (Code.snd (bodyOf Tryd.f48))))))) (Ann.fst (Ann.fst (Ann.snd (Ann.fst (Ann.snd (Ann.snd impl_dependents_an)))))) (⟨mkE 25 0 [(0, .dat (.list (.int .i64)) x1641), (1, .dat (.int .i64) x1642), (5, .dat (.int .u64) x1662), (8, .dat (.int .i64) x1643), (9, .dat (.int .i64) x1663)], []⟩ : St) (impl_dependents_n3 x1641 x1642 x1662 x1643 x1663) (Sum.elim (fun (t : Int × Int) => (Exit.normal, (⟨mkE 25 0 [(0, .dat (.list (.int .i64)) x1641), (1, .dat (.int .i64) x1642), (5, .dat (.int .u64) t.1), (8, .dat (.int .i64) x1643), (9, .dat (.int .i64) t.2)], []⟩ : St))) (fun (t : Int) => ((Exit.exit 0), (⟨mkE 25 0 [(5, .dat (.int .u64) t)], []⟩ : St)))) := by
  refine Link.of fun K h => ?_
  simp only [impl_dependents_n3, wpO_bind, wpO_cond, wpO_map, wpO_some] at h
  exact Awp.of (by kernel_rfl) h

theorem impl_dependents_n4_l (x1641 : List Int) (x1642 : Int) (x1643 : Int) : Link impl_dependents_ctx LL (Code.fst (Code.snd (Code.fst (Code.snd (Code.snd (bodyOf Tryd.f48)))))) (Ann.fst (Ann.snd (Ann.fst (Ann.snd (Ann.snd impl_dependents_an))))) (⟨mkE 25 0 [(0, .dat (.list (.int .i64)) x1641), (1, .dat (.int .i64) x1642), (5, .dat (.int .u64) 0), (8, .dat (.int .i64) x1643), (9, .dat (.int .i64) 0)], []⟩ : St) (impl_dependents_n4 x1641 x1642 x1643) (fun (t : Int) => ((Exit.exit 0), (⟨mkE 25 0 [(5, .dat (.int .u64) t)], []⟩ : St))) := by
  unfold impl_dependents_n4
  exact Link.cast (by kernel_rfl) (by kernel_rfl) (link_loop (mk := fun (s : Int × Int) => (⟨mkE 25 0 [(0, .dat (.list (.int .i64)) x1641), (1, .dat (.int .i64) x1642), (5, .dat (.int .u64) s.1), (8, .dat (.int .i64) x1643), (9, .dat (.int .i64) s.2)], []⟩ : St)) (fin := (fun (t : Int) => ((Exit.exit 0), (⟨mkE 25 0 [(5, .dat (.int .u64) t)], []⟩ : St)))) (by
  rintro t f K h
  · exact h) (fun s => link_map (impl_dependents_n3_l x1641 x1642 s.1 x1643 s.2) (Sum.elim (fun (t : Int × Int) => Sum.inl (t.1, t.2)) (fun (t : Int) => Sum.inr t)) (by
  rintro (t | t)
  · kernel_rfl
  · kernel_rfl)) (0, 0))

theorem impl_dependents_n5_l (x1641 : List Int) (x1642 : Int) (x1643 : Int) : Link impl_dependents_ctx LL (Code.snd (Code.fst (Code.snd (Code.snd (bodyOf Tryd.f48))))) (Ann.snd (Ann.fst (Ann.snd (Ann.snd impl_dependents_an)))) (⟨mkE 25 0 [(0, .dat (.list (.int .i64)) x1641), (1, .dat (.int .i64) x1642), (5, .dat (.int .u64) 0), (8, .dat (.int .i64) x1643), (9, .dat (.int .i64) 0)], []⟩ : St) (impl_dependents_n5 x1641 x1642 x1643) (fun (t : Int) => (Exit.normal, (⟨mkE 25 0 [(5, .dat (.int .u64) t)], []⟩ : St))) := by
  unfold impl_dependents_n5
  exact Link.cast (by kernel_rfl) (by kernel_rfl) (link_block (id := 0) (impl_dependents_n4_l x1641 x1642 x1643) (fun (t : Int) => t) (by
  rintro t K h
  · exact Eq.mp (by kernel_rfl) h))

theorem impl_dependents_n6_l (x1641 : List Int) (x1642 : Int) : Link impl_dependents_ctx LL (Code.fst (Code.snd (Code.snd (bodyOf Tryd.f48)))) (Ann.fst (Ann.snd (Ann.snd impl_dependents_an))) (⟨mkE 25 0 [(0, .dat (.list (.int .i64)) x1641), (1, .dat (.int .i64) x1642), (5, .dat (.int .u64) 0)], []⟩ : St) (impl_dependents_n6 x1641 x1642) (fun (t : Int) => (Exit.normal, (⟨mkE 25 0 [(5, .dat (.int .u64) t)], []⟩ : St))) := by
  unfold impl_dependents_n6
  exact Link.cast (by kernel_rfl) (by kernel_rfl) (link_seq (b := (Code.snd (Code.fst (Code.snd (Code.snd (bodyOf Tryd.f48)))))) (y := (Ann.snd (Ann.fst (Ann.snd (Ann.snd impl_dependents_an))))) (impl_dependents_n2_l x1641 x1642) (fun (t : Int) => (impl_dependents_n5_l x1641 x1642 t)))

theorem impl_dependents_n7_l (x1662 : Int) : Link impl_dependents_ctx LL (Code.snd (Code.snd (Code.snd (bodyOf Tryd.f48)))) (Ann.snd (Ann.snd (Ann.snd impl_dependents_an))) (⟨mkE 25 0 [(5, .dat (.int .u64) x1662)], []⟩ : St) (impl_dependents_n7 x1662) (fun (t : Int) => (Exit.ret, (⟨mkE 25 0 [(4, .dat (.int .u64) t)], []⟩ : St))) := by
  refine Link.of fun K h => ?_
  simp only [impl_dependents_n7, wpO_bind, wpO_cond, wpO_map, wpO_some] at h
  exact Awp.of (by kernel_rfl) h

theorem impl_dependents_n8_l (x1641 : List Int) (x1642 : Int) : Link impl_dependents_ctx LL (Code.snd (Code.snd (bodyOf Tryd.f48))) (Ann.snd (Ann.snd impl_dependents_an)) (⟨mkE 25 0 [(0, .dat (.list (.int .i64)) x1641), (1, .dat (.int .i64) x1642), (5, .dat (.int .u64) 0)], []⟩ : St) (impl_dependents_n8 x1641 x1642) (fun (t : Int) => (Exit.ret, (⟨mkE 25 0 [(4, .dat (.int .u64) t)], []⟩ : St))) := by
  unfold impl_dependents_n8
  exact Link.cast (by kernel_rfl) (by kernel_rfl) (link_seq (b := (Code.snd (Code.snd (Code.snd (bodyOf Tryd.f48))))) (y := (Ann.snd (Ann.snd (Ann.snd impl_dependents_an)))) (impl_dependents_n6_l x1641 x1642) (fun (t : Int) => (impl_dependents_n7_l t)))

theorem impl_dependents_n9_l (x1641 : List Int) (x1642 : Int) : Link impl_dependents_ctx LL (bodyOf Tryd.f48) impl_dependents_an (⟨mkE 25 0 [(0, .dat (.list (.int .i64)) x1641), (1, .dat (.int .i64) x1642)], []⟩ : St) (impl_dependents_n9 x1641 x1642) (fun (t : Int) => (Exit.ret, (⟨mkE 25 0 [(4, .dat (.int .u64) t)], []⟩ : St))) := by
  unfold impl_dependents_n9
  exact Link.cast (by kernel_rfl) (by kernel_rfl) (link_group (c := (Code.fst (Code.snd (bodyOf Tryd.f48)))) (a := (Ann.fst (Ann.snd impl_dependents_an))) [(Code.fst (bodyOf Tryd.f48))] [(Ann.fst impl_dependents_an)] rfl (link_seq (b := (Code.snd (Code.snd (bodyOf Tryd.f48)))) (y := (Ann.snd (Ann.snd impl_dependents_an))) (impl_dependents_n1_l x1641 x1642) (fun (t : Unit) => (impl_dependents_n8_l x1641 x1642))))

theorem impl_dependents_e (x1641 : List Int) (x1642 : Int) {r : AV} {H' : Heap} (h : (Ans.mk _ (impl_dependents x1641 x1642) (fun (t : Int) => (.dat (.int .u64) t, []))).run = some (r, H')) : Awp impl_dependents_ctx LL (bodyOf Tryd.f48) impl_dependents_an (⟨mkE 25 0 [(0, .dat (.list (.int .i64)) x1641), (1, .dat (.int .i64) x1642)], []⟩ : St) (Ret (tlook tys) Tryd.f48.results.toList r H') :=
  ret_of' (impl_dependents_n9_l x1641 x1642) (by unfold impl_dependents; kernel_rfl) (by
  intro t
  exact ret_mk [.dat (.int .u64) t] (by kernel_rfl) (by kernel_rfl) (by kernel_rfl) (by kernel_rfl)) h

def F_impl_dependents : Fun := fun avs H =>
  match avs, H with
  | [.dat (.list (.int .i64)) x1641, .dat (.int .i64) x1642], [] => ⟨_, impl_dependents x1641 x1642, fun (t : Int) => (.dat (.int .u64) t, [])⟩
  | _, _ => Ans.no

theorem impl_dependents_sound : Sound Tryd.prog 48 F_impl_dependents := by
  refine fn_sound' (C := impl_dependents_ctx) (c := bodyOf Tryd.f48) (cok_of tys_ok (List.forall_mem_cons.2 ⟨impl_only_sound, by simp⟩) (List.forall_mem_cons.2 ⟨Tryd.call62, by simp⟩) (by kernel_rfl)) Tryd.func48 (by kernel_rfl) LL impl_dependents_an ?_
  intro avs H r H' h
  unfold F_impl_dependents at h
  split at h
  · refine Awp.cast ?_ ?_ ?_ (impl_dependents_e _ _ h) <;> kernel_rfl
  · simp [Ans.no, Ans.run] at h


/-! math/bits.OnesCount64 -/

def math_bits_OnesCount64_an : Ann := (.seq (.leaf [0]) (.seq (.leaf [0]) (.seq (.leaf [0]) (.seq (.leaf [0]) (.seq (.leaf [0]) (.seq (.leaf [0]) (.seq (.leaf [0]) (.seq (.leaf [2]) (.leaf [2])))))))))

noncomputable def math_bits_OnesCount64_ctx : Ctx := ⟨tlook tys, olook [], ioF, 0, false⟩

theorem math_bits_OnesCount64_n1_l (x1686 : Int) : Link math_bits_OnesCount64_ctx LL (Code.seq (Code.fst (bodyOf Tryd.f93)) (Code.fst (Code.snd (bodyOf Tryd.f93)))) (Ann.seq (Ann.fst math_bits_OnesCount64_an) (Ann.fst (Ann.snd math_bits_OnesCount64_an))) (⟨mkE 35 0 [(0, .dat (.int .u64) x1686)], []⟩ : St) (math_bits_OnesCount64_n1 x1686) (fun (t : Int) => (Exit.normal, (⟨mkE 35 0 [(0, .dat (.int .u64) t)], []⟩ : St))) := by
  refine Link.of fun K h => ?_
  simp only [math_bits_OnesCount64_n1, wpO_bind, wpO_cond, wpO_map, wpO_some] at h
  exact Awp.of (by kernel_rfl) h

theorem math_bits_OnesCount64_n2_l (x1691 : Int) : Link math_bits_OnesCount64_ctx LL (Code.fst (Code.snd (Code.snd (bodyOf Tryd.f93)))) (Ann.fst (Ann.snd (Ann.snd math_bits_OnesCount64_an))) (⟨mkE 35 0 [(0, .dat (.int .u64) x1691)], []⟩ : St) (math_bits_OnesCount64_n2 x1691) (fun (t : Int) => (Exit.normal, (⟨mkE 35 0 [(0, .dat (.int .u64) t)], []⟩ : St))) := by
  refine Link.of fun K h => ?_
  simp only [math_bits_OnesCount64_n2, wpO_bind, wpO_cond, wpO_map, wpO_some] at h
  exact Awp.of (by kernel_rfl) h

theorem math_bits_OnesCount64_n3_l (x1708 : Int) : Link math_bits_OnesCount64_ctx LL (Code.fst (Code.snd (Code.snd (Code.snd (bodyOf Tryd.f93))))) (Ann.fst (Ann.snd (Ann.snd (Ann.snd math_bits_OnesCount64_an)))) (⟨mkE 35 0 [(0, .dat (.int .u64) x1708)], []⟩ : St) (math_bits_OnesCount64_n3 x1708) (fun (t : Int) => (Exit.normal, (⟨mkE 35 0 [(0, .dat (.int .u64) t)], []⟩ : St))) := by
  refine Link.of fun K h => ?_
  simp only [math_bits_OnesCount64_n3, wpO_bind, wpO_cond, wpO_map, wpO_some] at h
  exact Awp.of (by kernel_rfl) h

theorem math_bits_OnesCount64_n4_l (x1715 : Int) : Link math_bits_OnesCount64_ctx LL (Code.fst (Code.snd (Code.snd (Code.snd (Code.snd (bodyOf Tryd.f93)))))) (Ann.fst (Ann.snd (Ann.snd (Ann.snd (Ann.snd math_bits_OnesCount64_an))))) (⟨mkE 35 0 [(0, .dat (.int .u64) x1715)], []⟩ : St) (math_bits_OnesCount64_n4 x1715) (fun (t : Int) => (Exit.normal, (⟨mkE 35 0 [(0, .dat (.int .u64) t)], []⟩ : St))) := by
  refine Link.of fun K h => ?_
  simp only [math_bits_OnesCount64_n4, wpO_bind, wpO_cond, wpO_map, wpO_some] at h
  exact Awp.of (by kernel_rfl) h

theorem math_bits_OnesCount64_n5_l (x1719 : Int) : Link math_bits_OnesCount64_ctx LL (Code.fst (Code.snd (Code.snd (Code.snd (Code.snd (Code.snd (bodyOf Tryd.f93))))))) (Ann.fst (Ann.snd (Ann.snd (Ann.snd (Ann.snd (Ann.snd math_bits_OnesCount64_an)))))) (⟨mkE 35 0 [(0, .dat (.int .u64) x1719)], []⟩ : St) (math_bits_OnesCount64_n5 x1719) (fun (t : Int) => (Exit.normal, (⟨mkE 35 0 [(0, .dat (.int .u64) t)], []⟩ : St))) := by
  refine Link.of fun K h => ?_
  simp only [math_bits_OnesCount64_n5, wpO_bind, wpO_cond, wpO_map, wpO_some] at h
  exact Awp.of (by kernel_rfl) h

theorem math_bits_OnesCount64_n6_l (x1724 : Int) : Link math_bits_OnesCount64_ctx LL (Code.fst (Code.snd (Code.snd (Code.snd (Code.snd (Code.snd (Code.snd (bodyOf Tryd.f93)))))))) (Ann.fst (Ann.snd (Ann.snd (Ann.snd (Ann.snd (Ann.snd (Ann.snd math_bits_OnesCount64_an))))))) (⟨mkE 35 0 [(0, .dat (.int .u64) x1724)], []⟩ : St) (math_bits_OnesCount64_n6 x1724) (fun (t : Int) => (Exit.normal, (⟨mkE 35 0 [(0, .dat (.int .u64) t)], []⟩ : St))) := by
  refine Link.of fun K h => ?_
  simp only [math_bits_OnesCount64_n6, wpO_bind, wpO_cond, wpO_map, wpO_some] at h
  exact Awp.of (by kernel_rfl) h

theorem math_bits_OnesCount64_n7_l (x1729 : Int) : Link math_bits_OnesCount64_ctx LL (Code.fst (Code.snd (Code.snd (Code.snd (Code.snd (Code.snd (Code.snd (Code.snd (bodyOf Tryd.f93))))))))) (Ann.fst (Ann.snd (Ann.snd (Ann.snd (Ann.snd (Ann.snd (Ann.snd (Ann.snd math_bits_OnesCount64_an)))))))) (⟨mkE 35 0 [(0, .dat (.int .u64) x1729)], []⟩ : St) (math_bits_OnesCount64_n7 x1729) (fun (t : Int) => (Exit.normal, (⟨mkE 35 0 [(2, .dat (.int .i64) t)], []⟩ : St))) := by
  refine Link.of fun K h => ?_
  simp only [math_bits_OnesCount64_n7, wpO_bind, wpO_cond, wpO_map, wpO_some] at h
  exact Awp.of (by kernel_rfl) h

theorem math_bits_OnesCount64_n8_l (x1734 : Int) : Link math_bits_OnesCount64_ctx LL (Code.snd (Code.snd (Code.snd (Code.snd (Code.snd (Code.snd (Code.snd (Code.snd (bodyOf Tryd.f93))))))))) (Ann.snd (Ann.snd (Ann.snd (Ann.snd (Ann.snd (Ann.snd (Ann.snd (Ann.snd math_bits_OnesCount64_an)))))))) (⟨mkE 35 0 [(2, .dat (.int .i64) x1734)], []⟩ : St) (math_bits_OnesCount64_n8 x1734) (fun (t : Int) => (Exit.ret, (⟨mkE 35 0 [(2, .dat (.int .i64) t)], []⟩ : St))) := by
  refine Link.of fun K h => ?_
  simp only [math_bits_OnesCount64_n8, wpO_bind, wpO_cond, wpO_map, wpO_some] at h
  exact Awp.of (by kernel_rfl) h

theorem math_bits_OnesCount64_n9_l (x1729 : Int) : Link math_bits_OnesCount64_ctx LL (Code.snd (Code.snd (Code.snd (Code.snd (Code.snd (Code.snd (Code.snd (bodyOf Tryd.f93)))))))) (Ann.snd (Ann.snd (Ann.snd (Ann.snd (Ann.snd (Ann.snd (Ann.snd math_bits_OnesCount64_an))))))) (⟨mkE 35 0 [(0, .dat (.int .u64) x1729)], []⟩ : St) (math_bits_OnesCount64_n9 x1729) (fun (t : Int) => (Exit.ret, (⟨mkE 35 0 [(2, .dat (.int .i64) t)], []⟩ : St))) := by
  unfold math_bits_OnesCount64_n9
  exact Link.cast (by kernel_rfl) (by kernel_rfl) (link_seq (b := (Code.snd (Code.snd (Code.snd (Code.snd (Code.snd (Code.snd (Code.snd (Code.snd (bodyOf Tryd.f93)))))))))) (y := (Ann.snd (Ann.snd (Ann.snd (Ann.snd (Ann.snd (Ann.snd (Ann.snd (Ann.snd math_bits_OnesCount64_an))))))))) (math_bits_OnesCount64_n7_l x1729) (fun (t : Int) => (math_bits_OnesCount64_n8_l t)))

theorem math_bits_OnesCount64_n10_l (x1724 : Int) : Link math_bits_OnesCount64_ctx LL (Code.snd (Code.snd (Code.snd (Code.snd (Code.snd (Code.snd (bodyOf Tryd.f93))))))) (Ann.snd (Ann.snd (Ann.snd (Ann.snd (Ann.snd (Ann.snd math_bits_OnesCount64_an)))))) (⟨mkE 35 0 [(0, .dat (.int .u64) x1724)], []⟩ : St) (math_bits_OnesCount64_n10 x1724) (fun (t : Int) => (Exit.ret, (⟨mkE 35 0 [(2, .dat (.int .i64) t)], []⟩ : St))) := by
  unfold math_bits_OnesCount64_n10
  exact Link.cast (by kernel_rfl) (by kernel_rfl) (link_seq (b := (Code.snd (Code.snd (Code.snd (Code.snd (Code.snd (Code.snd (Code.snd (bodyOf Tryd.f93))))))))) (y := (Ann.snd (Ann.snd (Ann.snd (Ann.snd (Ann.snd (Ann.snd (Ann.snd math_bits_OnesCount64_an)))))))) (math_bits_OnesCount64_n6_l x1724) (fun (t : Int) => (math_bits_OnesCount64_n9_l t)))

theorem math_bits_OnesCount64_n11_l (x1719 : Int) : Link math_bits_OnesCount64_ctx LL (Code.snd (Code.snd (Code.snd (Code.snd (Code.snd (bodyOf Tryd.f93)))))) (Ann.snd (Ann.snd (Ann.snd (Ann.snd (Ann.snd math_bits_OnesCount64_an))))) (⟨mkE 35 0 [(0, .dat (.int .u64) x1719)], []⟩ : St) (math_bits_OnesCount64_n11 x1719) (fun (t : Int) => (Exit.ret, (⟨mkE 35 0 [(2, .dat (.int .i64) t)], []⟩ : St))) := by
  unfold math_bits_OnesCount64_n11
  exact Link.cast (by kernel_rfl) (by kernel_rfl) (link_seq (b := (Code.snd (Code.snd (Code.snd (Code.snd (Code.snd (Code.snd (bodyOf Tryd.f93)))))))) (y := (Ann.snd (Ann.snd (Ann.snd (Ann.snd (Ann.snd (Ann.snd math_bits_OnesCount64_an))))))) (math_bits_OnesCount64_n5_l x1719) (fun (t : Int) => (math_bits_OnesCount64_n10_l t)))

theorem math_bits_OnesCount64_n12_l (x1715 : Int) : Link math_bits_OnesCount64_ctx LL (Code.snd (Code.snd (Code.snd (Code.snd (bodyOf Tryd.f93))))) (Ann.snd (Ann.snd (Ann.snd (Ann.snd math_bits_OnesCount64_an)))) (⟨mkE 35 0 [(0, .dat (.int .u64) x1715)], []⟩ : St) (math_bits_OnesCount64_n12 x1715) (fun (t : Int) => (Exit.ret, (⟨mkE 35 0 [(2, .dat (.int .i64) t)], []⟩ : St))) := by
  unfold math_bits_OnesCount64_n12
  exact Link.cast (by kernel_rfl) (by kernel_rfl) (link_seq (b := (Code.snd (Code.snd (Code.snd (Code.snd (Code.snd (bodyOf Tryd.f93))))))) (y := (Ann.snd (Ann.snd (Ann.snd (Ann.snd (Ann.snd math_bits_OnesCount64_an)))))) (math_bits_OnesCount64_n4_l x1715) (fun (t : Int) => (math_bits_OnesCount64_n11_l t)))

theorem math_bits_OnesCount64_n13_l (x1708 : Int) : Link math_bits_OnesCount64_ctx LL (Code.snd (Code.snd (Code.snd (bodyOf Tryd.f93)))) (Ann.snd (Ann.snd (Ann.snd math_bits_OnesCount64_an))) (⟨mkE 35 0 [(0, .dat (.int .u64) x1708)], []⟩ : St) (math_bits_OnesCount64_n13 x1708) (fun (t : Int) => (Exit.ret, (⟨mkE 35 0 [(2, .dat (.int .i64) t)], []⟩ : St))) := by
  unfold math_bits_OnesCount64_n13
  exact Link.cast (by kernel_rfl) (by kernel_rfl) (link_seq (b := (Code.snd (Code.snd (Code.snd (Code.snd (bodyOf Tryd.f93)))))) (y := (Ann.snd (Ann.snd (Ann.snd (Ann.snd math_bits_OnesCount64_an))))) (math_bits_OnesCount64_n3_l x1708) (fun (t : Int) => (math_bits_OnesCount64_n12_l t)))

theorem math_bits_OnesCount64_n14_l (x1691 : Int) : Link math_bits_OnesCount64_ctx LL (Code.snd (Code.snd (bodyOf Tryd.f93))) (Ann.snd (Ann.snd math_bits_OnesCount64_an)) (⟨mkE 35 0 [(0, .dat (.int .u64) x1691)], []⟩ : St) (math_bits_OnesCount64_n14 x1691) (fun (t : Int) => (Exit.ret, (⟨mkE 35 0 [(2, .dat (.int .i64) t)], []⟩ : St))) := by
  unfold math_bits_OnesCount64_n14
  exact Link.cast (by kernel_rfl) (by kernel_rfl) (link_seq (b := (Code.snd (Code.snd (Code.snd (bodyOf Tryd.f93))))) (y := (Ann.snd (Ann.snd (Ann.snd math_bits_OnesCount64_an)))) (math_bits_OnesCount64_n2_l x1691) (fun (t : Int) => (math_bits_OnesCount64_n13_l t)))

theorem math_bits_OnesCount64_n15_l (x1686 : Int) : Link math_bits_OnesCount64_ctx LL (bodyOf Tryd.f93) math_bits_OnesCount64_an (⟨mkE 35 0 [(0, .dat (.int .u64) x1686)], []⟩ : St) (math_bits_OnesCount64_n15 x1686) (fun (t : Int) => (Exit.ret, (⟨mkE 35 0 [(2, .dat (.int .i64) t)], []⟩ : St))) := by
  unfold math_bits_OnesCount64_n15
  exact Link.cast (by kernel_rfl) (by kernel_rfl) (link_group (c := (Code.fst (Code.snd (bodyOf Tryd.f93)))) (a := (Ann.fst (Ann.snd math_bits_OnesCount64_an))) [(Code.fst (bodyOf Tryd.f93))] [(Ann.fst math_bits_OnesCount64_an)] rfl (link_seq (b := (Code.snd (Code.snd (bodyOf Tryd.f93)))) (y := (Ann.snd (Ann.snd math_bits_OnesCount64_an))) (math_bits_OnesCount64_n1_l x1686) (fun (t : Int) => (math_bits_OnesCount64_n14_l t))))

theorem math_bits_OnesCount64_e (x1686 : Int) {r : AV} {H' : Heap} (h : (Ans.mk _ (math_bits_OnesCount64 x1686) (fun (t : Int) => (.dat (.int .i64) t, []))).run = some (r, H')) : Awp math_bits_OnesCount64_ctx LL (bodyOf Tryd.f93) math_bits_OnesCount64_an (⟨mkE 35 0 [(0, .dat (.int .u64) x1686)], []⟩ : St) (Ret (tlook tys) Tryd.f93.results.toList r H') :=
  ret_of' (math_bits_OnesCount64_n15_l x1686) (by unfold math_bits_OnesCount64; kernel_rfl) (by
  intro t
  exact ret_mk [.dat (.int .i64) t] (by kernel_rfl) (by kernel_rfl) (by kernel_rfl) (by kernel_rfl)) h

def F_math_bits_OnesCount64 : Fun := fun avs H =>
  match avs, H with
  | [.dat (.int .u64) x1686], [] => ⟨_, math_bits_OnesCount64 x1686, fun (t : Int) => (.dat (.int .i64) t, [])⟩
  | _, _ => Ans.no

theorem math_bits_OnesCount64_sound : Sound Tryd.prog 93 F_math_bits_OnesCount64 := by
  refine fn_sound' (C := math_bits_OnesCount64_ctx) (c := bodyOf Tryd.f93) (cok_of tys_ok (by simp) (by simp) (by kernel_rfl)) Tryd.func93 (by kernel_rfl) LL math_bits_OnesCount64_an ?_
  intro avs H r H' h
  unfold F_math_bits_OnesCount64 at h
  split at h
  · refine Awp.cast ?_ ?_ ?_ (math_bits_OnesCount64_e _ h) <;> kernel_rfl
  · simp [Ans.no, Ans.run] at h


/-! math/bits.OnesCount -/

def math_bits_OnesCount_an : Ann := (.seq (.leaf [0]) (.seq (.cond (.seq (.leaf [2]) (.leaf [2])) (.leaf [0])) (.seq (.leaf [2]) (.leaf [2]))))

noncomputable def math_bits_OnesCount_ctx : Ctx := ⟨tlook tys, olook [(93, F_math_bits_OnesCount64)], ioF, 0, false⟩

theorem math_bits_OnesCount_n1_l (x1685 : Int) : Link math_bits_OnesCount_ctx LL (bodyOf Tryd.f89) math_bits_OnesCount_an (⟨mkE 8 0 [(0, .dat (.int .u64) x1685)], []⟩ : St) (math_bits_OnesCount_n1 x1685) (fun (t : Int) => (Exit.ret, (⟨mkE 8 0 [(2, .dat (.int .i64) t)], []⟩ : St))) := by
  refine Link.of fun K h => ?_
  simp only [math_bits_OnesCount_n1, wpO_bind, wpO_cond, wpO_map, wpO_some] at h
  exact Awp.of (by kernel_rfl) h

theorem math_bits_OnesCount_e (x1685 : Int) {r : AV} {H' : Heap} (h : (Ans.mk _ (math_bits_OnesCount x1685) (fun (t : Int) => (.dat (.int .i64) t, []))).run = some (r, H')) : Awp math_bits_OnesCount_ctx LL (bodyOf Tryd.f89) math_bits_OnesCount_an (⟨mkE 8 0 [(0, .dat (.int .u64) x1685)], []⟩ : St) (Ret (tlook tys) Tryd.f89.results.toList r H') :=
  ret_of' (math_bits_OnesCount_n1_l x1685) (by unfold math_bits_OnesCount; kernel_rfl) (by
  intro t
  exact ret_mk [.dat (.int .i64) t] (by kernel_rfl) (by kernel_rfl) (by kernel_rfl) (by kernel_rfl)) h

def F_math_bits_OnesCount : Fun := fun avs H =>
  match avs, H with
  | [.dat (.int .u64) x1685], [] => ⟨_, math_bits_OnesCount x1685, fun (t : Int) => (.dat (.int .i64) t, [])⟩
  | _, _ => Ans.no

theorem math_bits_OnesCount_sound : Sound Tryd.prog 89 F_math_bits_OnesCount := by
  refine fn_sound' (C := math_bits_OnesCount_ctx) (c := bodyOf Tryd.f89) (cok_of tys_ok (List.forall_mem_cons.2 ⟨math_bits_OnesCount64_sound, by simp⟩) (List.forall_mem_cons.2 ⟨Tryd.call93, by simp⟩) (by kernel_rfl)) Tryd.func89 (by kernel_rfl) LL math_bits_OnesCount_an ?_
  intro avs H r H' h
  unfold F_math_bits_OnesCount at h
  split at h
  · refine Awp.cast ?_ ?_ ?_ (math_bits_OnesCount_e _ h) <;> kernel_rfl
  · simp [Ans.no, Ans.run] at h


/-! (loop.example/headtrees/impl.wordSet).count -/

def impl_wordSet_count_an : Ann := (.seq (.leaf [0]) (.seq (.leaf [2]) (.leaf [2])))

noncomputable def impl_wordSet_count_ctx : Ctx := ⟨tlook tys, olook [(89, F_math_bits_OnesCount)], ioF, 0, false⟩

theorem impl_wordSet_count_n1_l (x1684 : Int) : Link impl_wordSet_count_ctx LL (bodyOf Tryd.f72) impl_wordSet_count_an (⟨mkE 5 0 [(0, .dat (.int .u64) x1684)], []⟩ : St) (impl_wordSet_count_n1 x1684) (fun (t : Int) => (Exit.ret, (⟨mkE 5 0 [(2, .dat (.int .i64) t)], []⟩ : St))) := by
  refine Link.of fun K h => ?_
  simp only [impl_wordSet_count_n1, wpO_bind, wpO_cond, wpO_map, wpO_some] at h
  exact Awp.of (by kernel_rfl) h

theorem impl_wordSet_count_e (x1684 : Int) {r : AV} {H' : Heap} (h : (Ans.mk _ (impl_wordSet_count x1684) (fun (t : Int) => (.dat (.int .i64) t, []))).run = some (r, H')) : Awp impl_wordSet_count_ctx LL (bodyOf Tryd.f72) impl_wordSet_count_an (⟨mkE 5 0 [(0, .dat (.int .u64) x1684)], []⟩ : St) (Ret (tlook tys) Tryd.f72.results.toList r H') :=
  ret_of' (impl_wordSet_count_n1_l x1684) (by unfold impl_wordSet_count; kernel_rfl) (by
  intro t
  exact ret_mk [.dat (.int .i64) t] (by kernel_rfl) (by kernel_rfl) (by kernel_rfl) (by kernel_rfl)) h

def F_impl_wordSet_count : Fun := fun avs H =>
  match avs, H with
  | [.dat (.int .u64) x1684], [] => ⟨_, impl_wordSet_count x1684, fun (t : Int) => (.dat (.int .i64) t, [])⟩
  | _, _ => Ans.no

theorem impl_wordSet_count_sound : Sound Tryd.prog 72 F_impl_wordSet_count := by
  refine fn_sound' (C := impl_wordSet_count_ctx) (c := bodyOf Tryd.f72) (cok_of tys_ok (List.forall_mem_cons.2 ⟨math_bits_OnesCount_sound, by simp⟩) (List.forall_mem_cons.2 ⟨Tryd.call89, by simp⟩) (by kernel_rfl)) Tryd.func72 (by kernel_rfl) LL impl_wordSet_count_an ?_
  intro avs H r H' h
  unfold F_impl_wordSet_count at h
  split at h
  · refine Awp.cast ?_ ?_ ?_ (impl_wordSet_count_e _ h) <;> kernel_rfl
  · simp [Ans.no, Ans.run] at h


/-! math/bits.TrailingZeros64 -/

def math_bits_TrailingZeros64_an : Ann := (.seq (.leaf [0]) (.seq (.seq (.leaf [0, 4]) (.cond (.seq (.leaf [2]) (.leaf [2])) (.leaf [0]))) (.seq (.leaf [2]) (.leaf [2]))))

noncomputable def math_bits_TrailingZeros64_ctx : Ctx := ⟨tlook tys, olook [], ioF, 0, false⟩

theorem math_bits_TrailingZeros64_n1_l (x1745 : Int) : Link math_bits_TrailingZeros64_ctx LL (bodyOf Tryd.f91) math_bits_TrailingZeros64_an (⟨mkE 14 0 [(0, .dat (.int .u64) x1745)], []⟩ : St) (math_bits_TrailingZeros64_n1 x1745) (fun (t : Int) => (Exit.ret, (⟨mkE 14 0 [(2, .dat (.int .i64) t)], []⟩ : St))) := by
  refine Link.of fun K h => ?_
  simp only [math_bits_TrailingZeros64_n1, wpO_bind, wpO_cond, wpO_map, wpO_some] at h
  exact Awp.of (by kernel_rfl) h

theorem math_bits_TrailingZeros64_e (x1745 : Int) {r : AV} {H' : Heap} (h : (Ans.mk _ (math_bits_TrailingZeros64 x1745) (fun (t : Int) => (.dat (.int .i64) t, []))).run = some (r, H')) : Awp math_bits_TrailingZeros64_ctx LL (bodyOf Tryd.f91) math_bits_TrailingZeros64_an (⟨mkE 14 0 [(0, .dat (.int .u64) x1745)], []⟩ : St) (Ret (tlook tys) Tryd.f91.results.toList r H') :=
  ret_of' (math_bits_TrailingZeros64_n1_l x1745) (by unfold math_bits_TrailingZeros64; kernel_rfl) (by
  intro t
  exact ret_mk [.dat (.int .i64) t] (by kernel_rfl) (by kernel_rfl) (by kernel_rfl) (by kernel_rfl)) h

def F_math_bits_TrailingZeros64 : Fun := fun avs H =>
  match avs, H with
  | [.dat (.int .u64) x1745], [] => ⟨_, math_bits_TrailingZeros64 x1745, fun (t : Int) => (.dat (.int .i64) t, [])⟩
  | _, _ => Ans.no

theorem math_bits_TrailingZeros64_sound : Sound Tryd.prog 91 F_math_bits_TrailingZeros64 := by
  refine fn_sound' (C := math_bits_TrailingZeros64_ctx) (c := bodyOf Tryd.f91) (cok_of tys_ok (by simp) (by simp) (by kernel_rfl)) Tryd.func91 (by kernel_rfl) LL math_bits_TrailingZeros64_an ?_
  intro avs H r H' h
  unfold F_math_bits_TrailingZeros64 at h
  split at h
  · refine Awp.cast ?_ ?_ ?_ (math_bits_TrailingZeros64_e _ h) <;> kernel_rfl
  · simp [Ans.no, Ans.run] at h


/-! math/bits.TrailingZeros -/

def math_bits_TrailingZeros_an : Ann := (.seq (.leaf [0]) (.seq (.cond (.seq (.leaf [2]) (.leaf [2])) (.leaf [0])) (.seq (.leaf [2]) (.leaf [2]))))

noncomputable def math_bits_TrailingZeros_ctx : Ctx := ⟨tlook tys, olook [(91, F_math_bits_TrailingZeros64)], ioF, 0, false⟩

theorem math_bits_TrailingZeros_n1_l (x1744 : Int) : Link math_bits_TrailingZeros_ctx LL (bodyOf Tryd.f73) math_bits_TrailingZeros_an (⟨mkE 8 0 [(0, .dat (.int .u64) x1744)], []⟩ : St) (math_bits_TrailingZeros_n1 x1744) (fun (t : Int) => (Exit.ret, (⟨mkE 8 0 [(2, .dat (.int .i64) t)], []⟩ : St))) := by
  refine Link.of fun K h => ?_
  simp only [math_bits_TrailingZeros_n1, wpO_bind, wpO_cond, wpO_map, wpO_some] at h
  exact Awp.of (by kernel_rfl) h

theorem math_bits_TrailingZeros_e (x1744 : Int) {r : AV} {H' : Heap} (h : (Ans.mk _ (math_bits_TrailingZeros x1744) (fun (t : Int) => (.dat (.int .i64) t, []))).run = some (r, H')) : Awp math_bits_TrailingZeros_ctx LL (bodyOf Tryd.f73) math_bits_TrailingZeros_an (⟨mkE 8 0 [(0, .dat (.int .u64) x1744)], []⟩ : St) (Ret (tlook tys) Tryd.f73.results.toList r H') :=
  ret_of' (math_bits_TrailingZeros_n1_l x1744) (by unfold math_bits_TrailingZeros; kernel_rfl) (by
  intro t
  exact ret_mk [.dat (.int .i64) t] (by kernel_rfl) (by kernel_rfl) (by kernel_rfl) (by kernel_rfl)) h

def F_math_bits_TrailingZeros : Fun := fun avs H =>
  match avs, H with
  | [.dat (.int .u64) x1744], [] => ⟨_, math_bits_TrailingZeros x1744, fun (t : Int) => (.dat (.int .i64) t, [])⟩
  | _, _ => Ans.no

theorem math_bits_TrailingZeros_sound : Sound Tryd.prog 73 F_math_bits_TrailingZeros := by
  refine fn_sound' (C := math_bits_TrailingZeros_ctx) (c := bodyOf Tryd.f73) (cok_of tys_ok (List.forall_mem_cons.2 ⟨math_bits_TrailingZeros64_sound, by simp⟩) (List.forall_mem_cons.2 ⟨Tryd.call91, by simp⟩) (by kernel_rfl)) Tryd.func73 (by kernel_rfl) LL math_bits_TrailingZeros_an ?_
  intro avs H r H' h
  unfold F_math_bits_TrailingZeros at h
  split at h
  · refine Awp.cast ?_ ?_ ?_ (math_bits_TrailingZeros_e _ h) <;> kernel_rfl
  · simp [Ans.no, Ans.run] at h


/-! (loop.example/headtrees/impl.wordSet).list -/

def impl_wordSet_list_an : Ann := (.seq (.leaf [0]) (.seq (.leaf [0, 3]) (.seq (.seq (.leaf [3, 4]) (.block (.loop (.seq (.seq (.leaf [3, 4, 10]) (.cond (.leaf [3, 4]) (.leaf [3]))) (.seq (.block (.leaf [3, 4])) (.leaf [3, 4])))))) (.seq (.leaf [2]) (.leaf [2])))))

noncomputable def impl_wordSet_list_ctx : Ctx := ⟨tlook tys, olook [(72, F_impl_wordSet_count), (73, F_math_bits_TrailingZeros)], ioF, 0, false⟩

theorem impl_wordSet_list_n1_l (x1683 : Int) : Link impl_wordSet_list_ctx LL (Code.seq (Code.fst (bodyOf Tryd.f49)) (Code.fst (Code.snd (bodyOf Tryd.f49)))) (Ann.seq (Ann.fst impl_wordSet_list_an) (Ann.fst (Ann.snd impl_wordSet_list_an))) (⟨mkE 22 0 [(0, .dat (.int .u64) x1683)], []⟩ : St) (impl_wordSet_list_n1 x1683) (fun (t : (List Int)) => (Exit.normal, (⟨mkE 22 0 [(0, .dat (.int .u64) x1683), (3, .slc 0)], [some (.seq (.int .i64) t)]⟩ : St))) := by
  refine Link.of fun K h => ?_
  simp only [impl_wordSet_list_n1, wpO_bind, wpO_cond, wpO_map, wpO_some] at h
  exact Awp.of (by kernel_rfl) h

theorem impl_wordSet_list_n2_l (x1683 : Int) (x1741 : List Int) : Link impl_wordSet_list_ctx LL (Code.fst (Code.fst (Code.snd (Code.snd (bodyOf Tryd.f49))))) (Ann.fst (Ann.fst (Ann.snd (Ann.snd impl_wordSet_list_an)))) (⟨mkE 22 0 [(0, .dat (.int .u64) x1683), (3, .slc 0)], [some (.seq (.int .i64) x1741)]⟩ : St) (impl_wordSet_list_n2) (fun (t : Unit) => (Exit.normal, (⟨mkE 22 0 [(3, .slc 0), (4, .dat (.int .u64) x1683)], [some (.seq (.int .i64) x1741)]⟩ : St))) := by
  refine Link.of fun K h => ?_
  simp only [impl_wordSet_list_n2, wpO_bind, wpO_cond, wpO_map, wpO_some] at h
  exact Awp.of (by kernel_rfl) h

theorem impl_wordSet_list_n3_l (x1784 : Int) (x1785 : List Int) : Link impl_wordSet_list_ctx LL (Code.fst (Code.fst (Code.snd (Code.fst (Code.snd (Code.snd (bodyOf Tryd.f49))))))) (Ann.fst (Ann.fst (Ann.snd (Ann.fst (Ann.snd (Ann.snd impl_wordSet_list_an)))))) (⟨mkE 22 0 [(3, .slc 0), (4, .dat (.int .u64) x1784)], [some (.seq (.int .i64) x1785)]⟩ : St) (impl_wordSet_list_n3 x1784 x1785) (Sum.elim (fun (t : Int × (List Int)) => (Exit.normal, (⟨mkE 22 0 [(3, .slc 0), (4, .dat (.int .u64) t.1)], [some (.seq (.int .i64) t.2)]⟩ : St))) (fun (t : (List Int)) => ((Exit.exit 0), (⟨mkE 22 0 [(3, .slc 0)], [some (.seq (.int .i64) t)]⟩ : St)))) := by
  refine Link.of fun K h => ?_
  simp only [impl_wordSet_list_n3, wpO_bind, wpO_cond, wpO_map, wpO_some] at h
  exact Awp.of (by kernel_rfl) h

theorem impl_wordSet_list_n4_l (x1683 : Int) (x1741 : List Int) : Link impl_wordSet_list_ctx LL (Code.fst (Code.snd (Code.fst (Code.snd (Code.snd (bodyOf Tryd.f49)))))) (Ann.fst (Ann.snd (Ann.fst (Ann.snd (Ann.snd impl_wordSet_list_an))))) (⟨mkE 22 0 [(3, .slc 0), (4, .dat (.int .u64) x1683)], [some (.seq (.int .i64) x1741)]⟩ : St) (impl_wordSet_list_n4 x1683 x1741) (fun (t : (List Int)) => ((Exit.exit 0), (⟨mkE 22 0 [(3, .slc 0)], [some (.seq (.int .i64) t)]⟩ : St))) := by
  unfold impl_wordSet_list_n4
  exact Link.cast (by kernel_rfl) (by kernel_rfl) (link_loop (mk := fun (s : Int × (List Int)) => (⟨mkE 22 0 [(3, .slc 0), (4, .dat (.int .u64) s.1)], [some (.seq (.int .i64) s.2)]⟩ : St)) (fin := (fun (t : (List Int)) => ((Exit.exit 0), (⟨mkE 22 0 [(3, .slc 0)], [some (.seq (.int .i64) t)]⟩ : St)))) (by
  rintro t f K h
  · exact h) (fun s => link_map (impl_wordSet_list_n3_l s.1 s.2) (Sum.elim (fun (t : Int × (List Int)) => Sum.inl (t.1, t.2)) (fun (t : (List Int)) => Sum.inr t)) (by
  rintro (t | t)
  · kernel_rfl
  · kernel_rfl)) (x1683, x1741))

theorem impl_wordSet_list_n5_l (x1683 : Int) (x1741 : List Int) : Link impl_wordSet_list_ctx LL (Code.snd (Code.fst (Code.snd (Code.snd (bodyOf Tryd.f49))))) (Ann.snd (Ann.fst (Ann.snd (Ann.snd impl_wordSet_list_an)))) (⟨mkE 22 0 [(3, .slc 0), (4, .dat (.int .u64) x1683)], [some (.seq (.int .i64) x1741)]⟩ : St) (impl_wordSet_list_n5 x1683 x1741) (fun (t : (List Int)) => (Exit.normal, (⟨mkE 22 0 [(3, .slc 0)], [some (.seq (.int .i64) t)]⟩ : St))) := by
  unfold impl_wordSet_list_n5
  exact Link.cast (by kernel_rfl) (by kernel_rfl) (link_block (id := 0) (impl_wordSet_list_n4_l x1683 x1741) (fun (t : (List Int)) => t) (by
  rintro t K h
  · exact Eq.mp (by kernel_rfl) h))

theorem impl_wordSet_list_n6_l (x1683 : Int) (x1741 : List Int) : Link impl_wordSet_list_ctx LL (Code.fst (Code.snd (Code.snd (bodyOf Tryd.f49)))) (Ann.fst (Ann.snd (Ann.snd impl_wordSet_list_an))) (⟨mkE 22 0 [(0, .dat (.int .u64) x1683), (3, .slc 0)], [some (.seq (.int .i64) x1741)]⟩ : St) (impl_wordSet_list_n6 x1683 x1741) (fun (t : (List Int)) => (Exit.normal, (⟨mkE 22 0 [(3, .slc 0)], [some (.seq (.int .i64) t)]⟩ : St))) := by
  unfold impl_wordSet_list_n6
  exact Link.cast (by kernel_rfl) (by kernel_rfl) (link_seq (b := (Code.snd (Code.fst (Code.snd (Code.snd (bodyOf Tryd.f49)))))) (y := (Ann.snd (Ann.fst (Ann.snd (Ann.snd impl_wordSet_list_an))))) (impl_wordSet_list_n2_l x1683 x1741) (fun (t : Unit) => (impl_wordSet_list_n5_l x1683 x1741)))

theorem impl_wordSet_list_n7_l (x1785 : List Int) : Link impl_wordSet_list_ctx LL (Code.snd (Code.snd (Code.snd (bodyOf Tryd.f49)))) (Ann.snd (Ann.snd (Ann.snd impl_wordSet_list_an))) (⟨mkE 22 0 [(3, .slc 0)], [some (.seq (.int .i64) x1785)]⟩ : St) (impl_wordSet_list_n7 x1785) (fun (t : (List Int)) => (Exit.ret, (⟨mkE 22 0 [(2, .slc 0)], [some (.seq (.int .i64) t)]⟩ : St))) := by
  refine Link.of fun K h => ?_
  simp only [impl_wordSet_list_n7, wpO_bind, wpO_cond, wpO_map, wpO_some] at h
  exact Awp.of (by kernel_rfl) h

theorem impl_wordSet_list_n8_l (x1683 : Int) (x1741 : List Int) : Link impl_wordSet_list_ctx LL (Code.snd (Code.snd (bodyOf Tryd.f49))) (Ann.snd (Ann.snd impl_wordSet_list_an)) (⟨mkE 22 0 [(0, .dat (.int .u64) x1683), (3, .slc 0)], [some (.seq (.int .i64) x1741)]⟩ : St) (impl_wordSet_list_n8 x1683 x1741) (fun (t : (List Int)) => (Exit.ret, (⟨mkE 22 0 [(2, .slc 0)], [some (.seq (.int .i64) t)]⟩ : St))) := by
  unfold impl_wordSet_list_n8
  exact Link.cast (by kernel_rfl) (by kernel_rfl) (link_seq (b := (Code.snd (Code.snd (Code.snd (bodyOf Tryd.f49))))) (y := (Ann.snd (Ann.snd (Ann.snd impl_wordSet_list_an)))) (impl_wordSet_list_n6_l x1683 x1741) (fun (t : (List Int)) => (impl_wordSet_list_n7_l t)))

theorem impl_wordSet_list_n9_l (x1683 : Int) : Link impl_wordSet_list_ctx LL (bodyOf Tryd.f49) impl_wordSet_list_an (⟨mkE 22 0 [(0, .dat (.int .u64) x1683)], []⟩ : St) (impl_wordSet_list_n9 x1683) (fun (t : (List Int)) => (Exit.ret, (⟨mkE 22 0 [(2, .slc 0)], [some (.seq (.int .i64) t)]⟩ : St))) := by
  unfold impl_wordSet_list_n9
  exact Link.cast (by kernel_rfl) (by kernel_rfl) (link_group (c := (Code.fst (Code.snd (bodyOf Tryd.f49)))) (a := (Ann.fst (Ann.snd impl_wordSet_list_an))) [(Code.fst (bodyOf Tryd.f49))] [(Ann.fst impl_wordSet_list_an)] rfl (link_seq (b := (Code.snd (Code.snd (bodyOf Tryd.f49)))) (y := (Ann.snd (Ann.snd impl_wordSet_list_an))) (impl_wordSet_list_n1_l x1683) (fun (t : (List Int)) => (impl_wordSet_list_n8_l x1683 t))))

theorem impl_wordSet_list_e (x1683 : Int) {r : AV} {H' : Heap} (h : (Ans.mk _ (impl_wordSet_list x1683) (fun (t : (List Int)) => (.slc 0, [some (.seq (.int .i64) t)]))).run = some (r, H')) : Awp impl_wordSet_list_ctx LL (bodyOf Tryd.f49) impl_wordSet_list_an (⟨mkE 22 0 [(0, .dat (.int .u64) x1683)], []⟩ : St) (Ret (tlook tys) Tryd.f49.results.toList r H') :=
  ret_of' (impl_wordSet_list_n9_l x1683) (by unfold impl_wordSet_list; kernel_rfl) (by
  intro t
  exact ret_mk [.slc 0] (by kernel_rfl) (by kernel_rfl) (by kernel_rfl) (by kernel_rfl)) h

def F_impl_wordSet_list : Fun := fun avs H =>
  match avs, H with
  | [.dat (.int .u64) x1683], [] => ⟨_, impl_wordSet_list x1683, fun (t : (List Int)) => (.slc 0, [some (.seq (.int .i64) t)])⟩
  | _, _ => Ans.no

theorem impl_wordSet_list_sound : Sound Tryd.prog 49 F_impl_wordSet_list := by
  refine fn_sound' (C := impl_wordSet_list_ctx) (c := bodyOf Tryd.f49) (cok_of tys_ok (List.forall_mem_cons.2 ⟨impl_wordSet_count_sound, List.forall_mem_cons.2 ⟨math_bits_TrailingZeros_sound, by simp⟩⟩) (List.forall_mem_cons.2 ⟨Tryd.call72, List.forall_mem_cons.2 ⟨Tryd.call73, by simp⟩⟩) (by kernel_rfl)) Tryd.func49 (by kernel_rfl) LL impl_wordSet_list_an ?_
  intro avs H r H' h
  unfold F_impl_wordSet_list at h
  split at h
  · refine Awp.cast ?_ ?_ ?_ (impl_wordSet_list_e _ h) <;> kernel_rfl
  · simp [Ans.no, Ans.run] at h


/-! loop.example/headtrees/impl.fillYields -/

def impl_fillYields_an : Ann := (.seq (.leaf [0, 1, 2]) (.seq (.leaf [0, 1, 2, 7]) (.seq (.seq (.leaf [0, 1, 2, 7, 15, 16, 17]) (.block (.loop (.seq (.leaf [0, 1, 2, 7, 15, 16, 17, 18]) (.seq (.cond (.leaf [0, 1, 2, 7, 15, 16, 17]) (.leaf [0, 2, 7])) (.seq (.block (.seq (.leaf [0, 1, 2, 7, 9, 15, 16, 17]) (.leaf [0, 1, 2, 7, 15, 16, 17]))) (.leaf [0, 1, 2, 7, 15, 16, 17]))))))) (.seq (.leaf [7]) (.seq (.leaf [6]) (.leaf [6]))))))

def F_impl_fillYields_fuel (n : Nat) : Fun := fun avs H =>
  match avs, H with
  | [.slc 0, .dat (.list (.int .i64)) x1632, .dat (.int .i64) x1633], [some (.seq (.int .u64) x1634)] => ⟨_, impl_fillYields_fuel n x1632 x1633 x1634, fun (t : Int × (List Int)) => (.dat (.int .u64) t.1, [some (.seq (.int .u64) t.2)])⟩
  | _, _ => Ans.no

noncomputable def impl_fillYields_ctx (n : Nat) : Ctx := ⟨tlook tys, olook [(62, F_impl_only), (48, F_impl_dependents), (49, F_impl_wordSet_list), (71, F_impl_fillYields_fuel n)], ioF, 1, false⟩

theorem impl_fillYields_n1_l (n : Nat) (x1632 : List Int) (x1633 : Int) (x1634 : List Int) : Link (impl_fillYields_ctx n) LL (Code.seq (Code.fst (bodyOf Tryd.f71)) (Code.fst (Code.snd (bodyOf Tryd.f71)))) (Ann.seq (Ann.fst impl_fillYields_an) (Ann.fst (Ann.snd impl_fillYields_an))) (⟨mkE 34 0 [(0, .slc 0), (1, .dat (.list (.int .i64)) x1632), (2, .dat (.int .i64) x1633)], [some (.seq (.int .u64) x1634)]⟩ : St) (impl_fillYields_n1 (impl_fillYields_fuel n) x1633) (fun (t : Int) => (Exit.normal, (⟨mkE 34 0 [(0, .slc 0), (1, .dat (.list (.int .i64)) x1632), (2, .dat (.int .i64) x1633), (7, .dat (.int .u64) t)], [some (.seq (.int .u64) x1634)]⟩ : St))) := by
  refine Link.of fun K h => ?_
  simp only [impl_fillYields_n1, wpO_bind, wpO_cond, wpO_map, wpO_some] at h
  exact Awp.of (by kernel_rfl) h

theorem impl_fillYields_n2_l (n : Nat) (x1632 : List Int) (x1633 : Int) (x1819 : Int) (x1634 : List Int) : Link (impl_fillYields_ctx n) LL (Code.fst (Code.fst (Code.snd (Code.snd (bodyOf Tryd.f71))))) (Ann.fst (Ann.fst (Ann.snd (Ann.snd impl_fillYields_an)))) (⟨mkE 34 0 [(0, .slc 0), (1, .dat (.list (.int .i64)) x1632), (2, .dat (.int .i64) x1633), (7, .dat (.int .u64) x1819)], [some (.seq (.int .u64) x1634)]⟩ : St) (impl_fillYields_n2 (impl_fillYields_fuel n) x1632 x1633) (fun (t : Int × (List Int)) => (Exit.normal, (⟨mkE 34 0 [(0, .slc 0), (1, .dat (.list (.int .i64)) x1632), (2, .dat (.int .i64) x1633), (7, .dat (.int .u64) x1819), (15, .slc 1), (16, .dat (.int .i64) t.1), (17, .dat (.int .i64) 0)], [some (.seq (.int .u64) x1634), some (.seq (.int .i64) t.2)]⟩ : St))) := by
  refine Link.of fun K h => ?_
  simp only [impl_fillYields_n2, wpO_bind, wpO_cond, wpO_map, wpO_some] at h
  exact Awp.of (by kernel_rfl) h

theorem impl_fillYields_n3_l (n : Nat) (x1632 : List Int) (x1633 : Int) (x1840 : Int) (x1822 : Int) (x1841 : Int) (x1842 : List Int) (x1821 : List Int) : Link (impl_fillYields_ctx n) LL (Code.fst (Code.fst (Code.snd (Code.fst (Code.snd (Code.snd (bodyOf Tryd.f71))))))) (Ann.fst (Ann.fst (Ann.snd (Ann.fst (Ann.snd (Ann.snd impl_fillYields_an)))))) (⟨mkE 34 0 [(0, .slc 0), (1, .dat (.list (.int .i64)) x1632), (2, .dat (.int .i64) x1633), (7, .dat (.int .u64) x1840), (15, .slc 1), (16, .dat (.int .i64) x1822), (17, .dat (.int .i64) x1841)], [some (.seq (.int .u64) x1842), some (.seq (.int .i64) x1821)]⟩ : St) (impl_fillYields_n3 (impl_fillYields_fuel n) x1632 x1840 x1822 x1841 x1842 x1821) (Sum.elim (fun (t : Int × Int × (List Int)) => (Exit.normal, (⟨mkE 34 0 [(0, .slc 0), (1, .dat (.list (.int .i64)) x1632), (2, .dat (.int .i64) x1633), (7, .dat (.int .u64) t.1), (15, .slc 1), (16, .dat (.int .i64) x1822), (17, .dat (.int .i64) t.2.1)], [some (.seq (.int .u64) t.2.2), some (.seq (.int .i64) x1821)]⟩ : St))) (fun (t : Int × (List Int)) => ((Exit.exit 0), (⟨mkE 34 0 [(0, .slc 0), (2, .dat (.int .i64) x1633), (7, .dat (.int .u64) t.1)], [some (.seq (.int .u64) t.2)]⟩ : St)))) := by
  refine Link.of fun K h => ?_
  simp only [impl_fillYields_n3, wpO_bind, wpO_cond, wpO_map, wpO_some] at h
  exact Awp.of (by kernel_rfl) h

theorem impl_fillYields_n4_l (n : Nat) (x1632 : List Int) (x1633 : Int) (x1819 : Int) (x1822 : Int) (x1634 : List Int) (x1821 : List Int) : Link (impl_fillYields_ctx n) LL (Code.fst (Code.snd (Code.fst (Code.snd (Code.snd (bodyOf Tryd.f71)))))) (Ann.fst (Ann.snd (Ann.fst (Ann.snd (Ann.snd impl_fillYields_an))))) (⟨mkE 34 0 [(0, .slc 0), (1, .dat (.list (.int .i64)) x1632), (2, .dat (.int .i64) x1633), (7, .dat (.int .u64) x1819), (15, .slc 1), (16, .dat (.int .i64) x1822), (17, .dat (.int .i64) 0)], [some (.seq (.int .u64) x1634), some (.seq (.int .i64) x1821)]⟩ : St) (impl_fillYields_n4 (impl_fillYields_fuel n) x1632 x1819 x1822 x1634 x1821) (fun (t : Int × (List Int)) => ((Exit.exit 0), (⟨mkE 34 0 [(0, .slc 0), (2, .dat (.int .i64) x1633), (7, .dat (.int .u64) t.1)], [some (.seq (.int .u64) t.2)]⟩ : St))) := by
  unfold impl_fillYields_n4
  exact Link.cast (by kernel_rfl) (by kernel_rfl) (link_loop (mk := fun (s : Int × Int × (List Int)) => (⟨mkE 34 0 [(0, .slc 0), (1, .dat (.list (.int .i64)) x1632), (2, .dat (.int .i64) x1633), (7, .dat (.int .u64) s.1), (15, .slc 1), (16, .dat (.int .i64) x1822), (17, .dat (.int .i64) s.2.1)], [some (.seq (.int .u64) s.2.2), some (.seq (.int .i64) x1821)]⟩ : St)) (fin := (fun (t : Int × (List Int)) => ((Exit.exit 0), (⟨mkE 34 0 [(0, .slc 0), (2, .dat (.int .i64) x1633), (7, .dat (.int .u64) t.1)], [some (.seq (.int .u64) t.2)]⟩ : St)))) (by
  rintro t f K h
  · exact h) (fun s => link_map (impl_fillYields_n3_l n x1632 x1633 s.1 x1822 s.2.1 s.2.2 x1821) (Sum.elim (fun (t : Int × Int × (List Int)) => Sum.inl (t.1, t.2.1, t.2.2)) (fun (t : Int × (List Int)) => Sum.inr t)) (by
  rintro (t | t)
  · kernel_rfl
  · kernel_rfl)) (x1819, 0, x1634))

theorem impl_fillYields_n5_l (n : Nat) (x1632 : List Int) (x1633 : Int) (x1819 : Int) (x1822 : Int) (x1634 : List Int) (x1821 : List Int) : Link (impl_fillYields_ctx n) LL (Code.snd (Code.fst (Code.snd (Code.snd (bodyOf Tryd.f71))))) (Ann.snd (Ann.fst (Ann.snd (Ann.snd impl_fillYields_an)))) (⟨mkE 34 0 [(0, .slc 0), (1, .dat (.list (.int .i64)) x1632), (2, .dat (.int .i64) x1633), (7, .dat (.int .u64) x1819), (15, .slc 1), (16, .dat (.int .i64) x1822), (17, .dat (.int .i64) 0)], [some (.seq (.int .u64) x1634), some (.seq (.int .i64) x1821)]⟩ : St) (impl_fillYields_n5 (impl_fillYields_fuel n) x1632 x1819 x1822 x1634 x1821) (fun (t : Int × (List Int)) => (Exit.normal, (⟨mkE 34 0 [(0, .slc 0), (2, .dat (.int .i64) x1633), (7, .dat (.int .u64) t.1)], [some (.seq (.int .u64) t.2)]⟩ : St))) := by
  unfold impl_fillYields_n5
  exact Link.cast (by kernel_rfl) (by kernel_rfl) (link_block (id := 0) (impl_fillYields_n4_l n x1632 x1633 x1819 x1822 x1634 x1821) (fun (t : Int × (List Int)) => (t.1, t.2)) (by
  rintro t K h
  · exact Eq.mp (by kernel_rfl) h))

theorem impl_fillYields_n6_l (n : Nat) (x1632 : List Int) (x1633 : Int) (x1819 : Int) (x1634 : List Int) : Link (impl_fillYields_ctx n) LL (Code.fst (Code.snd (Code.snd (bodyOf Tryd.f71)))) (Ann.fst (Ann.snd (Ann.snd impl_fillYields_an))) (⟨mkE 34 0 [(0, .slc 0), (1, .dat (.list (.int .i64)) x1632), (2, .dat (.int .i64) x1633), (7, .dat (.int .u64) x1819)], [some (.seq (.int .u64) x1634)]⟩ : St) (impl_fillYields_n6 (impl_fillYields_fuel n) x1632 x1633 x1819 x1634) (fun (t : Int × (List Int)) => (Exit.normal, (⟨mkE 34 0 [(0, .slc 0), (2, .dat (.int .i64) x1633), (7, .dat (.int .u64) t.1)], [some (.seq (.int .u64) t.2)]⟩ : St))) := by
  unfold impl_fillYields_n6
  exact Link.cast (by kernel_rfl) (by kernel_rfl) (link_seq (b := (Code.snd (Code.fst (Code.snd (Code.snd (bodyOf Tryd.f71)))))) (y := (Ann.snd (Ann.fst (Ann.snd (Ann.snd impl_fillYields_an))))) (impl_fillYields_n2_l n x1632 x1633 x1819 x1634) (fun (t : Int × (List Int)) => (impl_fillYields_n5_l n x1632 x1633 x1819 t.1 x1634 t.2)))

theorem impl_fillYields_n7_l (n : Nat) (x1633 : Int) (x1840 : Int) (x1842 : List Int) : Link (impl_fillYields_ctx n) LL (Code.snd (Code.snd (Code.snd (bodyOf Tryd.f71)))) (Ann.snd (Ann.snd (Ann.snd impl_fillYields_an))) (⟨mkE 34 0 [(0, .slc 0), (2, .dat (.int .i64) x1633), (7, .dat (.int .u64) x1840)], [some (.seq (.int .u64) x1842)]⟩ : St) (impl_fillYields_n7 (impl_fillYields_fuel n) x1633 x1840 x1842) (fun (t : Int × (List Int)) => (Exit.ret, (⟨mkE 34 0 [(6, .dat (.int .u64) t.1)], [some (.seq (.int .u64) t.2)]⟩ : St))) := by
  refine Link.of fun K h => ?_
  simp only [impl_fillYields_n7, wpO_bind, wpO_cond, wpO_map, wpO_some] at h
  exact Awp.of (by kernel_rfl) h

theorem impl_fillYields_n8_l (n : Nat) (x1632 : List Int) (x1633 : Int) (x1819 : Int) (x1634 : List Int) : Link (impl_fillYields_ctx n) LL (Code.snd (Code.snd (bodyOf Tryd.f71))) (Ann.snd (Ann.snd impl_fillYields_an)) (⟨mkE 34 0 [(0, .slc 0), (1, .dat (.list (.int .i64)) x1632), (2, .dat (.int .i64) x1633), (7, .dat (.int .u64) x1819)], [some (.seq (.int .u64) x1634)]⟩ : St) (impl_fillYields_n8 (impl_fillYields_fuel n) x1632 x1633 x1819 x1634) (fun (t : Int × (List Int)) => (Exit.ret, (⟨mkE 34 0 [(6, .dat (.int .u64) t.1)], [some (.seq (.int .u64) t.2)]⟩ : St))) := by
  unfold impl_fillYields_n8
  exact Link.cast (by kernel_rfl) (by kernel_rfl) (link_seq (b := (Code.snd (Code.snd (Code.snd (bodyOf Tryd.f71))))) (y := (Ann.snd (Ann.snd (Ann.snd impl_fillYields_an)))) (impl_fillYields_n6_l n x1632 x1633 x1819 x1634) (fun (t : Int × (List Int)) => (impl_fillYields_n7_l n x1633 t.1 t.2)))

theorem impl_fillYields_n9_l (n : Nat) (x1632 : List Int) (x1633 : Int) (x1634 : List Int) : Link (impl_fillYields_ctx n) LL (bodyOf Tryd.f71) impl_fillYields_an (⟨mkE 34 0 [(0, .slc 0), (1, .dat (.list (.int .i64)) x1632), (2, .dat (.int .i64) x1633)], [some (.seq (.int .u64) x1634)]⟩ : St) (impl_fillYields_n9 (impl_fillYields_fuel n) x1632 x1633 x1634) (fun (t : Int × (List Int)) => (Exit.ret, (⟨mkE 34 0 [(6, .dat (.int .u64) t.1)], [some (.seq (.int .u64) t.2)]⟩ : St))) := by
  unfold impl_fillYields_n9
  exact Link.cast (by kernel_rfl) (by kernel_rfl) (link_group (c := (Code.fst (Code.snd (bodyOf Tryd.f71)))) (a := (Ann.fst (Ann.snd impl_fillYields_an))) [(Code.fst (bodyOf Tryd.f71))] [(Ann.fst impl_fillYields_an)] rfl (link_seq (b := (Code.snd (Code.snd (bodyOf Tryd.f71)))) (y := (Ann.snd (Ann.snd impl_fillYields_an))) (impl_fillYields_n1_l n x1632 x1633 x1634) (fun (t : Int) => (impl_fillYields_n8_l n x1632 x1633 t x1634))))

theorem impl_fillYields_e (n : Nat) (x1632 : List Int) (x1633 : Int) (x1634 : List Int) {r : AV} {H' : Heap} (h : (Ans.mk _ (impl_fillYields_fuel (n + 1) x1632 x1633 x1634) (fun (t : Int × (List Int)) => (.dat (.int .u64) t.1, [some (.seq (.int .u64) t.2)]))).run = some (r, H')) : Awp (impl_fillYields_ctx n) LL (bodyOf Tryd.f71) impl_fillYields_an (⟨mkE 34 0 [(0, .slc 0), (1, .dat (.list (.int .i64)) x1632), (2, .dat (.int .i64) x1633)], [some (.seq (.int .u64) x1634)]⟩ : St) (Ret (tlook tys) Tryd.f71.results.toList r H') :=
  ret_of' (impl_fillYields_n9_l n x1632 x1633 x1634) (by (show _ = _); kernel_rfl) (by
  intro t
  exact ret_mk [.dat (.int .u64) t.1] (by kernel_rfl) (by kernel_rfl) (by kernel_rfl) (by kernel_rfl)) h

theorem impl_fillYields_step (n : Nat) (h71 : Sound Tryd.prog 71 (F_impl_fillYields_fuel n)) : Sound Tryd.prog 71 (F_impl_fillYields_fuel (n + 1)) := by
  refine fn_sound' (C := impl_fillYields_ctx n) (c := bodyOf Tryd.f71) (cok_of tys_ok (List.forall_mem_cons.2 ⟨impl_only_sound, List.forall_mem_cons.2 ⟨impl_dependents_sound, List.forall_mem_cons.2 ⟨impl_wordSet_list_sound, List.forall_mem_cons.2 ⟨h71, by simp⟩⟩⟩⟩) (List.forall_mem_cons.2 ⟨Tryd.call62, List.forall_mem_cons.2 ⟨Tryd.call48, List.forall_mem_cons.2 ⟨Tryd.call49, List.forall_mem_cons.2 ⟨Tryd.call71, by simp⟩⟩⟩⟩) (by kernel_rfl)) Tryd.func71 (by kernel_rfl) LL impl_fillYields_an ?_
  intro avs H r H' h
  unfold F_impl_fillYields_fuel at h
  split at h
  · refine Awp.cast ?_ ?_ ?_ (impl_fillYields_e n _ _ _ h) <;> kernel_rfl
  · simp [Ans.no, Ans.run] at h

theorem impl_fillYields_null : Sound Tryd.prog 71 (F_impl_fillYields_fuel 0) := by
  intro avs H r H' h
  unfold F_impl_fillYields_fuel at h
  split at h
  · simp [impl_fillYields_fuel, impl_fillYields_knot, Ans.run] at h
  · simp [Ans.no, Ans.run] at h

theorem impl_fillYields_knot_all : ∀ n, Sound Tryd.prog 71 (F_impl_fillYields_fuel n)
  | 0 => impl_fillYields_null
  | n + 1 => by
    have h71 := impl_fillYields_knot_all n
    exact impl_fillYields_step n h71

def F_impl_fillYields : Fun := fun avs H =>
  match avs, H with
  | [.slc 0, .dat (.list (.int .i64)) x1632, .dat (.int .i64) x1633], [some (.seq (.int .u64) x1634)] => ⟨_, impl_fillYields x1632 x1633 x1634, fun (t : Int × (List Int)) => (.dat (.int .u64) t.1, [some (.seq (.int .u64) t.2)])⟩
  | _, _ => Ans.no

theorem impl_fillYields_sound : Sound Tryd.prog 71 F_impl_fillYields := by
  have e : F_impl_fillYields = F_impl_fillYields_fuel RR := by
    funext avs H
    unfold F_impl_fillYields F_impl_fillYields_fuel
    split <;> first | rfl | (simp only [impl_fillYields])
  rw [e]
  exact (impl_fillYields_knot_all RR)


/-! loop.example/headtrees/impl.yieldsOf -/

def impl_yieldsOf_an : Ann := (.seq (.leaf [0]) (.seq (.leaf [0, 3]) (.seq (.leaf [3]) (.seq (.leaf [2]) (.leaf [2])))))

noncomputable def impl_yieldsOf_ctx : Ctx := ⟨tlook tys, olook [(16, F_impl_RootOf), (71, F_impl_fillYields)], ioF, 0, false⟩

theorem impl_yieldsOf_n1_l (x1600 : List Int) : Link impl_yieldsOf_ctx LL (bodyOf Tryd.f43) impl_yieldsOf_an (⟨mkE 13 0 [(0, .dat (.list (.int .i64)) x1600)], []⟩ : St) (impl_yieldsOf_n1 x1600) (fun (t : (List Int)) => (Exit.ret, (⟨mkE 13 0 [(2, .slc 0)], [some (.seq (.int .u64) t)]⟩ : St))) := by
  refine Link.of fun K h => ?_
  simp only [impl_yieldsOf_n1, wpO_bind, wpO_cond, wpO_map, wpO_some] at h
  exact Awp.of (by kernel_rfl) h

theorem impl_yieldsOf_e (x1600 : List Int) {r : AV} {H' : Heap} (h : (Ans.mk _ (impl_yieldsOf x1600) (fun (t : (List Int)) => (.slc 0, [some (.seq (.int .u64) t)]))).run = some (r, H')) : Awp impl_yieldsOf_ctx LL (bodyOf Tryd.f43) impl_yieldsOf_an (⟨mkE 13 0 [(0, .dat (.list (.int .i64)) x1600)], []⟩ : St) (Ret (tlook tys) Tryd.f43.results.toList r H') :=
  ret_of' (impl_yieldsOf_n1_l x1600) (by unfold impl_yieldsOf; kernel_rfl) (by
  intro t
  exact ret_mk [.slc 0] (by kernel_rfl) (by kernel_rfl) (by kernel_rfl) (by kernel_rfl)) h

def F_impl_yieldsOf : Fun := fun avs H =>
  match avs, H with
  | [.dat (.list (.int .i64)) x1600], [] => ⟨_, impl_yieldsOf x1600, fun (t : (List Int)) => (.slc 0, [some (.seq (.int .u64) t)])⟩
  | _, _ => Ans.no

theorem impl_yieldsOf_sound : Sound Tryd.prog 43 F_impl_yieldsOf := by
  refine fn_sound' (C := impl_yieldsOf_ctx) (c := bodyOf Tryd.f43) (cok_of tys_ok (List.forall_mem_cons.2 ⟨impl_RootOf_sound, List.forall_mem_cons.2 ⟨impl_fillYields_sound, by simp⟩⟩) (List.forall_mem_cons.2 ⟨Tryd.call16, List.forall_mem_cons.2 ⟨Tryd.call71, by simp⟩⟩) (by kernel_rfl)) Tryd.func43 (by kernel_rfl) LL impl_yieldsOf_an ?_
  intro avs H r H' h
  unfold F_impl_yieldsOf at h
  split at h
  · refine Awp.cast ?_ ?_ ?_ (impl_yieldsOf_e _ h) <;> kernel_rfl
  · simp [Ans.no, Ans.run] at h


/-! loop.example/headtrees/spec.l2Yield -/

def spec_l2Yield_an : Ann := (.seq (.leaf [0, 1]) (.seq (.leaf [0, 1, 5]) (.seq (.seq (.leaf [0, 1, 5, 6]) (.block (.loop (.seq (.seq (.leaf [0, 1, 5, 6, 13]) (.cond (.leaf [0, 1, 5, 6]) (.leaf [5]))) (.seq (.block (.seq (.leaf [0, 1, 5, 6, 21]) (.cond (.leaf [0, 1, 5, 6]) (.leaf [0, 1, 5, 6])))) (.leaf [0, 1, 5, 6])))))) (.seq (.leaf [4]) (.leaf [4])))))

def F_spec_l2Yield_fuel (n : Nat) : Fun := fun avs H =>
  match avs, H with
  | [.dat (.list (.int .i64)) x1930, .dat (.int .i64) x1931], [] => ⟨_, spec_l2Yield_fuel n x1930 x1931, fun (t : Int) => (.dat (.int .i64) t, [])⟩
  | _, _ => Ans.no

noncomputable def spec_l2Yield_ctx (n : Nat) : Ctx := ⟨tlook tys, olook [(47, F_spec_l2Yield_fuel n)], ioF, 0, false⟩

theorem spec_l2Yield_n1_l (n : Nat) (x1930 : List Int) (x1931 : Int) : Link (spec_l2Yield_ctx n) LL (Code.seq (Code.fst (bodyOf Tryd.f47)) (Code.fst (Code.snd (bodyOf Tryd.f47)))) (Ann.seq (Ann.fst spec_l2Yield_an) (Ann.fst (Ann.snd spec_l2Yield_an))) (⟨mkE 29 0 [(0, .dat (.list (.int .i64)) x1930), (1, .dat (.int .i64) x1931)], []⟩ : St) (spec_l2Yield_n1 (spec_l2Yield_fuel n) x1931) (fun (t : Int) => (Exit.normal, (⟨mkE 29 0 [(0, .dat (.list (.int .i64)) x1930), (1, .dat (.int .i64) x1931), (5, .dat (.int .i64) t)], []⟩ : St))) := by
  refine Link.of fun K h => ?_
  simp only [spec_l2Yield_n1, wpO_bind, wpO_cond, wpO_map, wpO_some] at h
  exact Awp.of (by kernel_rfl) h

theorem spec_l2Yield_n2_l (n : Nat) (x1930 : List Int) (x1931 : Int) (x1962 : Int) : Link (spec_l2Yield_ctx n) LL (Code.fst (Code.fst (Code.snd (Code.snd (bodyOf Tryd.f47))))) (Ann.fst (Ann.fst (Ann.snd (Ann.snd spec_l2Yield_an)))) (⟨mkE 29 0 [(0, .dat (.list (.int .i64)) x1930), (1, .dat (.int .i64) x1931), (5, .dat (.int .i64) x1962)], []⟩ : St) (spec_l2Yield_n2 (spec_l2Yield_fuel n)) (fun (t : Unit) => (Exit.normal, (⟨mkE 29 0 [(0, .dat (.list (.int .i64)) x1930), (1, .dat (.int .i64) x1931), (5, .dat (.int .i64) x1962), (6, .dat (.int .i64) 0)], []⟩ : St))) := by
  refine Link.of fun K h => ?_
  simp only [spec_l2Yield_n2, wpO_bind, wpO_cond, wpO_map, wpO_some] at h
  exact Awp.of (by kernel_rfl) h

theorem spec_l2Yield_n3_l (n : Nat) (x1930 : List Int) (x1931 : Int) (x1983 : Int) (x1984 : Int) : Link (spec_l2Yield_ctx n) LL (Code.fst (Code.fst (Code.snd (Code.fst (Code.snd (Code.snd (bodyOf Tryd.f47))))))) (Ann.fst (Ann.fst (Ann.snd (Ann.fst (Ann.snd (Ann.snd spec_l2Yield_an)))))) (⟨mkE 29 0 [(0, .dat (.list (.int .i64)) x1930), (1, .dat (.int .i64) x1931), (5, .dat (.int .i64) x1983), (6, .dat (.int .i64) x1984)], []⟩ : St) (spec_l2Yield_n3 (spec_l2Yield_fuel n) x1930 x1931 x1983 x1984) (Sum.elim (fun (t : Int × Int) => (Exit.normal, (⟨mkE 29 0 [(0, .dat (.list (.int .i64)) x1930), (1, .dat (.int .i64) x1931), (5, .dat (.int .i64) t.1), (6, .dat (.int .i64) t.2)], []⟩ : St))) (fun (t : Int) => ((Exit.exit 0), (⟨mkE 29 0 [(5, .dat (.int .i64) t)], []⟩ : St)))) := by
  refine Link.of fun K h => ?_
  simp only [spec_l2Yield_n3, wpO_bind, wpO_cond, wpO_map, wpO_some] at h
  exact Awp.of (by kernel_rfl) h

theorem spec_l2Yield_n4_l (n : Nat) (x1930 : List Int) (x1931 : Int) (x1962 : Int) : Link (spec_l2Yield_ctx n) LL (Code.fst (Code.snd (Code.fst (Code.snd (Code.snd (bodyOf Tryd.f47)))))) (Ann.fst (Ann.snd (Ann.fst (Ann.snd (Ann.snd spec_l2Yield_an))))) (⟨mkE 29 0 [(0, .dat (.list (.int .i64)) x1930), (1, .dat (.int .i64) x1931), (5, .dat (.int .i64) x1962), (6, .dat (.int .i64) 0)], []⟩ : St) (spec_l2Yield_n4 (spec_l2Yield_fuel n) x1930 x1931 x1962) (fun (t : Int) => ((Exit.exit 0), (⟨mkE 29 0 [(5, .dat (.int .i64) t)], []⟩ : St))) := by
  unfold spec_l2Yield_n4
  exact Link.cast (by kernel_rfl) (by kernel_rfl) (link_loop (mk := fun (s : Int × Int) => (⟨mkE 29 0 [(0, .dat (.list (.int .i64)) x1930), (1, .dat (.int .i64) x1931), (5, .dat (.int .i64) s.1), (6, .dat (.int .i64) s.2)], []⟩ : St)) (fin := (fun (t : Int) => ((Exit.exit 0), (⟨mkE 29 0 [(5, .dat (.int .i64) t)], []⟩ : St)))) (by
  rintro t f K h
  · exact h) (fun s => link_map (spec_l2Yield_n3_l n x1930 x1931 s.1 s.2) (Sum.elim (fun (t : Int × Int) => Sum.inl (t.1, t.2)) (fun (t : Int) => Sum.inr t)) (by
  rintro (t | t)
  · kernel_rfl
  · kernel_rfl)) (x1962, 0))

theorem spec_l2Yield_n5_l (n : Nat) (x1930 : List Int) (x1931 : Int) (x1962 : Int) : Link (spec_l2Yield_ctx n) LL (Code.snd (Code.fst (Code.snd (Code.snd (bodyOf Tryd.f47))))) (Ann.snd (Ann.fst (Ann.snd (Ann.snd spec_l2Yield_an)))) (⟨mkE 29 0 [(0, .dat (.list (.int .i64)) x1930), (1, .dat (.int .i64) x1931), (5, .dat (.int .i64) x1962), (6, .dat (.int .i64) 0)], []⟩ : St) (spec_l2Yield_n5 (spec_l2Yield_fuel n) x1930 x1931 x1962) (fun (t : Int) => (Exit.normal, (⟨mkE 29 0 [(5, .dat (.int .i64) t)], []⟩ : St))) := by
  unfold spec_l2Yield_n5
  exact Link.cast (by kernel_rfl) (by kernel_rfl) (link_block (id := 0) (spec_l2Yield_n4_l n x1930 x1931 x1962) (fun (t : Int) => t) (by
  rintro t K h
  · exact Eq.mp (by kernel_rfl) h))

theorem spec_l2Yield_n6_l (n : Nat) (x1930 : List Int) (x1931 : Int) (x1962 : Int) : Link (spec_l2Yield_ctx n) LL (Code.fst (Code.snd (Code.snd (bodyOf Tryd.f47)))) (Ann.fst (Ann.snd (Ann.snd spec_l2Yield_an))) (⟨mkE 29 0 [(0, .dat (.list (.int .i64)) x1930), (1, .dat (.int .i64) x1931), (5, .dat (.int .i64) x1962)], []⟩ : St) (spec_l2Yield_n6 (spec_l2Yield_fuel n) x1930 x1931 x1962) (fun (t : Int) => (Exit.normal, (⟨mkE 29 0 [(5, .dat (.int .i64) t)], []⟩ : St))) := by
  unfold spec_l2Yield_n6
  exact Link.cast (by kernel_rfl) (by kernel_rfl) (link_seq (b := (Code.snd (Code.fst (Code.snd (Code.snd (bodyOf Tryd.f47)))))) (y := (Ann.snd (Ann.fst (Ann.snd (Ann.snd spec_l2Yield_an))))) (spec_l2Yield_n2_l n x1930 x1931 x1962) (fun (t : Unit) => (spec_l2Yield_n5_l n x1930 x1931 x1962)))

theorem spec_l2Yield_n7_l (n : Nat) (x1983 : Int) : Link (spec_l2Yield_ctx n) LL (Code.snd (Code.snd (Code.snd (bodyOf Tryd.f47)))) (Ann.snd (Ann.snd (Ann.snd spec_l2Yield_an))) (⟨mkE 29 0 [(5, .dat (.int .i64) x1983)], []⟩ : St) (spec_l2Yield_n7 (spec_l2Yield_fuel n) x1983) (fun (t : Int) => (Exit.ret, (⟨mkE 29 0 [(4, .dat (.int .i64) t)], []⟩ : St))) := by
  refine Link.of fun K h => ?_
  simp only [spec_l2Yield_n7, wpO_bind, wpO_cond, wpO_map, wpO_some] at h
  exact Awp.of (by kernel_rfl) h

theorem spec_l2Yield_n8_l (n : Nat) (x1930 : List Int) (x1931 : Int) (x1962 : Int) : Link (spec_l2Yield_ctx n) LL (Code.snd (Code.snd (bodyOf Tryd.f47))) (Ann.snd (Ann.snd spec_l2Yield_an)) (⟨mkE 29 0 [(0, .dat (.list (.int .i64)) x1930), (1, .dat (.int .i64) x1931), (5, .dat (.int .i64) x1962)], []⟩ : St) (spec_l2Yield_n8 (spec_l2Yield_fuel n) x1930 x1931 x1962) (fun (t : Int) => (Exit.ret, (⟨mkE 29 0 [(4, .dat (.int .i64) t)], []⟩ : St))) := by
  unfold spec_l2Yield_n8
  exact Link.cast (by kernel_rfl) (by kernel_rfl) (link_seq (b := (Code.snd (Code.snd (Code.snd (bodyOf Tryd.f47))))) (y := (Ann.snd (Ann.snd (Ann.snd spec_l2Yield_an)))) (spec_l2Yield_n6_l n x1930 x1931 x1962) (fun (t : Int) => (spec_l2Yield_n7_l n t)))

theorem spec_l2Yield_n9_l (n : Nat) (x1930 : List Int) (x1931 : Int) : Link (spec_l2Yield_ctx n) LL (bodyOf Tryd.f47) spec_l2Yield_an (⟨mkE 29 0 [(0, .dat (.list (.int .i64)) x1930), (1, .dat (.int .i64) x1931)], []⟩ : St) (spec_l2Yield_n9 (spec_l2Yield_fuel n) x1930 x1931) (fun (t : Int) => (Exit.ret, (⟨mkE 29 0 [(4, .dat (.int .i64) t)], []⟩ : St))) := by
  unfold spec_l2Yield_n9
  exact Link.cast (by kernel_rfl) (by kernel_rfl) (link_group (c := (Code.fst (Code.snd (bodyOf Tryd.f47)))) (a := (Ann.fst (Ann.snd spec_l2Yield_an))) [(Code.fst (bodyOf Tryd.f47))] [(Ann.fst spec_l2Yield_an)] rfl (link_seq (b := (Code.snd (Code.snd (bodyOf Tryd.f47)))) (y := (Ann.snd (Ann.snd spec_l2Yield_an))) (spec_l2Yield_n1_l n x1930 x1931) (fun (t : Int) => (spec_l2Yield_n8_l n x1930 x1931 t))))

theorem spec_l2Yield_e (n : Nat) (x1930 : List Int) (x1931 : Int) {r : AV} {H' : Heap} (h : (Ans.mk _ (spec_l2Yield_fuel (n + 1) x1930 x1931) (fun (t : Int) => (.dat (.int .i64) t, []))).run = some (r, H')) : Awp (spec_l2Yield_ctx n) LL (bodyOf Tryd.f47) spec_l2Yield_an (⟨mkE 29 0 [(0, .dat (.list (.int .i64)) x1930), (1, .dat (.int .i64) x1931)], []⟩ : St) (Ret (tlook tys) Tryd.f47.results.toList r H') :=
  ret_of' (spec_l2Yield_n9_l n x1930 x1931) (by (show _ = _); kernel_rfl) (by
  intro t
  exact ret_mk [.dat (.int .i64) t] (by kernel_rfl) (by kernel_rfl) (by kernel_rfl) (by kernel_rfl)) h

theorem spec_l2Yield_step (n : Nat) (h47 : Sound Tryd.prog 47 (F_spec_l2Yield_fuel n)) : Sound Tryd.prog 47 (F_spec_l2Yield_fuel (n + 1)) := by
  refine fn_sound' (C := spec_l2Yield_ctx n) (c := bodyOf Tryd.f47) (cok_of tys_ok (List.forall_mem_cons.2 ⟨h47, by simp⟩) (List.forall_mem_cons.2 ⟨Tryd.call47, by simp⟩) (by kernel_rfl)) Tryd.func47 (by kernel_rfl) LL spec_l2Yield_an ?_
  intro avs H r H' h
  unfold F_spec_l2Yield_fuel at h
  split at h
  · refine Awp.cast ?_ ?_ ?_ (spec_l2Yield_e n _ _ h) <;> kernel_rfl
  · simp [Ans.no, Ans.run] at h

theorem spec_l2Yield_null : Sound Tryd.prog 47 (F_spec_l2Yield_fuel 0) := by
  intro avs H r H' h
  unfold F_spec_l2Yield_fuel at h
  split at h
  · simp [spec_l2Yield_fuel, spec_l2Yield_knot, Ans.run] at h
  · simp [Ans.no, Ans.run] at h

theorem spec_l2Yield_knot_all : ∀ n, Sound Tryd.prog 47 (F_spec_l2Yield_fuel n)
  | 0 => spec_l2Yield_null
  | n + 1 => by
    have h47 := spec_l2Yield_knot_all n
    exact spec_l2Yield_step n h47

def F_spec_l2Yield : Fun := fun avs H =>
  match avs, H with
  | [.dat (.list (.int .i64)) x1930, .dat (.int .i64) x1931], [] => ⟨_, spec_l2Yield x1930 x1931, fun (t : Int) => (.dat (.int .i64) t, [])⟩
  | _, _ => Ans.no

theorem spec_l2Yield_sound : Sound Tryd.prog 47 F_spec_l2Yield := by
  have e : F_spec_l2Yield = F_spec_l2Yield_fuel RR := by
    funext avs H
    unfold F_spec_l2Yield F_spec_l2Yield_fuel
    split <;> first | rfl | (simp only [spec_l2Yield])
  rw [e]
  exact (spec_l2Yield_knot_all RR)


/-! loop.example/headtrees/impl.arcBetween -/

def impl_arcBetween_an : Ann := (.seq (.leaf [0, 1, 4]) (.seq (.seq (.leaf [0, 1, 4, 16]) (.cond (.seq (.leaf [4, 5]) (.leaf [4, 5])) (.leaf [0, 1, 4]))) (.seq (.leaf [4, 5]) (.leaf [4, 5]))))

noncomputable def impl_arcBetween_ctx : Ctx := ⟨tlook tys, olook [], ioF, 0, false⟩

theorem impl_arcBetween_n1_l (x2635 : Int) (x2636 : Int) : Link impl_arcBetween_ctx LL (bodyOf Tryd.f78) impl_arcBetween_an (⟨mkE 25 0 [(0, .dat (.int .i64) x2635), (1, .dat (.int .i64) x2636)], []⟩ : St) (impl_arcBetween_n1 x2635 x2636) (fun (t : Bool × Int × Int) => (Exit.ret, (⟨mkE 25 0 [(4, .ptr 0 0), (5, .dat .bool t.1)], [some (.box [.dat (.int .i64) t.2.1, .dat (.int .i64) t.2.2])]⟩ : St))) := by
  refine Link.of fun K h => ?_
  simp only [impl_arcBetween_n1, wpO_bind, wpO_cond, wpO_map, wpO_some] at h
  exact Awp.of (by kernel_rfl) h

theorem impl_arcBetween_e (x2635 : Int) (x2636 : Int) {r : AV} {H' : Heap} (h : (Ans.mk _ (impl_arcBetween x2635 x2636) (fun (t : Bool × Int × Int) => (.tup [.agg [.dat (.int .i64) t.2.1, .dat (.int .i64) t.2.2], .dat .bool t.1], [some (.box [.dat (.int .i64) t.2.1, .dat (.int .i64) t.2.2])]))).run = some (r, H')) : Awp impl_arcBetween_ctx LL (bodyOf Tryd.f78) impl_arcBetween_an (⟨mkE 25 0 [(0, .dat (.int .i64) x2635), (1, .dat (.int .i64) x2636)], []⟩ : St) (Ret (tlook tys) Tryd.f78.results.toList r H') :=
  ret_of' (impl_arcBetween_n1_l x2635 x2636) (by unfold impl_arcBetween; kernel_rfl) (by
  intro t
  exact ret_mk [.agg [.dat (.int .i64) t.2.1, .dat (.int .i64) t.2.2], .dat .bool t.1] (by kernel_rfl) (by kernel_rfl) (by kernel_rfl) (by kernel_rfl)) h

def F_impl_arcBetween : Fun := fun avs H =>
  match avs, H with
  | [.dat (.int .i64) x2635, .dat (.int .i64) x2636], [] => ⟨_, impl_arcBetween x2635 x2636, fun (t : Bool × Int × Int) => (.tup [.agg [.dat (.int .i64) t.2.1, .dat (.int .i64) t.2.2], .dat .bool t.1], [some (.box [.dat (.int .i64) t.2.1, .dat (.int .i64) t.2.2])])⟩
  | _, _ => Ans.no

theorem impl_arcBetween_sound : Sound Tryd.prog 78 F_impl_arcBetween := by
  refine fn_sound' (C := impl_arcBetween_ctx) (c := bodyOf Tryd.f78) (cok_of tys_ok (by simp) (by simp) (by kernel_rfl)) Tryd.func78 (by kernel_rfl) LL impl_arcBetween_an ?_
  intro avs H r H' h
  unfold F_impl_arcBetween at h
  split at h
  · refine Awp.cast ?_ ?_ ?_ (impl_arcBetween_e _ _ h) <;> kernel_rfl
  · simp [Ans.no, Ans.run] at h


/-! (loop.example/headtrees/impl.arc).covers -/

def impl_arc_covers_an : Ann := (.seq (.leaf [1, 2]) (.seq (.leaf [4]) (.leaf [4])))

noncomputable def impl_arc_covers_ctx : Ctx := ⟨tlook tys, olook [], ioF, 0, false⟩

theorem impl_arc_covers_n1_l (x2747 : Int) (x2748 : Int) (x2749 : Int) : Link impl_arc_covers_ctx LL (bodyOf Tryd.f79) impl_arc_covers_an (⟨mkE 15 0 [(0, .agg [.dat (.int .i64) x2747, .dat (.int .i64) x2748]), (1, .dat (.int .i64) x2749)], []⟩ : St) (impl_arc_covers_n1 x2747 x2748 x2749) (fun (t : Bool) => (Exit.ret, (⟨mkE 15 0 [(4, .dat .bool t)], []⟩ : St))) := by
  refine Link.of fun K h => ?_
  simp only [impl_arc_covers_n1, wpO_bind, wpO_cond, wpO_map, wpO_some] at h
  exact Awp.of (by kernel_rfl) h

theorem impl_arc_covers_e (x2747 : Int) (x2748 : Int) (x2749 : Int) {r : AV} {H' : Heap} (h : (Ans.mk _ (impl_arc_covers x2747 x2748 x2749) (fun (t : Bool) => (.dat .bool t, []))).run = some (r, H')) : Awp impl_arc_covers_ctx LL (bodyOf Tryd.f79) impl_arc_covers_an (⟨mkE 15 0 [(0, .agg [.dat (.int .i64) x2747, .dat (.int .i64) x2748]), (1, .dat (.int .i64) x2749)], []⟩ : St) (Ret (tlook tys) Tryd.f79.results.toList r H') :=
  ret_of' (impl_arc_covers_n1_l x2747 x2748 x2749) (by unfold impl_arc_covers; kernel_rfl) (by
  intro t
  exact ret_mk [.dat .bool t] (by kernel_rfl) (by kernel_rfl) (by kernel_rfl) (by kernel_rfl)) h

def F_impl_arc_covers : Fun := fun avs H =>
  match avs, H with
  | [.agg [.dat (.int .i64) x2747, .dat (.int .i64) x2748], .dat (.int .i64) x2749], [] => ⟨_, impl_arc_covers x2747 x2748 x2749, fun (t : Bool) => (.dat .bool t, [])⟩
  | _, _ => Ans.no

theorem impl_arc_covers_sound : Sound Tryd.prog 79 F_impl_arc_covers := by
  refine fn_sound' (C := impl_arc_covers_ctx) (c := bodyOf Tryd.f79) (cok_of tys_ok (by simp) (by simp) (by kernel_rfl)) Tryd.func79 (by kernel_rfl) LL impl_arc_covers_an ?_
  intro avs H r H' h
  unfold F_impl_arc_covers at h
  split at h
  · refine Awp.cast ?_ ?_ ?_ (impl_arc_covers_e _ _ _ h) <;> kernel_rfl
  · simp [Ans.no, Ans.run] at h


/-! (loop.example/headtrees/impl.arc).leavesOut -/

def impl_arc_leavesOut_an : Ann := (.seq (.leaf [1, 2]) (.seq (.leaf [4]) (.leaf [4])))

noncomputable def impl_arc_leavesOut_ctx : Ctx := ⟨tlook tys, olook [], ioF, 0, false⟩

theorem impl_arc_leavesOut_n1_l (x2756 : Int) (x2757 : Int) (x2758 : Int) : Link impl_arc_leavesOut_ctx LL (bodyOf Tryd.f80) impl_arc_leavesOut_an (⟨mkE 15 0 [(0, .agg [.dat (.int .i64) x2756, .dat (.int .i64) x2757]), (1, .dat (.int .i64) x2758)], []⟩ : St) (impl_arc_leavesOut_n1 x2756 x2757 x2758) (fun (t : Bool) => (Exit.ret, (⟨mkE 15 0 [(4, .dat .bool t)], []⟩ : St))) := by
  refine Link.of fun K h => ?_
  simp only [impl_arc_leavesOut_n1, wpO_bind, wpO_cond, wpO_map, wpO_some] at h
  exact Awp.of (by kernel_rfl) h

theorem impl_arc_leavesOut_e (x2756 : Int) (x2757 : Int) (x2758 : Int) {r : AV} {H' : Heap} (h : (Ans.mk _ (impl_arc_leavesOut x2756 x2757 x2758) (fun (t : Bool) => (.dat .bool t, []))).run = some (r, H')) : Awp impl_arc_leavesOut_ctx LL (bodyOf Tryd.f80) impl_arc_leavesOut_an (⟨mkE 15 0 [(0, .agg [.dat (.int .i64) x2756, .dat (.int .i64) x2757]), (1, .dat (.int .i64) x2758)], []⟩ : St) (Ret (tlook tys) Tryd.f80.results.toList r H') :=
  ret_of' (impl_arc_leavesOut_n1_l x2756 x2757 x2758) (by unfold impl_arc_leavesOut; kernel_rfl) (by
  intro t
  exact ret_mk [.dat .bool t] (by kernel_rfl) (by kernel_rfl) (by kernel_rfl) (by kernel_rfl)) h

def F_impl_arc_leavesOut : Fun := fun avs H =>
  match avs, H with
  | [.agg [.dat (.int .i64) x2756, .dat (.int .i64) x2757], .dat (.int .i64) x2758], [] => ⟨_, impl_arc_leavesOut x2756 x2757 x2758, fun (t : Bool) => (.dat .bool t, [])⟩
  | _, _ => Ans.no

theorem impl_arc_leavesOut_sound : Sound Tryd.prog 80 F_impl_arc_leavesOut := by
  refine fn_sound' (C := impl_arc_leavesOut_ctx) (c := bodyOf Tryd.f80) (cok_of tys_ok (by simp) (by simp) (by kernel_rfl)) Tryd.func80 (by kernel_rfl) LL impl_arc_leavesOut_an ?_
  intro avs H r H' h
  unfold F_impl_arc_leavesOut at h
  split at h
  · refine Awp.cast ?_ ?_ ?_ (impl_arc_leavesOut_e _ _ _ h) <;> kernel_rfl
  · simp [Ans.no, Ans.run] at h


/-! (loop.example/headtrees/impl.arc).crosses -/

def impl_arc_crosses_an : Ann := (.seq (.leaf [2, 3]) (.seq (.leaf [4]) (.leaf [4])))

noncomputable def impl_arc_crosses_ctx : Ctx := ⟨tlook tys, olook [(79, F_impl_arc_covers), (80, F_impl_arc_leavesOut)], ioF, 0, false⟩

theorem impl_arc_crosses_n1_l (x2743 : Int) (x2744 : Int) (x2745 : Int) (x2746 : Int) : Link impl_arc_crosses_ctx LL (bodyOf Tryd.f58) impl_arc_crosses_an (⟨mkE 27 0 [(0, .agg [.dat (.int .i64) x2743, .dat (.int .i64) x2744]), (1, .agg [.dat (.int .i64) x2745, .dat (.int .i64) x2746])], []⟩ : St) (impl_arc_crosses_n1 x2743 x2744 x2745 x2746) (fun (t : Bool) => (Exit.ret, (⟨mkE 27 0 [(4, .dat .bool t)], []⟩ : St))) := by
  refine Link.of fun K h => ?_
  simp only [impl_arc_crosses_n1, wpO_bind, wpO_cond, wpO_map, wpO_some] at h
  exact Awp.of (by kernel_rfl) h

theorem impl_arc_crosses_e (x2743 : Int) (x2744 : Int) (x2745 : Int) (x2746 : Int) {r : AV} {H' : Heap} (h : (Ans.mk _ (impl_arc_crosses x2743 x2744 x2745 x2746) (fun (t : Bool) => (.dat .bool t, []))).run = some (r, H')) : Awp impl_arc_crosses_ctx LL (bodyOf Tryd.f58) impl_arc_crosses_an (⟨mkE 27 0 [(0, .agg [.dat (.int .i64) x2743, .dat (.int .i64) x2744]), (1, .agg [.dat (.int .i64) x2745, .dat (.int .i64) x2746])], []⟩ : St) (Ret (tlook tys) Tryd.f58.results.toList r H') :=
  ret_of' (impl_arc_crosses_n1_l x2743 x2744 x2745 x2746) (by unfold impl_arc_crosses; kernel_rfl) (by
  intro t
  exact ret_mk [.dat .bool t] (by kernel_rfl) (by kernel_rfl) (by kernel_rfl) (by kernel_rfl)) h

def F_impl_arc_crosses : Fun := fun avs H =>
  match avs, H with
  | [.agg [.dat (.int .i64) x2743, .dat (.int .i64) x2744], .agg [.dat (.int .i64) x2745, .dat (.int .i64) x2746]], [] => ⟨_, impl_arc_crosses x2743 x2744 x2745 x2746, fun (t : Bool) => (.dat .bool t, [])⟩
  | _, _ => Ans.no

theorem impl_arc_crosses_sound : Sound Tryd.prog 58 F_impl_arc_crosses := by
  refine fn_sound' (C := impl_arc_crosses_ctx) (c := bodyOf Tryd.f58) (cok_of tys_ok (List.forall_mem_cons.2 ⟨impl_arc_covers_sound, List.forall_mem_cons.2 ⟨impl_arc_leavesOut_sound, by simp⟩⟩) (List.forall_mem_cons.2 ⟨Tryd.call79, List.forall_mem_cons.2 ⟨Tryd.call80, by simp⟩⟩) (by kernel_rfl)) Tryd.func58 (by kernel_rfl) LL impl_arc_crosses_an ?_
  intro avs H r H' h
  unfold F_impl_arc_crosses at h
  split at h
  · refine Awp.cast ?_ ?_ ?_ (impl_arc_crosses_e _ _ _ _ h) <;> kernel_rfl
  · simp [Ans.no, Ans.run] at h


/-! loop.example/headtrees/impl.CrossOk -/

def impl_CrossOk_an : Ann := (.seq (.leaf [0, 1, 2, 3]) (.seq (.leaf [2, 3, 9, 10]) (.seq (.leaf [9, 10, 11, 12]) (.seq (.leaf [8]) (.leaf [8])))))

noncomputable def impl_CrossOk_ctx : Ctx := ⟨tlook tys, olook [(78, F_impl_arcBetween), (58, F_impl_arc_crosses)], ioF, 0, false⟩

theorem impl_CrossOk_n1_l (x3365 : Int) (x3366 : Int) (x3367 : Int) (x3368 : Int) : Link impl_CrossOk_ctx LL (bodyOf Tryd.f84) impl_CrossOk_an (⟨mkE 34 0 [(0, .dat (.int .i64) x3365), (1, .dat (.int .i64) x3366), (2, .dat (.int .i64) x3367), (3, .dat (.int .i64) x3368)], []⟩ : St) (impl_CrossOk_n1 x3365 x3366 x3367 x3368) (fun (t : Bool) => (Exit.ret, (⟨mkE 34 0 [(8, .dat .bool t)], []⟩ : St))) := by
  refine Link.of fun K h => ?_
  simp only [impl_CrossOk_n1, wpO_bind, wpO_cond, wpO_map, wpO_some] at h
  exact Awp.of (by kernel_rfl) h

theorem impl_CrossOk_e (x3365 : Int) (x3366 : Int) (x3367 : Int) (x3368 : Int) {r : AV} {H' : Heap} (h : (Ans.mk _ (impl_CrossOk x3365 x3366 x3367 x3368) (fun (t : Bool) => (.dat .bool t, []))).run = some (r, H')) : Awp impl_CrossOk_ctx LL (bodyOf Tryd.f84) impl_CrossOk_an (⟨mkE 34 0 [(0, .dat (.int .i64) x3365), (1, .dat (.int .i64) x3366), (2, .dat (.int .i64) x3367), (3, .dat (.int .i64) x3368)], []⟩ : St) (Ret (tlook tys) Tryd.f84.results.toList r H') :=
  ret_of' (impl_CrossOk_n1_l x3365 x3366 x3367 x3368) (by unfold impl_CrossOk; kernel_rfl) (by
  intro t
  exact ret_mk [.dat .bool t] (by kernel_rfl) (by kernel_rfl) (by kernel_rfl) (by kernel_rfl)) h

def F_impl_CrossOk : Fun := fun avs H =>
  match avs, H with
  | [.dat (.int .i64) x3365, .dat (.int .i64) x3366, .dat (.int .i64) x3367, .dat (.int .i64) x3368], [] => ⟨_, impl_CrossOk x3365 x3366 x3367 x3368, fun (t : Bool) => (.dat .bool t, [])⟩
  | _, _ => Ans.no

theorem impl_CrossOk_sound : Sound Tryd.prog 84 F_impl_CrossOk := by
  refine fn_sound' (C := impl_CrossOk_ctx) (c := bodyOf Tryd.f84) (cok_of tys_ok (List.forall_mem_cons.2 ⟨impl_arcBetween_sound, List.forall_mem_cons.2 ⟨impl_arc_crosses_sound, by simp⟩⟩) (List.forall_mem_cons.2 ⟨Tryd.call78, List.forall_mem_cons.2 ⟨Tryd.call58, by simp⟩⟩) (by kernel_rfl)) Tryd.func84 (by kernel_rfl) LL impl_CrossOk_an ?_
  intro avs H r H' h
  unfold F_impl_CrossOk at h
  split at h
  · refine Awp.cast ?_ ?_ ?_ (impl_CrossOk_e _ _ _ _ h) <;> kernel_rfl
  · simp [Ans.no, Ans.run] at h


/-! loop.example/headtrees/impl.goByTurns$1$1 -/

def impl_goByTurns_1_1_an : Ann := (.seq (.leaf [0, 1, 2, 3]) (.seq (.leaf [6]) (.leaf [6])))

noncomputable def impl_goByTurns_1_1_ctx : Ctx := ⟨tlook tys, olook [(84, F_impl_CrossOk)], ioF, 2, false⟩

theorem impl_goByTurns_1_1_n1_l (x3361 : Int) (x3362 : Int) (x3363 : Int) (x3364 : Int) : Link impl_goByTurns_1_1_ctx LL (bodyOf Tryd.f83) impl_goByTurns_1_1_an (⟨mkE 12 0 [(0, .dat (.int .i64) x3361), (1, .dat (.int .i64) x3362), (2, .ptr 0 0), (3, .ptr 1 0)], [some (.box [.dat (.int .i64) x3363]), some (.box [.dat (.int .i64) x3364])]⟩ : St) (impl_goByTurns_1_1_n1 x3361 x3362 x3363 x3364) (fun (t : Bool) => (Exit.ret, (⟨mkE 12 0 [(6, .dat .bool t)], [some (.box [.dat (.int .i64) x3363]), some (.box [.dat (.int .i64) x3364])]⟩ : St))) := by
  refine Link.of fun K h => ?_
  simp only [impl_goByTurns_1_1_n1, wpO_bind, wpO_cond, wpO_map, wpO_some] at h
  exact Awp.of (by kernel_rfl) h

theorem impl_goByTurns_1_1_e (x3361 : Int) (x3362 : Int) (x3363 : Int) (x3364 : Int) {r : AV} {H' : Heap} (h : (Ans.mk _ (impl_goByTurns_1_1 x3361 x3362 x3363 x3364) (fun (t : Bool) => (.dat .bool t, [some (.box [.dat (.int .i64) x3363]), some (.box [.dat (.int .i64) x3364])]))).run = some (r, H')) : Awp impl_goByTurns_1_1_ctx LL (bodyOf Tryd.f83) impl_goByTurns_1_1_an (⟨mkE 12 0 [(0, .dat (.int .i64) x3361), (1, .dat (.int .i64) x3362), (2, .ptr 0 0), (3, .ptr 1 0)], [some (.box [.dat (.int .i64) x3363]), some (.box [.dat (.int .i64) x3364])]⟩ : St) (Ret (tlook tys) Tryd.f83.results.toList r H') :=
  ret_of' (impl_goByTurns_1_1_n1_l x3361 x3362 x3363 x3364) (by unfold impl_goByTurns_1_1; kernel_rfl) (by
  intro t
  exact ret_mk [.dat .bool t] (by kernel_rfl) (by kernel_rfl) (by kernel_rfl) (by kernel_rfl)) h

def F_impl_goByTurns_1_1 : Fun := fun avs H =>
  match avs, H with
  | [.dat (.int .i64) x3361, .dat (.int .i64) x3362, .ptr 0 0, .ptr 1 0], [some (.box [.dat (.int .i64) x3363]), some (.box [.dat (.int .i64) x3364])] => ⟨_, impl_goByTurns_1_1 x3361 x3362 x3363 x3364, fun (t : Bool) => (.dat .bool t, [some (.box [.dat (.int .i64) x3363]), some (.box [.dat (.int .i64) x3364])])⟩
  | _, _ => Ans.no

theorem impl_goByTurns_1_1_sound : Sound Tryd.prog 83 F_impl_goByTurns_1_1 := by
  refine fn_sound' (C := impl_goByTurns_1_1_ctx) (c := bodyOf Tryd.f83) (cok_of tys_ok (List.forall_mem_cons.2 ⟨impl_CrossOk_sound, by simp⟩) (List.forall_mem_cons.2 ⟨Tryd.call84, by simp⟩) (by kernel_rfl)) Tryd.func83 (by kernel_rfl) LL impl_goByTurns_1_1_an ?_
  intro avs H r H' h
  unfold F_impl_goByTurns_1_1 at h
  split at h
  · refine Awp.cast ?_ ?_ ?_ (impl_goByTurns_1_1_e _ _ _ _ h) <;> kernel_rfl
  · simp [Ans.no, Ans.run] at h


/-! loop.example/headtrees/impl.countPairs[int] (impl_countPairs_int_v2) -/

def impl_countPairs_int_v2_an : Ann := (.seq (.leaf [0, 1]) (.seq (.leaf [0, 1, 5]) (.seq (.seq (.leaf [0, 1, 5, 10, 11, 12]) (.block (.loop (.seq (.leaf [0, 1, 5, 10, 11, 12, 13]) (.seq (.cond (.leaf [0, 1, 5, 10, 11, 12]) (.leaf [5])) (.seq (.block (.seq (.leaf [0, 1, 5, 6, 7, 10, 11, 12]) (.seq (.leaf [0, 1, 5, 7, 10, 11, 12, 20, 21, 22]) (.block (.loop (.seq (.leaf [0, 1, 5, 7, 10, 11, 12, 20, 21, 22, 23]) (.seq (.cond (.leaf [0, 1, 5, 7, 10, 11, 12, 20, 21, 22]) (.leaf [0, 1, 5, 10, 11, 12])) (.seq (.block (.seq (.leaf [0, 1, 5, 7, 9, 10, 11, 12, 20, 21, 22]) (.seq (.leaf [0, 1, 5, 7, 10, 11, 12, 20, 21, 22, 29]) (.cond (.leaf [0, 1, 5, 7, 10, 11, 12, 20, 21, 22]) (.leaf [0, 1, 5, 7, 10, 11, 12, 20, 21, 22]))))) (.leaf [0, 1, 5, 7, 10, 11, 12, 20, 21, 22]))))))))) (.leaf [0, 1, 5, 10, 11, 12]))))))) (.seq (.leaf [4]) (.leaf [4])))))

noncomputable def impl_countPairs_int_v2_ctx : Ctx := ⟨tlook tys, olook [(83, F_impl_goByTurns_1_1)], ioF, 2, false⟩

theorem impl_countPairs_int_v2_n1_l (x3344 : List Int) (x3345 : Int) (x3346 : Int) : Link impl_countPairs_int_v2_ctx LL (Code.seq (Code.fst (bodyOf Tryd.f81)) (Code.fst (Code.snd (bodyOf Tryd.f81)))) (Ann.seq (Ann.fst impl_countPairs_int_v2_an) (Ann.fst (Ann.snd impl_countPairs_int_v2_an))) (⟨mkE 35 0 [(0, .dat (.list (.int .i64)) x3344), (1, .fn 83 [] [.ptr 0 0, .ptr 1 0])], [some (.box [.dat (.int .i64) x3345]), some (.box [.dat (.int .i64) x3346])]⟩ : St) (impl_countPairs_int_v2_n1) (fun (t : Unit) => (Exit.normal, (⟨mkE 35 0 [(0, .dat (.list (.int .i64)) x3344), (1, .fn 83 [] [.ptr 0 0, .ptr 1 0]), (5, .dat (.int .i64) 0)], [some (.box [.dat (.int .i64) x3345]), some (.box [.dat (.int .i64) x3346])]⟩ : St))) := by
  refine Link.of fun K h => ?_
  simp only [impl_countPairs_int_v2_n1, wpO_bind, wpO_cond, wpO_map, wpO_some] at h
  exact Awp.of (by kernel_rfl) h

theorem impl_countPairs_int_v2_n2_l (x3344 : List Int) (x3345 : Int) (x3346 : Int) : Link impl_countPairs_int_v2_ctx LL (Code.fst (Code.fst (Code.snd (Code.snd (bodyOf Tryd.f81))))) (Ann.fst (Ann.fst (Ann.snd (Ann.snd impl_countPairs_int_v2_an)))) (⟨mkE 35 0 [(0, .dat (.list (.int .i64)) x3344), (1, .fn 83 [] [.ptr 0 0, .ptr 1 0]), (5, .dat (.int .i64) 0)], [some (.box [.dat (.int .i64) x3345]), some (.box [.dat (.int .i64) x3346])]⟩ : St) (impl_countPairs_int_v2_n2 x3344) (fun (t : Int) => (Exit.normal, (⟨mkE 35 0 [(0, .dat (.list (.int .i64)) x3344), (1, .fn 83 [] [.ptr 0 0, .ptr 1 0]), (5, .dat (.int .i64) 0), (10, .dat (.list (.int .i64)) x3344), (11, .dat (.int .i64) t), (12, .dat (.int .i64) 0)], [some (.box [.dat (.int .i64) x3345]), some (.box [.dat (.int .i64) x3346])]⟩ : St))) := by
  refine Link.of fun K h => ?_
  simp only [impl_countPairs_int_v2_n2, wpO_bind, wpO_cond, wpO_map, wpO_some] at h
  exact Awp.of (by kernel_rfl) h

theorem impl_countPairs_int_v2_n3_l (x3344 : List Int) (x3429 : Int) (x3347 : Int) (x3430 : Int) (x3345 : Int) (x3346 : Int) : Link impl_countPairs_int_v2_ctx LL (Code.seq (Code.fst (Code.fst (Code.fst (Code.snd (Code.fst (Code.snd (Code.snd (bodyOf Tryd.f81)))))))) (Code.fst (Code.snd (Code.fst (Code.fst (Code.snd (Code.fst (Code.snd (Code.snd (bodyOf Tryd.f81)))))))))) (Ann.seq (Ann.fst (Ann.fst (Ann.fst (Ann.snd (Ann.fst (Ann.snd (Ann.snd impl_countPairs_int_v2_an))))))) (Ann.fst (Ann.snd (Ann.fst (Ann.fst (Ann.snd (Ann.fst (Ann.snd (Ann.snd impl_countPairs_int_v2_an))))))))) (⟨mkE 35 0 [(0, .dat (.list (.int .i64)) x3344), (1, .fn 83 [] [.ptr 0 0, .ptr 1 0]), (5, .dat (.int .i64) x3429), (10, .dat (.list (.int .i64)) x3344), (11, .dat (.int .i64) x3347), (12, .dat (.int .i64) x3430)], [some (.box [.dat (.int .i64) x3345]), some (.box [.dat (.int .i64) x3346])]⟩ : St) (impl_countPairs_int_v2_n3 x3429 x3347 x3430) (Sum.elim (fun (t : Unit) => (Exit.normal, (⟨mkE 35 0 [(0, .dat (.list (.int .i64)) x3344), (1, .fn 83 [] [.ptr 0 0, .ptr 1 0]), (5, .dat (.int .i64) x3429), (10, .dat (.list (.int .i64)) x3344), (11, .dat (.int .i64) x3347), (12, .dat (.int .i64) x3430)], [some (.box [.dat (.int .i64) x3345]), some (.box [.dat (.int .i64) x3346])]⟩ : St))) (fun (t : Int) => ((Exit.exit 0), (⟨mkE 35 0 [(5, .dat (.int .i64) t)], [some (.box [.dat (.int .i64) x3345]), some (.box [.dat (.int .i64) x3346])]⟩ : St)))) := by
  refine Link.of fun K h => ?_
  simp only [impl_countPairs_int_v2_n3, wpO_bind, wpO_cond, wpO_map, wpO_some] at h
  exact Awp.of (by kernel_rfl) h

theorem impl_countPairs_int_v2_n4_l (x3344 : List Int) (x3429 : Int) (x3347 : Int) (x3430 : Int) (x3345 : Int) (x3346 : Int) : Link impl_countPairs_int_v2_ctx LL (Code.seq (Code.fst (Code.fst (Code.fst (Code.snd (Code.snd (Code.fst (Code.fst (Code.snd (Code.fst (Code.snd (Code.snd (bodyOf Tryd.f81)))))))))))) (Code.fst (Code.snd (Code.fst (Code.fst (Code.snd (Code.snd (Code.fst (Code.fst (Code.snd (Code.fst (Code.snd (Code.snd (bodyOf Tryd.f81)))))))))))))) (Ann.seq (Ann.fst (Ann.fst (Ann.fst (Ann.snd (Ann.snd (Ann.fst (Ann.fst (Ann.snd (Ann.fst (Ann.snd (Ann.snd impl_countPairs_int_v2_an))))))))))) (Ann.fst (Ann.snd (Ann.fst (Ann.fst (Ann.snd (Ann.snd (Ann.fst (Ann.fst (Ann.snd (Ann.fst (Ann.snd (Ann.snd impl_countPairs_int_v2_an))))))))))))) (⟨mkE 35 0 [(0, .dat (.list (.int .i64)) x3344), (1, .fn 83 [] [.ptr 0 0, .ptr 1 0]), (5, .dat (.int .i64) x3429), (10, .dat (.list (.int .i64)) x3344), (11, .dat (.int .i64) x3347), (12, .dat (.int .i64) x3430)], [some (.box [.dat (.int .i64) x3345]), some (.box [.dat (.int .i64) x3346])]⟩ : St) (impl_countPairs_int_v2_n4 x3344 x3430) (fun (t : Int × (List Int) × Int) => (Exit.normal, (⟨mkE 35 0 [(0, .dat (.list (.int .i64)) x3344), (1, .fn 83 [] [.ptr 0 0, .ptr 1 0]), (5, .dat (.int .i64) x3429), (7, .dat (.int .i64) t.1), (10, .dat (.list (.int .i64)) x3344), (11, .dat (.int .i64) x3347), (12, .dat (.int .i64) x3430), (20, .dat (.list (.int .i64)) t.2.1), (21, .dat (.int .i64) t.2.2), (22, .dat (.int .i64) 0)], [some (.box [.dat (.int .i64) x3345]), some (.box [.dat (.int .i64) x3346])]⟩ : St))) := by
  refine Link.of fun K h => ?_
  simp only [impl_countPairs_int_v2_n4, wpO_bind, wpO_cond, wpO_map, wpO_some] at h
  exact Awp.of (by kernel_rfl) h

theorem impl_countPairs_int_v2_n5_l (x3344 : List Int) (x3454 : Int) (x3434 : Int) (x3347 : Int) (x3430 : Int) (x3438 : List Int) (x3439 : Int) (x3455 : Int) (x3345 : Int) (x3346 : Int) : Link impl_countPairs_int_v2_ctx LL (Code.fst (Code.fst (Code.snd (Code.snd (Code.fst (Code.fst (Code.snd (Code.snd (Code.fst (Code.fst (Code.snd (Code.fst (Code.snd (Code.snd (bodyOf Tryd.f81))))))))))))))) (Ann.fst (Ann.fst (Ann.snd (Ann.snd (Ann.fst (Ann.fst (Ann.snd (Ann.snd (Ann.fst (Ann.fst (Ann.snd (Ann.fst (Ann.snd (Ann.snd impl_countPairs_int_v2_an)))))))))))))) (⟨mkE 35 0 [(0, .dat (.list (.int .i64)) x3344), (1, .fn 83 [] [.ptr 0 0, .ptr 1 0]), (5, .dat (.int .i64) x3454), (7, .dat (.int .i64) x3434), (10, .dat (.list (.int .i64)) x3344), (11, .dat (.int .i64) x3347), (12, .dat (.int .i64) x3430), (20, .dat (.list (.int .i64)) x3438), (21, .dat (.int .i64) x3439), (22, .dat (.int .i64) x3455)], [some (.box [.dat (.int .i64) x3345]), some (.box [.dat (.int .i64) x3346])]⟩ : St) (impl_countPairs_int_v2_n5 x3454 x3434 x3438 x3439 x3455 x3345 x3346) (Sum.elim (fun (t : Int × Int) => (Exit.normal, (⟨mkE 35 0 [(0, .dat (.list (.int .i64)) x3344), (1, .fn 83 [] [.ptr 0 0, .ptr 1 0]), (5, .dat (.int .i64) t.1), (7, .dat (.int .i64) x3434), (10, .dat (.list (.int .i64)) x3344), (11, .dat (.int .i64) x3347), (12, .dat (.int .i64) x3430), (20, .dat (.list (.int .i64)) x3438), (21, .dat (.int .i64) x3439), (22, .dat (.int .i64) t.2)], [some (.box [.dat (.int .i64) x3345]), some (.box [.dat (.int .i64) x3346])]⟩ : St))) (fun (t : Int) => ((Exit.exit 2), (⟨mkE 35 0 [(0, .dat (.list (.int .i64)) x3344), (1, .fn 83 [] [.ptr 0 0, .ptr 1 0]), (5, .dat (.int .i64) t), (10, .dat (.list (.int .i64)) x3344), (11, .dat (.int .i64) x3347), (12, .dat (.int .i64) x3430)], [some (.box [.dat (.int .i64) x3345]), some (.box [.dat (.int .i64) x3346])]⟩ : St)))) := by
  refine Link.of fun K h => ?_
  simp only [impl_countPairs_int_v2_n5, wpO_bind, wpO_cond, wpO_map, wpO_some] at h
  exact Awp.of (by kernel_rfl) h

theorem impl_countPairs_int_v2_n6_l (x3344 : List Int) (x3429 : Int) (x3434 : Int) (x3347 : Int) (x3430 : Int) (x3438 : List Int) (x3439 : Int) (x3345 : Int) (x3346 : Int) : Link impl_countPairs_int_v2_ctx LL (Code.fst (Code.snd (Code.snd (Code.fst (Code.fst (Code.snd (Code.snd (Code.fst (Code.fst (Code.snd (Code.fst (Code.snd (Code.snd (bodyOf Tryd.f81)))))))))))))) (Ann.fst (Ann.snd (Ann.snd (Ann.fst (Ann.fst (Ann.snd (Ann.snd (Ann.fst (Ann.fst (Ann.snd (Ann.fst (Ann.snd (Ann.snd impl_countPairs_int_v2_an))))))))))))) (⟨mkE 35 0 [(0, .dat (.list (.int .i64)) x3344), (1, .fn 83 [] [.ptr 0 0, .ptr 1 0]), (5, .dat (.int .i64) x3429), (7, .dat (.int .i64) x3434), (10, .dat (.list (.int .i64)) x3344), (11, .dat (.int .i64) x3347), (12, .dat (.int .i64) x3430), (20, .dat (.list (.int .i64)) x3438), (21, .dat (.int .i64) x3439), (22, .dat (.int .i64) 0)], [some (.box [.dat (.int .i64) x3345]), some (.box [.dat (.int .i64) x3346])]⟩ : St) (impl_countPairs_int_v2_n6 x3429 x3434 x3438 x3439 x3345 x3346) (fun (t : Int) => ((Exit.exit 2), (⟨mkE 35 0 [(0, .dat (.list (.int .i64)) x3344), (1, .fn 83 [] [.ptr 0 0, .ptr 1 0]), (5, .dat (.int .i64) t), (10, .dat (.list (.int .i64)) x3344), (11, .dat (.int .i64) x3347), (12, .dat (.int .i64) x3430)], [some (.box [.dat (.int .i64) x3345]), some (.box [.dat (.int .i64) x3346])]⟩ : St))) := by
  unfold impl_countPairs_int_v2_n6
  exact Link.cast (by kernel_rfl) (by kernel_rfl) (link_loop (mk := fun (s : Int × Int) => (⟨mkE 35 0 [(0, .dat (.list (.int .i64)) x3344), (1, .fn 83 [] [.ptr 0 0, .ptr 1 0]), (5, .dat (.int .i64) s.1), (7, .dat (.int .i64) x3434), (10, .dat (.list (.int .i64)) x3344), (11, .dat (.int .i64) x3347), (12, .dat (.int .i64) x3430), (20, .dat (.list (.int .i64)) x3438), (21, .dat (.int .i64) x3439), (22, .dat (.int .i64) s.2)], [some (.box [.dat (.int .i64) x3345]), some (.box [.dat (.int .i64) x3346])]⟩ : St)) (fin := (fun (t : Int) => ((Exit.exit 2), (⟨mkE 35 0 [(0, .dat (.list (.int .i64)) x3344), (1, .fn 83 [] [.ptr 0 0, .ptr 1 0]), (5, .dat (.int .i64) t), (10, .dat (.list (.int .i64)) x3344), (11, .dat (.int .i64) x3347), (12, .dat (.int .i64) x3430)], [some (.box [.dat (.int .i64) x3345]), some (.box [.dat (.int .i64) x3346])]⟩ : St)))) (by
  rintro t f K h
  · exact h) (fun s => link_map (impl_countPairs_int_v2_n5_l x3344 s.1 x3434 x3347 x3430 x3438 x3439 s.2 x3345 x3346) (Sum.elim (fun (t : Int × Int) => Sum.inl (t.1, t.2)) (fun (t : Int) => Sum.inr t)) (by
  rintro (t | t)
  · kernel_rfl
  · kernel_rfl)) (x3429, 0))

theorem impl_countPairs_int_v2_n7_l (x3344 : List Int) (x3429 : Int) (x3434 : Int) (x3347 : Int) (x3430 : Int) (x3438 : List Int) (x3439 : Int) (x3345 : Int) (x3346 : Int) : Link impl_countPairs_int_v2_ctx LL (Code.snd (Code.snd (Code.fst (Code.fst (Code.snd (Code.snd (Code.fst (Code.fst (Code.snd (Code.fst (Code.snd (Code.snd (bodyOf Tryd.f81))))))))))))) (Ann.snd (Ann.snd (Ann.fst (Ann.fst (Ann.snd (Ann.snd (Ann.fst (Ann.fst (Ann.snd (Ann.fst (Ann.snd (Ann.snd impl_countPairs_int_v2_an)))))))))))) (⟨mkE 35 0 [(0, .dat (.list (.int .i64)) x3344), (1, .fn 83 [] [.ptr 0 0, .ptr 1 0]), (5, .dat (.int .i64) x3429), (7, .dat (.int .i64) x3434), (10, .dat (.list (.int .i64)) x3344), (11, .dat (.int .i64) x3347), (12, .dat (.int .i64) x3430), (20, .dat (.list (.int .i64)) x3438), (21, .dat (.int .i64) x3439), (22, .dat (.int .i64) 0)], [some (.box [.dat (.int .i64) x3345]), some (.box [.dat (.int .i64) x3346])]⟩ : St) (impl_countPairs_int_v2_n7 x3429 x3434 x3438 x3439 x3345 x3346) (fun (t : Int) => (Exit.normal, (⟨mkE 35 0 [(0, .dat (.list (.int .i64)) x3344), (1, .fn 83 [] [.ptr 0 0, .ptr 1 0]), (5, .dat (.int .i64) t), (10, .dat (.list (.int .i64)) x3344), (11, .dat (.int .i64) x3347), (12, .dat (.int .i64) x3430)], [some (.box [.dat (.int .i64) x3345]), some (.box [.dat (.int .i64) x3346])]⟩ : St))) := by
  unfold impl_countPairs_int_v2_n7
  exact Link.cast (by kernel_rfl) (by kernel_rfl) (link_block (id := 2) (impl_countPairs_int_v2_n6_l x3344 x3429 x3434 x3347 x3430 x3438 x3439 x3345 x3346) (fun (t : Int) => t) (by
  rintro t K h
  · exact Eq.mp (by kernel_rfl) h))

theorem impl_countPairs_int_v2_n8_l (x3344 : List Int) (x3429 : Int) (x3347 : Int) (x3430 : Int) (x3345 : Int) (x3346 : Int) : Link impl_countPairs_int_v2_ctx LL (Code.fst (Code.fst (Code.snd (Code.snd (Code.fst (Code.fst (Code.snd (Code.fst (Code.snd (Code.snd (bodyOf Tryd.f81))))))))))) (Ann.fst (Ann.fst (Ann.snd (Ann.snd (Ann.fst (Ann.fst (Ann.snd (Ann.fst (Ann.snd (Ann.snd impl_countPairs_int_v2_an)))))))))) (⟨mkE 35 0 [(0, .dat (.list (.int .i64)) x3344), (1, .fn 83 [] [.ptr 0 0, .ptr 1 0]), (5, .dat (.int .i64) x3429), (10, .dat (.list (.int .i64)) x3344), (11, .dat (.int .i64) x3347), (12, .dat (.int .i64) x3430)], [some (.box [.dat (.int .i64) x3345]), some (.box [.dat (.int .i64) x3346])]⟩ : St) (impl_countPairs_int_v2_n8 x3344 x3429 x3430 x3345 x3346) (fun (t : Int) => (Exit.normal, (⟨mkE 35 0 [(0, .dat (.list (.int .i64)) x3344), (1, .fn 83 [] [.ptr 0 0, .ptr 1 0]), (5, .dat (.int .i64) t), (10, .dat (.list (.int .i64)) x3344), (11, .dat (.int .i64) x3347), (12, .dat (.int .i64) x3430)], [some (.box [.dat (.int .i64) x3345]), some (.box [.dat (.int .i64) x3346])]⟩ : St))) := by
  unfold impl_countPairs_int_v2_n8
  exact Link.cast (by kernel_rfl) (by kernel_rfl) (link_group (c := (Code.fst (Code.snd (Code.fst (Code.fst (Code.snd (Code.snd (Code.fst (Code.fst (Code.snd (Code.fst (Code.snd (Code.snd (bodyOf Tryd.f81)))))))))))))) (a := (Ann.fst (Ann.snd (Ann.fst (Ann.fst (Ann.snd (Ann.snd (Ann.fst (Ann.fst (Ann.snd (Ann.fst (Ann.snd (Ann.snd impl_countPairs_int_v2_an))))))))))))) [(Code.fst (Code.fst (Code.fst (Code.snd (Code.snd (Code.fst (Code.fst (Code.snd (Code.fst (Code.snd (Code.snd (bodyOf Tryd.f81))))))))))))] [(Ann.fst (Ann.fst (Ann.fst (Ann.snd (Ann.snd (Ann.fst (Ann.fst (Ann.snd (Ann.fst (Ann.snd (Ann.snd impl_countPairs_int_v2_an)))))))))))] rfl (link_seq (b := (Code.snd (Code.snd (Code.fst (Code.fst (Code.snd (Code.snd (Code.fst (Code.fst (Code.snd (Code.fst (Code.snd (Code.snd (bodyOf Tryd.f81)))))))))))))) (y := (Ann.snd (Ann.snd (Ann.fst (Ann.fst (Ann.snd (Ann.snd (Ann.fst (Ann.fst (Ann.snd (Ann.fst (Ann.snd (Ann.snd impl_countPairs_int_v2_an))))))))))))) (impl_countPairs_int_v2_n4_l x3344 x3429 x3347 x3430 x3345 x3346) (fun (t : Int × (List Int) × Int) => (impl_countPairs_int_v2_n7_l x3344 x3429 t.1 x3347 x3430 t.2.1 t.2.2 x3345 x3346))))

theorem impl_countPairs_int_v2_n9_l (x3344 : List Int) (x3429 : Int) (x3347 : Int) (x3430 : Int) (x3345 : Int) (x3346 : Int) : Link impl_countPairs_int_v2_ctx LL (Code.fst (Code.snd (Code.snd (Code.fst (Code.fst (Code.snd (Code.fst (Code.snd (Code.snd (bodyOf Tryd.f81)))))))))) (Ann.fst (Ann.snd (Ann.snd (Ann.fst (Ann.fst (Ann.snd (Ann.fst (Ann.snd (Ann.snd impl_countPairs_int_v2_an))))))))) (⟨mkE 35 0 [(0, .dat (.list (.int .i64)) x3344), (1, .fn 83 [] [.ptr 0 0, .ptr 1 0]), (5, .dat (.int .i64) x3429), (10, .dat (.list (.int .i64)) x3344), (11, .dat (.int .i64) x3347), (12, .dat (.int .i64) x3430)], [some (.box [.dat (.int .i64) x3345]), some (.box [.dat (.int .i64) x3346])]⟩ : St) (impl_countPairs_int_v2_n9 x3344 x3429 x3430 x3345 x3346) (fun (t : Int) => (Exit.normal, (⟨mkE 35 0 [(0, .dat (.list (.int .i64)) x3344), (1, .fn 83 [] [.ptr 0 0, .ptr 1 0]), (5, .dat (.int .i64) t), (10, .dat (.list (.int .i64)) x3344), (11, .dat (.int .i64) x3347), (12, .dat (.int .i64) x3430)], [some (.box [.dat (.int .i64) x3345]), some (.box [.dat (.int .i64) x3346])]⟩ : St))) := by
  unfold impl_countPairs_int_v2_n9
  exact Link.cast (by kernel_rfl) (by kernel_rfl) (link_block (id := 1) (impl_countPairs_int_v2_n8_l x3344 x3429 x3347 x3430 x3345 x3346) (fun (t : Int) => t) (by
  rintro t K h
  · exact Eq.mp (by kernel_rfl) h))

theorem impl_countPairs_int_v2_n10_l (x3344 : List Int) (x3454 : Int) (x3347 : Int) (x3430 : Int) (x3345 : Int) (x3346 : Int) : Link impl_countPairs_int_v2_ctx LL (Code.snd (Code.snd (Code.snd (Code.fst (Code.fst (Code.snd (Code.fst (Code.snd (Code.snd (bodyOf Tryd.f81)))))))))) (Ann.snd (Ann.snd (Ann.snd (Ann.fst (Ann.fst (Ann.snd (Ann.fst (Ann.snd (Ann.snd impl_countPairs_int_v2_an))))))))) (⟨mkE 35 0 [(0, .dat (.list (.int .i64)) x3344), (1, .fn 83 [] [.ptr 0 0, .ptr 1 0]), (5, .dat (.int .i64) x3454), (10, .dat (.list (.int .i64)) x3344), (11, .dat (.int .i64) x3347), (12, .dat (.int .i64) x3430)], [some (.box [.dat (.int .i64) x3345]), some (.box [.dat (.int .i64) x3346])]⟩ : St) (impl_countPairs_int_v2_n10 x3430) (fun (t : Int) => (Exit.normal, (⟨mkE 35 0 [(0, .dat (.list (.int .i64)) x3344), (1, .fn 83 [] [.ptr 0 0, .ptr 1 0]), (5, .dat (.int .i64) x3454), (10, .dat (.list (.int .i64)) x3344), (11, .dat (.int .i64) x3347), (12, .dat (.int .i64) t)], [some (.box [.dat (.int .i64) x3345]), some (.box [.dat (.int .i64) x3346])]⟩ : St))) := by
  refine Link.of fun K h => ?_
  simp only [impl_countPairs_int_v2_n10, wpO_bind, wpO_cond, wpO_map, wpO_some] at h
  exact Awp.of (by kernel_rfl) h

theorem impl_countPairs_int_v2_n11_l (x3344 : List Int) (x3429 : Int) (x3347 : Int) (x3430 : Int) (x3345 : Int) (x3346 : Int) : Link impl_countPairs_int_v2_ctx LL (Code.snd (Code.snd (Code.fst (Code.fst (Code.snd (Code.fst (Code.snd (Code.snd (bodyOf Tryd.f81))))))))) (Ann.snd (Ann.snd (Ann.fst (Ann.fst (Ann.snd (Ann.fst (Ann.snd (Ann.snd impl_countPairs_int_v2_an)))))))) (⟨mkE 35 0 [(0, .dat (.list (.int .i64)) x3344), (1, .fn 83 [] [.ptr 0 0, .ptr 1 0]), (5, .dat (.int .i64) x3429), (10, .dat (.list (.int .i64)) x3344), (11, .dat (.int .i64) x3347), (12, .dat (.int .i64) x3430)], [some (.box [.dat (.int .i64) x3345]), some (.box [.dat (.int .i64) x3346])]⟩ : St) (impl_countPairs_int_v2_n11 x3344 x3429 x3430 x3345 x3346) (fun (t : Int × Int) => (Exit.normal, (⟨mkE 35 0 [(0, .dat (.list (.int .i64)) x3344), (1, .fn 83 [] [.ptr 0 0, .ptr 1 0]), (5, .dat (.int .i64) t.1), (10, .dat (.list (.int .i64)) x3344), (11, .dat (.int .i64) x3347), (12, .dat (.int .i64) t.2)], [some (.box [.dat (.int .i64) x3345]), some (.box [.dat (.int .i64) x3346])]⟩ : St))) := by
  unfold impl_countPairs_int_v2_n11
  exact Link.cast (by kernel_rfl) (by kernel_rfl) (link_seq (b := (Code.snd (Code.snd (Code.snd (Code.fst (Code.fst (Code.snd (Code.fst (Code.snd (Code.snd (bodyOf Tryd.f81))))))))))) (y := (Ann.snd (Ann.snd (Ann.snd (Ann.fst (Ann.fst (Ann.snd (Ann.fst (Ann.snd (Ann.snd impl_countPairs_int_v2_an)))))))))) (impl_countPairs_int_v2_n9_l x3344 x3429 x3347 x3430 x3345 x3346) (fun (t : Int) => (link_map (impl_countPairs_int_v2_n10_l x3344 t x3347 x3430 x3345 x3346) (fun (u : Int) => (t, u)) (by
  rintro t
  · kernel_rfl))))

theorem impl_countPairs_int_v2_n12_l (x3344 : List Int) (x3429 : Int) (x3347 : Int) (x3430 : Int) (x3345 : Int) (x3346 : Int) : Link impl_countPairs_int_v2_ctx LL (Code.fst (Code.fst (Code.snd (Code.fst (Code.snd (Code.snd (bodyOf Tryd.f81))))))) (Ann.fst (Ann.fst (Ann.snd (Ann.fst (Ann.snd (Ann.snd impl_countPairs_int_v2_an)))))) (⟨mkE 35 0 [(0, .dat (.list (.int .i64)) x3344), (1, .fn 83 [] [.ptr 0 0, .ptr 1 0]), (5, .dat (.int .i64) x3429), (10, .dat (.list (.int .i64)) x3344), (11, .dat (.int .i64) x3347), (12, .dat (.int .i64) x3430)], [some (.box [.dat (.int .i64) x3345]), some (.box [.dat (.int .i64) x3346])]⟩ : St) (impl_countPairs_int_v2_n12 x3344 x3429 x3347 x3430 x3345 x3346) (Sum.elim (fun (t : Int × Int) => (Exit.normal, (⟨mkE 35 0 [(0, .dat (.list (.int .i64)) x3344), (1, .fn 83 [] [.ptr 0 0, .ptr 1 0]), (5, .dat (.int .i64) t.1), (10, .dat (.list (.int .i64)) x3344), (11, .dat (.int .i64) x3347), (12, .dat (.int .i64) t.2)], [some (.box [.dat (.int .i64) x3345]), some (.box [.dat (.int .i64) x3346])]⟩ : St))) (fun (t : Int) => ((Exit.exit 0), (⟨mkE 35 0 [(5, .dat (.int .i64) t)], [some (.box [.dat (.int .i64) x3345]), some (.box [.dat (.int .i64) x3346])]⟩ : St)))) := by
  unfold impl_countPairs_int_v2_n12
  exact Link.cast (by kernel_rfl) (by kernel_rfl) (link_group (c := (Code.fst (Code.snd (Code.fst (Code.fst (Code.snd (Code.fst (Code.snd (Code.snd (bodyOf Tryd.f81)))))))))) (a := (Ann.fst (Ann.snd (Ann.fst (Ann.fst (Ann.snd (Ann.fst (Ann.snd (Ann.snd impl_countPairs_int_v2_an))))))))) [(Code.fst (Code.fst (Code.fst (Code.snd (Code.fst (Code.snd (Code.snd (bodyOf Tryd.f81))))))))] [(Ann.fst (Ann.fst (Ann.fst (Ann.snd (Ann.fst (Ann.snd (Ann.snd impl_countPairs_int_v2_an)))))))] rfl (link_seq2 (b := (Code.snd (Code.snd (Code.fst (Code.fst (Code.snd (Code.fst (Code.snd (Code.snd (bodyOf Tryd.f81)))))))))) (y := (Ann.snd (Ann.snd (Ann.fst (Ann.fst (Ann.snd (Ann.fst (Ann.snd (Ann.snd impl_countPairs_int_v2_an))))))))) (impl_countPairs_int_v2_n3_l x3344 x3429 x3347 x3430 x3345 x3346) (fun (t : Unit) => (link_map (impl_countPairs_int_v2_n11_l x3344 x3429 x3347 x3430 x3345 x3346) (fun (t : Int × Int) => (Sum.inl (t.1, t.2))) (by
  rintro t
  · kernel_rfl))) (fun (t : Int) => (Sum.inr t)) (by
  rintro t
  · kernel_rfl) (by
  rintro t f K h
  · exact h)))

theorem impl_countPairs_int_v2_n13_l (x3344 : List Int) (x3347 : Int) (x3345 : Int) (x3346 : Int) : Link impl_countPairs_int_v2_ctx LL (Code.fst (Code.snd (Code.fst (Code.snd (Code.snd (bodyOf Tryd.f81)))))) (Ann.fst (Ann.snd (Ann.fst (Ann.snd (Ann.snd impl_countPairs_int_v2_an))))) (⟨mkE 35 0 [(0, .dat (.list (.int .i64)) x3344), (1, .fn 83 [] [.ptr 0 0, .ptr 1 0]), (5, .dat (.int .i64) 0), (10, .dat (.list (.int .i64)) x3344), (11, .dat (.int .i64) x3347), (12, .dat (.int .i64) 0)], [some (.box [.dat (.int .i64) x3345]), some (.box [.dat (.int .i64) x3346])]⟩ : St) (impl_countPairs_int_v2_n13 x3344 x3347 x3345 x3346) (fun (t : Int) => ((Exit.exit 0), (⟨mkE 35 0 [(5, .dat (.int .i64) t)], [some (.box [.dat (.int .i64) x3345]), some (.box [.dat (.int .i64) x3346])]⟩ : St))) := by
  unfold impl_countPairs_int_v2_n13
  exact Link.cast (by kernel_rfl) (by kernel_rfl) (link_loop (mk := fun (s : Int × Int) => (⟨mkE 35 0 [(0, .dat (.list (.int .i64)) x3344), (1, .fn 83 [] [.ptr 0 0, .ptr 1 0]), (5, .dat (.int .i64) s.1), (10, .dat (.list (.int .i64)) x3344), (11, .dat (.int .i64) x3347), (12, .dat (.int .i64) s.2)], [some (.box [.dat (.int .i64) x3345]), some (.box [.dat (.int .i64) x3346])]⟩ : St)) (fin := (fun (t : Int) => ((Exit.exit 0), (⟨mkE 35 0 [(5, .dat (.int .i64) t)], [some (.box [.dat (.int .i64) x3345]), some (.box [.dat (.int .i64) x3346])]⟩ : St)))) (by
  rintro t f K h
  · exact h) (fun s => link_map (impl_countPairs_int_v2_n12_l x3344 s.1 x3347 s.2 x3345 x3346) (Sum.elim (fun (t : Int × Int) => Sum.inl (t.1, t.2)) (fun (t : Int) => Sum.inr t)) (by
  rintro (t | t)
  · kernel_rfl
  · kernel_rfl)) (0, 0))

theorem impl_countPairs_int_v2_n14_l (x3344 : List Int) (x3347 : Int) (x3345 : Int) (x3346 : Int) : Link impl_countPairs_int_v2_ctx LL (Code.snd (Code.fst (Code.snd (Code.snd (bodyOf Tryd.f81))))) (Ann.snd (Ann.fst (Ann.snd (Ann.snd impl_countPairs_int_v2_an)))) (⟨mkE 35 0 [(0, .dat (.list (.int .i64)) x3344), (1, .fn 83 [] [.ptr 0 0, .ptr 1 0]), (5, .dat (.int .i64) 0), (10, .dat (.list (.int .i64)) x3344), (11, .dat (.int .i64) x3347), (12, .dat (.int .i64) 0)], [some (.box [.dat (.int .i64) x3345]), some (.box [.dat (.int .i64) x3346])]⟩ : St) (impl_countPairs_int_v2_n14 x3344 x3347 x3345 x3346) (fun (t : Int) => (Exit.normal, (⟨mkE 35 0 [(5, .dat (.int .i64) t)], [some (.box [.dat (.int .i64) x3345]), some (.box [.dat (.int .i64) x3346])]⟩ : St))) := by
  unfold impl_countPairs_int_v2_n14
  exact Link.cast (by kernel_rfl) (by kernel_rfl) (link_block (id := 0) (impl_countPairs_int_v2_n13_l x3344 x3347 x3345 x3346) (fun (t : Int) => t) (by
  rintro t K h
  · exact Eq.mp (by kernel_rfl) h))

theorem impl_countPairs_int_v2_n15_l (x3344 : List Int) (x3345 : Int) (x3346 : Int) : Link impl_countPairs_int_v2_ctx LL (Code.fst (Code.snd (Code.snd (bodyOf Tryd.f81)))) (Ann.fst (Ann.snd (Ann.snd impl_countPairs_int_v2_an))) (⟨mkE 35 0 [(0, .dat (.list (.int .i64)) x3344), (1, .fn 83 [] [.ptr 0 0, .ptr 1 0]), (5, .dat (.int .i64) 0)], [some (.box [.dat (.int .i64) x3345]), some (.box [.dat (.int .i64) x3346])]⟩ : St) (impl_countPairs_int_v2_n15 x3344 x3345 x3346) (fun (t : Int) => (Exit.normal, (⟨mkE 35 0 [(5, .dat (.int .i64) t)], [some (.box [.dat (.int .i64) x3345]), some (.box [.dat (.int .i64) x3346])]⟩ : St))) := by
  unfold impl_countPairs_int_v2_n15
  exact Link.cast (by kernel_rfl) (by kernel_rfl) (link_seq (b := (Code.snd (Code.fst (Code.snd (Code.snd (bodyOf Tryd.f81)))))) (y := (Ann.snd (Ann.fst (Ann.snd (Ann.snd impl_countPairs_int_v2_an))))) (impl_countPairs_int_v2_n2_l x3344 x3345 x3346) (fun (t : Int) => (impl_countPairs_int_v2_n14_l x3344 t x3345 x3346)))

theorem impl_countPairs_int_v2_n16_l (x3429 : Int) (x3345 : Int) (x3346 : Int) : Link impl_countPairs_int_v2_ctx LL (Code.snd (Code.snd (Code.snd (bodyOf Tryd.f81)))) (Ann.snd (Ann.snd (Ann.snd impl_countPairs_int_v2_an))) (⟨mkE 35 0 [(5, .dat (.int .i64) x3429)], [some (.box [.dat (.int .i64) x3345]), some (.box [.dat (.int .i64) x3346])]⟩ : St) (impl_countPairs_int_v2_n16 x3429) (fun (t : Int) => (Exit.ret, (⟨mkE 35 0 [(4, .dat (.int .i64) t)], [some (.box [.dat (.int .i64) x3345]), some (.box [.dat (.int .i64) x3346])]⟩ : St))) := by
  refine Link.of fun K h => ?_
  simp only [impl_countPairs_int_v2_n16, wpO_bind, wpO_cond, wpO_map, wpO_some] at h
  exact Awp.of (by kernel_rfl) h

theorem impl_countPairs_int_v2_n17_l (x3344 : List Int) (x3345 : Int) (x3346 : Int) : Link impl_countPairs_int_v2_ctx LL (Code.snd (Code.snd (bodyOf Tryd.f81))) (Ann.snd (Ann.snd impl_countPairs_int_v2_an)) (⟨mkE 35 0 [(0, .dat (.list (.int .i64)) x3344), (1, .fn 83 [] [.ptr 0 0, .ptr 1 0]), (5, .dat (.int .i64) 0)], [some (.box [.dat (.int .i64) x3345]), some (.box [.dat (.int .i64) x3346])]⟩ : St) (impl_countPairs_int_v2_n17 x3344 x3345 x3346) (fun (t : Int) => (Exit.ret, (⟨mkE 35 0 [(4, .dat (.int .i64) t)], [some (.box [.dat (.int .i64) x3345]), some (.box [.dat (.int .i64) x3346])]⟩ : St))) := by
  unfold impl_countPairs_int_v2_n17
  exact Link.cast (by kernel_rfl) (by kernel_rfl) (link_seq (b := (Code.snd (Code.snd (Code.snd (bodyOf Tryd.f81))))) (y := (Ann.snd (Ann.snd (Ann.snd impl_countPairs_int_v2_an)))) (impl_countPairs_int_v2_n15_l x3344 x3345 x3346) (fun (t : Int) => (impl_countPairs_int_v2_n16_l t x3345 x3346)))

theorem impl_countPairs_int_v2_n18_l (x3344 : List Int) (x3345 : Int) (x3346 : Int) : Link impl_countPairs_int_v2_ctx LL (bodyOf Tryd.f81) impl_countPairs_int_v2_an (⟨mkE 35 0 [(0, .dat (.list (.int .i64)) x3344), (1, .fn 83 [] [.ptr 0 0, .ptr 1 0])], [some (.box [.dat (.int .i64) x3345]), some (.box [.dat (.int .i64) x3346])]⟩ : St) (impl_countPairs_int_v2_n18 x3344 x3345 x3346) (fun (t : Int) => (Exit.ret, (⟨mkE 35 0 [(4, .dat (.int .i64) t)], [some (.box [.dat (.int .i64) x3345]), some (.box [.dat (.int .i64) x3346])]⟩ : St))) := by
  unfold impl_countPairs_int_v2_n18
  exact Link.cast (by kernel_rfl) (by kernel_rfl) (link_group (c := (Code.fst (Code.snd (bodyOf Tryd.f81)))) (a := (Ann.fst (Ann.snd impl_countPairs_int_v2_an))) [(Code.fst (bodyOf Tryd.f81))] [(Ann.fst impl_countPairs_int_v2_an)] rfl (link_seq (b := (Code.snd (Code.snd (bodyOf Tryd.f81)))) (y := (Ann.snd (Ann.snd impl_countPairs_int_v2_an))) (impl_countPairs_int_v2_n1_l x3344 x3345 x3346) (fun (t : Unit) => (impl_countPairs_int_v2_n17_l x3344 x3345 x3346))))

theorem impl_countPairs_int_v2_e (x3344 : List Int) (x3345 : Int) (x3346 : Int) {r : AV} {H' : Heap} (h : (Ans.mk _ (impl_countPairs_int_v2 x3344 x3345 x3346) (fun (t : Int) => (.dat (.int .i64) t, [some (.box [.dat (.int .i64) x3345]), some (.box [.dat (.int .i64) x3346])]))).run = some (r, H')) : Awp impl_countPairs_int_v2_ctx LL (bodyOf Tryd.f81) impl_countPairs_int_v2_an (⟨mkE 35 0 [(0, .dat (.list (.int .i64)) x3344), (1, .fn 83 [] [.ptr 0 0, .ptr 1 0])], [some (.box [.dat (.int .i64) x3345]), some (.box [.dat (.int .i64) x3346])]⟩ : St) (Ret (tlook tys) Tryd.f81.results.toList r H') :=
  ret_of' (impl_countPairs_int_v2_n18_l x3344 x3345 x3346) (by unfold impl_countPairs_int_v2; kernel_rfl) (by
  intro t
  exact ret_mk [.dat (.int .i64) t] (by kernel_rfl) (by kernel_rfl) (by kernel_rfl) (by kernel_rfl)) h

def F_impl_countPairs_int_v2 : Fun := fun avs H =>
  match avs, H with
  | [.dat (.list (.int .i64)) x3344, .fn 83 [] [.ptr 0 0, .ptr 1 0]], [some (.box [.dat (.int .i64) x3345]), some (.box [.dat (.int .i64) x3346])] => ⟨_, impl_countPairs_int_v2 x3344 x3345 x3346, fun (t : Int) => (.dat (.int .i64) t, [some (.box [.dat (.int .i64) x3345]), some (.box [.dat (.int .i64) x3346])])⟩
  | _, _ => Ans.no

theorem impl_countPairs_int_v2_sound : Sound Tryd.prog 81 F_impl_countPairs_int_v2 := by
  refine fn_sound' (C := impl_countPairs_int_v2_ctx) (c := bodyOf Tryd.f81) (cok_of tys_ok (List.forall_mem_cons.2 ⟨impl_goByTurns_1_1_sound, by simp⟩) (List.forall_mem_cons.2 ⟨Tryd.call83, by simp⟩) (by kernel_rfl)) Tryd.func81 (by kernel_rfl) LL impl_countPairs_int_v2_an ?_
  intro avs H r H' h
  unfold F_impl_countPairs_int_v2 at h
  split at h
  · refine Awp.cast ?_ ?_ ?_ (impl_countPairs_int_v2_e _ _ _ h) <;> kernel_rfl
  · simp [Ans.no, Ans.run] at h


/-! loop.example/headtrees/impl.goByTurns$1 -/

def impl_goByTurns_1_an : Ann := (.seq (.leaf [2, 3, 4]) (.seq (.leaf [5]) (.leaf [5])))

noncomputable def impl_goByTurns_1_ctx : Ctx := ⟨tlook tys, olook [(81, F_impl_countPairs_int_v2)], ioF, 2, false⟩

theorem impl_goByTurns_1_n1_l (x3341 : Int) (x3342 : Int) (x3343 : List Int) : Link impl_goByTurns_1_ctx LL (bodyOf Tryd.f82) impl_goByTurns_1_an (⟨mkE 10 0 [(0, .dat (.int .i64) x3341), (1, .dat (.int .i64) x3342), (2, .ptr 0 0)], [some (.box [.slc 1]), some (.seq (.int .i64) x3343)]⟩ : St) (impl_goByTurns_1_n1 x3341 x3342 x3343) (fun (t : Bool) => (Exit.ret, (⟨mkE 10 0 [(5, .dat .bool t)], [some (.box [.slc 1]), some (.seq (.int .i64) x3343)]⟩ : St))) := by
  refine Link.of fun K h => ?_
  simp only [impl_goByTurns_1_n1, wpO_bind, wpO_cond, wpO_map, wpO_some] at h
  exact Awp.of (by kernel_rfl) h

theorem impl_goByTurns_1_e (x3341 : Int) (x3342 : Int) (x3343 : List Int) {r : AV} {H' : Heap} (h : (Ans.mk _ (impl_goByTurns_1 x3341 x3342 x3343) (fun (t : Bool) => (.dat .bool t, [some (.box [.slc 1]), some (.seq (.int .i64) x3343)]))).run = some (r, H')) : Awp impl_goByTurns_1_ctx LL (bodyOf Tryd.f82) impl_goByTurns_1_an (⟨mkE 10 0 [(0, .dat (.int .i64) x3341), (1, .dat (.int .i64) x3342), (2, .ptr 0 0)], [some (.box [.slc 1]), some (.seq (.int .i64) x3343)]⟩ : St) (Ret (tlook tys) Tryd.f82.results.toList r H') :=
  ret_of' (impl_goByTurns_1_n1_l x3341 x3342 x3343) (by unfold impl_goByTurns_1; kernel_rfl) (by
  intro t
  exact ret_mk [.dat .bool t] (by kernel_rfl) (by kernel_rfl) (by kernel_rfl) (by kernel_rfl)) h

def F_impl_goByTurns_1 : Fun := fun avs H =>
  match avs, H with
  | [.dat (.int .i64) x3341, .dat (.int .i64) x3342, .ptr 0 0], [some (.box [.slc 1]), some (.seq (.int .i64) x3343)] => ⟨_, impl_goByTurns_1 x3341 x3342 x3343, fun (t : Bool) => (.dat .bool t, [some (.box [.slc 1]), some (.seq (.int .i64) x3343)])⟩
  | _, _ => Ans.no

theorem impl_goByTurns_1_sound : Sound Tryd.prog 82 F_impl_goByTurns_1 := by
  refine fn_sound' (C := impl_goByTurns_1_ctx) (c := bodyOf Tryd.f82) (cok_of tys_ok (List.forall_mem_cons.2 ⟨impl_countPairs_int_v2_sound, by simp⟩) (List.forall_mem_cons.2 ⟨Tryd.call81, by simp⟩) (by kernel_rfl)) Tryd.func82 (by kernel_rfl) LL impl_goByTurns_1_an ?_
  intro avs H r H' h
  unfold F_impl_goByTurns_1 at h
  split at h
  · refine Awp.cast ?_ ?_ ?_ (impl_goByTurns_1_e _ _ _ h) <;> kernel_rfl
  · simp [Ans.no, Ans.run] at h


/-! loop.example/headtrees/impl.countPairs[int] -/

def impl_countPairs_int_an : Ann := (.seq (.leaf [0, 1]) (.seq (.leaf [0, 1, 5]) (.seq (.seq (.leaf [0, 1, 5, 10, 11, 12]) (.block (.loop (.seq (.leaf [0, 1, 5, 10, 11, 12, 13]) (.seq (.cond (.leaf [0, 1, 5, 10, 11, 12]) (.leaf [5])) (.seq (.block (.seq (.leaf [0, 1, 5, 6, 7, 10, 11, 12]) (.seq (.leaf [0, 1, 5, 7, 10, 11, 12, 20, 21, 22]) (.block (.loop (.seq (.leaf [0, 1, 5, 7, 10, 11, 12, 20, 21, 22, 23]) (.seq (.cond (.leaf [0, 1, 5, 7, 10, 11, 12, 20, 21, 22]) (.leaf [0, 1, 5, 10, 11, 12])) (.seq (.block (.seq (.leaf [0, 1, 5, 7, 9, 10, 11, 12, 20, 21, 22]) (.seq (.leaf [0, 1, 5, 7, 10, 11, 12, 20, 21, 22, 29]) (.cond (.leaf [0, 1, 5, 7, 10, 11, 12, 20, 21, 22]) (.leaf [0, 1, 5, 7, 10, 11, 12, 20, 21, 22]))))) (.leaf [0, 1, 5, 7, 10, 11, 12, 20, 21, 22]))))))))) (.leaf [0, 1, 5, 10, 11, 12]))))))) (.seq (.leaf [4]) (.leaf [4])))))

noncomputable def impl_countPairs_int_ctx : Ctx := ⟨tlook tys, olook [(82, F_impl_goByTurns_1)], ioF, 2, false⟩

theorem impl_countPairs_int_n1_l (x3325 : List Int) (x3326 : List Int) : Link impl_countPairs_int_ctx LL (Code.seq (Code.fst (bodyOf Tryd.f81)) (Code.fst (Code.snd (bodyOf Tryd.f81)))) (Ann.seq (Ann.fst impl_countPairs_int_an) (Ann.fst (Ann.snd impl_countPairs_int_an))) (⟨mkE 35 0 [(0, .dat (.list (.int .i64)) x3325), (1, .fn 82 [] [.ptr 0 0])], [some (.box [.slc 1]), some (.seq (.int .i64) x3326)]⟩ : St) (impl_countPairs_int_n1) (fun (t : Unit) => (Exit.normal, (⟨mkE 35 0 [(0, .dat (.list (.int .i64)) x3325), (1, .fn 82 [] [.ptr 0 0]), (5, .dat (.int .i64) 0)], [some (.box [.slc 1]), some (.seq (.int .i64) x3326)]⟩ : St))) := by
  refine Link.of fun K h => ?_
  simp only [impl_countPairs_int_n1, wpO_bind, wpO_cond, wpO_map, wpO_some] at h
  exact Awp.of (by kernel_rfl) h

theorem impl_countPairs_int_n2_l (x3325 : List Int) (x3326 : List Int) : Link impl_countPairs_int_ctx LL (Code.fst (Code.fst (Code.snd (Code.snd (bodyOf Tryd.f81))))) (Ann.fst (Ann.fst (Ann.snd (Ann.snd impl_countPairs_int_an)))) (⟨mkE 35 0 [(0, .dat (.list (.int .i64)) x3325), (1, .fn 82 [] [.ptr 0 0]), (5, .dat (.int .i64) 0)], [some (.box [.slc 1]), some (.seq (.int .i64) x3326)]⟩ : St) (impl_countPairs_int_n2 x3325) (fun (t : Int) => (Exit.normal, (⟨mkE 35 0 [(0, .dat (.list (.int .i64)) x3325), (1, .fn 82 [] [.ptr 0 0]), (5, .dat (.int .i64) 0), (10, .dat (.list (.int .i64)) x3325), (11, .dat (.int .i64) t), (12, .dat (.int .i64) 0)], [some (.box [.slc 1]), some (.seq (.int .i64) x3326)]⟩ : St))) := by
  refine Link.of fun K h => ?_
  simp only [impl_countPairs_int_n2, wpO_bind, wpO_cond, wpO_map, wpO_some] at h
  exact Awp.of (by kernel_rfl) h

theorem impl_countPairs_int_n3_l (x3325 : List Int) (x3502 : Int) (x3327 : Int) (x3503 : Int) (x3326 : List Int) : Link impl_countPairs_int_ctx LL (Code.seq (Code.fst (Code.fst (Code.fst (Code.snd (Code.fst (Code.snd (Code.snd (bodyOf Tryd.f81)))))))) (Code.fst (Code.snd (Code.fst (Code.fst (Code.snd (Code.fst (Code.snd (Code.snd (bodyOf Tryd.f81)))))))))) (Ann.seq (Ann.fst (Ann.fst (Ann.fst (Ann.snd (Ann.fst (Ann.snd (Ann.snd impl_countPairs_int_an))))))) (Ann.fst (Ann.snd (Ann.fst (Ann.fst (Ann.snd (Ann.fst (Ann.snd (Ann.snd impl_countPairs_int_an))))))))) (⟨mkE 35 0 [(0, .dat (.list (.int .i64)) x3325), (1, .fn 82 [] [.ptr 0 0]), (5, .dat (.int .i64) x3502), (10, .dat (.list (.int .i64)) x3325), (11, .dat (.int .i64) x3327), (12, .dat (.int .i64) x3503)], [some (.box [.slc 1]), some (.seq (.int .i64) x3326)]⟩ : St) (impl_countPairs_int_n3 x3502 x3327 x3503) (Sum.elim (fun (t : Unit) => (Exit.normal, (⟨mkE 35 0 [(0, .dat (.list (.int .i64)) x3325), (1, .fn 82 [] [.ptr 0 0]), (5, .dat (.int .i64) x3502), (10, .dat (.list (.int .i64)) x3325), (11, .dat (.int .i64) x3327), (12, .dat (.int .i64) x3503)], [some (.box [.slc 1]), some (.seq (.int .i64) x3326)]⟩ : St))) (fun (t : Int) => ((Exit.exit 0), (⟨mkE 35 0 [(5, .dat (.int .i64) t)], [some (.box [.slc 1]), some (.seq (.int .i64) x3326)]⟩ : St)))) := by
  refine Link.of fun K h => ?_
  simp only [impl_countPairs_int_n3, wpO_bind, wpO_cond, wpO_map, wpO_some] at h
  exact Awp.of (by kernel_rfl) h

theorem impl_countPairs_int_n4_l (x3325 : List Int) (x3502 : Int) (x3327 : Int) (x3503 : Int) (x3326 : List Int) : Link impl_countPairs_int_ctx LL (Code.seq (Code.fst (Code.fst (Code.fst (Code.snd (Code.snd (Code.fst (Code.fst (Code.snd (Code.fst (Code.snd (Code.snd (bodyOf Tryd.f81)))))))))))) (Code.fst (Code.snd (Code.fst (Code.fst (Code.snd (Code.snd (Code.fst (Code.fst (Code.snd (Code.fst (Code.snd (Code.snd (bodyOf Tryd.f81)))))))))))))) (Ann.seq (Ann.fst (Ann.fst (Ann.fst (Ann.snd (Ann.snd (Ann.fst (Ann.fst (Ann.snd (Ann.fst (Ann.snd (Ann.snd impl_countPairs_int_an))))))))))) (Ann.fst (Ann.snd (Ann.fst (Ann.fst (Ann.snd (Ann.snd (Ann.fst (Ann.fst (Ann.snd (Ann.fst (Ann.snd (Ann.snd impl_countPairs_int_an))))))))))))) (⟨mkE 35 0 [(0, .dat (.list (.int .i64)) x3325), (1, .fn 82 [] [.ptr 0 0]), (5, .dat (.int .i64) x3502), (10, .dat (.list (.int .i64)) x3325), (11, .dat (.int .i64) x3327), (12, .dat (.int .i64) x3503)], [some (.box [.slc 1]), some (.seq (.int .i64) x3326)]⟩ : St) (impl_countPairs_int_n4 x3325 x3503) (fun (t : Int × (List Int) × Int) => (Exit.normal, (⟨mkE 35 0 [(0, .dat (.list (.int .i64)) x3325), (1, .fn 82 [] [.ptr 0 0]), (5, .dat (.int .i64) x3502), (7, .dat (.int .i64) t.1), (10, .dat (.list (.int .i64)) x3325), (11, .dat (.int .i64) x3327), (12, .dat (.int .i64) x3503), (20, .dat (.list (.int .i64)) t.2.1), (21, .dat (.int .i64) t.2.2), (22, .dat (.int .i64) 0)], [some (.box [.slc 1]), some (.seq (.int .i64) x3326)]⟩ : St))) := by
  refine Link.of fun K h => ?_
  simp only [impl_countPairs_int_n4, wpO_bind, wpO_cond, wpO_map, wpO_some] at h
  exact Awp.of (by kernel_rfl) h

theorem impl_countPairs_int_n5_l (x3325 : List Int) (x3527 : Int) (x3507 : Int) (x3327 : Int) (x3503 : Int) (x3511 : List Int) (x3512 : Int) (x3528 : Int) (x3326 : List Int) : Link impl_countPairs_int_ctx LL (Code.fst (Code.fst (Code.snd (Code.snd (Code.fst (Code.fst (Code.snd (Code.snd (Code.fst (Code.fst (Code.snd (Code.fst (Code.snd (Code.snd (bodyOf Tryd.f81))))))))))))))) (Ann.fst (Ann.fst (Ann.snd (Ann.snd (Ann.fst (Ann.fst (Ann.snd (Ann.snd (Ann.fst (Ann.fst (Ann.snd (Ann.fst (Ann.snd (Ann.snd impl_countPairs_int_an)))))))))))))) (⟨mkE 35 0 [(0, .dat (.list (.int .i64)) x3325), (1, .fn 82 [] [.ptr 0 0]), (5, .dat (.int .i64) x3527), (7, .dat (.int .i64) x3507), (10, .dat (.list (.int .i64)) x3325), (11, .dat (.int .i64) x3327), (12, .dat (.int .i64) x3503), (20, .dat (.list (.int .i64)) x3511), (21, .dat (.int .i64) x3512), (22, .dat (.int .i64) x3528)], [some (.box [.slc 1]), some (.seq (.int .i64) x3326)]⟩ : St) (impl_countPairs_int_n5 x3527 x3507 x3511 x3512 x3528 x3326) (Sum.elim (fun (t : Int × Int) => (Exit.normal, (⟨mkE 35 0 [(0, .dat (.list (.int .i64)) x3325), (1, .fn 82 [] [.ptr 0 0]), (5, .dat (.int .i64) t.1), (7, .dat (.int .i64) x3507), (10, .dat (.list (.int .i64)) x3325), (11, .dat (.int .i64) x3327), (12, .dat (.int .i64) x3503), (20, .dat (.list (.int .i64)) x3511), (21, .dat (.int .i64) x3512), (22, .dat (.int .i64) t.2)], [some (.box [.slc 1]), some (.seq (.int .i64) x3326)]⟩ : St))) (fun (t : Int) => ((Exit.exit 2), (⟨mkE 35 0 [(0, .dat (.list (.int .i64)) x3325), (1, .fn 82 [] [.ptr 0 0]), (5, .dat (.int .i64) t), (10, .dat (.list (.int .i64)) x3325), (11, .dat (.int .i64) x3327), (12, .dat (.int .i64) x3503)], [some (.box [.slc 1]), some (.seq (.int .i64) x3326)]⟩ : St)))) := by
  refine Link.of fun K h => ?_
  simp only [impl_countPairs_int_n5, wpO_bind, wpO_cond, wpO_map, wpO_some] at h
  exact Awp.of (by kernel_rfl) h

theorem impl_countPairs_int_n6_l (x3325 : List Int) (x3502 : Int) (x3507 : Int) (x3327 : Int) (x3503 : Int) (x3511 : List Int) (x3512 : Int) (x3326 : List Int) : Link impl_countPairs_int_ctx LL (Code.fst (Code.snd (Code.snd (Code.fst (Code.fst (Code.snd (Code.snd (Code.fst (Code.fst (Code.snd (Code.fst (Code.snd (Code.snd (bodyOf Tryd.f81)))))))))))))) (Ann.fst (Ann.snd (Ann.snd (Ann.fst (Ann.fst (Ann.snd (Ann.snd (Ann.fst (Ann.fst (Ann.snd (Ann.fst (Ann.snd (Ann.snd impl_countPairs_int_an))))))))))))) (⟨mkE 35 0 [(0, .dat (.list (.int .i64)) x3325), (1, .fn 82 [] [.ptr 0 0]), (5, .dat (.int .i64) x3502), (7, .dat (.int .i64) x3507), (10, .dat (.list (.int .i64)) x3325), (11, .dat (.int .i64) x3327), (12, .dat (.int .i64) x3503), (20, .dat (.list (.int .i64)) x3511), (21, .dat (.int .i64) x3512), (22, .dat (.int .i64) 0)], [some (.box [.slc 1]), some (.seq (.int .i64) x3326)]⟩ : St) (impl_countPairs_int_n6 x3502 x3507 x3511 x3512 x3326) (fun (t : Int) => ((Exit.exit 2), (⟨mkE 35 0 [(0, .dat (.list (.int .i64)) x3325), (1, .fn 82 [] [.ptr 0 0]), (5, .dat (.int .i64) t), (10, .dat (.list (.int .i64)) x3325), (11, .dat (.int .i64) x3327), (12, .dat (.int .i64) x3503)], [some (.box [.slc 1]), some (.seq (.int .i64) x3326)]⟩ : St))) := by
  unfold impl_countPairs_int_n6
  exact Link.cast (by kernel_rfl) (by kernel_rfl) (link_loop (mk := fun (s : Int × Int) => (⟨mkE 35 0 [(0, .dat (.list (.int .i64)) x3325), (1, .fn 82 [] [.ptr 0 0]), (5, .dat (.int .i64) s.1), (7, .dat (.int .i64) x3507), (10, .dat (.list (.int .i64)) x3325), (11, .dat (.int .i64) x3327), (12, .dat (.int .i64) x3503), (20, .dat (.list (.int .i64)) x3511), (21, .dat (.int .i64) x3512), (22, .dat (.int .i64) s.2)], [some (.box [.slc 1]), some (.seq (.int .i64) x3326)]⟩ : St)) (fin := (fun (t : Int) => ((Exit.exit 2), (⟨mkE 35 0 [(0, .dat (.list (.int .i64)) x3325), (1, .fn 82 [] [.ptr 0 0]), (5, .dat (.int .i64) t), (10, .dat (.list (.int .i64)) x3325), (11, .dat (.int .i64) x3327), (12, .dat (.int .i64) x3503)], [some (.box [.slc 1]), some (.seq (.int .i64) x3326)]⟩ : St)))) (by
  rintro t f K h
  · exact h) (fun s => link_map (impl_countPairs_int_n5_l x3325 s.1 x3507 x3327 x3503 x3511 x3512 s.2 x3326) (Sum.elim (fun (t : Int × Int) => Sum.inl (t.1, t.2)) (fun (t : Int) => Sum.inr t)) (by
  rintro (t | t)
  · kernel_rfl
  · kernel_rfl)) (x3502, 0))

theorem impl_countPairs_int_n7_l (x3325 : List Int) (x3502 : Int) (x3507 : Int) (x3327 : Int) (x3503 : Int) (x3511 : List Int) (x3512 : Int) (x3326 : List Int) : Link impl_countPairs_int_ctx LL (Code.snd (Code.snd (Code.fst (Code.fst (Code.snd (Code.snd (Code.fst (Code.fst (Code.snd (Code.fst (Code.snd (Code.snd (bodyOf Tryd.f81))))))))))))) (Ann.snd (Ann.snd (Ann.fst (Ann.fst (Ann.snd (Ann.snd (Ann.fst (Ann.fst (Ann.snd (Ann.fst (Ann.snd (Ann.snd impl_countPairs_int_an)))))))))))) (⟨mkE 35 0 [(0, .dat (.list (.int .i64)) x3325), (1, .fn 82 [] [.ptr 0 0]), (5, .dat (.int .i64) x3502), (7, .dat (.int .i64) x3507), (10, .dat (.list (.int .i64)) x3325), (11, .dat (.int .i64) x3327), (12, .dat (.int .i64) x3503), (20, .dat (.list (.int .i64)) x3511), (21, .dat (.int .i64) x3512), (22, .dat (.int .i64) 0)], [some (.box [.slc 1]), some (.seq (.int .i64) x3326)]⟩ : St) (impl_countPairs_int_n7 x3502 x3507 x3511 x3512 x3326) (fun (t : Int) => (Exit.normal, (⟨mkE 35 0 [(0, .dat (.list (.int .i64)) x3325), (1, .fn 82 [] [.ptr 0 0]), (5, .dat (.int .i64) t), (10, .dat (.list (.int .i64)) x3325), (11, .dat (.int .i64) x3327), (12, .dat (.int .i64) x3503)], [some (.box [.slc 1]), some (.seq (.int .i64) x3326)]⟩ : St))) := by
  unfold impl_countPairs_int_n7
  exact Link.cast (by kernel_rfl) (by kernel_rfl) (link_block (id := 2) (impl_countPairs_int_n6_l x3325 x3502 x3507 x3327 x3503 x3511 x3512 x3326) (fun (t : Int) => t) (by
  rintro t K h
  · exact Eq.mp (by kernel_rfl) h))

theorem impl_countPairs_int_n8_l (x3325 : List Int) (x3502 : Int) (x3327 : Int) (x3503 : Int) (x3326 : List Int) : Link impl_countPairs_int_ctx LL (Code.fst (Code.fst (Code.snd (Code.snd (Code.fst (Code.fst (Code.snd (Code.fst (Code.snd (Code.snd (bodyOf Tryd.f81))))))))))) (Ann.fst (Ann.fst (Ann.snd (Ann.snd (Ann.fst (Ann.fst (Ann.snd (Ann.fst (Ann.snd (Ann.snd impl_countPairs_int_an)))))))))) (⟨mkE 35 0 [(0, .dat (.list (.int .i64)) x3325), (1, .fn 82 [] [.ptr 0 0]), (5, .dat (.int .i64) x3502), (10, .dat (.list (.int .i64)) x3325), (11, .dat (.int .i64) x3327), (12, .dat (.int .i64) x3503)], [some (.box [.slc 1]), some (.seq (.int .i64) x3326)]⟩ : St) (impl_countPairs_int_n8 x3325 x3502 x3503 x3326) (fun (t : Int) => (Exit.normal, (⟨mkE 35 0 [(0, .dat (.list (.int .i64)) x3325), (1, .fn 82 [] [.ptr 0 0]), (5, .dat (.int .i64) t), (10, .dat (.list (.int .i64)) x3325), (11, .dat (.int .i64) x3327), (12, .dat (.int .i64) x3503)], [some (.box [.slc 1]), some (.seq (.int .i64) x3326)]⟩ : St))) := by
  unfold impl_countPairs_int_n8
  exact Link.cast (by kernel_rfl) (by kernel_rfl) (link_group (c := (Code.fst (Code.snd (Code.fst (Code.fst (Code.snd (Code.snd (Code.fst (Code.fst (Code.snd (Code.fst (Code.snd (Code.snd (bodyOf Tryd.f81)))))))))))))) (a := (Ann.fst (Ann.snd (Ann.fst (Ann.fst (Ann.snd (Ann.snd (Ann.fst (Ann.fst (Ann.snd (Ann.fst (Ann.snd (Ann.snd impl_countPairs_int_an))))))))))))) [(Code.fst (Code.fst (Code.fst (Code.snd (Code.snd (Code.fst (Code.fst (Code.snd (Code.fst (Code.snd (Code.snd (bodyOf Tryd.f81))))))))))))] [(Ann.fst (Ann.fst (Ann.fst (Ann.snd (Ann.snd (Ann.fst (Ann.fst (Ann.snd (Ann.fst (Ann.snd (Ann.snd impl_countPairs_int_an)))))))))))] rfl (link_seq (b := (Code.snd (Code.snd (Code.fst (Code.fst (Code.snd (Code.snd (Code.fst (Code.fst (Code.snd (Code.fst (Code.snd (Code.snd (bodyOf Tryd.f81)))))))))))))) (y := (Ann.snd (Ann.snd (Ann.fst (Ann.fst (Ann.snd (Ann.snd (Ann.fst (Ann.fst (Ann.snd (Ann.fst (Ann.snd (Ann.snd impl_countPairs_int_an))))))))))))) (impl_countPairs_int_n4_l x3325 x3502 x3327 x3503 x3326) (fun (t : Int × (List Int) × Int) => (impl_countPairs_int_n7_l x3325 x3502 t.1 x3327 x3503 t.2.1 t.2.2 x3326))))

theorem impl_countPairs_int_n9_l (x3325 : List Int) (x3502 : Int) (x3327 : Int) (x3503 : Int) (x3326 : List Int) : Link impl_countPairs_int_ctx LL (Code.fst (Code.snd (Code.snd (Code.fst (Code.fst (Code.snd (Code.fst (Code.snd (Code.snd (bodyOf Tryd.f81)))))))))) (Ann.fst (Ann.snd (Ann.snd (Ann.fst (Ann.fst (Ann.snd (Ann.fst (Ann.snd (Ann.snd impl_countPairs_int_an))))))))) (⟨mkE 35 0 [(0, .dat (.list (.int .i64)) x3325), (1, .fn 82 [] [.ptr 0 0]), (5, .dat (.int .i64) x3502), (10, .dat (.list (.int .i64)) x3325), (11, .dat (.int .i64) x3327), (12, .dat (.int .i64) x3503)], [some (.box [.slc 1]), some (.seq (.int .i64) x3326)]⟩ : St) (impl_countPairs_int_n9 x3325 x3502 x3503 x3326) (fun (t : Int) => (Exit.normal, (⟨mkE 35 0 [(0, .dat (.list (.int .i64)) x3325), (1, .fn 82 [] [.ptr 0 0]), (5, .dat (.int .i64) t), (10, .dat (.list (.int .i64)) x3325), (11, .dat (.int .i64) x3327), (12, .dat (.int .i64) x3503)], [some (.box [.slc 1]), some (.seq (.int .i64) x3326)]⟩ : St))) := by
  unfold impl_countPairs_int_n9
  exact Link.cast (by kernel_rfl) (by kernel_rfl) (link_block (id := 1) (impl_countPairs_int_n8_l x3325 x3502 x3327 x3503 x3326) (fun (t : Int) => t) (by
  rintro t K h
  · exact Eq.mp (by kernel_rfl) h))

theorem impl_countPairs_int_n10_l (x3325 : List Int) (x3527 : Int) (x3327 : Int) (x3503 : Int) (x3326 : List Int) : Link impl_countPairs_int_ctx LL (Code.snd (Code.snd (Code.snd (Code.fst (Code.fst (Code.snd (Code.fst (Code.snd (Code.snd (bodyOf Tryd.f81)))))))))) (Ann.snd (Ann.snd (Ann.snd (Ann.fst (Ann.fst (Ann.snd (Ann.fst (Ann.snd (Ann.snd impl_countPairs_int_an))))))))) (⟨mkE 35 0 [(0, .dat (.list (.int .i64)) x3325), (1, .fn 82 [] [.ptr 0 0]), (5, .dat (.int .i64) x3527), (10, .dat (.list (.int .i64)) x3325), (11, .dat (.int .i64) x3327), (12, .dat (.int .i64) x3503)], [some (.box [.slc 1]), some (.seq (.int .i64) x3326)]⟩ : St) (impl_countPairs_int_n10 x3503) (fun (t : Int) => (Exit.normal, (⟨mkE 35 0 [(0, .dat (.list (.int .i64)) x3325), (1, .fn 82 [] [.ptr 0 0]), (5, .dat (.int .i64) x3527), (10, .dat (.list (.int .i64)) x3325), (11, .dat (.int .i64) x3327), (12, .dat (.int .i64) t)], [some (.box [.slc 1]), some (.seq (.int .i64) x3326)]⟩ : St))) := by
  refine Link.of fun K h => ?_
  simp only [impl_countPairs_int_n10, wpO_bind, wpO_cond, wpO_map, wpO_some] at h
  exact Awp.of (by kernel_rfl) h

theorem impl_countPairs_int_n11_l (x3325 : List Int) (x3502 : Int) (x3327 : Int) (x3503 : Int) (x3326 : List Int) : Link impl_countPairs_int_ctx LL (Code.snd (Code.snd (Code.fst (Code.fst (Code.snd (Code.fst (Code.snd (Code.snd (bodyOf Tryd.f81))))))))) (Ann.snd (Ann.snd (Ann.fst (Ann.fst (Ann.snd (Ann.fst (Ann.snd (Ann.snd impl_countPairs_int_an)))))))) (⟨mkE 35 0 [(0, .dat (.list (.int .i64)) x3325), (1, .fn 82 [] [.ptr 0 0]), (5, .dat (.int .i64) x3502), (10, .dat (.list (.int .i64)) x3325), (11, .dat (.int .i64) x3327), (12, .dat (.int .i64) x3503)], [some (.box [.slc 1]), some (.seq (.int .i64) x3326)]⟩ : St) (impl_countPairs_int_n11 x3325 x3502 x3503 x3326) (fun (t : Int × Int) => (Exit.normal, (⟨mkE 35 0 [(0, .dat (.list (.int .i64)) x3325), (1, .fn 82 [] [.ptr 0 0]), (5, .dat (.int .i64) t.1), (10, .dat (.list (.int .i64)) x3325), (11, .dat (.int .i64) x3327), (12, .dat (.int .i64) t.2)], [some (.box [.slc 1]), some (.seq (.int .i64) x3326)]⟩ : St))) := by
  unfold impl_countPairs_int_n11
  exact Link.cast (by kernel_rfl) (by kernel_rfl) (link_seq (b := (Code.snd (Code.snd (Code.snd (Code.fst (Code.fst (Code.snd (Code.fst (Code.snd (Code.snd (bodyOf Tryd.f81))))))))))) (y := (Ann.snd (Ann.snd (Ann.snd (Ann.fst (Ann.fst (Ann.snd (Ann.fst (Ann.snd (Ann.snd impl_countPairs_int_an)))))))))) (impl_countPairs_int_n9_l x3325 x3502 x3327 x3503 x3326) (fun (t : Int) => (link_map (impl_countPairs_int_n10_l x3325 t x3327 x3503 x3326) (fun (u : Int) => (t, u)) (by
  rintro t
  · kernel_rfl))))

theorem impl_countPairs_int_n12_l (x3325 : List Int) (x3502 : Int) (x3327 : Int) (x3503 : Int) (x3326 : List Int) : Link impl_countPairs_int_ctx LL (Code.fst (Code.fst (Code.snd (Code.fst (Code.snd (Code.snd (bodyOf Tryd.f81))))))) (Ann.fst (Ann.fst (Ann.snd (Ann.fst (Ann.snd (Ann.snd impl_countPairs_int_an)))))) (⟨mkE 35 0 [(0, .dat (.list (.int .i64)) x3325), (1, .fn 82 [] [.ptr 0 0]), (5, .dat (.int .i64) x3502), (10, .dat (.list (.int .i64)) x3325), (11, .dat (.int .i64) x3327), (12, .dat (.int .i64) x3503)], [some (.box [.slc 1]), some (.seq (.int .i64) x3326)]⟩ : St) (impl_countPairs_int_n12 x3325 x3502 x3327 x3503 x3326) (Sum.elim (fun (t : Int × Int) => (Exit.normal, (⟨mkE 35 0 [(0, .dat (.list (.int .i64)) x3325), (1, .fn 82 [] [.ptr 0 0]), (5, .dat (.int .i64) t.1), (10, .dat (.list (.int .i64)) x3325), (11, .dat (.int .i64) x3327), (12, .dat (.int .i64) t.2)], [some (.box [.slc 1]), some (.seq (.int .i64) x3326)]⟩ : St))) (fun (t : Int) => ((Exit.exit 0), (⟨mkE 35 0 [(5, .dat (.int .i64) t)], [some (.box [.slc 1]), some (.seq (.int .i64) x3326)]⟩ : St)))) := by
  unfold impl_countPairs_int_n12
  exact Link.cast (by kernel_rfl) (by kernel_rfl) (link_group (c := (Code.fst (Code.snd (Code.fst (Code.fst (Code.snd (Code.fst (Code.snd (Code.snd (bodyOf Tryd.f81)))))))))) (a := (Ann.fst (Ann.snd (Ann.fst (Ann.fst (Ann.snd (Ann.fst (Ann.snd (Ann.snd impl_countPairs_int_an))))))))) [(Code.fst (Code.fst (Code.fst (Code.snd (Code.fst (Code.snd (Code.snd (bodyOf Tryd.f81))))))))] [(Ann.fst (Ann.fst (Ann.fst (Ann.snd (Ann.fst (Ann.snd (Ann.snd impl_countPairs_int_an)))))))] rfl (link_seq2 (b := (Code.snd (Code.snd (Code.fst (Code.fst (Code.snd (Code.fst (Code.snd (Code.snd (bodyOf Tryd.f81)))))))))) (y := (Ann.snd (Ann.snd (Ann.fst (Ann.fst (Ann.snd (Ann.fst (Ann.snd (Ann.snd impl_countPairs_int_an))))))))) (impl_countPairs_int_n3_l x3325 x3502 x3327 x3503 x3326) (fun (t : Unit) => (link_map (impl_countPairs_int_n11_l x3325 x3502 x3327 x3503 x3326) (fun (t : Int × Int) => (Sum.inl (t.1, t.2))) (by
  rintro t
  · kernel_rfl))) (fun (t : Int) => (Sum.inr t)) (by
  rintro t
  · kernel_rfl) (by
  rintro t f K h
  · exact h)))

theorem impl_countPairs_int_n13_l (x3325 : List Int) (x3327 : Int) (x3326 : List Int) : Link impl_countPairs_int_ctx LL (Code.fst (Code.snd (Code.fst (Code.snd (Code.snd (bodyOf Tryd.f81)))))) (Ann.fst (Ann.snd (Ann.fst (Ann.snd (Ann.snd impl_countPairs_int_an))))) (⟨mkE 35 0 [(0, .dat (.list (.int .i64)) x3325), (1, .fn 82 [] [.ptr 0 0]), (5, .dat (.int .i64) 0), (10, .dat (.list (.int .i64)) x3325), (11, .dat (.int .i64) x3327), (12, .dat (.int .i64) 0)], [some (.box [.slc 1]), some (.seq (.int .i64) x3326)]⟩ : St) (impl_countPairs_int_n13 x3325 x3327 x3326) (fun (t : Int) => ((Exit.exit 0), (⟨mkE 35 0 [(5, .dat (.int .i64) t)], [some (.box [.slc 1]), some (.seq (.int .i64) x3326)]⟩ : St))) := by
  unfold impl_countPairs_int_n13
  exact Link.cast (by kernel_rfl) (by kernel_rfl) (link_loop (mk := fun (s : Int × Int) => (⟨mkE 35 0 [(0, .dat (.list (.int .i64)) x3325), (1, .fn 82 [] [.ptr 0 0]), (5, .dat (.int .i64) s.1), (10, .dat (.list (.int .i64)) x3325), (11, .dat (.int .i64) x3327), (12, .dat (.int .i64) s.2)], [some (.box [.slc 1]), some (.seq (.int .i64) x3326)]⟩ : St)) (fin := (fun (t : Int) => ((Exit.exit 0), (⟨mkE 35 0 [(5, .dat (.int .i64) t)], [some (.box [.slc 1]), some (.seq (.int .i64) x3326)]⟩ : St)))) (by
  rintro t f K h
  · exact h) (fun s => link_map (impl_countPairs_int_n12_l x3325 s.1 x3327 s.2 x3326) (Sum.elim (fun (t : Int × Int) => Sum.inl (t.1, t.2)) (fun (t : Int) => Sum.inr t)) (by
  rintro (t | t)
  · kernel_rfl
  · kernel_rfl)) (0, 0))

theorem impl_countPairs_int_n14_l (x3325 : List Int) (x3327 : Int) (x3326 : List Int) : Link impl_countPairs_int_ctx LL (Code.snd (Code.fst (Code.snd (Code.snd (bodyOf Tryd.f81))))) (Ann.snd (Ann.fst (Ann.snd (Ann.snd impl_countPairs_int_an)))) (⟨mkE 35 0 [(0, .dat (.list (.int .i64)) x3325), (1, .fn 82 [] [.ptr 0 0]), (5, .dat (.int .i64) 0), (10, .dat (.list (.int .i64)) x3325), (11, .dat (.int .i64) x3327), (12, .dat (.int .i64) 0)], [some (.box [.slc 1]), some (.seq (.int .i64) x3326)]⟩ : St) (impl_countPairs_int_n14 x3325 x3327 x3326) (fun (t : Int) => (Exit.normal, (⟨mkE 35 0 [(5, .dat (.int .i64) t)], [some (.box [.slc 1]), some (.seq (.int .i64) x3326)]⟩ : St))) := by
  unfold impl_countPairs_int_n14
  exact Link.cast (by kernel_rfl) (by kernel_rfl) (link_block (id := 0) (impl_countPairs_int_n13_l x3325 x3327 x3326) (fun (t : Int) => t) (by
  rintro t K h
  · exact Eq.mp (by kernel_rfl) h))

theorem impl_countPairs_int_n15_l (x3325 : List Int) (x3326 : List Int) : Link impl_countPairs_int_ctx LL (Code.fst (Code.snd (Code.snd (bodyOf Tryd.f81)))) (Ann.fst (Ann.snd (Ann.snd impl_countPairs_int_an))) (⟨mkE 35 0 [(0, .dat (.list (.int .i64)) x3325), (1, .fn 82 [] [.ptr 0 0]), (5, .dat (.int .i64) 0)], [some (.box [.slc 1]), some (.seq (.int .i64) x3326)]⟩ : St) (impl_countPairs_int_n15 x3325 x3326) (fun (t : Int) => (Exit.normal, (⟨mkE 35 0 [(5, .dat (.int .i64) t)], [some (.box [.slc 1]), some (.seq (.int .i64) x3326)]⟩ : St))) := by
  unfold impl_countPairs_int_n15
  exact Link.cast (by kernel_rfl) (by kernel_rfl) (link_seq (b := (Code.snd (Code.fst (Code.snd (Code.snd (bodyOf Tryd.f81)))))) (y := (Ann.snd (Ann.fst (Ann.snd (Ann.snd impl_countPairs_int_an))))) (impl_countPairs_int_n2_l x3325 x3326) (fun (t : Int) => (impl_countPairs_int_n14_l x3325 t x3326)))

theorem impl_countPairs_int_n16_l (x3502 : Int) (x3326 : List Int) : Link impl_countPairs_int_ctx LL (Code.snd (Code.snd (Code.snd (bodyOf Tryd.f81)))) (Ann.snd (Ann.snd (Ann.snd impl_countPairs_int_an))) (⟨mkE 35 0 [(5, .dat (.int .i64) x3502)], [some (.box [.slc 1]), some (.seq (.int .i64) x3326)]⟩ : St) (impl_countPairs_int_n16 x3502) (fun (t : Int) => (Exit.ret, (⟨mkE 35 0 [(4, .dat (.int .i64) t)], [some (.box [.slc 1]), some (.seq (.int .i64) x3326)]⟩ : St))) := by
  refine Link.of fun K h => ?_
  simp only [impl_countPairs_int_n16, wpO_bind, wpO_cond, wpO_map, wpO_some] at h
  exact Awp.of (by kernel_rfl) h

theorem impl_countPairs_int_n17_l (x3325 : List Int) (x3326 : List Int) : Link impl_countPairs_int_ctx LL (Code.snd (Code.snd (bodyOf Tryd.f81))) (Ann.snd (Ann.snd impl_countPairs_int_an)) (⟨mkE 35 0 [(0, .dat (.list (.int .i64)) x3325), (1, .fn 82 [] [.ptr 0 0]), (5, .dat (.int .i64) 0)], [some (.box [.slc 1]), some (.seq (.int .i64) x3326)]⟩ : St) (impl_countPairs_int_n17 x3325 x3326) (fun (t : Int) => (Exit.ret, (⟨mkE 35 0 [(4, .dat (.int .i64) t)], [some (.box [.slc 1]), some (.seq (.int .i64) x3326)]⟩ : St))) := by
  unfold impl_countPairs_int_n17
  exact Link.cast (by kernel_rfl) (by kernel_rfl) (link_seq (b := (Code.snd (Code.snd (Code.snd (bodyOf Tryd.f81))))) (y := (Ann.snd (Ann.snd (Ann.snd impl_countPairs_int_an)))) (impl_countPairs_int_n15_l x3325 x3326) (fun (t : Int) => (impl_countPairs_int_n16_l t x3326)))

theorem impl_countPairs_int_n18_l (x3325 : List Int) (x3326 : List Int) : Link impl_countPairs_int_ctx LL (bodyOf Tryd.f81) impl_countPairs_int_an (⟨mkE 35 0 [(0, .dat (.list (.int .i64)) x3325), (1, .fn 82 [] [.ptr 0 0])], [some (.box [.slc 1]), some (.seq (.int .i64) x3326)]⟩ : St) (impl_countPairs_int_n18 x3325 x3326) (fun (t : Int) => (Exit.ret, (⟨mkE 35 0 [(4, .dat (.int .i64) t)], [some (.box [.slc 1]), some (.seq (.int .i64) x3326)]⟩ : St))) := by
  unfold impl_countPairs_int_n18
  exact Link.cast (by kernel_rfl) (by kernel_rfl) (link_group (c := (Code.fst (Code.snd (bodyOf Tryd.f81)))) (a := (Ann.fst (Ann.snd impl_countPairs_int_an))) [(Code.fst (bodyOf Tryd.f81))] [(Ann.fst impl_countPairs_int_an)] rfl (link_seq (b := (Code.snd (Code.snd (bodyOf Tryd.f81)))) (y := (Ann.snd (Ann.snd impl_countPairs_int_an))) (impl_countPairs_int_n1_l x3325 x3326) (fun (t : Unit) => (impl_countPairs_int_n17_l x3325 x3326))))

theorem impl_countPairs_int_e (x3325 : List Int) (x3326 : List Int) {r : AV} {H' : Heap} (h : (Ans.mk _ (impl_countPairs_int x3325 x3326) (fun (t : Int) => (.dat (.int .i64) t, [some (.box [.slc 1]), some (.seq (.int .i64) x3326)]))).run = some (r, H')) : Awp impl_countPairs_int_ctx LL (bodyOf Tryd.f81) impl_countPairs_int_an (⟨mkE 35 0 [(0, .dat (.list (.int .i64)) x3325), (1, .fn 82 [] [.ptr 0 0])], [some (.box [.slc 1]), some (.seq (.int .i64) x3326)]⟩ : St) (Ret (tlook tys) Tryd.f81.results.toList r H') :=
  ret_of' (impl_countPairs_int_n18_l x3325 x3326) (by unfold impl_countPairs_int; kernel_rfl) (by
  intro t
  exact ret_mk [.dat (.int .i64) t] (by kernel_rfl) (by kernel_rfl) (by kernel_rfl) (by kernel_rfl)) h

def F_impl_countPairs_int : Fun := fun avs H =>
  match avs, H with
  | [.dat (.list (.int .i64)) x3325, .fn 82 [] [.ptr 0 0]], [some (.box [.slc 1]), some (.seq (.int .i64) x3326)] => ⟨_, impl_countPairs_int x3325 x3326, fun (t : Int) => (.dat (.int .i64) t, [some (.box [.slc 1]), some (.seq (.int .i64) x3326)])⟩
  | _, _ => Ans.no

theorem impl_countPairs_int_sound : Sound Tryd.prog 81 F_impl_countPairs_int := by
  refine fn_sound' (C := impl_countPairs_int_ctx) (c := bodyOf Tryd.f81) (cok_of tys_ok (List.forall_mem_cons.2 ⟨impl_goByTurns_1_sound, by simp⟩) (List.forall_mem_cons.2 ⟨Tryd.call82, by simp⟩) (by kernel_rfl)) Tryd.func81 (by kernel_rfl) LL impl_countPairs_int_an ?_
  intro avs H r H' h
  unfold F_impl_countPairs_int at h
  split at h
  · refine Awp.cast ?_ ?_ ?_ (impl_countPairs_int_e _ _ h) <;> kernel_rfl
  · simp [Ans.no, Ans.run] at h


/-! loop.example/headtrees/impl.goByTurns -/

def impl_goByTurns_an : Ann := (.seq (.leaf [0, 1]) (.seq (.seq (.leaf [0, 1, 10]) (.cond (.seq (.leaf [4]) (.leaf [4])) (.leaf [0, 1]))) (.seq (.leaf [0, 5]) (.seq (.leaf [6]) (.seq (.leaf [4]) (.leaf [4]))))))

noncomputable def impl_goByTurns_ctx : Ctx := ⟨tlook tys, olook [(49, F_impl_wordSet_list), (81, F_impl_countPairs_int)], ioF, 0, false⟩

theorem impl_goByTurns_n1_l (x3314 : Int) (x3315 : Int) : Link impl_goByTurns_ctx LL (bodyOf Tryd.f59) impl_goByTurns_an (⟨mkE 19 0 [(0, .dat (.int .u64) x3314), (1, .dat (.int .u64) x3315)], []⟩ : St) (impl_goByTurns_n1 x3314 x3315) (fun (t : Bool) => (Exit.ret, (⟨mkE 19 0 [(4, .dat .bool t)], []⟩ : St))) := by
  refine Link.of fun K h => ?_
  simp only [impl_goByTurns_n1, wpO_bind, wpO_cond, wpO_map, wpO_some] at h
  exact Awp.of (by kernel_rfl) h

theorem impl_goByTurns_e (x3314 : Int) (x3315 : Int) {r : AV} {H' : Heap} (h : (Ans.mk _ (impl_goByTurns x3314 x3315) (fun (t : Bool) => (.dat .bool t, []))).run = some (r, H')) : Awp impl_goByTurns_ctx LL (bodyOf Tryd.f59) impl_goByTurns_an (⟨mkE 19 0 [(0, .dat (.int .u64) x3314), (1, .dat (.int .u64) x3315)], []⟩ : St) (Ret (tlook tys) Tryd.f59.results.toList r H') :=
  ret_of' (impl_goByTurns_n1_l x3314 x3315) (by unfold impl_goByTurns; kernel_rfl) (by
  intro t
  exact ret_mk [.dat .bool t] (by kernel_rfl) (by kernel_rfl) (by kernel_rfl) (by kernel_rfl)) h

def F_impl_goByTurns : Fun := fun avs H =>
  match avs, H with
  | [.dat (.int .u64) x3314, .dat (.int .u64) x3315], [] => ⟨_, impl_goByTurns x3314 x3315, fun (t : Bool) => (.dat .bool t, [])⟩
  | _, _ => Ans.no

theorem impl_goByTurns_sound : Sound Tryd.prog 59 F_impl_goByTurns := by
  refine fn_sound' (C := impl_goByTurns_ctx) (c := bodyOf Tryd.f59) (cok_of tys_ok (List.forall_mem_cons.2 ⟨impl_wordSet_list_sound, List.forall_mem_cons.2 ⟨impl_countPairs_int_sound, by simp⟩⟩) (List.forall_mem_cons.2 ⟨Tryd.call49, List.forall_mem_cons.2 ⟨Tryd.call81, by simp⟩⟩) (by kernel_rfl)) Tryd.func59 (by kernel_rfl) LL impl_goByTurns_an ?_
  intro avs H r H' h
  unfold F_impl_goByTurns at h
  split at h
  · refine Awp.cast ?_ ?_ ?_ (impl_goByTurns_e _ _ h) <;> kernel_rfl
  · simp [Ans.no, Ans.run] at h


/-! loop.example/headtrees/spec.l5Turns -/

def spec_l5Turns_an : Ann := (.seq (.leaf [0, 1]) (.seq (.leaf [0, 1, 5]) (.seq (.leaf [0, 1, 5, 6]) (.seq (.seq (.leaf [0, 1, 5, 6, 7]) (.block (.loop (.seq (.seq (.leaf [0, 1, 5, 6, 7, 10]) (.cond (.leaf [0, 1, 5, 6, 7]) (.leaf [6]))) (.seq (.block (.seq (.draw [] [0, 1, 2, 3, 4, 5, 6, 7, 8, 9, 10] [] [0, 1, 5, 6, 7, 8]) (.seq (.leaf [0, 1, 5, 6, 7, 8, 29]) (.cond (.seq (.leaf [0, 1, 6, 7, 8]) (.leaf [0, 1, 5, 6, 7])) (.leaf [0, 1, 5, 6, 7]))))) (.leaf [0, 1, 5, 6, 7])))))) (.seq (.leaf [4]) (.leaf [4]))))))

noncomputable def spec_l5Turns_ctx : Ctx := ⟨tlook tys, olook [], ioF, 0, false⟩

theorem spec_l5Turns_n1_l (x3622 : Int) (x3623 : Int) : Link spec_l5Turns_ctx LL (Code.seq (Code.fst (bodyOf Tryd.f60)) (Code.seq (Code.fst (Code.snd (bodyOf Tryd.f60))) (Code.fst (Code.snd (Code.snd (bodyOf Tryd.f60)))))) (Ann.seq (Ann.fst spec_l5Turns_an) (Ann.seq (Ann.fst (Ann.snd spec_l5Turns_an)) (Ann.fst (Ann.snd (Ann.snd spec_l5Turns_an))))) (⟨mkE 35 0 [(0, .dat (.int .i64) x3622), (1, .dat (.int .i64) x3623)], []⟩ : St) (spec_l5Turns_n1) (fun (t : Unit) => (Exit.normal, (⟨mkE 35 0 [(0, .dat (.int .i64) x3622), (1, .dat (.int .i64) x3623), (5, .dat (.int .i64) 0), (6, .dat (.int .i64) 0)], []⟩ : St))) := by
  refine Link.of fun K h => ?_
  simp only [spec_l5Turns_n1, wpO_bind, wpO_cond, wpO_map, wpO_some] at h
  exact Awp.of (by kernel_rfl) h

theorem spec_l5Turns_n2_l (x3622 : Int) (x3623 : Int) : Link spec_l5Turns_ctx LL (Code.fst (Code.fst (Code.snd (Code.snd (Code.snd (bodyOf Tryd.f60)))))) (Ann.fst (Ann.fst (Ann.snd (Ann.snd (Ann.snd spec_l5Turns_an))))) (⟨mkE 35 0 [(0, .dat (.int .i64) x3622), (1, .dat (.int .i64) x3623), (5, .dat (.int .i64) 0), (6, .dat (.int .i64) 0)], []⟩ : St) (spec_l5Turns_n2) (fun (t : Unit) => (Exit.normal, (⟨mkE 35 0 [(0, .dat (.int .i64) x3622), (1, .dat (.int .i64) x3623), (5, .dat (.int .i64) 0), (6, .dat (.int .i64) 0), (7, .dat (.int .i64) 0)], []⟩ : St))) := by
  refine Link.of fun K h => ?_
  simp only [spec_l5Turns_n2, wpO_bind, wpO_cond, wpO_map, wpO_some] at h
  exact Awp.of (by kernel_rfl) h

theorem spec_l5Turns_n3_l (x3622 : Int) (x3623 : Int) (x3651 : Int) (x3652 : Int) (x3653 : Int) : Link spec_l5Turns_ctx LL (Code.fst (Code.fst (Code.snd (Code.fst (Code.snd (Code.snd (Code.snd (bodyOf Tryd.f60)))))))) (Ann.fst (Ann.fst (Ann.snd (Ann.fst (Ann.snd (Ann.snd (Ann.snd spec_l5Turns_an))))))) (⟨mkE 35 0 [(0, .dat (.int .i64) x3622), (1, .dat (.int .i64) x3623), (5, .dat (.int .i64) x3651), (6, .dat (.int .i64) x3652), (7, .dat (.int .i64) x3653)], []⟩ : St) (spec_l5Turns_n3 x3622 x3623 x3651 x3652 x3653) (Sum.elim (fun (t : Int × Int × Int) => (Exit.normal, (⟨mkE 35 0 [(0, .dat (.int .i64) x3622), (1, .dat (.int .i64) x3623), (5, .dat (.int .i64) t.1), (6, .dat (.int .i64) t.2.1), (7, .dat (.int .i64) t.2.2)], []⟩ : St))) (fun (t : Int) => ((Exit.exit 0), (⟨mkE 35 0 [(6, .dat (.int .i64) t)], []⟩ : St)))) := by
  refine Link.of fun K h => ?_
  simp only [spec_l5Turns_n3, wpO_bind, wpO_cond, wpO_map, wpO_some] at h
  exact Awp.of (by kernel_rfl) h

theorem spec_l5Turns_n4_l (x3622 : Int) (x3623 : Int) : Link spec_l5Turns_ctx LL (Code.fst (Code.snd (Code.fst (Code.snd (Code.snd (Code.snd (bodyOf Tryd.f60))))))) (Ann.fst (Ann.snd (Ann.fst (Ann.snd (Ann.snd (Ann.snd spec_l5Turns_an)))))) (⟨mkE 35 0 [(0, .dat (.int .i64) x3622), (1, .dat (.int .i64) x3623), (5, .dat (.int .i64) 0), (6, .dat (.int .i64) 0), (7, .dat (.int .i64) 0)], []⟩ : St) (spec_l5Turns_n4 x3622 x3623) (fun (t : Int) => ((Exit.exit 0), (⟨mkE 35 0 [(6, .dat (.int .i64) t)], []⟩ : St))) := by
  unfold spec_l5Turns_n4
  exact Link.cast (by kernel_rfl) (by kernel_rfl) (link_loop (mk := fun (s : Int × Int × Int) => (⟨mkE 35 0 [(0, .dat (.int .i64) x3622), (1, .dat (.int .i64) x3623), (5, .dat (.int .i64) s.1), (6, .dat (.int .i64) s.2.1), (7, .dat (.int .i64) s.2.2)], []⟩ : St)) (fin := (fun (t : Int) => ((Exit.exit 0), (⟨mkE 35 0 [(6, .dat (.int .i64) t)], []⟩ : St)))) (by
  rintro t f K h
  · exact h) (fun s => link_map (spec_l5Turns_n3_l x3622 x3623 s.1 s.2.1 s.2.2) (Sum.elim (fun (t : Int × Int × Int) => Sum.inl (t.1, t.2.1, t.2.2)) (fun (t : Int) => Sum.inr t)) (by
  rintro (t | t)
  · kernel_rfl
  · kernel_rfl)) (0, 0, 0))

theorem spec_l5Turns_n5_l (x3622 : Int) (x3623 : Int) : Link spec_l5Turns_ctx LL (Code.snd (Code.fst (Code.snd (Code.snd (Code.snd (bodyOf Tryd.f60)))))) (Ann.snd (Ann.fst (Ann.snd (Ann.snd (Ann.snd spec_l5Turns_an))))) (⟨mkE 35 0 [(0, .dat (.int .i64) x3622), (1, .dat (.int .i64) x3623), (5, .dat (.int .i64) 0), (6, .dat (.int .i64) 0), (7, .dat (.int .i64) 0)], []⟩ : St) (spec_l5Turns_n5 x3622 x3623) (fun (t : Int) => (Exit.normal, (⟨mkE 35 0 [(6, .dat (.int .i64) t)], []⟩ : St))) := by
  unfold spec_l5Turns_n5
  exact Link.cast (by kernel_rfl) (by kernel_rfl) (link_block (id := 0) (spec_l5Turns_n4_l x3622 x3623) (fun (t : Int) => t) (by
  rintro t K h
  · exact Eq.mp (by kernel_rfl) h))

theorem spec_l5Turns_n6_l (x3622 : Int) (x3623 : Int) : Link spec_l5Turns_ctx LL (Code.fst (Code.snd (Code.snd (Code.snd (bodyOf Tryd.f60))))) (Ann.fst (Ann.snd (Ann.snd (Ann.snd spec_l5Turns_an)))) (⟨mkE 35 0 [(0, .dat (.int .i64) x3622), (1, .dat (.int .i64) x3623), (5, .dat (.int .i64) 0), (6, .dat (.int .i64) 0)], []⟩ : St) (spec_l5Turns_n6 x3622 x3623) (fun (t : Int) => (Exit.normal, (⟨mkE 35 0 [(6, .dat (.int .i64) t)], []⟩ : St))) := by
  unfold spec_l5Turns_n6
  exact Link.cast (by kernel_rfl) (by kernel_rfl) (link_seq (b := (Code.snd (Code.fst (Code.snd (Code.snd (Code.snd (bodyOf Tryd.f60))))))) (y := (Ann.snd (Ann.fst (Ann.snd (Ann.snd (Ann.snd spec_l5Turns_an)))))) (spec_l5Turns_n2_l x3622 x3623) (fun (t : Unit) => (spec_l5Turns_n5_l x3622 x3623)))

theorem spec_l5Turns_n7_l (x3652 : Int) : Link spec_l5Turns_ctx LL (Code.snd (Code.snd (Code.snd (Code.snd (bodyOf Tryd.f60))))) (Ann.snd (Ann.snd (Ann.snd (Ann.snd spec_l5Turns_an)))) (⟨mkE 35 0 [(6, .dat (.int .i64) x3652)], []⟩ : St) (spec_l5Turns_n7 x3652) (fun (t : Bool) => (Exit.ret, (⟨mkE 35 0 [(4, .dat .bool t)], []⟩ : St))) := by
  refine Link.of fun K h => ?_
  simp only [spec_l5Turns_n7, wpO_bind, wpO_cond, wpO_map, wpO_some] at h
  exact Awp.of (by kernel_rfl) h

theorem spec_l5Turns_n8_l (x3622 : Int) (x3623 : Int) : Link spec_l5Turns_ctx LL (Code.snd (Code.snd (Code.snd (bodyOf Tryd.f60)))) (Ann.snd (Ann.snd (Ann.snd spec_l5Turns_an))) (⟨mkE 35 0 [(0, .dat (.int .i64) x3622), (1, .dat (.int .i64) x3623), (5, .dat (.int .i64) 0), (6, .dat (.int .i64) 0)], []⟩ : St) (spec_l5Turns_n8 x3622 x3623) (fun (t : Bool) => (Exit.ret, (⟨mkE 35 0 [(4, .dat .bool t)], []⟩ : St))) := by
  unfold spec_l5Turns_n8
  exact Link.cast (by kernel_rfl) (by kernel_rfl) (link_seq (b := (Code.snd (Code.snd (Code.snd (Code.snd (bodyOf Tryd.f60)))))) (y := (Ann.snd (Ann.snd (Ann.snd (Ann.snd spec_l5Turns_an))))) (spec_l5Turns_n6_l x3622 x3623) (fun (t : Int) => (spec_l5Turns_n7_l t)))

theorem spec_l5Turns_n9_l (x3622 : Int) (x3623 : Int) : Link spec_l5Turns_ctx LL (bodyOf Tryd.f60) spec_l5Turns_an (⟨mkE 35 0 [(0, .dat (.int .i64) x3622), (1, .dat (.int .i64) x3623)], []⟩ : St) (spec_l5Turns_n9 x3622 x3623) (fun (t : Bool) => (Exit.ret, (⟨mkE 35 0 [(4, .dat .bool t)], []⟩ : St))) := by
  unfold spec_l5Turns_n9
  exact Link.cast (by kernel_rfl) (by kernel_rfl) (link_group (c := (Code.fst (Code.snd (Code.snd (bodyOf Tryd.f60))))) (a := (Ann.fst (Ann.snd (Ann.snd spec_l5Turns_an)))) [(Code.fst (bodyOf Tryd.f60)), (Code.fst (Code.snd (bodyOf Tryd.f60)))] [(Ann.fst spec_l5Turns_an), (Ann.fst (Ann.snd spec_l5Turns_an))] rfl (link_seq (b := (Code.snd (Code.snd (Code.snd (bodyOf Tryd.f60))))) (y := (Ann.snd (Ann.snd (Ann.snd spec_l5Turns_an)))) (spec_l5Turns_n1_l x3622 x3623) (fun (t : Unit) => (spec_l5Turns_n8_l x3622 x3623))))

theorem spec_l5Turns_e (x3622 : Int) (x3623 : Int) {r : AV} {H' : Heap} (h : (Ans.mk _ (spec_l5Turns x3622 x3623) (fun (t : Bool) => (.dat .bool t, []))).run = some (r, H')) : Awp spec_l5Turns_ctx LL (bodyOf Tryd.f60) spec_l5Turns_an (⟨mkE 35 0 [(0, .dat (.int .i64) x3622), (1, .dat (.int .i64) x3623)], []⟩ : St) (Ret (tlook tys) Tryd.f60.results.toList r H') :=
  ret_of' (spec_l5Turns_n9_l x3622 x3623) (by unfold spec_l5Turns; kernel_rfl) (by
  intro t
  exact ret_mk [.dat .bool t] (by kernel_rfl) (by kernel_rfl) (by kernel_rfl) (by kernel_rfl)) h

def F_spec_l5Turns : Fun := fun avs H =>
  match avs, H with
  | [.dat (.int .i64) x3622, .dat (.int .i64) x3623], [] => ⟨_, spec_l5Turns x3622 x3623, fun (t : Bool) => (.dat .bool t, [])⟩
  | _, _ => Ans.no

theorem spec_l5Turns_sound : Sound Tryd.prog 60 F_spec_l5Turns := by
  refine fn_sound' (C := spec_l5Turns_ctx) (c := bodyOf Tryd.f60) (cok_of tys_ok (by simp) (by simp) (by kernel_rfl)) Tryd.func60 (by kernel_rfl) LL spec_l5Turns_an ?_
  intro avs H r H' h
  unfold F_spec_l5Turns at h
  split at h
  · refine Awp.cast ?_ ?_ ?_ (spec_l5Turns_e _ _ h) <;> kernel_rfl
  · simp [Ans.no, Ans.run] at h


/-! loop.example/headtrees/spec.TurnsOk -/

def spec_TurnsOk_an : Ann := (.seq (.leaf [0, 1, 2]) (.seq (.seq (.leaf [0, 1, 2, 25]) (.cond (.seq (.leaf [6]) (.leaf [6])) (.leaf [0, 1, 2]))) (.seq (.leaf [0, 2, 7]) (.seq (.leaf [7, 8]) (.seq (.leaf [6]) (.leaf [6]))))))

noncomputable def spec_TurnsOk_ctx : Ctx := ⟨tlook tys, olook [(32, F_spec_TreeOk), (45, F_spec_l1In), (47, F_spec_l2Yield), (60, F_spec_l5Turns)], ioF, 0, false⟩

theorem spec_TurnsOk_n1_l (x3580 : List Int) (x3581 : Int) (x3582 : Int) : Link spec_TurnsOk_ctx LL (bodyOf Tryd.f27) spec_TurnsOk_an (⟨mkE 41 0 [(0, .dat (.list (.int .i64)) x3580), (1, .dat (.int .i64) x3581), (2, .dat (.int .i64) x3582)], []⟩ : St) (spec_TurnsOk_n1 x3580 x3581 x3582) (fun (t : Bool) => (Exit.ret, (⟨mkE 41 0 [(6, .dat .bool t)], []⟩ : St))) := by
  refine Link.of fun K h => ?_
  simp only [spec_TurnsOk_n1, wpO_bind, wpO_cond, wpO_map, wpO_some] at h
  exact Awp.of (by kernel_rfl) h

theorem spec_TurnsOk_e (x3580 : List Int) (x3581 : Int) (x3582 : Int) {r : AV} {H' : Heap} (h : (Ans.mk _ (spec_TurnsOk x3580 x3581 x3582) (fun (t : Bool) => (.dat .bool t, []))).run = some (r, H')) : Awp spec_TurnsOk_ctx LL (bodyOf Tryd.f27) spec_TurnsOk_an (⟨mkE 41 0 [(0, .dat (.list (.int .i64)) x3580), (1, .dat (.int .i64) x3581), (2, .dat (.int .i64) x3582)], []⟩ : St) (Ret (tlook tys) Tryd.f27.results.toList r H') :=
  ret_of' (spec_TurnsOk_n1_l x3580 x3581 x3582) (by unfold spec_TurnsOk; kernel_rfl) (by
  intro t
  exact ret_mk [.dat .bool t] (by kernel_rfl) (by kernel_rfl) (by kernel_rfl) (by kernel_rfl)) h

def F_spec_TurnsOk : Fun := fun avs H =>
  match avs, H with
  | [.dat (.list (.int .i64)) x3580, .dat (.int .i64) x3581, .dat (.int .i64) x3582], [] => ⟨_, spec_TurnsOk x3580 x3581 x3582, fun (t : Bool) => (.dat .bool t, [])⟩
  | _, _ => Ans.no

theorem spec_TurnsOk_sound : Sound Tryd.prog 27 F_spec_TurnsOk := by
  refine fn_sound' (C := spec_TurnsOk_ctx) (c := bodyOf Tryd.f27) (cok_of tys_ok (List.forall_mem_cons.2 ⟨spec_TreeOk_sound, List.forall_mem_cons.2 ⟨spec_l1In_sound, List.forall_mem_cons.2 ⟨spec_l2Yield_sound, List.forall_mem_cons.2 ⟨spec_l5Turns_sound, by simp⟩⟩⟩⟩) (List.forall_mem_cons.2 ⟨Tryd.call32, List.forall_mem_cons.2 ⟨Tryd.call45, List.forall_mem_cons.2 ⟨Tryd.call47, List.forall_mem_cons.2 ⟨Tryd.call60, by simp⟩⟩⟩⟩) (by kernel_rfl)) Tryd.func27 (by kernel_rfl) LL spec_TurnsOk_an ?_
  intro avs H r H' h
  unfold F_spec_TurnsOk at h
  split at h
  · refine Awp.cast ?_ ?_ ?_ (spec_TurnsOk_e _ _ _ h) <;> kernel_rfl
  · simp [Ans.no, Ans.run] at h


/-! loop.example/headtrees/impl.countPairs[loop.example/headtrees/impl.wordSet] -/

def impl_countPairs_impl_wordSet_an : Ann := (.seq (.leaf [0, 1]) (.seq (.leaf [0, 1, 5]) (.seq (.seq (.leaf [0, 1, 5, 10, 11, 12]) (.block (.loop (.seq (.leaf [0, 1, 5, 10, 11, 12, 13]) (.seq (.cond (.leaf [0, 1, 5, 10, 11, 12]) (.leaf [5])) (.seq (.block (.seq (.leaf [0, 1, 5, 6, 7, 10, 11, 12]) (.seq (.leaf [0, 1, 5, 7, 10, 11, 12, 20, 21, 22]) (.block (.loop (.seq (.leaf [0, 1, 5, 7, 10, 11, 12, 20, 21, 22, 23]) (.seq (.cond (.leaf [0, 1, 5, 7, 10, 11, 12, 20, 21, 22]) (.leaf [0, 1, 5, 10, 11, 12])) (.seq (.block (.seq (.leaf [0, 1, 5, 7, 9, 10, 11, 12, 20, 21, 22]) (.seq (.leaf [0, 1, 5, 7, 10, 11, 12, 20, 21, 22, 29]) (.cond (.leaf [0, 1, 5, 7, 10, 11, 12, 20, 21, 22]) (.leaf [0, 1, 5, 7, 10, 11, 12, 20, 21, 22]))))) (.leaf [0, 1, 5, 7, 10, 11, 12, 20, 21, 22]))))))))) (.leaf [0, 1, 5, 10, 11, 12]))))))) (.seq (.leaf [4]) (.leaf [4])))))

noncomputable def impl_countPairs_impl_wordSet_ctx : Ctx := ⟨tlook tys, olook [(59, F_impl_goByTurns)], ioF, 0, false⟩

theorem impl_countPairs_impl_wordSet_n1_l (x3801 : List Int) : Link impl_countPairs_impl_wordSet_ctx LL (Code.seq (Code.fst (bodyOf Tryd.f63)) (Code.fst (Code.snd (bodyOf Tryd.f63)))) (Ann.seq (Ann.fst impl_countPairs_impl_wordSet_an) (Ann.fst (Ann.snd impl_countPairs_impl_wordSet_an))) (⟨mkE 35 0 [(0, .dat (.list (.int .u64)) x3801), (1, .fn 59 [] [])], []⟩ : St) (impl_countPairs_impl_wordSet_n1) (fun (t : Unit) => (Exit.normal, (⟨mkE 35 0 [(0, .dat (.list (.int .u64)) x3801), (1, .fn 59 [] []), (5, .dat (.int .i64) 0)], []⟩ : St))) := by
  refine Link.of fun K h => ?_
  simp only [impl_countPairs_impl_wordSet_n1, wpO_bind, wpO_cond, wpO_map, wpO_some] at h
  exact Awp.of (by kernel_rfl) h

theorem impl_countPairs_impl_wordSet_n2_l (x3801 : List Int) : Link impl_countPairs_impl_wordSet_ctx LL (Code.fst (Code.fst (Code.snd (Code.snd (bodyOf Tryd.f63))))) (Ann.fst (Ann.fst (Ann.snd (Ann.snd impl_countPairs_impl_wordSet_an)))) (⟨mkE 35 0 [(0, .dat (.list (.int .u64)) x3801), (1, .fn 59 [] []), (5, .dat (.int .i64) 0)], []⟩ : St) (impl_countPairs_impl_wordSet_n2 x3801) (fun (t : Int) => (Exit.normal, (⟨mkE 35 0 [(0, .dat (.list (.int .u64)) x3801), (1, .fn 59 [] []), (5, .dat (.int .i64) 0), (10, .dat (.list (.int .u64)) x3801), (11, .dat (.int .i64) t), (12, .dat (.int .i64) 0)], []⟩ : St))) := by
  refine Link.of fun K h => ?_
  simp only [impl_countPairs_impl_wordSet_n2, wpO_bind, wpO_cond, wpO_map, wpO_some] at h
  exact Awp.of (by kernel_rfl) h

theorem impl_countPairs_impl_wordSet_n3_l (x3801 : List Int) (x3843 : Int) (x3802 : Int) (x3844 : Int) : Link impl_countPairs_impl_wordSet_ctx LL (Code.seq (Code.fst (Code.fst (Code.fst (Code.snd (Code.fst (Code.snd (Code.snd (bodyOf Tryd.f63)))))))) (Code.fst (Code.snd (Code.fst (Code.fst (Code.snd (Code.fst (Code.snd (Code.snd (bodyOf Tryd.f63)))))))))) (Ann.seq (Ann.fst (Ann.fst (Ann.fst (Ann.snd (Ann.fst (Ann.snd (Ann.snd impl_countPairs_impl_wordSet_an))))))) (Ann.fst (Ann.snd (Ann.fst (Ann.fst (Ann.snd (Ann.fst (Ann.snd (Ann.snd impl_countPairs_impl_wordSet_an))))))))) (⟨mkE 35 0 [(0, .dat (.list (.int .u64)) x3801), (1, .fn 59 [] []), (5, .dat (.int .i64) x3843), (10, .dat (.list (.int .u64)) x3801), (11, .dat (.int .i64) x3802), (12, .dat (.int .i64) x3844)], []⟩ : St) (impl_countPairs_impl_wordSet_n3 x3843 x3802 x3844) (Sum.elim (fun (t : Unit) => (Exit.normal, (⟨mkE 35 0 [(0, .dat (.list (.int .u64)) x3801), (1, .fn 59 [] []), (5, .dat (.int .i64) x3843), (10, .dat (.list (.int .u64)) x3801), (11, .dat (.int .i64) x3802), (12, .dat (.int .i64) x3844)], []⟩ : St))) (fun (t : Int) => ((Exit.exit 0), (⟨mkE 35 0 [(5, .dat (.int .i64) t)], []⟩ : St)))) := by
  refine Link.of fun K h => ?_
  simp only [impl_countPairs_impl_wordSet_n3, wpO_bind, wpO_cond, wpO_map, wpO_some] at h
  exact Awp.of (by kernel_rfl) h

theorem impl_countPairs_impl_wordSet_n4_l (x3801 : List Int) (x3843 : Int) (x3802 : Int) (x3844 : Int) : Link impl_countPairs_impl_wordSet_ctx LL (Code.seq (Code.fst (Code.fst (Code.fst (Code.snd (Code.snd (Code.fst (Code.fst (Code.snd (Code.fst (Code.snd (Code.snd (bodyOf Tryd.f63)))))))))))) (Code.fst (Code.snd (Code.fst (Code.fst (Code.snd (Code.snd (Code.fst (Code.fst (Code.snd (Code.fst (Code.snd (Code.snd (bodyOf Tryd.f63)))))))))))))) (Ann.seq (Ann.fst (Ann.fst (Ann.fst (Ann.snd (Ann.snd (Ann.fst (Ann.fst (Ann.snd (Ann.fst (Ann.snd (Ann.snd impl_countPairs_impl_wordSet_an))))))))))) (Ann.fst (Ann.snd (Ann.fst (Ann.fst (Ann.snd (Ann.snd (Ann.fst (Ann.fst (Ann.snd (Ann.fst (Ann.snd (Ann.snd impl_countPairs_impl_wordSet_an))))))))))))) (⟨mkE 35 0 [(0, .dat (.list (.int .u64)) x3801), (1, .fn 59 [] []), (5, .dat (.int .i64) x3843), (10, .dat (.list (.int .u64)) x3801), (11, .dat (.int .i64) x3802), (12, .dat (.int .i64) x3844)], []⟩ : St) (impl_countPairs_impl_wordSet_n4 x3801 x3844) (fun (t : Int × (List Int) × Int) => (Exit.normal, (⟨mkE 35 0 [(0, .dat (.list (.int .u64)) x3801), (1, .fn 59 [] []), (5, .dat (.int .i64) x3843), (7, .dat (.int .u64) t.1), (10, .dat (.list (.int .u64)) x3801), (11, .dat (.int .i64) x3802), (12, .dat (.int .i64) x3844), (20, .dat (.list (.int .u64)) t.2.1), (21, .dat (.int .i64) t.2.2), (22, .dat (.int .i64) 0)], []⟩ : St))) := by
  refine Link.of fun K h => ?_
  simp only [impl_countPairs_impl_wordSet_n4, wpO_bind, wpO_cond, wpO_map, wpO_some] at h
  exact Awp.of (by kernel_rfl) h

theorem impl_countPairs_impl_wordSet_n5_l (x3801 : List Int) (x3868 : Int) (x3848 : Int) (x3802 : Int) (x3844 : Int) (x3852 : List Int) (x3853 : Int) (x3869 : Int) : Link impl_countPairs_impl_wordSet_ctx LL (Code.fst (Code.fst (Code.snd (Code.snd (Code.fst (Code.fst (Code.snd (Code.snd (Code.fst (Code.fst (Code.snd (Code.fst (Code.snd (Code.snd (bodyOf Tryd.f63))))))))))))))) (Ann.fst (Ann.fst (Ann.snd (Ann.snd (Ann.fst (Ann.fst (Ann.snd (Ann.snd (Ann.fst (Ann.fst (Ann.snd (Ann.fst (Ann.snd (Ann.snd impl_countPairs_impl_wordSet_an)))))))))))))) (⟨mkE 35 0 [(0, .dat (.list (.int .u64)) x3801), (1, .fn 59 [] []), (5, .dat (.int .i64) x3868), (7, .dat (.int .u64) x3848), (10, .dat (.list (.int .u64)) x3801), (11, .dat (.int .i64) x3802), (12, .dat (.int .i64) x3844), (20, .dat (.list (.int .u64)) x3852), (21, .dat (.int .i64) x3853), (22, .dat (.int .i64) x3869)], []⟩ : St) (impl_countPairs_impl_wordSet_n5 x3868 x3848 x3852 x3853 x3869) (Sum.elim (fun (t : Int × Int) => (Exit.normal, (⟨mkE 35 0 [(0, .dat (.list (.int .u64)) x3801), (1, .fn 59 [] []), (5, .dat (.int .i64) t.1), (7, .dat (.int .u64) x3848), (10, .dat (.list (.int .u64)) x3801), (11, .dat (.int .i64) x3802), (12, .dat (.int .i64) x3844), (20, .dat (.list (.int .u64)) x3852), (21, .dat (.int .i64) x3853), (22, .dat (.int .i64) t.2)], []⟩ : St))) (fun (t : Int) => ((Exit.exit 2), (⟨mkE 35 0 [(0, .dat (.list (.int .u64)) x3801), (1, .fn 59 [] []), (5, .dat (.int .i64) t), (10, .dat (.list (.int .u64)) x3801), (11, .dat (.int .i64) x3802), (12, .dat (.int .i64) x3844)], []⟩ : St)))) := by
  refine Link.of fun K h => ?_
  simp only [impl_countPairs_impl_wordSet_n5, wpO_bind, wpO_cond, wpO_map, wpO_some] at h
  exact Awp.of (by kernel_rfl) h

theorem impl_countPairs_impl_wordSet_n6_l (x3801 : List Int) (x3843 : Int) (x3848 : Int) (x3802 : Int) (x3844 : Int) (x3852 : List Int) (x3853 : Int) : Link impl_countPairs_impl_wordSet_ctx LL (Code.fst (Code.snd (Code.snd (Code.fst (Code.fst (Code.snd (Code.snd (Code.fst (Code.fst (Code.snd (Code.fst (Code.snd (Code.snd (bodyOf Tryd.f63)))))))))))))) (Ann.fst (Ann.snd (Ann.snd (Ann.fst (Ann.fst (Ann.snd (Ann.snd (Ann.fst (Ann.fst (Ann.snd (Ann.fst (Ann.snd (Ann.snd impl_countPairs_impl_wordSet_an))))))))))))) (⟨mkE 35 0 [(0, .dat (.list (.int .u64)) x3801), (1, .fn 59 [] []), (5, .dat (.int .i64) x3843), (7, .dat (.int .u64) x3848), (10, .dat (.list (.int .u64)) x3801), (11, .dat (.int .i64) x3802), (12, .dat (.int .i64) x3844), (20, .dat (.list (.int .u64)) x3852), (21, .dat (.int .i64) x3853), (22, .dat (.int .i64) 0)], []⟩ : St) (impl_countPairs_impl_wordSet_n6 x3843 x3848 x3852 x3853) (fun (t : Int) => ((Exit.exit 2), (⟨mkE 35 0 [(0, .dat (.list (.int .u64)) x3801), (1, .fn 59 [] []), (5, .dat (.int .i64) t), (10, .dat (.list (.int .u64)) x3801), (11, .dat (.int .i64) x3802), (12, .dat (.int .i64) x3844)], []⟩ : St))) := by
  unfold impl_countPairs_impl_wordSet_n6
  exact Link.cast (by kernel_rfl) (by kernel_rfl) (link_loop (mk := fun (s : Int × Int) => (⟨mkE 35 0 [(0, .dat (.list (.int .u64)) x3801), (1, .fn 59 [] []), (5, .dat (.int .i64) s.1), (7, .dat (.int .u64) x3848), (10, .dat (.list (.int .u64)) x3801), (11, .dat (.int .i64) x3802), (12, .dat (.int .i64) x3844), (20, .dat (.list (.int .u64)) x3852), (21, .dat (.int .i64) x3853), (22, .dat (.int .i64) s.2)], []⟩ : St)) (fin := (fun (t : Int) => ((Exit.exit 2), (⟨mkE 35 0 [(0, .dat (.list (.int .u64)) x3801), (1, .fn 59 [] []), (5, .dat (.int .i64) t), (10, .dat (.list (.int .u64)) x3801), (11, .dat (.int .i64) x3802), (12, .dat (.int .i64) x3844)], []⟩ : St)))) (by
  rintro t f K h
  · exact h) (fun s => link_map (impl_countPairs_impl_wordSet_n5_l x3801 s.1 x3848 x3802 x3844 x3852 x3853 s.2) (Sum.elim (fun (t : Int × Int) => Sum.inl (t.1, t.2)) (fun (t : Int) => Sum.inr t)) (by
  rintro (t | t)
  · kernel_rfl
  · kernel_rfl)) (x3843, 0))

theorem impl_countPairs_impl_wordSet_n7_l (x3801 : List Int) (x3843 : Int) (x3848 : Int) (x3802 : Int) (x3844 : Int) (x3852 : List Int) (x3853 : Int) : Link impl_countPairs_impl_wordSet_ctx LL (Code.snd (Code.snd (Code.fst (Code.fst (Code.snd (Code.snd (Code.fst (Code.fst (Code.snd (Code.fst (Code.snd (Code.snd (bodyOf Tryd.f63))))))))))))) (Ann.snd (Ann.snd (Ann.fst (Ann.fst (Ann.snd (Ann.snd (Ann.fst (Ann.fst (Ann.snd (Ann.fst (Ann.snd (Ann.snd impl_countPairs_impl_wordSet_an)))))))))))) (⟨mkE 35 0 [(0, .dat (.list (.int .u64)) x3801), (1, .fn 59 [] []), (5, .dat (.int .i64) x3843), (7, .dat (.int .u64) x3848), (10, .dat (.list (.int .u64)) x3801), (11, .dat (.int .i64) x3802), (12, .dat (.int .i64) x3844), (20, .dat (.list (.int .u64)) x3852), (21, .dat (.int .i64) x3853), (22, .dat (.int .i64) 0)], []⟩ : St) (impl_countPairs_impl_wordSet_n7 x3843 x3848 x3852 x3853) (fun (t : Int) => (Exit.normal, (⟨mkE 35 0 [(0, .dat (.list (.int .u64)) x3801), (1, .fn 59 [] []), (5, .dat (.int .i64) t), (10, .dat (.list (.int .u64)) x3801), (11, .dat (.int .i64) x3802), (12, .dat (.int .i64) x3844)], []⟩ : St))) := by
  unfold impl_countPairs_impl_wordSet_n7
  exact Link.cast (by kernel_rfl) (by kernel_rfl) (link_block (id := 2) (impl_countPairs_impl_wordSet_n6_l x3801 x3843 x3848 x3802 x3844 x3852 x3853) (fun (t : Int) => t) (by
  rintro t K h
  · exact Eq.mp (by kernel_rfl) h))

theorem impl_countPairs_impl_wordSet_n8_l (x3801 : List Int) (x3843 : Int) (x3802 : Int) (x3844 : Int) : Link impl_countPairs_impl_wordSet_ctx LL (Code.fst (Code.fst (Code.snd (Code.snd (Code.fst (Code.fst (Code.snd (Code.fst (Code.snd (Code.snd (bodyOf Tryd.f63))))))))))) (Ann.fst (Ann.fst (Ann.snd (Ann.snd (Ann.fst (Ann.fst (Ann.snd (Ann.fst (Ann.snd (Ann.snd impl_countPairs_impl_wordSet_an)))))))))) (⟨mkE 35 0 [(0, .dat (.list (.int .u64)) x3801), (1, .fn 59 [] []), (5, .dat (.int .i64) x3843), (10, .dat (.list (.int .u64)) x3801), (11, .dat (.int .i64) x3802), (12, .dat (.int .i64) x3844)], []⟩ : St) (impl_countPairs_impl_wordSet_n8 x3801 x3843 x3844) (fun (t : Int) => (Exit.normal, (⟨mkE 35 0 [(0, .dat (.list (.int .u64)) x3801), (1, .fn 59 [] []), (5, .dat (.int .i64) t), (10, .dat (.list (.int .u64)) x3801), (11, .dat (.int .i64) x3802), (12, .dat (.int .i64) x3844)], []⟩ : St))) := by
  unfold impl_countPairs_impl_wordSet_n8
  exact Link.cast (by kernel_rfl) (by kernel_rfl) (link_group (c := (Code.fst (Code.snd (Code.fst (Code.fst (Code.snd (Code.snd (Code.fst (Code.fst (Code.snd (Code.fst (Code.snd (Code.snd (bodyOf Tryd.f63)))))))))))))) (a := (Ann.fst (Ann.snd (Ann.fst (Ann.fst (Ann.snd (Ann.snd (Ann.fst (Ann.fst (Ann.snd (Ann.fst (Ann.snd (Ann.snd impl_countPairs_impl_wordSet_an))))))))))))) [(Code.fst (Code.fst (Code.fst (Code.snd (Code.snd (Code.fst (Code.fst (Code.snd (Code.fst (Code.snd (Code.snd (bodyOf Tryd.f63))))))))))))] [(Ann.fst (Ann.fst (Ann.fst (Ann.snd (Ann.snd (Ann.fst (Ann.fst (Ann.snd (Ann.fst (Ann.snd (Ann.snd impl_countPairs_impl_wordSet_an)))))))))))] rfl (link_seq (b := (Code.snd (Code.snd (Code.fst (Code.fst (Code.snd (Code.snd (Code.fst (Code.fst (Code.snd (Code.fst (Code.snd (Code.snd (bodyOf Tryd.f63)))))))))))))) (y := (Ann.snd (Ann.snd (Ann.fst (Ann.fst (Ann.snd (Ann.snd (Ann.fst (Ann.fst (Ann.snd (Ann.fst (Ann.snd (Ann.snd impl_countPairs_impl_wordSet_an))))))))))))) (impl_countPairs_impl_wordSet_n4_l x3801 x3843 x3802 x3844) (fun (t : Int × (List Int) × Int) => (impl_countPairs_impl_wordSet_n7_l x3801 x3843 t.1 x3802 x3844 t.2.1 t.2.2))))

theorem impl_countPairs_impl_wordSet_n9_l (x3801 : List Int) (x3843 : Int) (x3802 : Int) (x3844 : Int) : Link impl_countPairs_impl_wordSet_ctx LL (Code.fst (Code.snd (Code.snd (Code.fst (Code.fst (Code.snd (Code.fst (Code.snd (Code.snd (bodyOf Tryd.f63)))))))))) (Ann.fst (Ann.snd (Ann.snd (Ann.fst (Ann.fst (Ann.snd (Ann.fst (Ann.snd (Ann.snd impl_countPairs_impl_wordSet_an))))))))) (⟨mkE 35 0 [(0, .dat (.list (.int .u64)) x3801), (1, .fn 59 [] []), (5, .dat (.int .i64) x3843), (10, .dat (.list (.int .u64)) x3801), (11, .dat (.int .i64) x3802), (12, .dat (.int .i64) x3844)], []⟩ : St) (impl_countPairs_impl_wordSet_n9 x3801 x3843 x3844) (fun (t : Int) => (Exit.normal, (⟨mkE 35 0 [(0, .dat (.list (.int .u64)) x3801), (1, .fn 59 [] []), (5, .dat (.int .i64) t), (10, .dat (.list (.int .u64)) x3801), (11, .dat (.int .i64) x3802), (12, .dat (.int .i64) x3844)], []⟩ : St))) := by
  unfold impl_countPairs_impl_wordSet_n9
  exact Link.cast (by kernel_rfl) (by kernel_rfl) (link_block (id := 1) (impl_countPairs_impl_wordSet_n8_l x3801 x3843 x3802 x3844) (fun (t : Int) => t) (by
  rintro t K h
  · exact Eq.mp (by kernel_rfl) h))

theorem impl_countPairs_impl_wordSet_n10_l (x3801 : List Int) (x3868 : Int) (x3802 : Int) (x3844 : Int) : Link impl_countPairs_impl_wordSet_ctx LL (Code.snd (Code.snd (Code.snd (Code.fst (Code.fst (Code.snd (Code.fst (Code.snd (Code.snd (bodyOf Tryd.f63)))))))))) (Ann.snd (Ann.snd (Ann.snd (Ann.fst (Ann.fst (Ann.snd (Ann.fst (Ann.snd (Ann.snd impl_countPairs_impl_wordSet_an))))))))) (⟨mkE 35 0 [(0, .dat (.list (.int .u64)) x3801), (1, .fn 59 [] []), (5, .dat (.int .i64) x3868), (10, .dat (.list (.int .u64)) x3801), (11, .dat (.int .i64) x3802), (12, .dat (.int .i64) x3844)], []⟩ : St) (impl_countPairs_impl_wordSet_n10 x3844) (fun (t : Int) => (Exit.normal, (⟨mkE 35 0 [(0, .dat (.list (.int .u64)) x3801), (1, .fn 59 [] []), (5, .dat (.int .i64) x3868), (10, .dat (.list (.int .u64)) x3801), (11, .dat (.int .i64) x3802), (12, .dat (.int .i64) t)], []⟩ : St))) := by
  refine Link.of fun K h => ?_
  simp only [impl_countPairs_impl_wordSet_n10, wpO_bind, wpO_cond, wpO_map, wpO_some] at h
  exact Awp.of (by kernel_rfl) h

theorem impl_countPairs_impl_wordSet_n11_l (x3801 : List Int) (x3843 : Int) (x3802 : Int) (x3844 : Int) : Link impl_countPairs_impl_wordSet_ctx LL (Code.snd (Code.snd (Code.fst (Code.fst (Code.snd (Code.fst (Code.snd (Code.snd (bodyOf Tryd.f63))))))))) (Ann.snd (Ann.snd (Ann.fst (Ann.fst (Ann.snd (Ann.fst (Ann.snd (Ann.snd impl_countPairs_impl_wordSet_an)))))))) (⟨mkE 35 0 [(0, .dat (.list (.int .u64)) x3801), (1, .fn 59 [] []), (5, .dat (.int .i64) x3843), (10, .dat (.list (.int .u64)) x3801), (11, .dat (.int .i64) x3802), (12, .dat (.int .i64) x3844)], []⟩ : St) (impl_countPairs_impl_wordSet_n11 x3801 x3843 x3844) (fun (t : Int × Int) => (Exit.normal, (⟨mkE 35 0 [(0, .dat (.list (.int .u64)) x3801), (1, .fn 59 [] []), (5, .dat (.int .i64) t.1), (10, .dat (.list (.int .u64)) x3801), (11, .dat (.int .i64) x3802), (12, .dat (.int .i64) t.2)], []⟩ : St))) := by
  unfold impl_countPairs_impl_wordSet_n11
  exact Link.cast (by kernel_rfl) (by kernel_rfl) (link_seq (b := (Code.snd (Code.snd (Code.snd (Code.fst (Code.fst (Code.snd (Code.fst (Code.snd (Code.snd (bodyOf Tryd.f63))))))))))) (y := (Ann.snd (Ann.snd (Ann.snd (Ann.fst (Ann.fst (Ann.snd (Ann.fst (Ann.snd (Ann.snd impl_countPairs_impl_wordSet_an)))))))))) (impl_countPairs_impl_wordSet_n9_l x3801 x3843 x3802 x3844) (fun (t : Int) => (link_map (impl_countPairs_impl_wordSet_n10_l x3801 t x3802 x3844) (fun (u : Int) => (t, u)) (by
  rintro t
  · kernel_rfl))))

theorem impl_countPairs_impl_wordSet_n12_l (x3801 : List Int) (x3843 : Int) (x3802 : Int) (x3844 : Int) : Link impl_countPairs_impl_wordSet_ctx LL (Code.fst (Code.fst (Code.snd (Code.fst (Code.snd (Code.snd (bodyOf Tryd.f63))))))) (Ann.fst (Ann.fst (Ann.snd (Ann.fst (Ann.snd (Ann.snd impl_countPairs_impl_wordSet_an)))))) (⟨mkE 35 0 [(0, .dat (.list (.int .u64)) x3801), (1, .fn 59 [] []), (5, .dat (.int .i64) x3843), (10, .dat (.list (.int .u64)) x3801), (11, .dat (.int .i64) x3802), (12, .dat (.int .i64) x3844)], []⟩ : St) (impl_countPairs_impl_wordSet_n12 x3801 x3843 x3802 x3844) (Sum.elim (fun (t : Int × Int) => (Exit.normal, (⟨mkE 35 0 [(0, .dat (.list (.int .u64)) x3801), (1, .fn 59 [] []), (5, .dat (.int .i64) t.1), (10, .dat (.list (.int .u64)) x3801), (11, .dat (.int .i64) x3802), (12, .dat (.int .i64) t.2)], []⟩ : St))) (fun (t : Int) => ((Exit.exit 0), (⟨mkE 35 0 [(5, .dat (.int .i64) t)], []⟩ : St)))) := by
  unfold impl_countPairs_impl_wordSet_n12
  exact Link.cast (by kernel_rfl) (by kernel_rfl) (link_group (c := (Code.fst (Code.snd (Code.fst (Code.fst (Code.snd (Code.fst (Code.snd (Code.snd (bodyOf Tryd.f63)))))))))) (a := (Ann.fst (Ann.snd (Ann.fst (Ann.fst (Ann.snd (Ann.fst (Ann.snd (Ann.snd impl_countPairs_impl_wordSet_an))))))))) [(Code.fst (Code.fst (Code.fst (Code.snd (Code.fst (Code.snd (Code.snd (bodyOf Tryd.f63))))))))] [(Ann.fst (Ann.fst (Ann.fst (Ann.snd (Ann.fst (Ann.snd (Ann.snd impl_countPairs_impl_wordSet_an)))))))] rfl (link_seq2 (b := (Code.snd (Code.snd (Code.fst (Code.fst (Code.snd (Code.fst (Code.snd (Code.snd (bodyOf Tryd.f63)))))))))) (y := (Ann.snd (Ann.snd (Ann.fst (Ann.fst (Ann.snd (Ann.fst (Ann.snd (Ann.snd impl_countPairs_impl_wordSet_an))))))))) (impl_countPairs_impl_wordSet_n3_l x3801 x3843 x3802 x3844) (fun (t : Unit) => (link_map (impl_countPairs_impl_wordSet_n11_l x3801 x3843 x3802 x3844) (fun (t : Int × Int) => (Sum.inl (t.1, t.2))) (by
  rintro t
  · kernel_rfl))) (fun (t : Int) => (Sum.inr t)) (by
  rintro t
  · kernel_rfl) (by
  rintro t f K h
  · exact h)))

theorem impl_countPairs_impl_wordSet_n13_l (x3801 : List Int) (x3802 : Int) : Link impl_countPairs_impl_wordSet_ctx LL (Code.fst (Code.snd (Code.fst (Code.snd (Code.snd (bodyOf Tryd.f63)))))) (Ann.fst (Ann.snd (Ann.fst (Ann.snd (Ann.snd impl_countPairs_impl_wordSet_an))))) (⟨mkE 35 0 [(0, .dat (.list (.int .u64)) x3801), (1, .fn 59 [] []), (5, .dat (.int .i64) 0), (10, .dat (.list (.int .u64)) x3801), (11, .dat (.int .i64) x3802), (12, .dat (.int .i64) 0)], []⟩ : St) (impl_countPairs_impl_wordSet_n13 x3801 x3802) (fun (t : Int) => ((Exit.exit 0), (⟨mkE 35 0 [(5, .dat (.int .i64) t)], []⟩ : St))) := by
  unfold impl_countPairs_impl_wordSet_n13
  exact Link.cast (by kernel_rfl) (by kernel_rfl) (link_loop (mk := fun (s : Int × Int) => (⟨mkE 35 0 [(0, .dat (.list (.int .u64)) x3801), (1, .fn 59 [] []), (5, .dat (.int .i64) s.1), (10, .dat (.list (.int .u64)) x3801), (11, .dat (.int .i64) x3802), (12, .dat (.int .i64) s.2)], []⟩ : St)) (fin := (fun (t : Int) => ((Exit.exit 0), (⟨mkE 35 0 [(5, .dat (.int .i64) t)], []⟩ : St)))) (by
  rintro t f K h
  · exact h) (fun s => link_map (impl_countPairs_impl_wordSet_n12_l x3801 s.1 x3802 s.2) (Sum.elim (fun (t : Int × Int) => Sum.inl (t.1, t.2)) (fun (t : Int) => Sum.inr t)) (by
  rintro (t | t)
  · kernel_rfl
  · kernel_rfl)) (0, 0))

theorem impl_countPairs_impl_wordSet_n14_l (x3801 : List Int) (x3802 : Int) : Link impl_countPairs_impl_wordSet_ctx LL (Code.snd (Code.fst (Code.snd (Code.snd (bodyOf Tryd.f63))))) (Ann.snd (Ann.fst (Ann.snd (Ann.snd impl_countPairs_impl_wordSet_an)))) (⟨mkE 35 0 [(0, .dat (.list (.int .u64)) x3801), (1, .fn 59 [] []), (5, .dat (.int .i64) 0), (10, .dat (.list (.int .u64)) x3801), (11, .dat (.int .i64) x3802), (12, .dat (.int .i64) 0)], []⟩ : St) (impl_countPairs_impl_wordSet_n14 x3801 x3802) (fun (t : Int) => (Exit.normal, (⟨mkE 35 0 [(5, .dat (.int .i64) t)], []⟩ : St))) := by
  unfold impl_countPairs_impl_wordSet_n14
  exact Link.cast (by kernel_rfl) (by kernel_rfl) (link_block (id := 0) (impl_countPairs_impl_wordSet_n13_l x3801 x3802) (fun (t : Int) => t) (by
  rintro t K h
  · exact Eq.mp (by kernel_rfl) h))

theorem impl_countPairs_impl_wordSet_n15_l (x3801 : List Int) : Link impl_countPairs_impl_wordSet_ctx LL (Code.fst (Code.snd (Code.snd (bodyOf Tryd.f63)))) (Ann.fst (Ann.snd (Ann.snd impl_countPairs_impl_wordSet_an))) (⟨mkE 35 0 [(0, .dat (.list (.int .u64)) x3801), (1, .fn 59 [] []), (5, .dat (.int .i64) 0)], []⟩ : St) (impl_countPairs_impl_wordSet_n15 x3801) (fun (t : Int) => (Exit.normal, (⟨mkE 35 0 [(5, .dat (.int .i64) t)], []⟩ : St))) := by
  unfold impl_countPairs_impl_wordSet_n15
  exact Link.cast (by kernel_rfl) (by kernel_rfl) (link_seq (b := (Code.snd (Code.fst (Code.snd (Code.snd (bodyOf Tryd.f63)))))) (y := (Ann.snd (Ann.fst (Ann.snd (Ann.snd impl_countPairs_impl_wordSet_an))))) (impl_countPairs_impl_wordSet_n2_l x3801) (fun (t : Int) => (impl_countPairs_impl_wordSet_n14_l x3801 t)))

theorem impl_countPairs_impl_wordSet_n16_l (x3843 : Int) : Link impl_countPairs_impl_wordSet_ctx LL (Code.snd (Code.snd (Code.snd (bodyOf Tryd.f63)))) (Ann.snd (Ann.snd (Ann.snd impl_countPairs_impl_wordSet_an))) (⟨mkE 35 0 [(5, .dat (.int .i64) x3843)], []⟩ : St) (impl_countPairs_impl_wordSet_n16 x3843) (fun (t : Int) => (Exit.ret, (⟨mkE 35 0 [(4, .dat (.int .i64) t)], []⟩ : St))) := by
  refine Link.of fun K h => ?_
  simp only [impl_countPairs_impl_wordSet_n16, wpO_bind, wpO_cond, wpO_map, wpO_some] at h
  exact Awp.of (by kernel_rfl) h

theorem impl_countPairs_impl_wordSet_n17_l (x3801 : List Int) : Link impl_countPairs_impl_wordSet_ctx LL (Code.snd (Code.snd (bodyOf Tryd.f63))) (Ann.snd (Ann.snd impl_countPairs_impl_wordSet_an)) (⟨mkE 35 0 [(0, .dat (.list (.int .u64)) x3801), (1, .fn 59 [] []), (5, .dat (.int .i64) 0)], []⟩ : St) (impl_countPairs_impl_wordSet_n17 x3801) (fun (t : Int) => (Exit.ret, (⟨mkE 35 0 [(4, .dat (.int .i64) t)], []⟩ : St))) := by
  unfold impl_countPairs_impl_wordSet_n17
  exact Link.cast (by kernel_rfl) (by kernel_rfl) (link_seq (b := (Code.snd (Code.snd (Code.snd (bodyOf Tryd.f63))))) (y := (Ann.snd (Ann.snd (Ann.snd impl_countPairs_impl_wordSet_an)))) (impl_countPairs_impl_wordSet_n15_l x3801) (fun (t : Int) => (impl_countPairs_impl_wordSet_n16_l t)))

theorem impl_countPairs_impl_wordSet_n18_l (x3801 : List Int) : Link impl_countPairs_impl_wordSet_ctx LL (bodyOf Tryd.f63) impl_countPairs_impl_wordSet_an (⟨mkE 35 0 [(0, .dat (.list (.int .u64)) x3801), (1, .fn 59 [] [])], []⟩ : St) (impl_countPairs_impl_wordSet_n18 x3801) (fun (t : Int) => (Exit.ret, (⟨mkE 35 0 [(4, .dat (.int .i64) t)], []⟩ : St))) := by
  unfold impl_countPairs_impl_wordSet_n18
  exact Link.cast (by kernel_rfl) (by kernel_rfl) (link_group (c := (Code.fst (Code.snd (bodyOf Tryd.f63)))) (a := (Ann.fst (Ann.snd impl_countPairs_impl_wordSet_an))) [(Code.fst (bodyOf Tryd.f63))] [(Ann.fst impl_countPairs_impl_wordSet_an)] rfl (link_seq (b := (Code.snd (Code.snd (bodyOf Tryd.f63)))) (y := (Ann.snd (Ann.snd impl_countPairs_impl_wordSet_an))) (impl_countPairs_impl_wordSet_n1_l x3801) (fun (t : Unit) => (impl_countPairs_impl_wordSet_n17_l x3801))))

theorem impl_countPairs_impl_wordSet_e (x3801 : List Int) {r : AV} {H' : Heap} (h : (Ans.mk _ (impl_countPairs_impl_wordSet x3801) (fun (t : Int) => (.dat (.int .i64) t, []))).run = some (r, H')) : Awp impl_countPairs_impl_wordSet_ctx LL (bodyOf Tryd.f63) impl_countPairs_impl_wordSet_an (⟨mkE 35 0 [(0, .dat (.list (.int .u64)) x3801), (1, .fn 59 [] [])], []⟩ : St) (Ret (tlook tys) Tryd.f63.results.toList r H') :=
  ret_of' (impl_countPairs_impl_wordSet_n18_l x3801) (by unfold impl_countPairs_impl_wordSet; kernel_rfl) (by
  intro t
  exact ret_mk [.dat (.int .i64) t] (by kernel_rfl) (by kernel_rfl) (by kernel_rfl) (by kernel_rfl)) h

def F_impl_countPairs_impl_wordSet : Fun := fun avs H =>
  match avs, H with
  | [.dat (.list (.int .u64)) x3801, .fn 59 [] []], [] => ⟨_, impl_countPairs_impl_wordSet x3801, fun (t : Int) => (.dat (.int .i64) t, [])⟩
  | _, _ => Ans.no

theorem impl_countPairs_impl_wordSet_sound : Sound Tryd.prog 63 F_impl_countPairs_impl_wordSet := by
  refine fn_sound' (C := impl_countPairs_impl_wordSet_ctx) (c := bodyOf Tryd.f63) (cok_of tys_ok (List.forall_mem_cons.2 ⟨impl_goByTurns_sound, by simp⟩) (List.forall_mem_cons.2 ⟨Tryd.call59, by simp⟩) (by kernel_rfl)) Tryd.func63 (by kernel_rfl) LL impl_countPairs_impl_wordSet_an ?_
  intro avs H r H' h
  unfold F_impl_countPairs_impl_wordSet at h
  split at h
  · refine Awp.cast ?_ ?_ ?_ (impl_countPairs_impl_wordSet_e _ h) <;> kernel_rfl
  · simp [Ans.no, Ans.run] at h


/-! loop.example/headtrees/impl.NestedOk -/

def impl_NestedOk_an : Ann := (.seq (.leaf [0]) (.seq (.leaf [2]) (.leaf [2])))

noncomputable def impl_NestedOk_ctx : Ctx := ⟨tlook tys, olook [(22, F_impl_TreeOk), (43, F_impl_yieldsOf), (63, F_impl_countPairs_impl_wordSet)], ioF, 0, false⟩

theorem impl_NestedOk_n1_l (x3798 : List Int) : Link impl_NestedOk_ctx LL (bodyOf Tryd.f30) impl_NestedOk_an (⟨mkE 11 0 [(0, .dat (.list (.int .i64)) x3798)], []⟩ : St) (impl_NestedOk_n1 x3798) (fun (t : Bool) => (Exit.ret, (⟨mkE 11 0 [(2, .dat .bool t)], []⟩ : St))) := by
  refine Link.of fun K h => ?_
  simp only [impl_NestedOk_n1, wpO_bind, wpO_cond, wpO_map, wpO_some] at h
  exact Awp.of (by kernel_rfl) h

theorem impl_NestedOk_e (x3798 : List Int) {r : AV} {H' : Heap} (h : (Ans.mk _ (impl_NestedOk x3798) (fun (t : Bool) => (.dat .bool t, []))).run = some (r, H')) : Awp impl_NestedOk_ctx LL (bodyOf Tryd.f30) impl_NestedOk_an (⟨mkE 11 0 [(0, .dat (.list (.int .i64)) x3798)], []⟩ : St) (Ret (tlook tys) Tryd.f30.results.toList r H') :=
  ret_of' (impl_NestedOk_n1_l x3798) (by unfold impl_NestedOk; kernel_rfl) (by
  intro t
  exact ret_mk [.dat .bool t] (by kernel_rfl) (by kernel_rfl) (by kernel_rfl) (by kernel_rfl)) h

def F_impl_NestedOk : Fun := fun avs H =>
  match avs, H with
  | [.dat (.list (.int .i64)) x3798], [] => ⟨_, impl_NestedOk x3798, fun (t : Bool) => (.dat .bool t, [])⟩
  | _, _ => Ans.no

theorem impl_NestedOk_sound : Sound Tryd.prog 30 F_impl_NestedOk := by
  refine fn_sound' (C := impl_NestedOk_ctx) (c := bodyOf Tryd.f30) (cok_of tys_ok (List.forall_mem_cons.2 ⟨impl_TreeOk_sound, List.forall_mem_cons.2 ⟨impl_yieldsOf_sound, List.forall_mem_cons.2 ⟨impl_countPairs_impl_wordSet_sound, by simp⟩⟩⟩) (List.forall_mem_cons.2 ⟨Tryd.call22, List.forall_mem_cons.2 ⟨Tryd.call43, List.forall_mem_cons.2 ⟨Tryd.call63, by simp⟩⟩⟩) (by kernel_rfl)) Tryd.func30 (by kernel_rfl) LL impl_NestedOk_an ?_
  intro avs H r H' h
  unfold F_impl_NestedOk at h
  split at h
  · refine Awp.cast ?_ ?_ ?_ (impl_NestedOk_e _ h) <;> kernel_rfl
  · simp [Ans.no, Ans.run] at h


end Go.Rv
