/-
  The checked code answers as the plain functions do; written by program. Conditions: none.
-/
import Derived.Test.YteafjhhkdekagaaDoorGFnExactLeastLength
import Derived.Test.YteafjhhkdekagaaDoorFB
import Derived.Test.YteafjhhkdekagaaDoorProg
set_option linter.unusedVariables false
set_option linter.unusedSimpArgs false
set_option linter.defProp false
set_option maxRecDepth 100000
namespace Go.Rv
open Go.Proofs
theorem ty3 : TIOk Tryd.prog 3 ⟨.int .i64, 1, 8, some (.int .i64), [.int .i64 0], false⟩ := ⟨⟨infoOf (Tryd.prog.info? 3), by kernel_rfl, by kernel_rfl, by kernel_rfl, .int .i64 0, by kernel_rfl, by kernel_rfl⟩, (by kernel_rfl : Tryd.prog.underlying 3 = some (.int .i64)), no_eq⟩
theorem ty4 : TIOk Tryd.prog 4 ⟨.bool, 1, 1, some .bool, [.bool false], false⟩ := ⟨⟨infoOf (Tryd.prog.info? 4), by kernel_rfl, by kernel_rfl, by kernel_rfl, .bool false, by kernel_rfl, by kernel_rfl⟩, (by kernel_rfl : Tryd.prog.underlying 4 = some .bool), no_eq⟩
theorem ty5 : TIOk Tryd.prog 5 ⟨.int .u8, 1, 1, some (.int .u8), [.int .u8 0], false⟩ := ⟨⟨infoOf (Tryd.prog.info? 5), by kernel_rfl, by kernel_rfl, by kernel_rfl, .int .u8 0, by kernel_rfl, by kernel_rfl⟩, (by kernel_rfl : Tryd.prog.underlying 5 = some (.int .u8)), no_eq⟩
theorem ty22 : TIOk Tryd.prog 22 ⟨.slice 5, 1, 24, some (.list (.int .u8)), [.slice none 0 0], false⟩ := ⟨⟨infoOf (Tryd.prog.info? 22), by kernel_rfl, by kernel_rfl, by kernel_rfl, .slice none 0 0, by kernel_rfl, by kernel_rfl⟩, (by kernel_rfl : Tryd.prog.underlying 22 = some (.slice 5)), no_eq⟩
theorem ty23 : TIOk Tryd.prog 23 ⟨.slice 3, 1, 24, some (.list (.int .i64)), [.slice none 0 0], false⟩ := ⟨⟨infoOf (Tryd.prog.info? 23), by kernel_rfl, by kernel_rfl, by kernel_rfl, .slice none 0 0, by kernel_rfl, by kernel_rfl⟩, (by kernel_rfl : Tryd.prog.underlying 23 = some (.slice 3)), no_eq⟩
theorem ty36 : TIOk Tryd.prog 36 ⟨.slice 47, 1, 24, some (.list (.int .u64)), [.slice none 0 0], false⟩ := ⟨⟨infoOf (Tryd.prog.info? 36), by kernel_rfl, by kernel_rfl, by kernel_rfl, .slice none 0 0, by kernel_rfl, by kernel_rfl⟩, (by kernel_rfl : Tryd.prog.underlying 36 = some (.slice 47)), no_eq⟩
theorem ty47 : TIOk Tryd.prog 47 ⟨.int .u64, 1, 8, some (.int .u64), [.int .u64 0], false⟩ := ⟨⟨infoOf (Tryd.prog.info? 47), by kernel_rfl, by kernel_rfl, by kernel_rfl, .int .u64 0, by kernel_rfl, by kernel_rfl⟩, (by kernel_rfl : Tryd.prog.underlying 47 = some (.int .u64)), no_eq⟩
theorem ty48 : TIOk Tryd.prog 48 ⟨.slice 51, 1, 24, some (.list (.pair (.int .i64) (.pair (.int .i64) .unit))), [.slice none 0 0], false⟩ := ⟨⟨infoOf (Tryd.prog.info? 48), by kernel_rfl, by kernel_rfl, by kernel_rfl, .slice none 0 0, by kernel_rfl, by kernel_rfl⟩, (by kernel_rfl : Tryd.prog.underlying 48 = some (.slice 51)), no_eq⟩
theorem ty51 : TIOk Tryd.prog 51 ⟨.strct [(0, 3), (1, 3)], 2, 16, some (.pair (.int .i64) (.pair (.int .i64) .unit)), [.int .i64 0, .int .i64 0], false⟩ := ⟨⟨infoOf (Tryd.prog.info? 51), by kernel_rfl, by kernel_rfl, by kernel_rfl, .agg #[.int .i64 0, .int .i64 0], by kernel_rfl, by kernel_rfl⟩, ⟨fieldsOf (Tryd.prog.underlying 51), by kernel_rfl, by kernel_rfl⟩, no_eq⟩
theorem ty54 : TIOk Tryd.prog 54 ⟨.strct [(0, 22), (1, 3)], 2, 32, some (.pair (.list (.int .u8)) (.pair (.int .i64) .unit)), [.slice none 0 0, .int .i64 0], false⟩ := ⟨⟨infoOf (Tryd.prog.info? 54), by kernel_rfl, by kernel_rfl, by kernel_rfl, .agg #[.slice none 0 0, .int .i64 0], by kernel_rfl, by kernel_rfl⟩, ⟨fieldsOf (Tryd.prog.underlying 54), by kernel_rfl, by kernel_rfl⟩, no_eq⟩
theorem ty63 : TIOk Tryd.prog 63 ⟨.strct [(0, 23), (1, 3), (2, 3)], 3, 40, some (.pair (.list (.int .i64)) (.pair (.int .i64) (.pair (.int .i64) .unit))), [.slice none 0 0, .int .i64 0, .int .i64 0], false⟩ := ⟨⟨infoOf (Tryd.prog.info? 63), by kernel_rfl, by kernel_rfl, by kernel_rfl, .agg #[.slice none 0 0, .int .i64 0, .int .i64 0], by kernel_rfl, by kernel_rfl⟩, ⟨fieldsOf (Tryd.prog.underlying 63), by kernel_rfl, by kernel_rfl⟩, no_eq⟩
theorem ty64 : TIOk Tryd.prog 64 ⟨.arr 9 4, 9, 9, none, [.bool false, .bool false, .bool false, .bool false, .bool false, .bool false, .bool false, .bool false, .bool false], false⟩ := ⟨⟨infoOf (Tryd.prog.info? 64), by kernel_rfl, by kernel_rfl, by kernel_rfl, .agg #[.bool false, .bool false, .bool false, .bool false, .bool false, .bool false, .bool false, .bool false, .bool false], by kernel_rfl, by kernel_rfl⟩, (by kernel_rfl : Tryd.prog.underlying 64 = some (.array 9 4)), no_eq⟩
theorem ty71 : TIOk Tryd.prog 71 ⟨.arr 2 3, 2, 16, none, [.int .i64 0, .int .i64 0], false⟩ := ⟨⟨infoOf (Tryd.prog.info? 71), by kernel_rfl, by kernel_rfl, by kernel_rfl, .agg #[.int .i64 0, .int .i64 0], by kernel_rfl, by kernel_rfl⟩, (by kernel_rfl : Tryd.prog.underlying 71 = some (.array 2 3)), no_eq⟩
theorem ty81 : TIOk Tryd.prog 81 ⟨.int .u64, 1, 8, some (.int .u64), [.int .u64 0], false⟩ := ⟨⟨infoOf (Tryd.prog.info? 81), by kernel_rfl, by kernel_rfl, by kernel_rfl, .int .u64 0, by kernel_rfl, by kernel_rfl⟩, (by kernel_rfl : Tryd.prog.underlying 81 = some (.int .u64)), no_eq⟩
theorem ty84 : TIOk Tryd.prog 84 ⟨.arr 64 5, 64, 64, none, [.int .u8 0, .int .u8 0, .int .u8 0, .int .u8 0, .int .u8 0, .int .u8 0, .int .u8 0, .int .u8 0, .int .u8 0, .int .u8 0, .int .u8 0, .int .u8 0, .int .u8 0, .int .u8 0, .int .u8 0, .int .u8 0, .int .u8 0, .int .u8 0, .int .u8 0, .int .u8 0, .int .u8 0, .int .u8 0, .int .u8 0, .int .u8 0, .int .u8 0, .int .u8 0, .int .u8 0, .int .u8 0, .int .u8 0, .int .u8 0, .int .u8 0, .int .u8 0, .int .u8 0, .int .u8 0, .int .u8 0, .int .u8 0, .int .u8 0, .int .u8 0, .int .u8 0, .int .u8 0, .int .u8 0, .int .u8 0, .int .u8 0, .int .u8 0, .int .u8 0, .int .u8 0, .int .u8 0, .int .u8 0, .int .u8 0, .int .u8 0, .int .u8 0, .int .u8 0, .int .u8 0, .int .u8 0, .int .u8 0, .int .u8 0, .int .u8 0, .int .u8 0, .int .u8 0, .int .u8 0, .int .u8 0, .int .u8 0, .int .u8 0, .int .u8 0], false⟩ := ⟨⟨infoOf (Tryd.prog.info? 84), by kernel_rfl, by kernel_rfl, by kernel_rfl, .agg #[.int .u8 0, .int .u8 0, .int .u8 0, .int .u8 0, .int .u8 0, .int .u8 0, .int .u8 0, .int .u8 0, .int .u8 0, .int .u8 0, .int .u8 0, .int .u8 0, .int .u8 0, .int .u8 0, .int .u8 0, .int .u8 0, .int .u8 0, .int .u8 0, .int .u8 0, .int .u8 0, .int .u8 0, .int .u8 0, .int .u8 0, .int .u8 0, .int .u8 0, .int .u8 0, .int .u8 0, .int .u8 0, .int .u8 0, .int .u8 0, .int .u8 0, .int .u8 0, .int .u8 0, .int .u8 0, .int .u8 0, .int .u8 0, .int .u8 0, .int .u8 0, .int .u8 0, .int .u8 0, .int .u8 0, .int .u8 0, .int .u8 0, .int .u8 0, .int .u8 0, .int .u8 0, .int .u8 0, .int .u8 0, .int .u8 0, .int .u8 0, .int .u8 0, .int .u8 0, .int .u8 0, .int .u8 0, .int .u8 0, .int .u8 0, .int .u8 0, .int .u8 0, .int .u8 0, .int .u8 0, .int .u8 0, .int .u8 0, .int .u8 0, .int .u8 0], by kernel_rfl, by kernel_rfl⟩, (by kernel_rfl : Tryd.prog.underlying 84 = some (.array 64 5)), no_eq⟩
def tys : List (TypeId × TI) := [(3, ⟨.int .i64, 1, 8, some (.int .i64), [.int .i64 0], false⟩), (4, ⟨.bool, 1, 1, some .bool, [.bool false], false⟩), (5, ⟨.int .u8, 1, 1, some (.int .u8), [.int .u8 0], false⟩), (22, ⟨.slice 5, 1, 24, some (.list (.int .u8)), [.slice none 0 0], false⟩), (23, ⟨.slice 3, 1, 24, some (.list (.int .i64)), [.slice none 0 0], false⟩), (36, ⟨.slice 47, 1, 24, some (.list (.int .u64)), [.slice none 0 0], false⟩), (47, ⟨.int .u64, 1, 8, some (.int .u64), [.int .u64 0], false⟩), (48, ⟨.slice 51, 1, 24, some (.list (.pair (.int .i64) (.pair (.int .i64) .unit))), [.slice none 0 0], false⟩), (51, ⟨.strct [(0, 3), (1, 3)], 2, 16, some (.pair (.int .i64) (.pair (.int .i64) .unit)), [.int .i64 0, .int .i64 0], false⟩), (54, ⟨.strct [(0, 22), (1, 3)], 2, 32, some (.pair (.list (.int .u8)) (.pair (.int .i64) .unit)), [.slice none 0 0, .int .i64 0], false⟩), (63, ⟨.strct [(0, 23), (1, 3), (2, 3)], 3, 40, some (.pair (.list (.int .i64)) (.pair (.int .i64) (.pair (.int .i64) .unit))), [.slice none 0 0, .int .i64 0, .int .i64 0], false⟩), (64, ⟨.arr 9 4, 9, 9, none, [.bool false, .bool false, .bool false, .bool false, .bool false, .bool false, .bool false, .bool false, .bool false], false⟩), (71, ⟨.arr 2 3, 2, 16, none, [.int .i64 0, .int .i64 0], false⟩), (81, ⟨.int .u64, 1, 8, some (.int .u64), [.int .u64 0], false⟩), (84, ⟨.arr 64 5, 64, 64, none, [.int .u8 0, .int .u8 0, .int .u8 0, .int .u8 0, .int .u8 0, .int .u8 0, .int .u8 0, .int .u8 0, .int .u8 0, .int .u8 0, .int .u8 0, .int .u8 0, .int .u8 0, .int .u8 0, .int .u8 0, .int .u8 0, .int .u8 0, .int .u8 0, .int .u8 0, .int .u8 0, .int .u8 0, .int .u8 0, .int .u8 0, .int .u8 0, .int .u8 0, .int .u8 0, .int .u8 0, .int .u8 0, .int .u8 0, .int .u8 0, .int .u8 0, .int .u8 0, .int .u8 0, .int .u8 0, .int .u8 0, .int .u8 0, .int .u8 0, .int .u8 0, .int .u8 0, .int .u8 0, .int .u8 0, .int .u8 0, .int .u8 0, .int .u8 0, .int .u8 0, .int .u8 0, .int .u8 0, .int .u8 0, .int .u8 0, .int .u8 0, .int .u8 0, .int .u8 0, .int .u8 0, .int .u8 0, .int .u8 0, .int .u8 0, .int .u8 0, .int .u8 0, .int .u8 0, .int .u8 0, .int .u8 0, .int .u8 0, .int .u8 0, .int .u8 0], false⟩)]
theorem tys_ok : TOk Tryd.prog (tlook tys) := tok_of (allc ty3 (allc ty4 (allc ty5 (allc ty22 (allc ty23 (allc ty36 (allc ty47 (allc ty48 (allc ty51 (allc ty54 (allc ty63 (allc ty64 (allc ty71 (allc ty81 (allc ty84 alln)))))))))))))))
def ioF (f : FuncId) (i : Nat) : Bool := [(39, 0), (44, 0), (51, 0), (54, 1), (57, 0), (57, 2), (60, 0)].any fun (p : Nat × Nat) => Nat.beq p.1 f && Nat.beq p.2 i


/-! loop.example/headtrees/spec.l1In -/

def spec_l1In_an : Ann := (.seq (.leaf [0, 1, 2]) (.seq (.leaf [6]) (.leaf [6])))

noncomputable def spec_l1In_ctx : Ctx := ⟨tlook tys, olook [], ioF, 0, false, []⟩

theorem spec_l1In_n1_l (x786 : Int) (x787 : Int) (x788 : Int) : Link spec_l1In_ctx LL (bodyOf Tryd.f46) spec_l1In_an ⟨mkE 15 0 [(0, dI x786), (1, dI x787), (2, dI x788)], []⟩ (spec_l1In_n1 x786 x787 x788) (fun (t : Bool) => (Exit.ret, ⟨mkE 15 0 [(6, dB t)], []⟩)) := .of fun K h => by
  simp only [spec_l1In_n1, wpW] at h
  exact .of (by kernel_rfl) h

theorem spec_l1In_e (x786 : Int) (x787 : Int) (x788 : Int) {r : AV} {H' : Heap} (h : (Ans.mk _ (spec_l1In x786 x787 x788) (fun (t : Bool) => (dB t, [])) [] none).run = some (r, H')) : Awp spec_l1In_ctx LL (bodyOf Tryd.f46) spec_l1In_an ⟨mkE 15 0 [(0, dI x786), (1, dI x787), (2, dI x788)], []⟩ (Ret (tlook tys) Tryd.f46.results.toList r H') :=
  ret_of' (spec_l1In_n1_l x786 x787 x788) (by unfold spec_l1In; kernel_rfl) (by
  intro t
  exact ret_mk [dB t] (by kernel_rfl) (by kernel_rfl) (by kernel_rfl) (by kernel_rfl)) h

def F_spec_l1In : Fun := fun avs H =>
  match avs, H with
  | [.dat (.int .i64) x786, .dat (.int .i64) x787, .dat (.int .i64) x788], [] => ⟨_, spec_l1In x786 x787 x788, fun (t : Bool) => (dB t, []), [], none⟩
  | _, _ => Ans.no

theorem spec_l1In_sound : Sound Tryd.prog 46 F_spec_l1In := by
  refine fn_sound' (C := spec_l1In_ctx) (c := bodyOf Tryd.f46) (cok_of tys_ok (alln) (alln) (by kernel_rfl)) Tryd.func46 (by kernel_rfl) LL spec_l1In_an ?_
  intro avs H r H' h
  unfold F_spec_l1In at h
  split at h
  · refine Awp.cast ?_ ?_ ?_ (spec_l1In_e _ _ _ h) <;> kernel_rfl
  · simp [Ans.no, Ans.run] at h


/-! loop.example/headtrees/spec.TreeOk -/

def spec_TreeOk_an : Ann := (.seq (.leaf [0]) (.seq (.leaf [0, 3]) (.seq (.seq (.leaf [0, 3, 12]) (.cond (.seq (.leaf [2]) (.leaf [2])) (.leaf [0, 3]))) (.seq (.leaf [0, 3, 4]) (.seq (.seq (.leaf [0, 3, 4, 5]) (.block (.loop (.seq (.seq (.leaf [0, 3, 4, 5, 15]) (.cond (.leaf [0, 3, 4, 5]) (.leaf [4]))) (.seq (.block (.seq (.seq (.leaf [0, 3, 4, 5, 33]) (.cond (.seq (.leaf [2]) (.leaf [2])) (.leaf [0, 3, 4, 5]))) (.seq (.seq (.leaf [0, 3, 4, 5, 38]) (.cond (.leaf [0, 3, 4, 5]) (.leaf [0, 3, 4, 5]))) (.seq (.leaf [0, 3, 4, 5, 6]) (.seq (.seq (.leaf [0, 3, 4, 5, 6, 7]) (.block (.loop (.seq (.seq (.leaf [0, 3, 4, 5, 6, 7, 49]) (.cond (.leaf [0, 3, 4, 5, 6, 7]) (.leaf [0, 3, 4, 5, 6]))) (.seq (.block (.seq (.leaf [0, 3, 4, 5, 6, 7]) (.seq (.leaf [0, 3, 4, 5, 6, 7, 60]) (.cond (.seq (.leaf [2]) (.leaf [2])) (.leaf [0, 3, 4, 5, 6, 7]))))) (.leaf [0, 3, 4, 5, 6, 7])))))) (.seq (.leaf [0, 3, 4, 5, 62]) (.cond (.seq (.leaf [2]) (.leaf [2])) (.leaf [0, 3, 4, 5])))))))) (.leaf [0, 3, 4, 5])))))) (.seq (.leaf [2]) (.leaf [2])))))))

noncomputable def spec_TreeOk_ctx : Ctx := ⟨tlook tys, olook [(46, F_spec_l1In)], ioF, 0, false, []⟩

theorem spec_TreeOk_n1_l (x782 : List Int) : Link spec_TreeOk_ctx LL (Code.seq (cq [0] (bodyOf Tryd.f21)) (Code.seq (cq [0,1] (bodyOf Tryd.f21)) (Code.seq (cq [0,1,1] (bodyOf Tryd.f21)) (cq [0,1,1,1] (bodyOf Tryd.f21))))) (Ann.seq (aq [0] spec_TreeOk_an) (Ann.seq (aq [0,1] spec_TreeOk_an) (Ann.seq (aq [0,1,1] spec_TreeOk_an) (aq [0,1,1,1] spec_TreeOk_an)))) ⟨mkE 65 0 [(0, dL x782)], []⟩ (spec_TreeOk_n1 x782) (Sum.elim (fun (t : Int) => (Exit.normal, ⟨mkE 65 0 [(0, dL x782), (3, dI t), (4, dI 0)], []⟩)) (fun (t : Bool) => (Exit.ret, ⟨mkE 65 0 [(2, dB t)], []⟩))) := .of fun K h => by
  simp only [spec_TreeOk_n1, wpW] at h
  exact .of (by kernel_rfl) h

theorem spec_TreeOk_n2_l (x782 : List Int) (x796 : Int) : Link spec_TreeOk_ctx LL (cq [0,0,1,1,1,1] (bodyOf Tryd.f21)) (aq [0,0,1,1,1,1] spec_TreeOk_an) ⟨mkE 65 0 [(0, dL x782), (3, dI x796), (4, dI 0)], []⟩ (spec_TreeOk_n2) (fun (t : Unit) => (Exit.normal, ⟨mkE 65 0 [(0, dL x782), (3, dI x796), (4, dI 0), (5, dI 0)], []⟩)) := .of fun K h => by
  simp only [spec_TreeOk_n2, wpW] at h
  exact .of (by kernel_rfl) h

theorem spec_TreeOk_n3_l (x782 : List Int) (x796 : Int) (x863 : Int) (x864 : Int) : Link spec_TreeOk_ctx LL (cq [0,0,0,1,0,1,1,1,1] (bodyOf Tryd.f21)) (aq [0,0,0,1,0,1,1,1,1] spec_TreeOk_an) ⟨mkE 65 0 [(0, dL x782), (3, dI x796), (4, dI x863), (5, dI x864)], []⟩ (spec_TreeOk_n3 x796 x863 x864) (Sum.elim (fun (t : Unit) => (Exit.normal, ⟨mkE 65 0 [(0, dL x782), (3, dI x796), (4, dI x863), (5, dI x864)], []⟩)) (fun (t : Int) => ((Exit.exit 0), ⟨mkE 65 0 [(4, dI t)], []⟩))) := .of fun K h => by
  simp only [spec_TreeOk_n3, wpW] at h
  exact .of (by kernel_rfl) h

theorem spec_TreeOk_n4_l (x782 : List Int) (x796 : Int) (x863 : Int) (x864 : Int) : Link spec_TreeOk_ctx LL (Code.seq (cq [0,0,0,1,0,0,1,0,1,1,1,1] (bodyOf Tryd.f21)) (Code.seq (cq [0,1,0,0,1,0,0,1,0,1,1,1,1] (bodyOf Tryd.f21)) (cq [0,1,1,0,0,1,0,0,1,0,1,1,1,1] (bodyOf Tryd.f21)))) (Ann.seq (aq [0,0,0,1,0,0,1,0,1,1,1,1] spec_TreeOk_an) (Ann.seq (aq [0,1,0,0,1,0,0,1,0,1,1,1,1] spec_TreeOk_an) (aq [0,1,1,0,0,1,0,0,1,0,1,1,1,1] spec_TreeOk_an))) ⟨mkE 65 0 [(0, dL x782), (3, dI x796), (4, dI x863), (5, dI x864)], []⟩ (spec_TreeOk_n4 x782 x796 x863 x864) (Sum.elim (fun (t : Int × Int) => (Exit.normal, ⟨mkE 65 0 [(0, dL x782), (3, dI x796), (4, dI t.1), (5, dI x864), (6, dI t.2)], []⟩)) (fun (t : Bool) => (Exit.ret, ⟨mkE 65 0 [(2, dB t)], []⟩))) := .of fun K h => by
  simp only [spec_TreeOk_n4, wpW] at h
  exact .of (by kernel_rfl) h

theorem spec_TreeOk_n5_l (x782 : List Int) (x796 : Int) (x892 : Int) (x864 : Int) (x893 : Int) : Link spec_TreeOk_ctx LL (cq [0,0,1,1,1,0,0,1,0,0,1,0,1,1,1,1] (bodyOf Tryd.f21)) (aq [0,0,1,1,1,0,0,1,0,0,1,0,1,1,1,1] spec_TreeOk_an) ⟨mkE 65 0 [(0, dL x782), (3, dI x796), (4, dI x892), (5, dI x864), (6, dI x893)], []⟩ (spec_TreeOk_n5) (fun (t : Unit) => (Exit.normal, ⟨mkE 65 0 [(0, dL x782), (3, dI x796), (4, dI x892), (5, dI x864), (6, dI x893), (7, dI 0)], []⟩)) := .of fun K h => by
  simp only [spec_TreeOk_n5, wpW] at h
  exact .of (by kernel_rfl) h

theorem spec_TreeOk_n6_l (x782 : List Int) (x796 : Int) (x892 : Int) (x864 : Int) (x909 : Int) (x910 : Int) : Link spec_TreeOk_ctx LL (cq [0,0,1,0,1,1,1,0,0,1,0,0,1,0,1,1,1,1] (bodyOf Tryd.f21)) (aq [0,0,1,0,1,1,1,0,0,1,0,0,1,0,1,1,1,1] spec_TreeOk_an) ⟨mkE 65 0 [(0, dL x782), (3, dI x796), (4, dI x892), (5, dI x864), (6, dI x909), (7, dI x910)], []⟩ (spec_TreeOk_n6 x782 x796 x909 x910) (Sum.elim (fun (t : Int × Int) => (Exit.normal, ⟨mkE 65 0 [(0, dL x782), (3, dI x796), (4, dI x892), (5, dI x864), (6, dI t.1), (7, dI t.2)], []⟩)) (Sum.elim (fun (t : Bool) => (Exit.ret, ⟨mkE 65 0 [(2, dB t)], []⟩)) (fun (t : Int) => ((Exit.exit 2), ⟨mkE 65 0 [(0, dL x782), (3, dI x796), (4, dI x892), (5, dI x864), (6, dI t)], []⟩)))) := .of fun K h => by
  simp only [spec_TreeOk_n6, wpW] at h
  exact .of (by kernel_rfl) h

def spec_TreeOk_n7_l (x782 : List Int) (x796 : Int) (x892 : Int) (x864 : Int) (x893 : Int) := (link_loop (mk := fun (s : Int × Int) => ⟨mkE 65 0 [(0, dL x782), (3, dI x796), (4, dI x892), (5, dI x864), (6, dI s.1), (7, dI s.2)], []⟩) (fin := (Sum.elim (fun (t : Bool) => (Exit.ret, ⟨mkE 65 0 [(2, dB t)], []⟩)) (fun (t : Int) => ((Exit.exit 2), ⟨mkE 65 0 [(0, dL x782), (3, dI x796), (4, dI x892), (5, dI x864), (6, dI t)], []⟩)))) (by
  rintro (t | t) f K h
  · exact h
  · exact h) (fun s => link_map (spec_TreeOk_n6_l x782 x796 x892 x864 s.1 s.2) (Sum.elim (fun (t : Int × Int) => Sum.inl (t.1, t.2)) (Sum.elim (fun (t : Bool) => Sum.inr (Sum.inl t)) (fun (t : Int) => Sum.inr (Sum.inr t)))) (by
  rintro (t | t | t)
  · kernel_rfl
  · kernel_rfl
  · kernel_rfl)) (x893, 0))

def spec_TreeOk_n8_l (x782 : List Int) (x796 : Int) (x892 : Int) (x864 : Int) (x893 : Int) := (link_block (fin2 := (Sum.elim (fun (t : Int) => (Exit.normal, ⟨mkE 65 0 [(0, dL x782), (3, dI x796), (4, dI x892), (5, dI x864), (6, dI t)], []⟩)) (fun (t : Bool) => (Exit.ret, ⟨mkE 65 0 [(2, dB t)], []⟩)))) (id := 2) (spec_TreeOk_n7_l x782 x796 x892 x864 x893) (Sum.elim (fun (t : Bool) => (Sum.inr t)) (fun (t : Int) => (Sum.inl t))) (by
  rintro (t | t) K h
  · exact Eq.mp (by kernel_rfl) h
  · exact Eq.mp (by kernel_rfl) h))

def spec_TreeOk_n9_l (x782 : List Int) (x796 : Int) (x892 : Int) (x864 : Int) (x893 : Int) := (link_seq (spec_TreeOk_n5_l x782 x796 x892 x864 x893) (fun (t : Unit) => (spec_TreeOk_n8_l x782 x796 x892 x864 x893)))

theorem spec_TreeOk_n10_l (x782 : List Int) (x796 : Int) (x892 : Int) (x864 : Int) (x909 : Int) : Link spec_TreeOk_ctx LL (cq [1,1,1,1,0,0,1,0,0,1,0,1,1,1,1] (bodyOf Tryd.f21)) (aq [1,1,1,1,0,0,1,0,0,1,0,1,1,1,1] spec_TreeOk_an) ⟨mkE 65 0 [(0, dL x782), (3, dI x796), (4, dI x892), (5, dI x864), (6, dI x909)], []⟩ (spec_TreeOk_n10 x909) (Sum.elim (fun (t : Unit) => (Exit.normal, ⟨mkE 65 0 [(0, dL x782), (3, dI x796), (4, dI x892), (5, dI x864)], []⟩)) (fun (t : Bool) => (Exit.ret, ⟨mkE 65 0 [(2, dB t)], []⟩))) := .of fun K h => by
  simp only [spec_TreeOk_n10, wpW] at h
  exact .of (by kernel_rfl) h

def spec_TreeOk_n11_l (x782 : List Int) (x796 : Int) (x892 : Int) (x864 : Int) (x893 : Int) := (link_seq2 (spec_TreeOk_n9_l x782 x796 x892 x864 x893) (fun (t : Int) => (spec_TreeOk_n10_l x782 x796 x892 x864 t)) (fun (t : Bool) => (Sum.inr t)) (by
  rintro t
  · kernel_rfl) (by
  rintro t f K h
  · exact h))

def spec_TreeOk_n12_l (x782 : List Int) (x796 : Int) (x863 : Int) (x864 : Int) := (link_group (c := (cq [0,1,1,0,0,1,0,0,1,0,1,1,1,1] (bodyOf Tryd.f21))) (a := (aq [0,1,1,0,0,1,0,0,1,0,1,1,1,1] spec_TreeOk_an)) [(cq [0,0,0,1,0,0,1,0,1,1,1,1] (bodyOf Tryd.f21)), (cq [0,1,0,0,1,0,0,1,0,1,1,1,1] (bodyOf Tryd.f21))] [(aq [0,0,0,1,0,0,1,0,1,1,1,1] spec_TreeOk_an), (aq [0,1,0,0,1,0,0,1,0,1,1,1,1] spec_TreeOk_an)] rfl (link_seq2 (spec_TreeOk_n4_l x782 x796 x863 x864) (fun (t : Int × Int) => (link_map (fin2 := (Sum.elim (fun (t : Int) => (Exit.normal, ⟨mkE 65 0 [(0, dL x782), (3, dI x796), (4, dI t), (5, dI x864)], []⟩)) (fun (t : Bool) => (Exit.ret, ⟨mkE 65 0 [(2, dB t)], []⟩)))) (spec_TreeOk_n11_l x782 x796 t.1 x864 t.2) (Sum.elim (fun (u : Unit) => (Sum.inl t.1)) (fun (u : Bool) => (Sum.inr u))) (by
  rintro (t | t)
  · kernel_rfl
  · kernel_rfl))) (fun (t : Bool) => (Sum.inr t)) (by
  rintro t
  · kernel_rfl) (by
  rintro t f K h
  · exact h)))

def spec_TreeOk_n13_l (x782 : List Int) (x796 : Int) (x863 : Int) (x864 : Int) := (link_block (fin2 := (Sum.elim (fun (t : Int) => (Exit.normal, ⟨mkE 65 0 [(0, dL x782), (3, dI x796), (4, dI t), (5, dI x864)], []⟩)) (fun (t : Bool) => (Exit.ret, ⟨mkE 65 0 [(2, dB t)], []⟩)))) (id := 1) (spec_TreeOk_n12_l x782 x796 x863 x864) (Sum.elim (fun (t : Int) => (Sum.inl t)) (fun (t : Bool) => (Sum.inr t))) (by
  rintro (t | t) K h
  · exact Eq.mp (by kernel_rfl) h
  · exact Eq.mp (by kernel_rfl) h))

theorem spec_TreeOk_n14_l (x782 : List Int) (x796 : Int) (x892 : Int) (x864 : Int) : Link spec_TreeOk_ctx LL (cq [1,1,0,0,1,0,1,1,1,1] (bodyOf Tryd.f21)) (aq [1,1,0,0,1,0,1,1,1,1] spec_TreeOk_an) ⟨mkE 65 0 [(0, dL x782), (3, dI x796), (4, dI x892), (5, dI x864)], []⟩ (spec_TreeOk_n14 x864) (fun (t : Int) => (Exit.normal, ⟨mkE 65 0 [(0, dL x782), (3, dI x796), (4, dI x892), (5, dI t)], []⟩)) := .of fun K h => by
  simp only [spec_TreeOk_n14, wpW] at h
  exact .of (by kernel_rfl) h

def spec_TreeOk_n15_l (x782 : List Int) (x796 : Int) (x863 : Int) (x864 : Int) := (link_seq2 (spec_TreeOk_n13_l x782 x796 x863 x864) (fun (t : Int) => (link_map (fin2 := (Sum.elim (fun (t : Int × Int) => (Exit.normal, ⟨mkE 65 0 [(0, dL x782), (3, dI x796), (4, dI t.1), (5, dI t.2)], []⟩)) (fun (t : Bool) => (Exit.ret, ⟨mkE 65 0 [(2, dB t)], []⟩)))) (spec_TreeOk_n14_l x782 x796 t x864) (fun (u : Int) => (Sum.inl (t, u))) (by
  rintro t
  · kernel_rfl))) (fun (t : Bool) => (Sum.inr t)) (by
  rintro t
  · kernel_rfl) (by
  rintro t f K h
  · exact h))

def spec_TreeOk_n16_l (x782 : List Int) (x796 : Int) (x863 : Int) (x864 : Int) := (link_seq2 (spec_TreeOk_n3_l x782 x796 x863 x864) (fun (t : Unit) => (link_map (fin2 := (Sum.elim (fun (t : Int × Int) => (Exit.normal, ⟨mkE 65 0 [(0, dL x782), (3, dI x796), (4, dI t.1), (5, dI t.2)], []⟩)) (Sum.elim (fun (t : Bool) => (Exit.ret, ⟨mkE 65 0 [(2, dB t)], []⟩)) (fun (t : Int) => ((Exit.exit 0), ⟨mkE 65 0 [(4, dI t)], []⟩))))) (spec_TreeOk_n15_l x782 x796 x863 x864) (Sum.elim (fun (t : Int × Int) => (Sum.inl (t.1, t.2))) (fun (t : Bool) => (Sum.inr (Sum.inl t)))) (by
  rintro (t | t)
  · kernel_rfl
  · kernel_rfl))) (fun (t : Int) => (Sum.inr (Sum.inr t))) (by
  rintro t
  · kernel_rfl) (by
  rintro t f K h
  · exact h))

def spec_TreeOk_n17_l (x782 : List Int) (x796 : Int) := (link_loop (mk := fun (s : Int × Int) => ⟨mkE 65 0 [(0, dL x782), (3, dI x796), (4, dI s.1), (5, dI s.2)], []⟩) (fin := (Sum.elim (fun (t : Bool) => (Exit.ret, ⟨mkE 65 0 [(2, dB t)], []⟩)) (fun (t : Int) => ((Exit.exit 0), ⟨mkE 65 0 [(4, dI t)], []⟩)))) (by
  rintro (t | t) f K h
  · exact h
  · exact h) (fun s => link_map (spec_TreeOk_n16_l x782 x796 s.1 s.2) (Sum.elim (fun (t : Int × Int) => Sum.inl (t.1, t.2)) (Sum.elim (fun (t : Bool) => Sum.inr (Sum.inl t)) (fun (t : Int) => Sum.inr (Sum.inr t)))) (by
  rintro (t | t | t)
  · kernel_rfl
  · kernel_rfl
  · kernel_rfl)) (0, 0))

def spec_TreeOk_n18_l (x782 : List Int) (x796 : Int) := (link_block (fin2 := (Sum.elim (fun (t : Int) => (Exit.normal, ⟨mkE 65 0 [(4, dI t)], []⟩)) (fun (t : Bool) => (Exit.ret, ⟨mkE 65 0 [(2, dB t)], []⟩)))) (id := 0) (spec_TreeOk_n17_l x782 x796) (Sum.elim (fun (t : Bool) => (Sum.inr t)) (fun (t : Int) => (Sum.inl t))) (by
  rintro (t | t) K h
  · exact Eq.mp (by kernel_rfl) h
  · exact Eq.mp (by kernel_rfl) h))

def spec_TreeOk_n19_l (x782 : List Int) (x796 : Int) := (link_seq (spec_TreeOk_n2_l x782 x796) (fun (t : Unit) => (spec_TreeOk_n18_l x782 x796)))

theorem spec_TreeOk_n20_l (x863 : Int) : Link spec_TreeOk_ctx LL (cq [1,1,1,1,1] (bodyOf Tryd.f21)) (aq [1,1,1,1,1] spec_TreeOk_an) ⟨mkE 65 0 [(4, dI x863)], []⟩ (spec_TreeOk_n20 x863) (fun (t : Bool) => (Exit.ret, ⟨mkE 65 0 [(2, dB t)], []⟩)) := .of fun K h => by
  simp only [spec_TreeOk_n20, wpW] at h
  exact .of (by kernel_rfl) h

def spec_TreeOk_n21_l (x782 : List Int) (x796 : Int) := (link_seq2 (spec_TreeOk_n19_l x782 x796) (fun (t : Int) => (spec_TreeOk_n20_l t)) (fun (t : Bool) => t) (by
  rintro t
  · kernel_rfl) (by
  rintro t f K h
  · exact h))

def spec_TreeOk_n22_l (x782 : List Int) := (link_group (c := (cq [0,1,1,1] (bodyOf Tryd.f21))) (a := (aq [0,1,1,1] spec_TreeOk_an)) [(cq [0] (bodyOf Tryd.f21)), (cq [0,1] (bodyOf Tryd.f21)), (cq [0,1,1] (bodyOf Tryd.f21))] [(aq [0] spec_TreeOk_an), (aq [0,1] spec_TreeOk_an), (aq [0,1,1] spec_TreeOk_an)] rfl (link_seq2 (spec_TreeOk_n1_l x782) (fun (t : Int) => (spec_TreeOk_n21_l x782 t)) (fun (t : Bool) => t) (by
  rintro t
  · kernel_rfl) (by
  rintro t f K h
  · exact h)))

theorem spec_TreeOk_e (x782 : List Int) {r : AV} {H' : Heap} (h : (Ans.mk _ (spec_TreeOk x782) (fun (t : Bool) => (dB t, [])) [] none).run = some (r, H')) : Awp spec_TreeOk_ctx LL (bodyOf Tryd.f21) spec_TreeOk_an ⟨mkE 65 0 [(0, dL x782)], []⟩ (Ret (tlook tys) Tryd.f21.results.toList r H') :=
  ret_of' (Link.cast (by kernel_rfl) (by kernel_rfl) (spec_TreeOk_n22_l x782)) (by unfold spec_TreeOk; kernel_rfl) (by
  intro t
  exact ret_mk [dB t] (by kernel_rfl) (by kernel_rfl) (by kernel_rfl) (by kernel_rfl)) h

def F_spec_TreeOk : Fun := fun avs H =>
  match avs, H with
  | [.dat (.list (.int .i64)) x782], [] => ⟨_, spec_TreeOk x782, fun (t : Bool) => (dB t, []), [], none⟩
  | _, _ => Ans.no

theorem spec_TreeOk_sound : Sound Tryd.prog 21 F_spec_TreeOk := by
  refine fn_sound' (C := spec_TreeOk_ctx) (c := bodyOf Tryd.f21) (cok_of tys_ok (allc spec_l1In_sound alln) (allc Tryd.call46 alln) (by kernel_rfl)) Tryd.func21 (by kernel_rfl) LL spec_TreeOk_an ?_
  intro avs H r H' h
  unfold F_spec_TreeOk at h
  split at h
  · refine Awp.cast ?_ ?_ ?_ (spec_TreeOk_e _ h) <;> kernel_rfl
  · simp [Ans.no, Ans.run] at h


/-! loop.example/headtrees/impl.oneRoot -/

def impl_oneRoot_an : Ann := (.seq (.leaf [0]) (.seq (.leaf [0, 3]) (.seq (.seq (.leaf [0, 3, 6, 7, 8]) (.block (.loop (.seq (.leaf [0, 3, 6, 7, 8, 9]) (.seq (.cond (.leaf [0, 3, 6, 7, 8]) (.leaf [3])) (.seq (.block (.seq (.leaf [0, 3, 5, 6, 7, 8]) (.seq (.seq (.leaf [0, 3, 5, 6, 7, 8, 19]) (.cond (.seq (.leaf [2]) (.leaf [2])) (.leaf [0, 3, 5, 6, 7, 8]))) (.seq (.leaf [0, 3, 6, 7, 8, 21]) (.cond (.leaf [0, 3, 6, 7, 8]) (.leaf [0, 3, 6, 7, 8])))))) (.leaf [0, 3, 6, 7, 8]))))))) (.seq (.leaf [2]) (.leaf [2])))))

noncomputable def impl_oneRoot_ctx : Ctx := ⟨tlook tys, olook [], ioF, 0, false, []⟩

theorem impl_oneRoot_n1_l (x1439 : List Int) : Link impl_oneRoot_ctx LL (Code.seq (cq [0] (bodyOf Tryd.f24)) (cq [0,1] (bodyOf Tryd.f24))) (Ann.seq (aq [0] impl_oneRoot_an) (aq [0,1] impl_oneRoot_an)) ⟨mkE 27 0 [(0, dL x1439)], []⟩ (impl_oneRoot_n1) (fun (t : Unit) => (Exit.normal, ⟨mkE 27 0 [(0, dL x1439), (3, dI 0)], []⟩)) := .of fun K h => by
  simp only [impl_oneRoot_n1, wpW] at h
  exact .of (by kernel_rfl) h

theorem impl_oneRoot_n2_l (x1439 : List Int) : Link impl_oneRoot_ctx LL (cq [0,0,1,1] (bodyOf Tryd.f24)) (aq [0,0,1,1] impl_oneRoot_an) ⟨mkE 27 0 [(0, dL x1439), (3, dI 0)], []⟩ (impl_oneRoot_n2 x1439) (fun (t : Int) => (Exit.normal, ⟨mkE 27 0 [(0, dL x1439), (3, dI 0), (6, dL x1439), (7, dI t), (8, dI 0)], []⟩)) := .of fun K h => by
  simp only [impl_oneRoot_n2, wpW] at h
  exact .of (by kernel_rfl) h

theorem impl_oneRoot_n3_l (x1439 : List Int) (x1461 : Int) (x1440 : Int) (x1462 : Int) : Link impl_oneRoot_ctx LL (cq [0,0,1,0,1,1] (bodyOf Tryd.f24)) (aq [0,0,1,0,1,1] impl_oneRoot_an) ⟨mkE 27 0 [(0, dL x1439), (3, dI x1461), (6, dL x1439), (7, dI x1440), (8, dI x1462)], []⟩ (impl_oneRoot_n3 x1439 x1461 x1440 x1462) (Sum.elim (fun (t : Int × Int) => (Exit.normal, ⟨mkE 27 0 [(0, dL x1439), (3, dI t.1), (6, dL x1439), (7, dI x1440), (8, dI t.2)], []⟩)) (Sum.elim (fun (t : Bool) => (Exit.ret, ⟨mkE 27 0 [(2, dB t)], []⟩)) (fun (t : Int) => ((Exit.exit 0), ⟨mkE 27 0 [(3, dI t)], []⟩)))) := .of fun K h => by
  simp only [impl_oneRoot_n3, wpW] at h
  exact .of (by kernel_rfl) h

def impl_oneRoot_n4_l (x1439 : List Int) (x1440 : Int) := (link_loop (mk := fun (s : Int × Int) => ⟨mkE 27 0 [(0, dL x1439), (3, dI s.1), (6, dL x1439), (7, dI x1440), (8, dI s.2)], []⟩) (fin := (Sum.elim (fun (t : Bool) => (Exit.ret, ⟨mkE 27 0 [(2, dB t)], []⟩)) (fun (t : Int) => ((Exit.exit 0), ⟨mkE 27 0 [(3, dI t)], []⟩)))) (by
  rintro (t | t) f K h
  · exact h
  · exact h) (fun s => link_map (impl_oneRoot_n3_l x1439 s.1 x1440 s.2) (Sum.elim (fun (t : Int × Int) => Sum.inl (t.1, t.2)) (Sum.elim (fun (t : Bool) => Sum.inr (Sum.inl t)) (fun (t : Int) => Sum.inr (Sum.inr t)))) (by
  rintro (t | t | t)
  · kernel_rfl
  · kernel_rfl
  · kernel_rfl)) (0, 0))

def impl_oneRoot_n5_l (x1439 : List Int) (x1440 : Int) := (link_block (fin2 := (Sum.elim (fun (t : Int) => (Exit.normal, ⟨mkE 27 0 [(3, dI t)], []⟩)) (fun (t : Bool) => (Exit.ret, ⟨mkE 27 0 [(2, dB t)], []⟩)))) (id := 0) (impl_oneRoot_n4_l x1439 x1440) (Sum.elim (fun (t : Bool) => (Sum.inr t)) (fun (t : Int) => (Sum.inl t))) (by
  rintro (t | t) K h
  · exact Eq.mp (by kernel_rfl) h
  · exact Eq.mp (by kernel_rfl) h))

def impl_oneRoot_n6_l (x1439 : List Int) := (link_seq (impl_oneRoot_n2_l x1439) (fun (t : Int) => (impl_oneRoot_n5_l x1439 t)))

theorem impl_oneRoot_n7_l (x1461 : Int) : Link impl_oneRoot_ctx LL (cq [1,1,1] (bodyOf Tryd.f24)) (aq [1,1,1] impl_oneRoot_an) ⟨mkE 27 0 [(3, dI x1461)], []⟩ (impl_oneRoot_n7 x1461) (fun (t : Bool) => (Exit.ret, ⟨mkE 27 0 [(2, dB t)], []⟩)) := .of fun K h => by
  simp only [impl_oneRoot_n7, wpW] at h
  exact .of (by kernel_rfl) h

def impl_oneRoot_n8_l (x1439 : List Int) := (link_seq2 (impl_oneRoot_n6_l x1439) (fun (t : Int) => (impl_oneRoot_n7_l t)) (fun (t : Bool) => t) (by
  rintro t
  · kernel_rfl) (by
  rintro t f K h
  · exact h))

def impl_oneRoot_n9_l (x1439 : List Int) := (link_group (c := (cq [0,1] (bodyOf Tryd.f24))) (a := (aq [0,1] impl_oneRoot_an)) [(cq [0] (bodyOf Tryd.f24))] [(aq [0] impl_oneRoot_an)] rfl (link_seq (impl_oneRoot_n1_l x1439) (fun (t : Unit) => (impl_oneRoot_n8_l x1439))))

theorem impl_oneRoot_e (x1439 : List Int) {r : AV} {H' : Heap} (h : (Ans.mk _ (impl_oneRoot x1439) (fun (t : Bool) => (dB t, [])) [] none).run = some (r, H')) : Awp impl_oneRoot_ctx LL (bodyOf Tryd.f24) impl_oneRoot_an ⟨mkE 27 0 [(0, dL x1439)], []⟩ (Ret (tlook tys) Tryd.f24.results.toList r H') :=
  ret_of' (Link.cast (by kernel_rfl) (by kernel_rfl) (impl_oneRoot_n9_l x1439)) (by unfold impl_oneRoot; kernel_rfl) (by
  intro t
  exact ret_mk [dB t] (by kernel_rfl) (by kernel_rfl) (by kernel_rfl) (by kernel_rfl)) h

def F_impl_oneRoot : Fun := fun avs H =>
  match avs, H with
  | [.dat (.list (.int .i64)) x1439], [] => ⟨_, impl_oneRoot x1439, fun (t : Bool) => (dB t, []), [], none⟩
  | _, _ => Ans.no

theorem impl_oneRoot_sound : Sound Tryd.prog 24 F_impl_oneRoot := by
  refine fn_sound' (C := impl_oneRoot_ctx) (c := bodyOf Tryd.f24) (cok_of tys_ok (alln) (alln) (by kernel_rfl)) Tryd.func24 (by kernel_rfl) LL impl_oneRoot_an ?_
  intro avs H r H' h
  unfold F_impl_oneRoot at h
  split at h
  · refine Awp.cast ?_ ?_ ?_ (impl_oneRoot_e _ h) <;> kernel_rfl
  · simp [Ans.no, Ans.run] at h


/-! (*loop.example/headtrees/impl.walker).up -/

def impl_walker_up_an : Ann := (.seq (.leaf [0]) (.seq (.draw [] [0, 1, 2, 3, 4, 5, 6, 7, 8, 9, 10, 11] [] [0, 3]) (.seq (.seq (.leaf [0, 3, 16]) (.cond (.seq (.leaf [2]) (.leaf [2])) (.leaf [0, 3]))) (.seq (.leaf [0]) (.seq (.leaf []) (.seq (.leaf [2]) (.leaf [2])))))))

noncomputable def impl_walker_up_ctx : Ctx := ⟨tlook tys, olook [], ioF, 1, false, []⟩

theorem impl_walker_up_n1_l (x1495 : List Int) (x1496 : Int) (x1497 : Int) : Link impl_walker_up_ctx LL (bodyOf Tryd.f49) impl_walker_up_an ⟨mkE 28 0 [(0, .ptr 0 0)], [some (.box [dL x1495, dI x1496, dI x1497])]⟩ (impl_walker_up_n1 x1495 x1496 x1497) (fun (t : Bool × Int × Int) => (Exit.ret, ⟨mkE 28 0 [(2, dB t.1)], [some (.box [dL x1495, dI t.2.1, dI t.2.2])]⟩)) := .of fun K h => by
  simp only [impl_walker_up_n1, wpW] at h
  exact .of (by kernel_rfl) h

theorem impl_walker_up_e (x1495 : List Int) (x1496 : Int) (x1497 : Int) {r : AV} {H' : Heap} (h : (Ans.mk _ (impl_walker_up x1495 x1496 x1497) (fun (t : Bool × Int × Int) => (dB t.1, [some (.box [dL x1495, dI t.2.1, dI t.2.2])])) [] none).run = some (r, H')) : Awp impl_walker_up_ctx LL (bodyOf Tryd.f49) impl_walker_up_an ⟨mkE 28 0 [(0, .ptr 0 0)], [some (.box [dL x1495, dI x1496, dI x1497])]⟩ (Ret (tlook tys) Tryd.f49.results.toList r H') :=
  ret_of' (impl_walker_up_n1_l x1495 x1496 x1497) (by unfold impl_walker_up; kernel_rfl) (by
  intro t
  exact ret_mk [dB t.1] (by kernel_rfl) (by kernel_rfl) (by kernel_rfl) (by kernel_rfl)) h

def F_impl_walker_up : Fun := fun avs H =>
  match avs, H with
  | [.ptr 0 0], [some (.box [.dat (.list (.int .i64)) x1495, .dat (.int .i64) x1496, .dat (.int .i64) x1497])] => ⟨_, impl_walker_up x1495 x1496 x1497, fun (t : Bool × Int × Int) => (dB t.1, [some (.box [dL x1495, dI t.2.1, dI t.2.2])]), [], none⟩
  | _, _ => Ans.no

theorem impl_walker_up_sound : Sound Tryd.prog 49 F_impl_walker_up := by
  refine fn_sound' (C := impl_walker_up_ctx) (c := bodyOf Tryd.f49) (cok_of tys_ok (alln) (alln) (by kernel_rfl)) Tryd.func49 (by kernel_rfl) LL impl_walker_up_an ?_
  intro avs H r H' h
  unfold F_impl_walker_up at h
  split at h
  · refine Awp.cast ?_ ?_ ?_ (impl_walker_up_e _ _ _ h) <;> kernel_rfl
  · simp [Ans.no, Ans.run] at h


/-! loop.example/headtrees/impl.stepsToRoot -/

def impl_stepsToRoot_an : Ann := (.seq (.leaf [0, 1]) (.seq (.leaf [0, 6]) (.seq (.block (.loop (.seq (.seq (.leaf [0, 6, 10]) (.cond (.leaf [0, 6]) (.leaf [6]))) (.block (.seq (.leaf [0, 6, 15]) (.cond (.seq (.leaf [4, 5]) (.leaf [4, 5])) (.leaf [0, 6]))))))) (.seq (.leaf [4, 5]) (.leaf [4, 5])))))

noncomputable def impl_stepsToRoot_ctx : Ctx := ⟨tlook tys, olook [(49, F_impl_walker_up)], ioF, 0, false, []⟩

theorem impl_stepsToRoot_n1_l (x1493 : List Int) (x1494 : Int) : Link impl_stepsToRoot_ctx LL (Code.seq (cq [0] (bodyOf Tryd.f25)) (cq [0,1] (bodyOf Tryd.f25))) (Ann.seq (aq [0] impl_stepsToRoot_an) (aq [0,1] impl_stepsToRoot_an)) ⟨mkE 18 0 [(0, dL x1493), (1, dI x1494)], []⟩ (impl_stepsToRoot_n1) (fun (t : Unit) => (Exit.normal, ⟨mkE 18 0 [(0, dL x1493), (6, .ptr 0 0)], [some (.box [dL x1493, dI x1494, dI 0])]⟩)) := .of fun K h => by
  simp only [impl_stepsToRoot_n1, wpW] at h
  exact .of (by kernel_rfl) h

theorem impl_stepsToRoot_n2_l (x1493 : List Int) (x1531 : Int) (x1532 : Int) : Link impl_stepsToRoot_ctx LL (cq [0,0,0,1,1] (bodyOf Tryd.f25)) (aq [0,0,0,1,1] impl_stepsToRoot_an) ⟨mkE 18 0 [(0, dL x1493), (6, .ptr 0 0)], [some (.box [dL x1493, dI x1531, dI x1532])]⟩ (impl_stepsToRoot_n2 x1493 x1531 x1532) (Sum.elim (fun (t : Int × Int) => (Exit.normal, ⟨mkE 18 0 [(0, dL x1493), (6, .ptr 0 0)], [some (.box [dL x1493, dI t.1, dI t.2])]⟩)) (Sum.elim (fun (t : Int × Bool) => (Exit.ret, ⟨mkE 18 0 [(4, dI t.1), (5, dB t.2)], []⟩)) (fun (t : Int × Int) => ((Exit.exit 0), ⟨mkE 18 0 [(6, .ptr 0 0)], [some (.box [dL x1493, dI t.1, dI t.2])]⟩)))) := .of fun K h => by
  simp only [impl_stepsToRoot_n2, wpW] at h
  exact .of (by kernel_rfl) h

def impl_stepsToRoot_n3_l (x1493 : List Int) (x1494 : Int) := (link_loop (mk := fun (s : Int × Int) => ⟨mkE 18 0 [(0, dL x1493), (6, .ptr 0 0)], [some (.box [dL x1493, dI s.1, dI s.2])]⟩) (fin := (Sum.elim (fun (t : Int × Bool) => (Exit.ret, ⟨mkE 18 0 [(4, dI t.1), (5, dB t.2)], []⟩)) (fun (t : Int × Int) => ((Exit.exit 0), ⟨mkE 18 0 [(6, .ptr 0 0)], [some (.box [dL x1493, dI t.1, dI t.2])]⟩)))) (by
  rintro (t | t) f K h
  · exact h
  · exact h) (fun s => link_map (impl_stepsToRoot_n2_l x1493 s.1 s.2) (Sum.elim (fun (t : Int × Int) => Sum.inl (t.1, t.2)) (Sum.elim (fun (t : Int × Bool) => Sum.inr (Sum.inl t)) (fun (t : Int × Int) => Sum.inr (Sum.inr t)))) (by
  rintro (t | t | t)
  · kernel_rfl
  · kernel_rfl
  · kernel_rfl)) (x1494, 0))

def impl_stepsToRoot_n4_l (x1493 : List Int) (x1494 : Int) := (link_block (fin2 := (Sum.elim (fun (t : Int × Int) => (Exit.normal, ⟨mkE 18 0 [(6, .ptr 0 0)], [some (.box [dL x1493, dI t.1, dI t.2])]⟩)) (fun (t : Int × Bool) => (Exit.ret, ⟨mkE 18 0 [(4, dI t.1), (5, dB t.2)], []⟩)))) (id := 0) (impl_stepsToRoot_n3_l x1493 x1494) (Sum.elim (fun (t : Int × Bool) => (Sum.inr t)) (fun (t : Int × Int) => (Sum.inl (t.1, t.2)))) (by
  rintro (t | t) K h
  · exact Eq.mp (by kernel_rfl) h
  · exact Eq.mp (by kernel_rfl) h))

theorem impl_stepsToRoot_n5_l (x1493 : List Int) (x1539 : Int) (x1540 : Int) : Link impl_stepsToRoot_ctx LL (cq [1,1,1] (bodyOf Tryd.f25)) (aq [1,1,1] impl_stepsToRoot_an) ⟨mkE 18 0 [(6, .ptr 0 0)], [some (.box [dL x1493, dI x1539, dI x1540])]⟩ (impl_stepsToRoot_n5 x1540) (fun (t : Int × Bool) => (Exit.ret, ⟨mkE 18 0 [(4, dI t.1), (5, dB t.2)], []⟩)) := .of fun K h => by
  simp only [impl_stepsToRoot_n5, wpW] at h
  exact .of (by kernel_rfl) h

def impl_stepsToRoot_n6_l (x1493 : List Int) (x1494 : Int) := (link_seq2 (impl_stepsToRoot_n4_l x1493 x1494) (fun (t : Int × Int) => (impl_stepsToRoot_n5_l x1493 t.1 t.2)) (fun (t : Int × Bool) => t) (by
  rintro t
  · kernel_rfl) (by
  rintro t f K h
  · exact h))

def impl_stepsToRoot_n7_l (x1493 : List Int) (x1494 : Int) := (link_group (c := (cq [0,1] (bodyOf Tryd.f25))) (a := (aq [0,1] impl_stepsToRoot_an)) [(cq [0] (bodyOf Tryd.f25))] [(aq [0] impl_stepsToRoot_an)] rfl (link_seq (impl_stepsToRoot_n1_l x1493 x1494) (fun (t : Unit) => (impl_stepsToRoot_n6_l x1493 x1494))))

theorem impl_stepsToRoot_e (x1493 : List Int) (x1494 : Int) {r : AV} {H' : Heap} (h : (Ans.mk _ (impl_stepsToRoot x1493 x1494) (fun (t : Int × Bool) => (.tup [dI t.1, dB t.2], [])) [] none).run = some (r, H')) : Awp impl_stepsToRoot_ctx LL (bodyOf Tryd.f25) impl_stepsToRoot_an ⟨mkE 18 0 [(0, dL x1493), (1, dI x1494)], []⟩ (Ret (tlook tys) Tryd.f25.results.toList r H') :=
  ret_of' (Link.cast (by kernel_rfl) (by kernel_rfl) (impl_stepsToRoot_n7_l x1493 x1494)) (by unfold impl_stepsToRoot; kernel_rfl) (by
  intro t
  exact ret_mk [dI t.1, dB t.2] (by kernel_rfl) (by kernel_rfl) (by kernel_rfl) (by kernel_rfl)) h

def F_impl_stepsToRoot : Fun := fun avs H =>
  match avs, H with
  | [.dat (.list (.int .i64)) x1493, .dat (.int .i64) x1494], [] => ⟨_, impl_stepsToRoot x1493 x1494, fun (t : Int × Bool) => (.tup [dI t.1, dB t.2], []), [], none⟩
  | _, _ => Ans.no

theorem impl_stepsToRoot_sound : Sound Tryd.prog 25 F_impl_stepsToRoot := by
  refine fn_sound' (C := impl_stepsToRoot_ctx) (c := bodyOf Tryd.f25) (cok_of tys_ok (allc impl_walker_up_sound alln) (allc Tryd.call49 alln) (by kernel_rfl)) Tryd.func25 (by kernel_rfl) LL impl_stepsToRoot_an ?_
  intro avs H r H' h
  unfold F_impl_stepsToRoot at h
  split at h
  · refine Awp.cast ?_ ?_ ?_ (impl_stepsToRoot_e _ _ h) <;> kernel_rfl
  · simp [Ans.no, Ans.run] at h


/-! loop.example/headtrees/impl.TreeOk -/

def impl_TreeOk_an : Ann := (.seq (.leaf [0]) (.seq (.seq (.leaf [0, 18]) (.cond (.seq (.leaf [2]) (.leaf [2])) (.leaf [0]))) (.seq (.seq (.leaf [0, 20, 21]) (.block (.loop (.seq (.leaf [0, 20, 21, 22]) (.seq (.cond (.leaf [0, 20, 21]) (.leaf [])) (.seq (.block (.seq (.leaf [0, 3, 20, 21]) (.seq (.leaf [0, 5, 20, 21]) (.seq (.leaf [0, 20, 21, 32]) (.cond (.seq (.leaf [2]) (.leaf [2])) (.leaf [0, 20, 21])))))) (.leaf [0, 20, 21]))))))) (.seq (.leaf [2]) (.leaf [2])))))

noncomputable def impl_TreeOk_ctx : Ctx := ⟨tlook tys, olook [(24, F_impl_oneRoot), (25, F_impl_stepsToRoot)], ioF, 0, false, []⟩

theorem impl_TreeOk_n1_l (x1434 : List Int) : Link impl_TreeOk_ctx LL (Code.seq (cq [0] (bodyOf Tryd.f8)) (cq [0,1] (bodyOf Tryd.f8))) (Ann.seq (aq [0] impl_TreeOk_an) (aq [0,1] impl_TreeOk_an)) ⟨mkE 34 0 [(0, dL x1434)], []⟩ (impl_TreeOk_n1 x1434) (Sum.elim (fun (t : Unit) => (Exit.normal, ⟨mkE 34 0 [(0, dL x1434)], []⟩)) (fun (t : Bool) => (Exit.ret, ⟨mkE 34 0 [(2, dB t)], []⟩))) := .of fun K h => by
  simp only [impl_TreeOk_n1, wpW] at h
  exact .of (by kernel_rfl) h

theorem impl_TreeOk_n2_l (x1434 : List Int) : Link impl_TreeOk_ctx LL (cq [0,0,1,1] (bodyOf Tryd.f8)) (aq [0,0,1,1] impl_TreeOk_an) ⟨mkE 34 0 [(0, dL x1434)], []⟩ (impl_TreeOk_n2 x1434) (fun (t : Int) => (Exit.normal, ⟨mkE 34 0 [(0, dL x1434), (20, dI t), (21, dI 0)], []⟩)) := .of fun K h => by
  simp only [impl_TreeOk_n2, wpW] at h
  exact .of (by kernel_rfl) h

theorem impl_TreeOk_n3_l (x1434 : List Int) (x1488 : Int) (x1556 : Int) : Link impl_TreeOk_ctx LL (cq [0,0,1,0,1,1] (bodyOf Tryd.f8)) (aq [0,0,1,0,1,1] impl_TreeOk_an) ⟨mkE 34 0 [(0, dL x1434), (20, dI x1488), (21, dI x1556)], []⟩ (impl_TreeOk_n3 x1434 x1488 x1556) (Sum.elim (fun (t : Int) => (Exit.normal, ⟨mkE 34 0 [(0, dL x1434), (20, dI x1488), (21, dI t)], []⟩)) (Sum.elim (fun (t : Bool) => (Exit.ret, ⟨mkE 34 0 [(2, dB t)], []⟩)) (fun (t : Unit) => ((Exit.exit 0), ⟨mkE 34 0 [], []⟩)))) := .of fun K h => by
  simp only [impl_TreeOk_n3, wpW] at h
  exact .of (by kernel_rfl) h

def impl_TreeOk_n4_l (x1434 : List Int) (x1488 : Int) := (link_loop (mk := fun (s : Int) => ⟨mkE 34 0 [(0, dL x1434), (20, dI x1488), (21, dI s)], []⟩) (fin := (Sum.elim (fun (t : Bool) => (Exit.ret, ⟨mkE 34 0 [(2, dB t)], []⟩)) (fun (t : Unit) => ((Exit.exit 0), ⟨mkE 34 0 [], []⟩)))) (by
  rintro (t | t) f K h
  · exact h
  · exact h) (fun s => link_map (impl_TreeOk_n3_l x1434 x1488 s) (Sum.elim (fun (t : Int) => Sum.inl t) (Sum.elim (fun (t : Bool) => Sum.inr (Sum.inl t)) (fun (t : Unit) => Sum.inr (Sum.inr t)))) (by
  rintro (t | t | t)
  · kernel_rfl
  · kernel_rfl
  · kernel_rfl)) 0)

def impl_TreeOk_n5_l (x1434 : List Int) (x1488 : Int) := (link_block (fin2 := (Sum.elim (fun (t : Unit) => (Exit.normal, ⟨mkE 34 0 [], []⟩)) (fun (t : Bool) => (Exit.ret, ⟨mkE 34 0 [(2, dB t)], []⟩)))) (id := 0) (impl_TreeOk_n4_l x1434 x1488) (Sum.elim (fun (t : Bool) => (Sum.inr t)) (fun (t : Unit) => (Sum.inl ()))) (by
  rintro (t | t) K h
  · exact Eq.mp (by kernel_rfl) h
  · exact Eq.mp (by kernel_rfl) h))

def impl_TreeOk_n6_l (x1434 : List Int) := (link_seq (impl_TreeOk_n2_l x1434) (fun (t : Int) => (impl_TreeOk_n5_l x1434 t)))

theorem impl_TreeOk_n7_l : Link impl_TreeOk_ctx LL (cq [1,1,1] (bodyOf Tryd.f8)) (aq [1,1,1] impl_TreeOk_an) ⟨mkE 34 0 [], []⟩ (impl_TreeOk_n7) (fun (t : Bool) => (Exit.ret, ⟨mkE 34 0 [(2, dB t)], []⟩)) := .of fun K h => by
  simp only [impl_TreeOk_n7, wpW] at h
  exact .of (by kernel_rfl) h

def impl_TreeOk_n8_l (x1434 : List Int) := (link_seq2 (impl_TreeOk_n6_l x1434) (fun (t : Unit) => (impl_TreeOk_n7_l)) (fun (t : Bool) => t) (by
  rintro t
  · kernel_rfl) (by
  rintro t f K h
  · exact h))

def impl_TreeOk_n9_l (x1434 : List Int) := (link_group (c := (cq [0,1] (bodyOf Tryd.f8))) (a := (aq [0,1] impl_TreeOk_an)) [(cq [0] (bodyOf Tryd.f8))] [(aq [0] impl_TreeOk_an)] rfl (link_seq2 (impl_TreeOk_n1_l x1434) (fun (t : Unit) => (impl_TreeOk_n8_l x1434)) (fun (t : Bool) => t) (by
  rintro t
  · kernel_rfl) (by
  rintro t f K h
  · exact h)))

theorem impl_TreeOk_e (x1434 : List Int) {r : AV} {H' : Heap} (h : (Ans.mk _ (impl_TreeOk x1434) (fun (t : Bool) => (dB t, [])) [] none).run = some (r, H')) : Awp impl_TreeOk_ctx LL (bodyOf Tryd.f8) impl_TreeOk_an ⟨mkE 34 0 [(0, dL x1434)], []⟩ (Ret (tlook tys) Tryd.f8.results.toList r H') :=
  ret_of' (Link.cast (by kernel_rfl) (by kernel_rfl) (impl_TreeOk_n9_l x1434)) (by unfold impl_TreeOk; kernel_rfl) (by
  intro t
  exact ret_mk [dB t] (by kernel_rfl) (by kernel_rfl) (by kernel_rfl) (by kernel_rfl)) h

def F_impl_TreeOk : Fun := fun avs H =>
  match avs, H with
  | [.dat (.list (.int .i64)) x1434], [] => ⟨_, impl_TreeOk x1434, fun (t : Bool) => (dB t, []), [], none⟩
  | _, _ => Ans.no

theorem impl_TreeOk_sound : Sound Tryd.prog 8 F_impl_TreeOk := by
  refine fn_sound' (C := impl_TreeOk_ctx) (c := bodyOf Tryd.f8) (cok_of tys_ok (allc impl_oneRoot_sound (allc impl_stepsToRoot_sound alln)) (allc Tryd.call24 (allc Tryd.call25 alln)) (by kernel_rfl)) Tryd.func8 (by kernel_rfl) LL impl_TreeOk_an ?_
  intro avs H r H' h
  unfold F_impl_TreeOk at h
  split at h
  · refine Awp.cast ?_ ?_ ?_ (impl_TreeOk_e _ h) <;> kernel_rfl
  · simp [Ans.no, Ans.run] at h


/-! loop.example/headtrees/impl.RootOf -/

def impl_RootOf_an : Ann := (.seq (.leaf [0]) (.seq (.seq (.leaf [0, 6]) (.cond (.seq (.leaf [2]) (.leaf [2])) (.leaf [0]))) (.seq (.leaf [3]) (.seq (.block (.loop (.seq (.seq (.leaf [3, 9]) (.cond (.leaf [3]) (.leaf [3]))) (.block (.leaf [3]))))) (.seq (.leaf [2]) (.leaf [2]))))))

noncomputable def impl_RootOf_ctx : Ctx := ⟨tlook tys, olook [(8, F_impl_TreeOk), (49, F_impl_walker_up)], ioF, 0, false, []⟩

theorem impl_RootOf_n1_l (x1584 : List Int) : Link impl_RootOf_ctx LL (Code.seq (cq [0] (bodyOf Tryd.f40)) (Code.seq (cq [0,1] (bodyOf Tryd.f40)) (cq [0,1,1] (bodyOf Tryd.f40)))) (Ann.seq (aq [0] impl_RootOf_an) (Ann.seq (aq [0,1] impl_RootOf_an) (aq [0,1,1] impl_RootOf_an))) ⟨mkE 12 0 [(0, dL x1584)], []⟩ (impl_RootOf_n1 x1584) (Sum.elim (fun (t : Unit) => (Exit.normal, ⟨mkE 12 0 [(3, .ptr 0 0)], [some (.box [dL x1584, dI 1, dI 0])]⟩)) (fun (t : Int) => (Exit.ret, ⟨mkE 12 0 [(2, dI t)], []⟩))) := .of fun K h => by
  simp only [impl_RootOf_n1, wpW] at h
  exact .of (by kernel_rfl) h

theorem impl_RootOf_n2_l (x1584 : List Int) (x1597 : Int) (x1598 : Int) : Link impl_RootOf_ctx LL (cq [0,0,0,1,1,1] (bodyOf Tryd.f40)) (aq [0,0,0,1,1,1] impl_RootOf_an) ⟨mkE 12 0 [(3, .ptr 0 0)], [some (.box [dL x1584, dI x1597, dI x1598])]⟩ (impl_RootOf_n2 x1584 x1597 x1598) (Sum.elim (fun (t : Int × Int) => (Exit.normal, ⟨mkE 12 0 [(3, .ptr 0 0)], [some (.box [dL x1584, dI t.1, dI t.2])]⟩)) (fun (t : Int × Int) => ((Exit.exit 0), ⟨mkE 12 0 [(3, .ptr 0 0)], [some (.box [dL x1584, dI t.1, dI t.2])]⟩))) := .of fun K h => by
  simp only [impl_RootOf_n2, wpW] at h
  exact .of (by kernel_rfl) h

def impl_RootOf_n3_l (x1584 : List Int) := (link_loop (mk := fun (s : Int × Int) => ⟨mkE 12 0 [(3, .ptr 0 0)], [some (.box [dL x1584, dI s.1, dI s.2])]⟩) (fin := (fun (t : Int × Int) => ((Exit.exit 0), ⟨mkE 12 0 [(3, .ptr 0 0)], [some (.box [dL x1584, dI t.1, dI t.2])]⟩))) (by
  rintro t f K h
  · exact h) (fun s => link_map (impl_RootOf_n2_l x1584 s.1 s.2) (Sum.elim (fun (t : Int × Int) => Sum.inl (t.1, t.2)) (fun (t : Int × Int) => Sum.inr t)) (by
  rintro (t | t)
  · kernel_rfl
  · kernel_rfl)) (1, 0))

def impl_RootOf_n4_l (x1584 : List Int) := (link_block (fin2 := (fun (t : Int × Int) => (Exit.normal, ⟨mkE 12 0 [(3, .ptr 0 0)], [some (.box [dL x1584, dI t.1, dI t.2])]⟩))) (id := 0) (impl_RootOf_n3_l x1584) (fun (t : Int × Int) => (t.1, t.2)) (by
  rintro t K h
  · exact Eq.mp (by kernel_rfl) h))

theorem impl_RootOf_n5_l (x1584 : List Int) (x1605 : Int) (x1606 : Int) : Link impl_RootOf_ctx LL (cq [1,1,1,1] (bodyOf Tryd.f40)) (aq [1,1,1,1] impl_RootOf_an) ⟨mkE 12 0 [(3, .ptr 0 0)], [some (.box [dL x1584, dI x1605, dI x1606])]⟩ (impl_RootOf_n5 x1605) (fun (t : Int) => (Exit.ret, ⟨mkE 12 0 [(2, dI t)], []⟩)) := .of fun K h => by
  simp only [impl_RootOf_n5, wpW] at h
  exact .of (by kernel_rfl) h

def impl_RootOf_n6_l (x1584 : List Int) := (link_seq (impl_RootOf_n4_l x1584) (fun (t : Int × Int) => (impl_RootOf_n5_l x1584 t.1 t.2)))

def impl_RootOf_n7_l (x1584 : List Int) := (link_group (c := (cq [0,1,1] (bodyOf Tryd.f40))) (a := (aq [0,1,1] impl_RootOf_an)) [(cq [0] (bodyOf Tryd.f40)), (cq [0,1] (bodyOf Tryd.f40))] [(aq [0] impl_RootOf_an), (aq [0,1] impl_RootOf_an)] rfl (link_seq2 (impl_RootOf_n1_l x1584) (fun (t : Unit) => (impl_RootOf_n6_l x1584)) (fun (t : Int) => t) (by
  rintro t
  · kernel_rfl) (by
  rintro t f K h
  · exact h)))

theorem impl_RootOf_e (x1584 : List Int) {r : AV} {H' : Heap} (h : (Ans.mk _ (impl_RootOf x1584) (fun (t : Int) => (dI t, [])) [] none).run = some (r, H')) : Awp impl_RootOf_ctx LL (bodyOf Tryd.f40) impl_RootOf_an ⟨mkE 12 0 [(0, dL x1584)], []⟩ (Ret (tlook tys) Tryd.f40.results.toList r H') :=
  ret_of' (Link.cast (by kernel_rfl) (by kernel_rfl) (impl_RootOf_n7_l x1584)) (by unfold impl_RootOf; kernel_rfl) (by
  intro t
  exact ret_mk [dI t] (by kernel_rfl) (by kernel_rfl) (by kernel_rfl) (by kernel_rfl)) h

def F_impl_RootOf : Fun := fun avs H =>
  match avs, H with
  | [.dat (.list (.int .i64)) x1584], [] => ⟨_, impl_RootOf x1584, fun (t : Int) => (dI t, []), [], none⟩
  | _, _ => Ans.no

theorem impl_RootOf_sound : Sound Tryd.prog 40 F_impl_RootOf := by
  refine fn_sound' (C := impl_RootOf_ctx) (c := bodyOf Tryd.f40) (cok_of tys_ok (allc impl_TreeOk_sound (allc impl_walker_up_sound alln)) (allc Tryd.call8 (allc Tryd.call49 alln)) (by kernel_rfl)) Tryd.func40 (by kernel_rfl) LL impl_RootOf_an ?_
  intro avs H r H' h
  unfold F_impl_RootOf at h
  split at h
  · refine Awp.cast ?_ ?_ ?_ (impl_RootOf_e _ h) <;> kernel_rfl
  · simp [Ans.no, Ans.run] at h


/-! loop.example/headtrees/impl.only -/

def impl_only_an : Ann := (.seq (.leaf [0]) (.seq (.leaf [2]) (.leaf [2])))

noncomputable def impl_only_ctx : Ctx := ⟨tlook tys, olook [], ioF, 0, false, []⟩

theorem impl_only_n1_l (x1612 : Int) : Link impl_only_ctx LL (bodyOf Tryd.f55) impl_only_an ⟨mkE 6 0 [(0, dI x1612)], []⟩ (impl_only_n1 x1612) (fun (t : Int) => (Exit.ret, ⟨mkE 6 0 [(2, dW t)], []⟩)) := .of fun K h => by
  simp only [impl_only_n1, wpW] at h
  exact .of (by kernel_rfl) h

theorem impl_only_e (x1612 : Int) {r : AV} {H' : Heap} (h : (Ans.mk _ (impl_only x1612) (fun (t : Int) => (dW t, [])) [] none).run = some (r, H')) : Awp impl_only_ctx LL (bodyOf Tryd.f55) impl_only_an ⟨mkE 6 0 [(0, dI x1612)], []⟩ (Ret (tlook tys) Tryd.f55.results.toList r H') :=
  ret_of' (impl_only_n1_l x1612) (by unfold impl_only; kernel_rfl) (by
  intro t
  exact ret_mk [dW t] (by kernel_rfl) (by kernel_rfl) (by kernel_rfl) (by kernel_rfl)) h

def F_impl_only : Fun := fun avs H =>
  match avs, H with
  | [.dat (.int .i64) x1612], [] => ⟨_, impl_only x1612, fun (t : Int) => (dW t, []), [], none⟩
  | _, _ => Ans.no

theorem impl_only_sound : Sound Tryd.prog 55 F_impl_only := by
  refine fn_sound' (C := impl_only_ctx) (c := bodyOf Tryd.f55) (cok_of tys_ok (alln) (alln) (by kernel_rfl)) Tryd.func55 (by kernel_rfl) LL impl_only_an ?_
  intro avs H r H' h
  unfold F_impl_only at h
  split at h
  · refine Awp.cast ?_ ?_ ?_ (impl_only_e _ h) <;> kernel_rfl
  · simp [Ans.no, Ans.run] at h


/-! loop.example/headtrees/impl.dependents -/

def impl_dependents_an : Ann := (.seq (.leaf [0, 1]) (.seq (.leaf [0, 1, 5]) (.seq (.seq (.leaf [0, 1, 5, 8, 9]) (.block (.loop (.seq (.leaf [0, 1, 5, 8, 9, 10]) (.seq (.cond (.leaf [0, 1, 5, 8, 9]) (.leaf [5])) (.seq (.block (.seq (.leaf [0, 1, 5, 6, 8, 9]) (.seq (.leaf [0, 1, 5, 6, 8, 9, 17]) (.cond (.leaf [0, 1, 5, 8, 9]) (.leaf [0, 1, 5, 8, 9]))))) (.leaf [0, 1, 5, 8, 9]))))))) (.seq (.leaf [4]) (.leaf [4])))))

noncomputable def impl_dependents_ctx : Ctx := ⟨tlook tys, olook [(55, F_impl_only)], ioF, 0, false, []⟩

theorem impl_dependents_n1_l (x1618 : List Int) (x1619 : Int) : Link impl_dependents_ctx LL (Code.seq (cq [0] (bodyOf Tryd.f42)) (cq [0,1] (bodyOf Tryd.f42))) (Ann.seq (aq [0] impl_dependents_an) (aq [0,1] impl_dependents_an)) ⟨mkE 25 0 [(0, dL x1618), (1, dI x1619)], []⟩ (impl_dependents_n1) (fun (t : Unit) => (Exit.normal, ⟨mkE 25 0 [(0, dL x1618), (1, dI x1619), (5, dW 0)], []⟩)) := .of fun K h => by
  simp only [impl_dependents_n1, wpW] at h
  exact .of (by kernel_rfl) h

theorem impl_dependents_n2_l (x1618 : List Int) (x1619 : Int) : Link impl_dependents_ctx LL (cq [0,0,1,1] (bodyOf Tryd.f42)) (aq [0,0,1,1] impl_dependents_an) ⟨mkE 25 0 [(0, dL x1618), (1, dI x1619), (5, dW 0)], []⟩ (impl_dependents_n2 x1618) (fun (t : Int) => (Exit.normal, ⟨mkE 25 0 [(0, dL x1618), (1, dI x1619), (5, dW 0), (8, dI t), (9, dI 0)], []⟩)) := .of fun K h => by
  simp only [impl_dependents_n2, wpW] at h
  exact .of (by kernel_rfl) h

theorem impl_dependents_n3_l (x1618 : List Int) (x1619 : Int) (x1639 : Int) (x1620 : Int) (x1640 : Int) : Link impl_dependents_ctx LL (cq [0,0,1,0,1,1] (bodyOf Tryd.f42)) (aq [0,0,1,0,1,1] impl_dependents_an) ⟨mkE 25 0 [(0, dL x1618), (1, dI x1619), (5, dW x1639), (8, dI x1620), (9, dI x1640)], []⟩ (impl_dependents_n3 x1618 x1619 x1639 x1620 x1640) (Sum.elim (fun (t : Int × Int) => (Exit.normal, ⟨mkE 25 0 [(0, dL x1618), (1, dI x1619), (5, dW t.1), (8, dI x1620), (9, dI t.2)], []⟩)) (fun (t : Int) => ((Exit.exit 0), ⟨mkE 25 0 [(5, dW t)], []⟩))) := .of fun K h => by
  simp only [impl_dependents_n3, wpW] at h
  exact .of (by kernel_rfl) h

def impl_dependents_n4_l (x1618 : List Int) (x1619 : Int) (x1620 : Int) := (link_loop (mk := fun (s : Int × Int) => ⟨mkE 25 0 [(0, dL x1618), (1, dI x1619), (5, dW s.1), (8, dI x1620), (9, dI s.2)], []⟩) (fin := (fun (t : Int) => ((Exit.exit 0), ⟨mkE 25 0 [(5, dW t)], []⟩))) (by
  rintro t f K h
  · exact h) (fun s => link_map (impl_dependents_n3_l x1618 x1619 s.1 x1620 s.2) (Sum.elim (fun (t : Int × Int) => Sum.inl (t.1, t.2)) (fun (t : Int) => Sum.inr t)) (by
  rintro (t | t)
  · kernel_rfl
  · kernel_rfl)) (0, 0))

def impl_dependents_n5_l (x1618 : List Int) (x1619 : Int) (x1620 : Int) := (link_block (fin2 := (fun (t : Int) => (Exit.normal, ⟨mkE 25 0 [(5, dW t)], []⟩))) (id := 0) (impl_dependents_n4_l x1618 x1619 x1620) (fun (t : Int) => t) (by
  rintro t K h
  · exact Eq.mp (by kernel_rfl) h))

def impl_dependents_n6_l (x1618 : List Int) (x1619 : Int) := (link_seq (impl_dependents_n2_l x1618 x1619) (fun (t : Int) => (impl_dependents_n5_l x1618 x1619 t)))

theorem impl_dependents_n7_l (x1639 : Int) : Link impl_dependents_ctx LL (cq [1,1,1] (bodyOf Tryd.f42)) (aq [1,1,1] impl_dependents_an) ⟨mkE 25 0 [(5, dW x1639)], []⟩ (impl_dependents_n7 x1639) (fun (t : Int) => (Exit.ret, ⟨mkE 25 0 [(4, dW t)], []⟩)) := .of fun K h => by
  simp only [impl_dependents_n7, wpW] at h
  exact .of (by kernel_rfl) h

def impl_dependents_n8_l (x1618 : List Int) (x1619 : Int) := (link_seq (impl_dependents_n6_l x1618 x1619) (fun (t : Int) => (impl_dependents_n7_l t)))

def impl_dependents_n9_l (x1618 : List Int) (x1619 : Int) := (link_group (c := (cq [0,1] (bodyOf Tryd.f42))) (a := (aq [0,1] impl_dependents_an)) [(cq [0] (bodyOf Tryd.f42))] [(aq [0] impl_dependents_an)] rfl (link_seq (impl_dependents_n1_l x1618 x1619) (fun (t : Unit) => (impl_dependents_n8_l x1618 x1619))))

theorem impl_dependents_e (x1618 : List Int) (x1619 : Int) {r : AV} {H' : Heap} (h : (Ans.mk _ (impl_dependents x1618 x1619) (fun (t : Int) => (dW t, [])) [] none).run = some (r, H')) : Awp impl_dependents_ctx LL (bodyOf Tryd.f42) impl_dependents_an ⟨mkE 25 0 [(0, dL x1618), (1, dI x1619)], []⟩ (Ret (tlook tys) Tryd.f42.results.toList r H') :=
  ret_of' (Link.cast (by kernel_rfl) (by kernel_rfl) (impl_dependents_n9_l x1618 x1619)) (by unfold impl_dependents; kernel_rfl) (by
  intro t
  exact ret_mk [dW t] (by kernel_rfl) (by kernel_rfl) (by kernel_rfl) (by kernel_rfl)) h

def F_impl_dependents : Fun := fun avs H =>
  match avs, H with
  | [.dat (.list (.int .i64)) x1618, .dat (.int .i64) x1619], [] => ⟨_, impl_dependents x1618 x1619, fun (t : Int) => (dW t, []), [], none⟩
  | _, _ => Ans.no

theorem impl_dependents_sound : Sound Tryd.prog 42 F_impl_dependents := by
  refine fn_sound' (C := impl_dependents_ctx) (c := bodyOf Tryd.f42) (cok_of tys_ok (allc impl_only_sound alln) (allc Tryd.call55 alln) (by kernel_rfl)) Tryd.func42 (by kernel_rfl) LL impl_dependents_an ?_
  intro avs H r H' h
  unfold F_impl_dependents at h
  split at h
  · refine Awp.cast ?_ ?_ ?_ (impl_dependents_e _ _ h) <;> kernel_rfl
  · simp [Ans.no, Ans.run] at h


/-! math/bits.OnesCount64 -/

def math_bits_OnesCount64_an : Ann := (.seq (.leaf [0]) (.seq (.leaf [0]) (.seq (.leaf [0]) (.seq (.leaf [0]) (.seq (.leaf [0]) (.seq (.leaf [0]) (.seq (.leaf [0]) (.seq (.leaf [2]) (.leaf [2])))))))))

noncomputable def math_bits_OnesCount64_ctx : Ctx := ⟨tlook tys, olook [], ioF, 0, false, []⟩

theorem math_bits_OnesCount64_n1_l (x1663 : Int) : Link math_bits_OnesCount64_ctx LL (Code.seq (cq [0] (bodyOf Tryd.f66)) (cq [0,1] (bodyOf Tryd.f66))) (Ann.seq (aq [0] math_bits_OnesCount64_an) (aq [0,1] math_bits_OnesCount64_an)) ⟨mkE 35 0 [(0, dW x1663)], []⟩ (math_bits_OnesCount64_n1 x1663) (fun (t : Int) => (Exit.normal, ⟨mkE 35 0 [(0, dW t)], []⟩)) := .of fun K h => by
  simp only [math_bits_OnesCount64_n1, wpW] at h
  exact .of (by kernel_rfl) h

theorem math_bits_OnesCount64_n2_l (x1668 : Int) : Link math_bits_OnesCount64_ctx LL (cq [0,1,1] (bodyOf Tryd.f66)) (aq [0,1,1] math_bits_OnesCount64_an) ⟨mkE 35 0 [(0, dW x1668)], []⟩ (math_bits_OnesCount64_n2 x1668) (fun (t : Int) => (Exit.normal, ⟨mkE 35 0 [(0, dW t)], []⟩)) := .of fun K h => by
  simp only [math_bits_OnesCount64_n2, wpW] at h
  exact .of (by kernel_rfl) h

theorem math_bits_OnesCount64_n3_l (x1685 : Int) : Link math_bits_OnesCount64_ctx LL (cq [0,1,1,1] (bodyOf Tryd.f66)) (aq [0,1,1,1] math_bits_OnesCount64_an) ⟨mkE 35 0 [(0, dW x1685)], []⟩ (math_bits_OnesCount64_n3 x1685) (fun (t : Int) => (Exit.normal, ⟨mkE 35 0 [(0, dW t)], []⟩)) := .of fun K h => by
  simp only [math_bits_OnesCount64_n3, wpW] at h
  exact .of (by kernel_rfl) h

theorem math_bits_OnesCount64_n4_l (x1692 : Int) : Link math_bits_OnesCount64_ctx LL (cq [0,1,1,1,1] (bodyOf Tryd.f66)) (aq [0,1,1,1,1] math_bits_OnesCount64_an) ⟨mkE 35 0 [(0, dW x1692)], []⟩ (math_bits_OnesCount64_n4 x1692) (fun (t : Int) => (Exit.normal, ⟨mkE 35 0 [(0, dW t)], []⟩)) := .of fun K h => by
  simp only [math_bits_OnesCount64_n4, wpW] at h
  exact .of (by kernel_rfl) h

theorem math_bits_OnesCount64_n5_l (x1696 : Int) : Link math_bits_OnesCount64_ctx LL (cq [0,1,1,1,1,1] (bodyOf Tryd.f66)) (aq [0,1,1,1,1,1] math_bits_OnesCount64_an) ⟨mkE 35 0 [(0, dW x1696)], []⟩ (math_bits_OnesCount64_n5 x1696) (fun (t : Int) => (Exit.normal, ⟨mkE 35 0 [(0, dW t)], []⟩)) := .of fun K h => by
  simp only [math_bits_OnesCount64_n5, wpW] at h
  exact .of (by kernel_rfl) h

theorem math_bits_OnesCount64_n6_l (x1701 : Int) : Link math_bits_OnesCount64_ctx LL (cq [0,1,1,1,1,1,1] (bodyOf Tryd.f66)) (aq [0,1,1,1,1,1,1] math_bits_OnesCount64_an) ⟨mkE 35 0 [(0, dW x1701)], []⟩ (math_bits_OnesCount64_n6 x1701) (fun (t : Int) => (Exit.normal, ⟨mkE 35 0 [(0, dW t)], []⟩)) := .of fun K h => by
  simp only [math_bits_OnesCount64_n6, wpW] at h
  exact .of (by kernel_rfl) h

theorem math_bits_OnesCount64_n7_l (x1706 : Int) : Link math_bits_OnesCount64_ctx LL (cq [0,1,1,1,1,1,1,1] (bodyOf Tryd.f66)) (aq [0,1,1,1,1,1,1,1] math_bits_OnesCount64_an) ⟨mkE 35 0 [(0, dW x1706)], []⟩ (math_bits_OnesCount64_n7 x1706) (fun (t : Int) => (Exit.normal, ⟨mkE 35 0 [(2, dI t)], []⟩)) := .of fun K h => by
  simp only [math_bits_OnesCount64_n7, wpW] at h
  exact .of (by kernel_rfl) h

theorem math_bits_OnesCount64_n8_l (x1711 : Int) : Link math_bits_OnesCount64_ctx LL (cq [1,1,1,1,1,1,1,1] (bodyOf Tryd.f66)) (aq [1,1,1,1,1,1,1,1] math_bits_OnesCount64_an) ⟨mkE 35 0 [(2, dI x1711)], []⟩ (math_bits_OnesCount64_n8 x1711) (fun (t : Int) => (Exit.ret, ⟨mkE 35 0 [(2, dI t)], []⟩)) := .of fun K h => by
  simp only [math_bits_OnesCount64_n8, wpW] at h
  exact .of (by kernel_rfl) h

def math_bits_OnesCount64_n9_l (x1706 : Int) := (link_seq (math_bits_OnesCount64_n7_l x1706) (fun (t : Int) => (math_bits_OnesCount64_n8_l t)))

def math_bits_OnesCount64_n10_l (x1701 : Int) := (link_seq (math_bits_OnesCount64_n6_l x1701) (fun (t : Int) => (math_bits_OnesCount64_n9_l t)))

def math_bits_OnesCount64_n11_l (x1696 : Int) := (link_seq (math_bits_OnesCount64_n5_l x1696) (fun (t : Int) => (math_bits_OnesCount64_n10_l t)))

def math_bits_OnesCount64_n12_l (x1692 : Int) := (link_seq (math_bits_OnesCount64_n4_l x1692) (fun (t : Int) => (math_bits_OnesCount64_n11_l t)))

def math_bits_OnesCount64_n13_l (x1685 : Int) := (link_seq (math_bits_OnesCount64_n3_l x1685) (fun (t : Int) => (math_bits_OnesCount64_n12_l t)))

def math_bits_OnesCount64_n14_l (x1668 : Int) := (link_seq (math_bits_OnesCount64_n2_l x1668) (fun (t : Int) => (math_bits_OnesCount64_n13_l t)))

def math_bits_OnesCount64_n15_l (x1663 : Int) := (link_group (c := (cq [0,1] (bodyOf Tryd.f66))) (a := (aq [0,1] math_bits_OnesCount64_an)) [(cq [0] (bodyOf Tryd.f66))] [(aq [0] math_bits_OnesCount64_an)] rfl (link_seq (math_bits_OnesCount64_n1_l x1663) (fun (t : Int) => (math_bits_OnesCount64_n14_l t))))

theorem math_bits_OnesCount64_e (x1663 : Int) {r : AV} {H' : Heap} (h : (Ans.mk _ (math_bits_OnesCount64 x1663) (fun (t : Int) => (dI t, [])) [] none).run = some (r, H')) : Awp math_bits_OnesCount64_ctx LL (bodyOf Tryd.f66) math_bits_OnesCount64_an ⟨mkE 35 0 [(0, dW x1663)], []⟩ (Ret (tlook tys) Tryd.f66.results.toList r H') :=
  ret_of' (Link.cast (by kernel_rfl) (by kernel_rfl) (math_bits_OnesCount64_n15_l x1663)) (by unfold math_bits_OnesCount64; kernel_rfl) (by
  intro t
  exact ret_mk [dI t] (by kernel_rfl) (by kernel_rfl) (by kernel_rfl) (by kernel_rfl)) h

def F_math_bits_OnesCount64 : Fun := fun avs H =>
  match avs, H with
  | [.dat (.int .u64) x1663], [] => ⟨_, math_bits_OnesCount64 x1663, fun (t : Int) => (dI t, []), [], none⟩
  | _, _ => Ans.no

theorem math_bits_OnesCount64_sound : Sound Tryd.prog 66 F_math_bits_OnesCount64 := by
  refine fn_sound' (C := math_bits_OnesCount64_ctx) (c := bodyOf Tryd.f66) (cok_of tys_ok (alln) (alln) (by kernel_rfl)) Tryd.func66 (by kernel_rfl) LL math_bits_OnesCount64_an ?_
  intro avs H r H' h
  unfold F_math_bits_OnesCount64 at h
  split at h
  · refine Awp.cast ?_ ?_ ?_ (math_bits_OnesCount64_e _ h) <;> kernel_rfl
  · simp [Ans.no, Ans.run] at h


/-! math/bits.OnesCount -/

def math_bits_OnesCount_an : Ann := (.seq (.leaf [0]) (.seq (.cond (.seq (.leaf [2]) (.leaf [2])) (.leaf [0])) (.seq (.leaf [2]) (.leaf [2]))))

noncomputable def math_bits_OnesCount_ctx : Ctx := ⟨tlook tys, olook [(66, F_math_bits_OnesCount64)], ioF, 0, false, []⟩

theorem math_bits_OnesCount_n1_l (x1662 : Int) : Link math_bits_OnesCount_ctx LL (bodyOf Tryd.f58) math_bits_OnesCount_an ⟨mkE 8 0 [(0, dW x1662)], []⟩ (math_bits_OnesCount_n1 x1662) (fun (t : Int) => (Exit.ret, ⟨mkE 8 0 [(2, dI t)], []⟩)) := .of fun K h => by
  simp only [math_bits_OnesCount_n1, wpW] at h
  exact .of (by kernel_rfl) h

theorem math_bits_OnesCount_e (x1662 : Int) {r : AV} {H' : Heap} (h : (Ans.mk _ (math_bits_OnesCount x1662) (fun (t : Int) => (dI t, [])) [] none).run = some (r, H')) : Awp math_bits_OnesCount_ctx LL (bodyOf Tryd.f58) math_bits_OnesCount_an ⟨mkE 8 0 [(0, dW x1662)], []⟩ (Ret (tlook tys) Tryd.f58.results.toList r H') :=
  ret_of' (math_bits_OnesCount_n1_l x1662) (by unfold math_bits_OnesCount; kernel_rfl) (by
  intro t
  exact ret_mk [dI t] (by kernel_rfl) (by kernel_rfl) (by kernel_rfl) (by kernel_rfl)) h

def F_math_bits_OnesCount : Fun := fun avs H =>
  match avs, H with
  | [.dat (.int .u64) x1662], [] => ⟨_, math_bits_OnesCount x1662, fun (t : Int) => (dI t, []), [], none⟩
  | _, _ => Ans.no

theorem math_bits_OnesCount_sound : Sound Tryd.prog 58 F_math_bits_OnesCount := by
  refine fn_sound' (C := math_bits_OnesCount_ctx) (c := bodyOf Tryd.f58) (cok_of tys_ok (allc math_bits_OnesCount64_sound alln) (allc Tryd.call66 alln) (by kernel_rfl)) Tryd.func58 (by kernel_rfl) LL math_bits_OnesCount_an ?_
  intro avs H r H' h
  unfold F_math_bits_OnesCount at h
  split at h
  · refine Awp.cast ?_ ?_ ?_ (math_bits_OnesCount_e _ h) <;> kernel_rfl
  · simp [Ans.no, Ans.run] at h


/-! (loop.example/headtrees/impl.wordSet).count -/

def impl_wordSet_count_an : Ann := (.seq (.leaf [0]) (.seq (.leaf [2]) (.leaf [2])))

noncomputable def impl_wordSet_count_ctx : Ctx := ⟨tlook tys, olook [(58, F_math_bits_OnesCount)], ioF, 0, false, []⟩

theorem impl_wordSet_count_n1_l (x1661 : Int) : Link impl_wordSet_count_ctx LL (bodyOf Tryd.f45) impl_wordSet_count_an ⟨mkE 5 0 [(0, dW x1661)], []⟩ (impl_wordSet_count_n1 x1661) (fun (t : Int) => (Exit.ret, ⟨mkE 5 0 [(2, dI t)], []⟩)) := .of fun K h => by
  simp only [impl_wordSet_count_n1, wpW] at h
  exact .of (by kernel_rfl) h

theorem impl_wordSet_count_e (x1661 : Int) {r : AV} {H' : Heap} (h : (Ans.mk _ (impl_wordSet_count x1661) (fun (t : Int) => (dI t, [])) [] none).run = some (r, H')) : Awp impl_wordSet_count_ctx LL (bodyOf Tryd.f45) impl_wordSet_count_an ⟨mkE 5 0 [(0, dW x1661)], []⟩ (Ret (tlook tys) Tryd.f45.results.toList r H') :=
  ret_of' (impl_wordSet_count_n1_l x1661) (by unfold impl_wordSet_count; kernel_rfl) (by
  intro t
  exact ret_mk [dI t] (by kernel_rfl) (by kernel_rfl) (by kernel_rfl) (by kernel_rfl)) h

def F_impl_wordSet_count : Fun := fun avs H =>
  match avs, H with
  | [.dat (.int .u64) x1661], [] => ⟨_, impl_wordSet_count x1661, fun (t : Int) => (dI t, []), [], none⟩
  | _, _ => Ans.no

theorem impl_wordSet_count_sound : Sound Tryd.prog 45 F_impl_wordSet_count := by
  refine fn_sound' (C := impl_wordSet_count_ctx) (c := bodyOf Tryd.f45) (cok_of tys_ok (allc math_bits_OnesCount_sound alln) (allc Tryd.call58 alln) (by kernel_rfl)) Tryd.func45 (by kernel_rfl) LL impl_wordSet_count_an ?_
  intro avs H r H' h
  unfold F_impl_wordSet_count at h
  split at h
  · refine Awp.cast ?_ ?_ ?_ (impl_wordSet_count_e _ h) <;> kernel_rfl
  · simp [Ans.no, Ans.run] at h


/-! math/bits.TrailingZeros64 -/

def math_bits_TrailingZeros64_an : Ann := (.seq (.leaf [0]) (.seq (.seq (.leaf [0, 4]) (.cond (.seq (.leaf [2]) (.leaf [2])) (.leaf [0]))) (.seq (.leaf [2]) (.leaf [2]))))

noncomputable def math_bits_TrailingZeros64_ctx : Ctx := ⟨tlook tys, olook [], ioF, 0, false, []⟩

theorem math_bits_TrailingZeros64_n1_l (x1722 : Int) : Link math_bits_TrailingZeros64_ctx LL (bodyOf Tryd.f62) math_bits_TrailingZeros64_an ⟨mkE 14 0 [(0, dW x1722)], []⟩ (math_bits_TrailingZeros64_n1 x1722) (fun (t : Int) => (Exit.ret, ⟨mkE 14 0 [(2, dI t)], []⟩)) := .of fun K h => by
  simp only [math_bits_TrailingZeros64_n1, wpW] at h
  exact .of (by kernel_rfl) h

theorem math_bits_TrailingZeros64_e (x1722 : Int) {r : AV} {H' : Heap} (h : (Ans.mk _ (math_bits_TrailingZeros64 x1722) (fun (t : Int) => (dI t, [])) [] none).run = some (r, H')) : Awp math_bits_TrailingZeros64_ctx LL (bodyOf Tryd.f62) math_bits_TrailingZeros64_an ⟨mkE 14 0 [(0, dW x1722)], []⟩ (Ret (tlook tys) Tryd.f62.results.toList r H') :=
  ret_of' (math_bits_TrailingZeros64_n1_l x1722) (by unfold math_bits_TrailingZeros64; kernel_rfl) (by
  intro t
  exact ret_mk [dI t] (by kernel_rfl) (by kernel_rfl) (by kernel_rfl) (by kernel_rfl)) h

def F_math_bits_TrailingZeros64 : Fun := fun avs H =>
  match avs, H with
  | [.dat (.int .u64) x1722], [] => ⟨_, math_bits_TrailingZeros64 x1722, fun (t : Int) => (dI t, []), [], none⟩
  | _, _ => Ans.no

theorem math_bits_TrailingZeros64_sound : Sound Tryd.prog 62 F_math_bits_TrailingZeros64 := by
  refine fn_sound' (C := math_bits_TrailingZeros64_ctx) (c := bodyOf Tryd.f62) (cok_of tys_ok (alln) (alln) (by kernel_rfl)) Tryd.func62 (by kernel_rfl) LL math_bits_TrailingZeros64_an ?_
  intro avs H r H' h
  unfold F_math_bits_TrailingZeros64 at h
  split at h
  · refine Awp.cast ?_ ?_ ?_ (math_bits_TrailingZeros64_e _ h) <;> kernel_rfl
  · simp [Ans.no, Ans.run] at h


/-! math/bits.TrailingZeros -/

def math_bits_TrailingZeros_an : Ann := (.seq (.leaf [0]) (.seq (.cond (.seq (.leaf [2]) (.leaf [2])) (.leaf [0])) (.seq (.leaf [2]) (.leaf [2]))))

noncomputable def math_bits_TrailingZeros_ctx : Ctx := ⟨tlook tys, olook [(62, F_math_bits_TrailingZeros64)], ioF, 0, false, []⟩

theorem math_bits_TrailingZeros_n1_l (x1721 : Int) : Link math_bits_TrailingZeros_ctx LL (bodyOf Tryd.f56) math_bits_TrailingZeros_an ⟨mkE 8 0 [(0, dW x1721)], []⟩ (math_bits_TrailingZeros_n1 x1721) (fun (t : Int) => (Exit.ret, ⟨mkE 8 0 [(2, dI t)], []⟩)) := .of fun K h => by
  simp only [math_bits_TrailingZeros_n1, wpW] at h
  exact .of (by kernel_rfl) h

theorem math_bits_TrailingZeros_e (x1721 : Int) {r : AV} {H' : Heap} (h : (Ans.mk _ (math_bits_TrailingZeros x1721) (fun (t : Int) => (dI t, [])) [] none).run = some (r, H')) : Awp math_bits_TrailingZeros_ctx LL (bodyOf Tryd.f56) math_bits_TrailingZeros_an ⟨mkE 8 0 [(0, dW x1721)], []⟩ (Ret (tlook tys) Tryd.f56.results.toList r H') :=
  ret_of' (math_bits_TrailingZeros_n1_l x1721) (by unfold math_bits_TrailingZeros; kernel_rfl) (by
  intro t
  exact ret_mk [dI t] (by kernel_rfl) (by kernel_rfl) (by kernel_rfl) (by kernel_rfl)) h

def F_math_bits_TrailingZeros : Fun := fun avs H =>
  match avs, H with
  | [.dat (.int .u64) x1721], [] => ⟨_, math_bits_TrailingZeros x1721, fun (t : Int) => (dI t, []), [], none⟩
  | _, _ => Ans.no

theorem math_bits_TrailingZeros_sound : Sound Tryd.prog 56 F_math_bits_TrailingZeros := by
  refine fn_sound' (C := math_bits_TrailingZeros_ctx) (c := bodyOf Tryd.f56) (cok_of tys_ok (allc math_bits_TrailingZeros64_sound alln) (allc Tryd.call62 alln) (by kernel_rfl)) Tryd.func56 (by kernel_rfl) LL math_bits_TrailingZeros_an ?_
  intro avs H r H' h
  unfold F_math_bits_TrailingZeros at h
  split at h
  · refine Awp.cast ?_ ?_ ?_ (math_bits_TrailingZeros_e _ h) <;> kernel_rfl
  · simp [Ans.no, Ans.run] at h


/-! (loop.example/headtrees/impl.wordSet).list -/

def impl_wordSet_list_an : Ann := (.seq (.leaf [0]) (.seq (.leaf [0, 3]) (.seq (.seq (.leaf [3, 4]) (.block (.loop (.seq (.seq (.leaf [3, 4, 10]) (.cond (.leaf [3, 4]) (.leaf [3]))) (.seq (.block (.leaf [3, 4])) (.leaf [3, 4])))))) (.seq (.leaf [2]) (.leaf [2])))))

noncomputable def impl_wordSet_list_ctx : Ctx := ⟨tlook tys, olook [(45, F_impl_wordSet_count), (56, F_math_bits_TrailingZeros)], ioF, 0, false, []⟩

theorem impl_wordSet_list_n1_l (x1660 : Int) : Link impl_wordSet_list_ctx LL (Code.seq (cq [0] (bodyOf Tryd.f43)) (cq [0,1] (bodyOf Tryd.f43))) (Ann.seq (aq [0] impl_wordSet_list_an) (aq [0,1] impl_wordSet_list_an)) ⟨mkE 22 0 [(0, dW x1660)], []⟩ (impl_wordSet_list_n1 x1660) (fun (t : (List Int)) => (Exit.normal, ⟨mkE 22 0 [(0, dW x1660), (3, .slc 0)], [some (sI t)]⟩)) := .of fun K h => by
  simp only [impl_wordSet_list_n1, wpW] at h
  exact .of (by kernel_rfl) h

theorem impl_wordSet_list_n2_l (x1660 : Int) (x1718 : List Int) : Link impl_wordSet_list_ctx LL (cq [0,0,1,1] (bodyOf Tryd.f43)) (aq [0,0,1,1] impl_wordSet_list_an) ⟨mkE 22 0 [(0, dW x1660), (3, .slc 0)], [some (sI x1718)]⟩ (impl_wordSet_list_n2) (fun (t : Unit) => (Exit.normal, ⟨mkE 22 0 [(3, .slc 0), (4, dW x1660)], [some (sI x1718)]⟩)) := .of fun K h => by
  simp only [impl_wordSet_list_n2, wpW] at h
  exact .of (by kernel_rfl) h

theorem impl_wordSet_list_n3_l (x1761 : Int) (x1762 : List Int) : Link impl_wordSet_list_ctx LL (cq [0,0,1,0,1,1] (bodyOf Tryd.f43)) (aq [0,0,1,0,1,1] impl_wordSet_list_an) ⟨mkE 22 0 [(3, .slc 0), (4, dW x1761)], [some (sI x1762)]⟩ (impl_wordSet_list_n3 x1761 x1762) (Sum.elim (fun (t : Int × (List Int)) => (Exit.normal, ⟨mkE 22 0 [(3, .slc 0), (4, dW t.1)], [some (sI t.2)]⟩)) (fun (t : (List Int)) => ((Exit.exit 0), ⟨mkE 22 0 [(3, .slc 0)], [some (sI t)]⟩))) := .of fun K h => by
  simp only [impl_wordSet_list_n3, wpW] at h
  exact .of (by kernel_rfl) h

def impl_wordSet_list_n4_l (x1660 : Int) (x1718 : List Int) := (link_loop (mk := fun (s : Int × (List Int)) => ⟨mkE 22 0 [(3, .slc 0), (4, dW s.1)], [some (sI s.2)]⟩) (fin := (fun (t : (List Int)) => ((Exit.exit 0), ⟨mkE 22 0 [(3, .slc 0)], [some (sI t)]⟩))) (by
  rintro t f K h
  · exact h) (fun s => link_map (impl_wordSet_list_n3_l s.1 s.2) (Sum.elim (fun (t : Int × (List Int)) => Sum.inl (t.1, t.2)) (fun (t : (List Int)) => Sum.inr t)) (by
  rintro (t | t)
  · kernel_rfl
  · kernel_rfl)) (x1660, x1718))

def impl_wordSet_list_n5_l (x1660 : Int) (x1718 : List Int) := (link_block (fin2 := (fun (t : (List Int)) => (Exit.normal, ⟨mkE 22 0 [(3, .slc 0)], [some (sI t)]⟩))) (id := 0) (impl_wordSet_list_n4_l x1660 x1718) (fun (t : (List Int)) => t) (by
  rintro t K h
  · exact Eq.mp (by kernel_rfl) h))

def impl_wordSet_list_n6_l (x1660 : Int) (x1718 : List Int) := (link_seq (impl_wordSet_list_n2_l x1660 x1718) (fun (t : Unit) => (impl_wordSet_list_n5_l x1660 x1718)))

theorem impl_wordSet_list_n7_l (x1762 : List Int) : Link impl_wordSet_list_ctx LL (cq [1,1,1] (bodyOf Tryd.f43)) (aq [1,1,1] impl_wordSet_list_an) ⟨mkE 22 0 [(3, .slc 0)], [some (sI x1762)]⟩ (impl_wordSet_list_n7 x1762) (fun (t : (List Int)) => (Exit.ret, ⟨mkE 22 0 [(2, .slc 0)], [some (sI t)]⟩)) := .of fun K h => by
  simp only [impl_wordSet_list_n7, wpW] at h
  exact .of (by kernel_rfl) h

def impl_wordSet_list_n8_l (x1660 : Int) (x1718 : List Int) := (link_seq (impl_wordSet_list_n6_l x1660 x1718) (fun (t : (List Int)) => (impl_wordSet_list_n7_l t)))

def impl_wordSet_list_n9_l (x1660 : Int) := (link_group (c := (cq [0,1] (bodyOf Tryd.f43))) (a := (aq [0,1] impl_wordSet_list_an)) [(cq [0] (bodyOf Tryd.f43))] [(aq [0] impl_wordSet_list_an)] rfl (link_seq (impl_wordSet_list_n1_l x1660) (fun (t : (List Int)) => (impl_wordSet_list_n8_l x1660 t))))

theorem impl_wordSet_list_e (x1660 : Int) {r : AV} {H' : Heap} (h : (Ans.mk _ (impl_wordSet_list x1660) (fun (t : (List Int)) => (.slc 0, [some (sI t)])) [] none).run = some (r, H')) : Awp impl_wordSet_list_ctx LL (bodyOf Tryd.f43) impl_wordSet_list_an ⟨mkE 22 0 [(0, dW x1660)], []⟩ (Ret (tlook tys) Tryd.f43.results.toList r H') :=
  ret_of' (Link.cast (by kernel_rfl) (by kernel_rfl) (impl_wordSet_list_n9_l x1660)) (by unfold impl_wordSet_list; kernel_rfl) (by
  intro t
  exact ret_mk [.slc 0] (by kernel_rfl) (by kernel_rfl) (by kernel_rfl) (by kernel_rfl)) h

def F_impl_wordSet_list : Fun := fun avs H =>
  match avs, H with
  | [.dat (.int .u64) x1660], [] => ⟨_, impl_wordSet_list x1660, fun (t : (List Int)) => (.slc 0, [some (sI t)]), [], none⟩
  | _, _ => Ans.no

theorem impl_wordSet_list_sound : Sound Tryd.prog 43 F_impl_wordSet_list := by
  refine fn_sound' (C := impl_wordSet_list_ctx) (c := bodyOf Tryd.f43) (cok_of tys_ok (allc impl_wordSet_count_sound (allc math_bits_TrailingZeros_sound alln)) (allc Tryd.call45 (allc Tryd.call56 alln)) (by kernel_rfl)) Tryd.func43 (by kernel_rfl) LL impl_wordSet_list_an ?_
  intro avs H r H' h
  unfold F_impl_wordSet_list at h
  split at h
  · refine Awp.cast ?_ ?_ ?_ (impl_wordSet_list_e _ h) <;> kernel_rfl
  · simp [Ans.no, Ans.run] at h


/-! loop.example/headtrees/impl.fillYields -/

def impl_fillYields_an : Ann := (.seq (.leaf [0, 1, 2]) (.seq (.leaf [0, 1, 2, 7]) (.seq (.seq (.leaf [0, 1, 2, 7, 15, 16, 17]) (.block (.loop (.seq (.leaf [0, 1, 2, 7, 15, 16, 17, 18]) (.seq (.cond (.leaf [0, 1, 2, 7, 15, 16, 17]) (.leaf [0, 2, 7])) (.seq (.block (.seq (.leaf [0, 1, 2, 7, 9, 15, 16, 17]) (.leaf [0, 1, 2, 7, 15, 16, 17]))) (.leaf [0, 1, 2, 7, 15, 16, 17]))))))) (.seq (.leaf [7]) (.seq (.leaf [6]) (.leaf [6]))))))

def F_impl_fillYields_fuel (n : Nat) : Fun := fun avs H =>
  match avs, H with
  | [.slc 0, .dat (.list (.int .i64)) x1609, .dat (.int .i64) x1610], [some (.seq (.int .u64) x1611)] => ⟨_, impl_fillYields_fuel n x1609 x1610 x1611, fun (t : Int × (List Int)) => (dW t.1, [some (.seq (.int .u64) t.2)]), [], none⟩
  | _, _ => Ans.no

noncomputable def impl_fillYields_ctx (n : Nat) : Ctx := ⟨tlook tys, olook [(55, F_impl_only), (42, F_impl_dependents), (43, F_impl_wordSet_list), (39, F_impl_fillYields_fuel n)], ioF, 1, false, []⟩

theorem impl_fillYields_n1_l (n : Nat) (x1609 : List Int) (x1610 : Int) (x1611 : List Int) : Link (impl_fillYields_ctx n) LL (Code.seq (cq [0] (bodyOf Tryd.f39)) (cq [0,1] (bodyOf Tryd.f39))) (Ann.seq (aq [0] impl_fillYields_an) (aq [0,1] impl_fillYields_an)) ⟨mkE 34 0 [(0, .slc 0), (1, dL x1609), (2, dI x1610)], [some (.seq (.int .u64) x1611)]⟩ (impl_fillYields_n1 (impl_fillYields_fuel n) x1610) (fun (t : Int) => (Exit.normal, ⟨mkE 34 0 [(0, .slc 0), (1, dL x1609), (2, dI x1610), (7, dW t)], [some (.seq (.int .u64) x1611)]⟩)) := .of fun K h => by
  simp only [impl_fillYields_n1, wpW] at h
  exact .of (by kernel_rfl) h

theorem impl_fillYields_n2_l (n : Nat) (x1609 : List Int) (x1610 : Int) (x1796 : Int) (x1611 : List Int) : Link (impl_fillYields_ctx n) LL (cq [0,0,1,1] (bodyOf Tryd.f39)) (aq [0,0,1,1] impl_fillYields_an) ⟨mkE 34 0 [(0, .slc 0), (1, dL x1609), (2, dI x1610), (7, dW x1796)], [some (.seq (.int .u64) x1611)]⟩ (impl_fillYields_n2 (impl_fillYields_fuel n) x1609 x1610) (fun (t : Int × (List Int)) => (Exit.normal, ⟨mkE 34 0 [(0, .slc 0), (1, dL x1609), (2, dI x1610), (7, dW x1796), (15, .slc 1), (16, dI t.1), (17, dI 0)], [some (.seq (.int .u64) x1611), some (sI t.2)]⟩)) := .of fun K h => by
  simp only [impl_fillYields_n2, wpW] at h
  exact .of (by kernel_rfl) h

theorem impl_fillYields_n3_l (n : Nat) (x1609 : List Int) (x1610 : Int) (x1817 : Int) (x1799 : Int) (x1818 : Int) (x1819 : List Int) (x1798 : List Int) : Link (impl_fillYields_ctx n) LL (cq [0,0,1,0,1,1] (bodyOf Tryd.f39)) (aq [0,0,1,0,1,1] impl_fillYields_an) ⟨mkE 34 0 [(0, .slc 0), (1, dL x1609), (2, dI x1610), (7, dW x1817), (15, .slc 1), (16, dI x1799), (17, dI x1818)], [some (.seq (.int .u64) x1819), some (sI x1798)]⟩ (impl_fillYields_n3 (impl_fillYields_fuel n) x1609 x1817 x1799 x1818 x1819 x1798) (Sum.elim (fun (t : Int × Int × (List Int)) => (Exit.normal, ⟨mkE 34 0 [(0, .slc 0), (1, dL x1609), (2, dI x1610), (7, dW t.1), (15, .slc 1), (16, dI x1799), (17, dI t.2.1)], [some (.seq (.int .u64) t.2.2), some (sI x1798)]⟩)) (fun (t : Int × (List Int)) => ((Exit.exit 0), ⟨mkE 34 0 [(0, .slc 0), (2, dI x1610), (7, dW t.1)], [some (.seq (.int .u64) t.2)]⟩))) := .of fun K h => by
  simp only [impl_fillYields_n3, wpW] at h
  exact .of (by kernel_rfl) h

def impl_fillYields_n4_l (n : Nat) (x1609 : List Int) (x1610 : Int) (x1796 : Int) (x1799 : Int) (x1611 : List Int) (x1798 : List Int) := (link_loop (mk := fun (s : Int × Int × (List Int)) => ⟨mkE 34 0 [(0, .slc 0), (1, dL x1609), (2, dI x1610), (7, dW s.1), (15, .slc 1), (16, dI x1799), (17, dI s.2.1)], [some (.seq (.int .u64) s.2.2), some (sI x1798)]⟩) (fin := (fun (t : Int × (List Int)) => ((Exit.exit 0), ⟨mkE 34 0 [(0, .slc 0), (2, dI x1610), (7, dW t.1)], [some (.seq (.int .u64) t.2)]⟩))) (by
  rintro t f K h
  · exact h) (fun s => link_map (impl_fillYields_n3_l n x1609 x1610 s.1 x1799 s.2.1 s.2.2 x1798) (Sum.elim (fun (t : Int × Int × (List Int)) => Sum.inl (t.1, t.2.1, t.2.2)) (fun (t : Int × (List Int)) => Sum.inr t)) (by
  rintro (t | t)
  · kernel_rfl
  · kernel_rfl)) (x1796, 0, x1611))

def impl_fillYields_n5_l (n : Nat) (x1609 : List Int) (x1610 : Int) (x1796 : Int) (x1799 : Int) (x1611 : List Int) (x1798 : List Int) := (link_block (fin2 := (fun (t : Int × (List Int)) => (Exit.normal, ⟨mkE 34 0 [(0, .slc 0), (2, dI x1610), (7, dW t.1)], [some (.seq (.int .u64) t.2)]⟩))) (id := 0) (impl_fillYields_n4_l n x1609 x1610 x1796 x1799 x1611 x1798) (fun (t : Int × (List Int)) => (t.1, t.2)) (by
  rintro t K h
  · exact Eq.mp (by kernel_rfl) h))

def impl_fillYields_n6_l (n : Nat) (x1609 : List Int) (x1610 : Int) (x1796 : Int) (x1611 : List Int) := (link_seq (impl_fillYields_n2_l n x1609 x1610 x1796 x1611) (fun (t : Int × (List Int)) => (impl_fillYields_n5_l n x1609 x1610 x1796 t.1 x1611 t.2)))

theorem impl_fillYields_n7_l (n : Nat) (x1610 : Int) (x1817 : Int) (x1819 : List Int) : Link (impl_fillYields_ctx n) LL (cq [1,1,1] (bodyOf Tryd.f39)) (aq [1,1,1] impl_fillYields_an) ⟨mkE 34 0 [(0, .slc 0), (2, dI x1610), (7, dW x1817)], [some (.seq (.int .u64) x1819)]⟩ (impl_fillYields_n7 (impl_fillYields_fuel n) x1610 x1817 x1819) (fun (t : Int × (List Int)) => (Exit.ret, ⟨mkE 34 0 [(6, dW t.1)], [some (.seq (.int .u64) t.2)]⟩)) := .of fun K h => by
  simp only [impl_fillYields_n7, wpW] at h
  exact .of (by kernel_rfl) h

def impl_fillYields_n8_l (n : Nat) (x1609 : List Int) (x1610 : Int) (x1796 : Int) (x1611 : List Int) := (link_seq (impl_fillYields_n6_l n x1609 x1610 x1796 x1611) (fun (t : Int × (List Int)) => (impl_fillYields_n7_l n x1610 t.1 t.2)))

def impl_fillYields_n9_l (n : Nat) (x1609 : List Int) (x1610 : Int) (x1611 : List Int) := (link_group (c := (cq [0,1] (bodyOf Tryd.f39))) (a := (aq [0,1] impl_fillYields_an)) [(cq [0] (bodyOf Tryd.f39))] [(aq [0] impl_fillYields_an)] rfl (link_seq (impl_fillYields_n1_l n x1609 x1610 x1611) (fun (t : Int) => (impl_fillYields_n8_l n x1609 x1610 t x1611))))

theorem impl_fillYields_e (n : Nat) (x1609 : List Int) (x1610 : Int) (x1611 : List Int) {r : AV} {H' : Heap} (h : (Ans.mk _ (impl_fillYields_fuel (n + 1) x1609 x1610 x1611) (fun (t : Int × (List Int)) => (dW t.1, [some (.seq (.int .u64) t.2)])) [] none).run = some (r, H')) : Awp (impl_fillYields_ctx n) LL (bodyOf Tryd.f39) impl_fillYields_an ⟨mkE 34 0 [(0, .slc 0), (1, dL x1609), (2, dI x1610)], [some (.seq (.int .u64) x1611)]⟩ (Ret (tlook tys) Tryd.f39.results.toList r H') :=
  ret_of' (Link.cast (by kernel_rfl) (by kernel_rfl) (impl_fillYields_n9_l n x1609 x1610 x1611)) (by (show _ = _); kernel_rfl) (by
  intro t
  exact ret_mk [dW t.1] (by kernel_rfl) (by kernel_rfl) (by kernel_rfl) (by kernel_rfl)) h

theorem impl_fillYields_step (n : Nat) (h39 : Sound Tryd.prog 39 (F_impl_fillYields_fuel n)) : Sound Tryd.prog 39 (F_impl_fillYields_fuel (n + 1)) := by
  refine fn_sound' (C := impl_fillYields_ctx n) (c := bodyOf Tryd.f39) (cok_of tys_ok (allc impl_only_sound (allc impl_dependents_sound (allc impl_wordSet_list_sound (allc h39 alln)))) (allc Tryd.call55 (allc Tryd.call42 (allc Tryd.call43 (allc Tryd.call39 alln)))) (by kernel_rfl)) Tryd.func39 (by kernel_rfl) LL impl_fillYields_an ?_
  intro avs H r H' h
  unfold F_impl_fillYields_fuel at h
  split at h
  · refine Awp.cast ?_ ?_ ?_ (impl_fillYields_e n _ _ _ h) <;> kernel_rfl
  · simp [Ans.no, Ans.run] at h

theorem impl_fillYields_null : Sound Tryd.prog 39 (F_impl_fillYields_fuel 0) := by
  intro avs H r H' h
  unfold F_impl_fillYields_fuel at h
  split at h
  · simp [impl_fillYields_fuel, impl_fillYields_knot, Ans.run] at h
  · simp [Ans.no, Ans.run] at h

theorem impl_fillYields_knot_all : ∀ n, Sound Tryd.prog 39 (F_impl_fillYields_fuel n)
  | 0 => impl_fillYields_null
  | n + 1 => by
    have h39 := impl_fillYields_knot_all n
    exact impl_fillYields_step n h39

def F_impl_fillYields : Fun := fun avs H =>
  match avs, H with
  | [.slc 0, .dat (.list (.int .i64)) x1609, .dat (.int .i64) x1610], [some (.seq (.int .u64) x1611)] => ⟨_, impl_fillYields x1609 x1610 x1611, fun (t : Int × (List Int)) => (dW t.1, [some (.seq (.int .u64) t.2)]), [], none⟩
  | _, _ => Ans.no

theorem impl_fillYields_sound : Sound Tryd.prog 39 F_impl_fillYields := by
  have e : F_impl_fillYields = F_impl_fillYields_fuel RR := by
    funext avs H
    unfold F_impl_fillYields F_impl_fillYields_fuel
    split <;> first | rfl | (simp only [impl_fillYields])
  rw [e]
  exact (impl_fillYields_knot_all RR)


/-! loop.example/headtrees/impl.yieldsOf -/

def impl_yieldsOf_an : Ann := (.seq (.leaf [0]) (.seq (.leaf [0, 3]) (.seq (.leaf [3]) (.seq (.leaf [2]) (.leaf [2])))))

noncomputable def impl_yieldsOf_ctx : Ctx := ⟨tlook tys, olook [(40, F_impl_RootOf), (39, F_impl_fillYields)], ioF, 0, false, []⟩

theorem impl_yieldsOf_n1_l (x1577 : List Int) : Link impl_yieldsOf_ctx LL (bodyOf Tryd.f18) impl_yieldsOf_an ⟨mkE 13 0 [(0, dL x1577)], []⟩ (impl_yieldsOf_n1 x1577) (fun (t : (List Int)) => (Exit.ret, ⟨mkE 13 0 [(2, .slc 0)], [some (.seq (.int .u64) t)]⟩)) := .of fun K h => by
  simp only [impl_yieldsOf_n1, wpW] at h
  exact .of (by kernel_rfl) h

theorem impl_yieldsOf_e (x1577 : List Int) {r : AV} {H' : Heap} (h : (Ans.mk _ (impl_yieldsOf x1577) (fun (t : (List Int)) => (.slc 0, [some (.seq (.int .u64) t)])) [] none).run = some (r, H')) : Awp impl_yieldsOf_ctx LL (bodyOf Tryd.f18) impl_yieldsOf_an ⟨mkE 13 0 [(0, dL x1577)], []⟩ (Ret (tlook tys) Tryd.f18.results.toList r H') :=
  ret_of' (impl_yieldsOf_n1_l x1577) (by unfold impl_yieldsOf; kernel_rfl) (by
  intro t
  exact ret_mk [.slc 0] (by kernel_rfl) (by kernel_rfl) (by kernel_rfl) (by kernel_rfl)) h

def F_impl_yieldsOf : Fun := fun avs H =>
  match avs, H with
  | [.dat (.list (.int .i64)) x1577], [] => ⟨_, impl_yieldsOf x1577, fun (t : (List Int)) => (.slc 0, [some (.seq (.int .u64) t)]), [], none⟩
  | _, _ => Ans.no

theorem impl_yieldsOf_sound : Sound Tryd.prog 18 F_impl_yieldsOf := by
  refine fn_sound' (C := impl_yieldsOf_ctx) (c := bodyOf Tryd.f18) (cok_of tys_ok (allc impl_RootOf_sound (allc impl_fillYields_sound alln)) (allc Tryd.call40 (allc Tryd.call39 alln)) (by kernel_rfl)) Tryd.func18 (by kernel_rfl) LL impl_yieldsOf_an ?_
  intro avs H r H' h
  unfold F_impl_yieldsOf at h
  split at h
  · refine Awp.cast ?_ ?_ ?_ (impl_yieldsOf_e _ h) <;> kernel_rfl
  · simp [Ans.no, Ans.run] at h


/-! slices.Insert[[]int,int] -/

def ins_ren : Go.Shelf.Ren := ⟨fun | 21 => 57 | 27 => 63 | 28 => 64 | 35 => 68 | 39 => 69 | n => n, fun | 0 => 0 | 3 => 3 | 4 => 4 | 22 => 23 | n => n, fun n => n⟩

theorem ins_lay : Lays2.n21 Tryd.prog ins_ren := {
  mixed := by kernel_rfl
  f21 := Tryd.func57.trans (congrArg some (by kernel_rfl))
  f27 := Tryd.func63.trans (congrArg some (by kernel_rfl))
  f28 := Tryd.func64.trans (congrArg some (by kernel_rfl))
  f35 := Tryd.func68.trans (congrArg some (by kernel_rfl))
  f39 := Tryd.func69.trans (congrArg some (by kernel_rfl))
  t0 := Tryd.underlying0
  a0 := Tryd.isAgg0
  z0 := Tryd.sizeOf0
  v0 := Tryd.zeroValue0
  t3 := Tryd.underlying3
  a3 := Tryd.isAgg3
  z3 := Tryd.sizeOf3
  v3 := Tryd.zeroValue3
  t4 := Tryd.underlying4
  a4 := Tryd.isAgg4
  z4 := Tryd.sizeOf4
  v4 := Tryd.zeroValue4
  t22 := Tryd.underlying23
  a22 := Tryd.isAgg23
  z22 := Tryd.sizeOf23
  v22 := Tryd.zeroValue23
  i3 := by kernel_rfl }

def F_slices_Insert_int_int : Fun := F_ins
theorem slices_Insert_int_int_sound : Sound Tryd.prog 57 F_slices_Insert_int_int := ins_sound ins_lay


/-! loop.example/headtrees/impl.inserted[int] -/

def impl_inserted_int_an : Ann := (.seq (.leaf [0, 1]) (.seq (.leaf [0, 1, 5]) (.seq (.block (.loop (.seq (.seq (.leaf [0, 1, 5, 18]) (.cond (.leaf [0, 1, 5]) (.leaf [0, 1, 5]))) (.block (.leaf [0, 1, 5]))))) (.seq (.leaf [4]) (.leaf [4])))))

noncomputable def impl_inserted_int_ctx : Ctx := ⟨tlook tys, olook [(57, F_slices_Insert_int_int)], ioF, 1, false, [0]⟩

theorem impl_inserted_int_n1_l (x1887 : Int) (x1888 : List Int) : Link impl_inserted_int_ctx LL (Code.seq (cq [0] (bodyOf Tryd.f44)) (cq [0,1] (bodyOf Tryd.f44))) (Ann.seq (aq [0] impl_inserted_int_an) (aq [0,1] impl_inserted_int_an)) ⟨mkE 26 0 [(0, .slc 0), (1, dI x1887)], [some (sI x1888)]⟩ (impl_inserted_int_n1 x1888) (fun (t : Int) => (Exit.normal, ⟨mkE 26 0 [(0, .slc 0), (1, dI x1887), (5, dI t)], [some (sI x1888)]⟩)) := .of fun K h => by
  simp only [impl_inserted_int_n1, wpW] at h
  exact .of (by kernel_rfl) h

theorem impl_inserted_int_n2_l (x1887 : Int) (x1901 : Int) (x1888 : List Int) : Link impl_inserted_int_ctx LL (cq [0,0,0,1,1] (bodyOf Tryd.f44)) (aq [0,0,0,1,1] impl_inserted_int_an) ⟨mkE 26 0 [(0, .slc 0), (1, dI x1887), (5, dI x1901)], [some (sI x1888)]⟩ (impl_inserted_int_n2 x1887 x1901 x1888) (Sum.elim (fun (t : Int) => (Exit.normal, ⟨mkE 26 0 [(0, .slc 0), (1, dI x1887), (5, dI t)], [some (sI x1888)]⟩)) (fun (t : Int) => ((Exit.exit 0), ⟨mkE 26 0 [(0, .slc 0), (1, dI x1887), (5, dI t)], [some (sI x1888)]⟩))) := .of fun K h => by
  simp only [impl_inserted_int_n2, wpW] at h
  exact .of (by kernel_rfl) h

def impl_inserted_int_n3_l (x1887 : Int) (x1889 : Int) (x1888 : List Int) := (link_loop (mk := fun (s : Int) => ⟨mkE 26 0 [(0, .slc 0), (1, dI x1887), (5, dI s)], [some (sI x1888)]⟩) (fin := (fun (t : Int) => ((Exit.exit 0), ⟨mkE 26 0 [(0, .slc 0), (1, dI x1887), (5, dI t)], [some (sI x1888)]⟩))) (by
  rintro t f K h
  · exact h) (fun s => link_map (impl_inserted_int_n2_l x1887 s x1888) (Sum.elim (fun (t : Int) => Sum.inl t) (fun (t : Int) => Sum.inr t)) (by
  rintro (t | t)
  · kernel_rfl
  · kernel_rfl)) x1889)

def impl_inserted_int_n4_l (x1887 : Int) (x1889 : Int) (x1888 : List Int) := (link_block (fin2 := (fun (t : Int) => (Exit.normal, ⟨mkE 26 0 [(0, .slc 0), (1, dI x1887), (5, dI t)], [some (sI x1888)]⟩))) (id := 0) (impl_inserted_int_n3_l x1887 x1889 x1888) (fun (t : Int) => t) (by
  rintro t K h
  · exact Eq.mp (by kernel_rfl) h))

theorem impl_inserted_int_n5_l (x1887 : Int) (x1901 : Int) (x1888 : List Int) : Link impl_inserted_int_ctx LL (cq [1,1,1] (bodyOf Tryd.f44)) (aq [1,1,1] impl_inserted_int_an) ⟨mkE 26 0 [(0, .slc 0), (1, dI x1887), (5, dI x1901)], [some (sI x1888)]⟩ (impl_inserted_int_n5 x1887 x1901 x1888) (fun (t : (List Int)) => (Exit.ret, ⟨mkE 26 0 [(4, .slc 0)], [some (sI t)]⟩)) := .of fun K h => by
  simp only [impl_inserted_int_n5, wpW] at h
  exact .of (by kernel_rfl) h

def impl_inserted_int_n6_l (x1887 : Int) (x1889 : Int) (x1888 : List Int) := (link_seq (impl_inserted_int_n4_l x1887 x1889 x1888) (fun (t : Int) => (impl_inserted_int_n5_l x1887 t x1888)))

def impl_inserted_int_n7_l (x1887 : Int) (x1888 : List Int) := (link_group (c := (cq [0,1] (bodyOf Tryd.f44))) (a := (aq [0,1] impl_inserted_int_an)) [(cq [0] (bodyOf Tryd.f44))] [(aq [0] impl_inserted_int_an)] rfl (link_seq (impl_inserted_int_n1_l x1887 x1888) (fun (t : Int) => (impl_inserted_int_n6_l x1887 t x1888))))

theorem impl_inserted_int_e (x1887 : Int) (x1888 : List Int) {r : AV} {H' : Heap} (h : (Ans.mk _ (impl_inserted_int x1887 x1888) (fun (t : (List Int)) => (.slc 0, [some (sI t)])) [0] none).run = some (r, H')) : Awp impl_inserted_int_ctx LL (bodyOf Tryd.f44) impl_inserted_int_an ⟨mkE 26 0 [(0, .slc 0), (1, dI x1887)], [some (sI x1888)]⟩ (Ret (tlook tys) Tryd.f44.results.toList r H') :=
  ret_of' (Link.cast (by kernel_rfl) (by kernel_rfl) (impl_inserted_int_n7_l x1887 x1888)) (by unfold impl_inserted_int; kernel_rfl) (by
  intro t
  exact ret_mk [.slc 0] (by kernel_rfl) (by kernel_rfl) (by kernel_rfl) (by kernel_rfl)) h

def F_impl_inserted_int : Fun := fun avs H =>
  match avs, H with
  | [.slc 0, .dat (.int .i64) x1887], [some (.seq (.int .i64) x1888)] => ⟨_, impl_inserted_int x1887 x1888, fun (t : (List Int)) => (.slc 0, [some (sI t)]), [0], none⟩
  | _, _ => Ans.no

theorem impl_inserted_int_sound : Sound Tryd.prog 44 F_impl_inserted_int := by
  refine fn_sound' (C := impl_inserted_int_ctx) (c := bodyOf Tryd.f44) (cok_of tys_ok (allc slices_Insert_int_int_sound alln) (allc Tryd.call57 alln) (by kernel_rfl)) Tryd.func44 (by kernel_rfl) LL impl_inserted_int_an ?_
  intro avs H r H' h
  unfold F_impl_inserted_int at h
  split at h
  · refine Awp.cast ?_ ?_ ?_ (impl_inserted_int_e _ _ h) <;> kernel_rfl
  · simp [Ans.no, Ans.run] at h


/-! loop.example/headtrees/impl.sizesBelow -/

def impl_sizesBelow_an : Ann := (.seq (.leaf [0, 1, 2]) (.seq (.leaf [0, 1, 2, 7]) (.seq (.seq (.leaf [1, 7, 13, 14, 15]) (.block (.loop (.seq (.leaf [1, 7, 13, 14, 15, 16]) (.seq (.cond (.leaf [1, 7, 13, 14, 15]) (.leaf [7])) (.seq (.block (.seq (.leaf [1, 7, 9, 13, 14, 15]) (.leaf [1, 7, 13, 14, 15]))) (.leaf [1, 7, 13, 14, 15]))))))) (.seq (.leaf [6]) (.leaf [6])))))

noncomputable def impl_sizesBelow_ctx : Ctx := ⟨tlook tys, olook [(42, F_impl_dependents), (43, F_impl_wordSet_list), (45, F_impl_wordSet_count), (44, F_impl_inserted_int)], ioF, 0, false, []⟩

theorem impl_sizesBelow_n1_l (x1873 : List Int) (x1874 : List Int) (x1875 : Int) : Link impl_sizesBelow_ctx LL (Code.seq (cq [0] (bodyOf Tryd.f20)) (cq [0,1] (bodyOf Tryd.f20))) (Ann.seq (aq [0] impl_sizesBelow_an) (aq [0,1] impl_sizesBelow_an)) ⟨mkE 29 0 [(0, dL x1873), (1, .dat (.list (.int .u64)) x1874), (2, dI x1875)], []⟩ (impl_sizesBelow_n1) (fun (t : Unit) => (Exit.normal, ⟨mkE 29 0 [(0, dL x1873), (1, .dat (.list (.int .u64)) x1874), (2, dI x1875), (7, .slc 0)], [some (sI ([] : List Int))]⟩)) := .of fun K h => by
  simp only [impl_sizesBelow_n1, wpW] at h
  exact .of (by kernel_rfl) h

theorem impl_sizesBelow_n2_l (x1873 : List Int) (x1874 : List Int) (x1875 : Int) : Link impl_sizesBelow_ctx LL (cq [0,0,1,1] (bodyOf Tryd.f20)) (aq [0,0,1,1] impl_sizesBelow_an) ⟨mkE 29 0 [(0, dL x1873), (1, .dat (.list (.int .u64)) x1874), (2, dI x1875), (7, .slc 0)], [some (sI ([] : List Int))]⟩ (impl_sizesBelow_n2 x1873 x1875) (fun (t : Int × (List Int)) => (Exit.normal, ⟨mkE 29 0 [(1, .dat (.list (.int .u64)) x1874), (7, .slc 0), (13, .slc 1), (14, dI t.1), (15, dI 0)], [some (sI ([] : List Int)), some (sI t.2)]⟩)) := .of fun K h => by
  simp only [impl_sizesBelow_n2, wpW] at h
  exact .of (by kernel_rfl) h

theorem impl_sizesBelow_n3_l (x1874 : List Int) (x1878 : Int) (x1930 : Int) (x1931 : List Int) (x1877 : List Int) : Link impl_sizesBelow_ctx LL (cq [0,0,1,0,1,1] (bodyOf Tryd.f20)) (aq [0,0,1,0,1,1] impl_sizesBelow_an) ⟨mkE 29 0 [(1, .dat (.list (.int .u64)) x1874), (7, .slc 0), (13, .slc 1), (14, dI x1878), (15, dI x1930)], [some (sI x1931), some (sI x1877)]⟩ (impl_sizesBelow_n3 x1874 x1878 x1930 x1931 x1877) (Sum.elim (fun (t : Int × (List Int)) => (Exit.normal, ⟨mkE 29 0 [(1, .dat (.list (.int .u64)) x1874), (7, .slc 0), (13, .slc 1), (14, dI x1878), (15, dI t.1)], [some (sI t.2), some (sI x1877)]⟩)) (fun (t : (List Int)) => ((Exit.exit 0), ⟨mkE 29 0 [(7, .slc 0)], [some (sI t)]⟩))) := .of fun K h => by
  simp only [impl_sizesBelow_n3, wpW] at h
  exact .of (by kernel_rfl) h

def impl_sizesBelow_n4_l (x1874 : List Int) (x1878 : Int) (x1877 : List Int) := (link_loop (mk := fun (s : Int × (List Int)) => ⟨mkE 29 0 [(1, .dat (.list (.int .u64)) x1874), (7, .slc 0), (13, .slc 1), (14, dI x1878), (15, dI s.1)], [some (sI s.2), some (sI x1877)]⟩) (fin := (fun (t : (List Int)) => ((Exit.exit 0), ⟨mkE 29 0 [(7, .slc 0)], [some (sI t)]⟩))) (by
  rintro t f K h
  · exact h) (fun s => link_map (impl_sizesBelow_n3_l x1874 x1878 s.1 s.2 x1877) (Sum.elim (fun (t : Int × (List Int)) => Sum.inl (t.1, t.2)) (fun (t : (List Int)) => Sum.inr t)) (by
  rintro (t | t)
  · kernel_rfl
  · kernel_rfl)) (0, ([] : List Int)))

def impl_sizesBelow_n5_l (x1874 : List Int) (x1878 : Int) (x1877 : List Int) := (link_block (fin2 := (fun (t : (List Int)) => (Exit.normal, ⟨mkE 29 0 [(7, .slc 0)], [some (sI t)]⟩))) (id := 0) (impl_sizesBelow_n4_l x1874 x1878 x1877) (fun (t : (List Int)) => t) (by
  rintro t K h
  · exact Eq.mp (by kernel_rfl) h))

def impl_sizesBelow_n6_l (x1873 : List Int) (x1874 : List Int) (x1875 : Int) := (link_seq (impl_sizesBelow_n2_l x1873 x1874 x1875) (fun (t : Int × (List Int)) => (impl_sizesBelow_n5_l x1874 t.1 t.2)))

theorem impl_sizesBelow_n7_l (x1931 : List Int) : Link impl_sizesBelow_ctx LL (cq [1,1,1] (bodyOf Tryd.f20)) (aq [1,1,1] impl_sizesBelow_an) ⟨mkE 29 0 [(7, .slc 0)], [some (sI x1931)]⟩ (impl_sizesBelow_n7 x1931) (fun (t : (List Int)) => (Exit.ret, ⟨mkE 29 0 [(6, .slc 0)], [some (sI t)]⟩)) := .of fun K h => by
  simp only [impl_sizesBelow_n7, wpW] at h
  exact .of (by kernel_rfl) h

def impl_sizesBelow_n8_l (x1873 : List Int) (x1874 : List Int) (x1875 : Int) := (link_seq (impl_sizesBelow_n6_l x1873 x1874 x1875) (fun (t : (List Int)) => (impl_sizesBelow_n7_l t)))

def impl_sizesBelow_n9_l (x1873 : List Int) (x1874 : List Int) (x1875 : Int) := (link_group (c := (cq [0,1] (bodyOf Tryd.f20))) (a := (aq [0,1] impl_sizesBelow_an)) [(cq [0] (bodyOf Tryd.f20))] [(aq [0] impl_sizesBelow_an)] rfl (link_seq (impl_sizesBelow_n1_l x1873 x1874 x1875) (fun (t : Unit) => (impl_sizesBelow_n8_l x1873 x1874 x1875))))

theorem impl_sizesBelow_e (x1873 : List Int) (x1874 : List Int) (x1875 : Int) {r : AV} {H' : Heap} (h : (Ans.mk _ (impl_sizesBelow x1873 x1874 x1875) (fun (t : (List Int)) => (.slc 0, [some (sI t)])) [] none).run = some (r, H')) : Awp impl_sizesBelow_ctx LL (bodyOf Tryd.f20) impl_sizesBelow_an ⟨mkE 29 0 [(0, dL x1873), (1, .dat (.list (.int .u64)) x1874), (2, dI x1875)], []⟩ (Ret (tlook tys) Tryd.f20.results.toList r H') :=
  ret_of' (Link.cast (by kernel_rfl) (by kernel_rfl) (impl_sizesBelow_n9_l x1873 x1874 x1875)) (by unfold impl_sizesBelow; kernel_rfl) (by
  intro t
  exact ret_mk [.slc 0] (by kernel_rfl) (by kernel_rfl) (by kernel_rfl) (by kernel_rfl)) h

def F_impl_sizesBelow : Fun := fun avs H =>
  match avs, H with
  | [.dat (.list (.int .i64)) x1873, .dat (.list (.int .u64)) x1874, .dat (.int .i64) x1875], [] => ⟨_, impl_sizesBelow x1873 x1874 x1875, fun (t : (List Int)) => (.slc 0, [some (sI t)]), [], none⟩
  | _, _ => Ans.no

theorem impl_sizesBelow_sound : Sound Tryd.prog 20 F_impl_sizesBelow := by
  refine fn_sound' (C := impl_sizesBelow_ctx) (c := bodyOf Tryd.f20) (cok_of tys_ok (allc impl_dependents_sound (allc impl_wordSet_list_sound (allc impl_wordSet_count_sound (allc impl_inserted_int_sound alln)))) (allc Tryd.call42 (allc Tryd.call43 (allc Tryd.call45 (allc Tryd.call44 alln)))) (by kernel_rfl)) Tryd.func20 (by kernel_rfl) LL impl_sizesBelow_an ?_
  intro avs H r H' h
  unfold F_impl_sizesBelow at h
  split at h
  · refine Awp.cast ?_ ?_ ?_ (impl_sizesBelow_e _ _ _ h) <;> kernel_rfl
  · simp [Ans.no, Ans.run] at h


/-! loop.example/headtrees/impl.lengthByChoice -/

def impl_lengthByChoice_an : Ann := (.seq (.leaf [0, 1, 2]) (.seq (.leaf [0, 1, 2, 7]) (.seq (.leaf [0, 1, 2, 7, 8]) (.seq (.seq (.leaf [1, 2, 7, 8, 12, 13, 14]) (.block (.loop (.seq (.leaf [1, 2, 7, 8, 12, 13, 14, 15]) (.seq (.cond (.leaf [1, 2, 7, 8, 12, 13, 14]) (.leaf [2, 7, 8])) (.seq (.block (.seq (.leaf [1, 2, 7, 8, 9, 10, 12, 13, 14]) (.seq (.leaf [1, 2, 7, 8, 10, 11, 12, 13, 14]) (.seq (.leaf [1, 2, 7, 8, 10, 11, 12, 13, 14]) (.leaf [1, 2, 7, 8, 12, 13, 14]))))) (.leaf [1, 2, 7, 8, 12, 13, 14]))))))) (.seq (.seq (.leaf [7, 8, 36]) (.cond (.leaf [7]) (.leaf [7]))) (.seq (.leaf [6]) (.leaf [6])))))))

noncomputable def impl_lengthByChoice_ctx : Ctx := ⟨tlook tys, olook [], ioF, 0, false, []⟩

theorem impl_lengthByChoice_n1_l (x1953 : List Int) (x1954 : Int) (x1955 : Bool) : Link impl_lengthByChoice_ctx LL (Code.seq (cq [0] (bodyOf Tryd.f41)) (Code.seq (cq [0,1] (bodyOf Tryd.f41)) (cq [0,1,1] (bodyOf Tryd.f41)))) (Ann.seq (aq [0] impl_lengthByChoice_an) (Ann.seq (aq [0,1] impl_lengthByChoice_an) (aq [0,1,1] impl_lengthByChoice_an))) ⟨mkE 42 0 [(0, dL x1953), (1, dW x1954), (2, dB x1955)], []⟩ (impl_lengthByChoice_n1) (fun (t : Unit) => (Exit.normal, ⟨mkE 42 0 [(0, dL x1953), (1, dW x1954), (2, dB x1955), (7, dI 0), (8, .ptr 0 0)], [some (sI (List.replicate 2 (0 : Int)))]⟩)) := .of fun K h => by
  simp only [impl_lengthByChoice_n1, wpW] at h
  exact .of (by kernel_rfl) h

theorem impl_lengthByChoice_n2_l (x1953 : List Int) (x1954 : Int) (x1955 : Bool) : Link impl_lengthByChoice_ctx LL (cq [0,0,1,1,1] (bodyOf Tryd.f41)) (aq [0,0,1,1,1] impl_lengthByChoice_an) ⟨mkE 42 0 [(0, dL x1953), (1, dW x1954), (2, dB x1955), (7, dI 0), (8, .ptr 0 0)], [some (sI (List.replicate 2 (0 : Int)))]⟩ (impl_lengthByChoice_n2 x1953) (fun (t : Int) => (Exit.normal, ⟨mkE 42 0 [(1, dW x1954), (2, dB x1955), (7, dI 0), (8, .ptr 0 0), (12, dL x1953), (13, dI t), (14, dI 0)], [some (sI (List.replicate 2 (0 : Int)))]⟩)) := .of fun K h => by
  simp only [impl_lengthByChoice_n2, wpW] at h
  exact .of (by kernel_rfl) h

theorem impl_lengthByChoice_n3_l (x1954 : Int) (x1955 : Bool) (x1993 : Int) (x1953 : List Int) (x1957 : Int) (x1994 : Int) (x1995 : List Int) : Link impl_lengthByChoice_ctx LL (cq [0,0,1,0,1,1,1] (bodyOf Tryd.f41)) (aq [0,0,1,0,1,1,1] impl_lengthByChoice_an) ⟨mkE 42 0 [(1, dW x1954), (2, dB x1955), (7, dI x1993), (8, .ptr 0 0), (12, dL x1953), (13, dI x1957), (14, dI x1994)], [some (sI x1995)]⟩ (impl_lengthByChoice_n3 x1954 x1993 x1953 x1957 x1994 x1995) (Sum.elim (fun (t : Int × Int × (List Int)) => (Exit.normal, ⟨mkE 42 0 [(1, dW x1954), (2, dB x1955), (7, dI t.1), (8, .ptr 0 0), (12, dL x1953), (13, dI x1957), (14, dI t.2.1)], [some (sI t.2.2)]⟩)) (fun (t : Int × (List Int)) => ((Exit.exit 0), ⟨mkE 42 0 [(2, dB x1955), (7, dI t.1), (8, .ptr 0 0)], [some (sI t.2)]⟩))) := .of fun K h => by
  simp only [impl_lengthByChoice_n3, wpW] at h
  exact .of (by kernel_rfl) h

def impl_lengthByChoice_n4_l (x1954 : Int) (x1955 : Bool) (x1953 : List Int) (x1957 : Int) := (link_loop (mk := fun (s : Int × Int × (List Int)) => ⟨mkE 42 0 [(1, dW x1954), (2, dB x1955), (7, dI s.1), (8, .ptr 0 0), (12, dL x1953), (13, dI x1957), (14, dI s.2.1)], [some (sI s.2.2)]⟩) (fin := (fun (t : Int × (List Int)) => ((Exit.exit 0), ⟨mkE 42 0 [(2, dB x1955), (7, dI t.1), (8, .ptr 0 0)], [some (sI t.2)]⟩))) (by
  rintro t f K h
  · exact h) (fun s => link_map (impl_lengthByChoice_n3_l x1954 x1955 s.1 x1953 x1957 s.2.1 s.2.2) (Sum.elim (fun (t : Int × Int × (List Int)) => Sum.inl (t.1, t.2.1, t.2.2)) (fun (t : Int × (List Int)) => Sum.inr t)) (by
  rintro (t | t)
  · kernel_rfl
  · kernel_rfl)) (0, 0, (List.replicate 2 (0 : Int))))

def impl_lengthByChoice_n5_l (x1954 : Int) (x1955 : Bool) (x1953 : List Int) (x1957 : Int) := (link_block (fin2 := (fun (t : Int × (List Int)) => (Exit.normal, ⟨mkE 42 0 [(2, dB x1955), (7, dI t.1), (8, .ptr 0 0)], [some (sI t.2)]⟩))) (id := 0) (impl_lengthByChoice_n4_l x1954 x1955 x1953 x1957) (fun (t : Int × (List Int)) => (t.1, t.2)) (by
  rintro t K h
  · exact Eq.mp (by kernel_rfl) h))

def impl_lengthByChoice_n6_l (x1953 : List Int) (x1954 : Int) (x1955 : Bool) := (link_seq (impl_lengthByChoice_n2_l x1953 x1954 x1955) (fun (t : Int) => (impl_lengthByChoice_n5_l x1954 x1955 x1953 t)))

theorem impl_lengthByChoice_n7_l (x1955 : Bool) (x1993 : Int) (x1995 : List Int) : Link impl_lengthByChoice_ctx LL (cq [1,1,1,1] (bodyOf Tryd.f41)) (aq [1,1,1,1] impl_lengthByChoice_an) ⟨mkE 42 0 [(2, dB x1955), (7, dI x1993), (8, .ptr 0 0)], [some (sI x1995)]⟩ (impl_lengthByChoice_n7 x1955 x1993 x1995) (fun (t : Int) => (Exit.ret, ⟨mkE 42 0 [(6, dI t)], []⟩)) := .of fun K h => by
  simp only [impl_lengthByChoice_n7, wpW] at h
  exact .of (by kernel_rfl) h

def impl_lengthByChoice_n8_l (x1953 : List Int) (x1954 : Int) (x1955 : Bool) := (link_seq (impl_lengthByChoice_n6_l x1953 x1954 x1955) (fun (t : Int × (List Int)) => (impl_lengthByChoice_n7_l x1955 t.1 t.2)))

def impl_lengthByChoice_n9_l (x1953 : List Int) (x1954 : Int) (x1955 : Bool) := (link_group (c := (cq [0,1,1] (bodyOf Tryd.f41))) (a := (aq [0,1,1] impl_lengthByChoice_an)) [(cq [0] (bodyOf Tryd.f41)), (cq [0,1] (bodyOf Tryd.f41))] [(aq [0] impl_lengthByChoice_an), (aq [0,1] impl_lengthByChoice_an)] rfl (link_seq (impl_lengthByChoice_n1_l x1953 x1954 x1955) (fun (t : Unit) => (impl_lengthByChoice_n8_l x1953 x1954 x1955))))

theorem impl_lengthByChoice_e (x1953 : List Int) (x1954 : Int) (x1955 : Bool) {r : AV} {H' : Heap} (h : (Ans.mk _ (impl_lengthByChoice x1953 x1954 x1955) (fun (t : Int) => (dI t, [])) [] none).run = some (r, H')) : Awp impl_lengthByChoice_ctx LL (bodyOf Tryd.f41) impl_lengthByChoice_an ⟨mkE 42 0 [(0, dL x1953), (1, dW x1954), (2, dB x1955)], []⟩ (Ret (tlook tys) Tryd.f41.results.toList r H') :=
  ret_of' (Link.cast (by kernel_rfl) (by kernel_rfl) (impl_lengthByChoice_n9_l x1953 x1954 x1955)) (by unfold impl_lengthByChoice; kernel_rfl) (by
  intro t
  exact ret_mk [dI t] (by kernel_rfl) (by kernel_rfl) (by kernel_rfl) (by kernel_rfl)) h

def F_impl_lengthByChoice : Fun := fun avs H =>
  match avs, H with
  | [.dat (.list (.int .i64)) x1953, .dat (.int .u64) x1954, .dat .bool x1955], [] => ⟨_, impl_lengthByChoice x1953 x1954 x1955, fun (t : Int) => (dI t, []), [], none⟩
  | _, _ => Ans.no

theorem impl_lengthByChoice_sound : Sound Tryd.prog 41 F_impl_lengthByChoice := by
  refine fn_sound' (C := impl_lengthByChoice_ctx) (c := bodyOf Tryd.f41) (cok_of tys_ok (alln) (alln) (by kernel_rfl)) Tryd.func41 (by kernel_rfl) LL impl_lengthByChoice_an ?_
  intro avs H r H' h
  unfold F_impl_lengthByChoice at h
  split at h
  · refine Awp.cast ?_ ?_ ?_ (impl_lengthByChoice_e _ _ _ h) <;> kernel_rfl
  · simp [Ans.no, Ans.run] at h


/-! loop.example/headtrees/impl.leastByChoice -/

def impl_leastByChoice_an : Ann := (.seq (.leaf [0, 1]) (.seq (.leaf [0, 1, 5]) (.seq (.seq (.leaf [0, 1, 5, 12, 13]) (.block (.loop (.seq (.leaf [0, 1, 5, 12, 13, 14]) (.seq (.cond (.leaf [0, 1, 5, 12, 13]) (.leaf [5])) (.seq (.block (.seq (.leaf [0, 1, 5, 6, 12, 13]) (.leaf [0, 1, 5, 12, 13]))) (.leaf [0, 1, 5, 12, 13]))))))) (.seq (.leaf [4]) (.leaf [4])))))

noncomputable def impl_leastByChoice_ctx : Ctx := ⟨tlook tys, olook [(41, F_impl_lengthByChoice)], ioF, 0, false, []⟩

theorem impl_leastByChoice_n1_l (x1951 : List Int) (x1952 : Bool) : Link impl_leastByChoice_ctx LL (Code.seq (cq [0] (bodyOf Tryd.f19)) (cq [0,1] (bodyOf Tryd.f19))) (Ann.seq (aq [0] impl_leastByChoice_an) (aq [0,1] impl_leastByChoice_an)) ⟨mkE 24 0 [(0, dL x1951), (1, dB x1952)], []⟩ (impl_leastByChoice_n1 x1951 x1952) (fun (t : Int) => (Exit.normal, ⟨mkE 24 0 [(0, dL x1951), (1, dB x1952), (5, dI t)], []⟩)) := .of fun K h => by
  simp only [impl_leastByChoice_n1, wpW] at h
  exact .of (by kernel_rfl) h

theorem impl_leastByChoice_n2_l (x1951 : List Int) (x1952 : Bool) (x2044 : Int) : Link impl_leastByChoice_ctx LL (cq [0,0,1,1] (bodyOf Tryd.f19)) (aq [0,0,1,1] impl_leastByChoice_an) ⟨mkE 24 0 [(0, dL x1951), (1, dB x1952), (5, dI x2044)], []⟩ (impl_leastByChoice_n2 x1951) (fun (t : Int) => (Exit.normal, ⟨mkE 24 0 [(0, dL x1951), (1, dB x1952), (5, dI x2044), (12, dW t), (13, dW 0)], []⟩)) := .of fun K h => by
  simp only [impl_leastByChoice_n2, wpW] at h
  exact .of (by kernel_rfl) h

theorem impl_leastByChoice_n3_l (x1951 : List Int) (x1952 : Bool) (x2056 : Int) (x2046 : Int) (x2057 : Int) : Link impl_leastByChoice_ctx LL (cq [0,0,1,0,1,1] (bodyOf Tryd.f19)) (aq [0,0,1,0,1,1] impl_leastByChoice_an) ⟨mkE 24 0 [(0, dL x1951), (1, dB x1952), (5, dI x2056), (12, dW x2046), (13, dW x2057)], []⟩ (impl_leastByChoice_n3 x1951 x1952 x2056 x2046 x2057) (Sum.elim (fun (t : Int × Int) => (Exit.normal, ⟨mkE 24 0 [(0, dL x1951), (1, dB x1952), (5, dI t.1), (12, dW x2046), (13, dW t.2)], []⟩)) (fun (t : Int) => ((Exit.exit 0), ⟨mkE 24 0 [(5, dI t)], []⟩))) := .of fun K h => by
  simp only [impl_leastByChoice_n3, wpW] at h
  exact .of (by kernel_rfl) h

def impl_leastByChoice_n4_l (x1951 : List Int) (x1952 : Bool) (x2044 : Int) (x2046 : Int) := (link_loop (mk := fun (s : Int × Int) => ⟨mkE 24 0 [(0, dL x1951), (1, dB x1952), (5, dI s.1), (12, dW x2046), (13, dW s.2)], []⟩) (fin := (fun (t : Int) => ((Exit.exit 0), ⟨mkE 24 0 [(5, dI t)], []⟩))) (by
  rintro t f K h
  · exact h) (fun s => link_map (impl_leastByChoice_n3_l x1951 x1952 s.1 x2046 s.2) (Sum.elim (fun (t : Int × Int) => Sum.inl (t.1, t.2)) (fun (t : Int) => Sum.inr t)) (by
  rintro (t | t)
  · kernel_rfl
  · kernel_rfl)) (x2044, 0))

def impl_leastByChoice_n5_l (x1951 : List Int) (x1952 : Bool) (x2044 : Int) (x2046 : Int) := (link_block (fin2 := (fun (t : Int) => (Exit.normal, ⟨mkE 24 0 [(5, dI t)], []⟩))) (id := 0) (impl_leastByChoice_n4_l x1951 x1952 x2044 x2046) (fun (t : Int) => t) (by
  rintro t K h
  · exact Eq.mp (by kernel_rfl) h))

def impl_leastByChoice_n6_l (x1951 : List Int) (x1952 : Bool) (x2044 : Int) := (link_seq (impl_leastByChoice_n2_l x1951 x1952 x2044) (fun (t : Int) => (impl_leastByChoice_n5_l x1951 x1952 x2044 t)))

theorem impl_leastByChoice_n7_l (x2056 : Int) : Link impl_leastByChoice_ctx LL (cq [1,1,1] (bodyOf Tryd.f19)) (aq [1,1,1] impl_leastByChoice_an) ⟨mkE 24 0 [(5, dI x2056)], []⟩ (impl_leastByChoice_n7 x2056) (fun (t : Int) => (Exit.ret, ⟨mkE 24 0 [(4, dI t)], []⟩)) := .of fun K h => by
  simp only [impl_leastByChoice_n7, wpW] at h
  exact .of (by kernel_rfl) h

def impl_leastByChoice_n8_l (x1951 : List Int) (x1952 : Bool) (x2044 : Int) := (link_seq (impl_leastByChoice_n6_l x1951 x1952 x2044) (fun (t : Int) => (impl_leastByChoice_n7_l t)))

def impl_leastByChoice_n9_l (x1951 : List Int) (x1952 : Bool) := (link_group (c := (cq [0,1] (bodyOf Tryd.f19))) (a := (aq [0,1] impl_leastByChoice_an)) [(cq [0] (bodyOf Tryd.f19))] [(aq [0] impl_leastByChoice_an)] rfl (link_seq (impl_leastByChoice_n1_l x1951 x1952) (fun (t : Int) => (impl_leastByChoice_n8_l x1951 x1952 t))))

theorem impl_leastByChoice_e (x1951 : List Int) (x1952 : Bool) {r : AV} {H' : Heap} (h : (Ans.mk _ (impl_leastByChoice x1951 x1952) (fun (t : Int) => (dI t, [])) [] none).run = some (r, H')) : Awp impl_leastByChoice_ctx LL (bodyOf Tryd.f19) impl_leastByChoice_an ⟨mkE 24 0 [(0, dL x1951), (1, dB x1952)], []⟩ (Ret (tlook tys) Tryd.f19.results.toList r H') :=
  ret_of' (Link.cast (by kernel_rfl) (by kernel_rfl) (impl_leastByChoice_n9_l x1951 x1952)) (by unfold impl_leastByChoice; kernel_rfl) (by
  intro t
  exact ret_mk [dI t] (by kernel_rfl) (by kernel_rfl) (by kernel_rfl) (by kernel_rfl)) h

def F_impl_leastByChoice : Fun := fun avs H =>
  match avs, H with
  | [.dat (.list (.int .i64)) x1951, .dat .bool x1952], [] => ⟨_, impl_leastByChoice x1951 x1952, fun (t : Int) => (dI t, []), [], none⟩
  | _, _ => Ans.no

theorem impl_leastByChoice_sound : Sound Tryd.prog 19 F_impl_leastByChoice := by
  refine fn_sound' (C := impl_leastByChoice_ctx) (c := bodyOf Tryd.f19) (cok_of tys_ok (allc impl_lengthByChoice_sound alln) (allc Tryd.call41 alln) (by kernel_rfl)) Tryd.func19 (by kernel_rfl) LL impl_leastByChoice_an ?_
  intro avs H r H' h
  unfold F_impl_leastByChoice at h
  split at h
  · refine Awp.cast ?_ ?_ ?_ (impl_leastByChoice_e _ _ h) <;> kernel_rfl
  · simp [Ans.no, Ans.run] at h


/-! loop.example/headtrees/impl.LeastLength -/

def impl_LeastLength_an : Ann := (.seq (.leaf [0]) (.seq (.seq (.leaf [0, 9]) (.cond (.seq (.leaf [2]) (.leaf [2])) (.leaf [0]))) (.seq (.leaf [0, 3]) (.seq (.leaf [0, 3, 4]) (.seq (.seq (.leaf [0, 3, 4, 12, 13, 14]) (.block (.loop (.seq (.leaf [0, 3, 4, 12, 13, 14, 15]) (.seq (.cond (.leaf [0, 3, 4, 12, 13, 14]) (.leaf [4])) (.seq (.block (.seq (.leaf [0, 3, 4, 5, 6, 12, 13, 14]) (.leaf [0, 3, 4, 12, 13, 14]))) (.leaf [0, 3, 4, 12, 13, 14]))))))) (.seq (.leaf [2]) (.leaf [2])))))))

noncomputable def impl_LeastLength_ctx : Ctx := ⟨tlook tys, olook [(8, F_impl_TreeOk), (18, F_impl_yieldsOf), (20, F_impl_sizesBelow), (19, F_impl_leastByChoice)], ioF, 0, false, []⟩

theorem impl_LeastLength_n1_l (x1433 : List Int) : Link impl_LeastLength_ctx LL (Code.seq (cq [0] (bodyOf Tryd.f6)) (Code.seq (cq [0,1] (bodyOf Tryd.f6)) (Code.seq (cq [0,1,1] (bodyOf Tryd.f6)) (cq [0,1,1,1] (bodyOf Tryd.f6))))) (Ann.seq (aq [0] impl_LeastLength_an) (Ann.seq (aq [0,1] impl_LeastLength_an) (Ann.seq (aq [0,1,1] impl_LeastLength_an) (aq [0,1,1,1] impl_LeastLength_an)))) ⟨mkE 31 0 [(0, dL x1433)], []⟩ (impl_LeastLength_n1 x1433) (Sum.elim (fun (t : (List Int)) => (Exit.normal, ⟨mkE 31 0 [(0, dL x1433), (3, .slc 0), (4, dI 0)], [some (.seq (.int .u64) t)]⟩)) (fun (t : Int) => (Exit.ret, ⟨mkE 31 0 [(2, dI t)], []⟩))) := .of fun K h => by
  simp only [impl_LeastLength_n1, wpW] at h
  exact .of (by kernel_rfl) h

theorem impl_LeastLength_n2_l (x1433 : List Int) (x1866 : List Int) : Link impl_LeastLength_ctx LL (cq [0,0,1,1,1,1] (bodyOf Tryd.f6)) (aq [0,0,1,1,1,1] impl_LeastLength_an) ⟨mkE 31 0 [(0, dL x1433), (3, .slc 0), (4, dI 0)], [some (.seq (.int .u64) x1866)]⟩ (impl_LeastLength_n2 x1433) (fun (t : Int) => (Exit.normal, ⟨mkE 31 0 [(0, dL x1433), (3, .slc 0), (4, dI 0), (12, dL x1433), (13, dI t), (14, dI 0)], [some (.seq (.int .u64) x1866)]⟩)) := .of fun K h => by
  simp only [impl_LeastLength_n2, wpW] at h
  exact .of (by kernel_rfl) h

theorem impl_LeastLength_n3_l (x1433 : List Int) (x2077 : Int) (x1867 : Int) (x2078 : Int) (x1866 : List Int) : Link impl_LeastLength_ctx LL (cq [0,0,1,0,1,1,1,1] (bodyOf Tryd.f6)) (aq [0,0,1,0,1,1,1,1] impl_LeastLength_an) ⟨mkE 31 0 [(0, dL x1433), (3, .slc 0), (4, dI x2077), (12, dL x1433), (13, dI x1867), (14, dI x2078)], [some (.seq (.int .u64) x1866)]⟩ (impl_LeastLength_n3 x1433 x2077 x1867 x2078 x1866) (Sum.elim (fun (t : Int × Int) => (Exit.normal, ⟨mkE 31 0 [(0, dL x1433), (3, .slc 0), (4, dI t.1), (12, dL x1433), (13, dI x1867), (14, dI t.2)], [some (.seq (.int .u64) x1866)]⟩)) (fun (t : Int) => ((Exit.exit 0), ⟨mkE 31 0 [(4, dI t)], []⟩))) := .of fun K h => by
  simp only [impl_LeastLength_n3, wpW] at h
  exact .of (by kernel_rfl) h

def impl_LeastLength_n4_l (x1433 : List Int) (x1867 : Int) (x1866 : List Int) := (link_loop (mk := fun (s : Int × Int) => ⟨mkE 31 0 [(0, dL x1433), (3, .slc 0), (4, dI s.1), (12, dL x1433), (13, dI x1867), (14, dI s.2)], [some (.seq (.int .u64) x1866)]⟩) (fin := (fun (t : Int) => ((Exit.exit 0), ⟨mkE 31 0 [(4, dI t)], []⟩))) (by
  rintro t f K h
  · exact h) (fun s => link_map (impl_LeastLength_n3_l x1433 s.1 x1867 s.2 x1866) (Sum.elim (fun (t : Int × Int) => Sum.inl (t.1, t.2)) (fun (t : Int) => Sum.inr t)) (by
  rintro (t | t)
  · kernel_rfl
  · kernel_rfl)) (0, 0))

def impl_LeastLength_n5_l (x1433 : List Int) (x1867 : Int) (x1866 : List Int) := (link_block (fin2 := (fun (t : Int) => (Exit.normal, ⟨mkE 31 0 [(4, dI t)], []⟩))) (id := 0) (impl_LeastLength_n4_l x1433 x1867 x1866) (fun (t : Int) => t) (by
  rintro t K h
  · exact Eq.mp (by kernel_rfl) h))

def impl_LeastLength_n6_l (x1433 : List Int) (x1866 : List Int) := (link_seq (impl_LeastLength_n2_l x1433 x1866) (fun (t : Int) => (impl_LeastLength_n5_l x1433 t x1866)))

theorem impl_LeastLength_n7_l (x2077 : Int) : Link impl_LeastLength_ctx LL (cq [1,1,1,1,1] (bodyOf Tryd.f6)) (aq [1,1,1,1,1] impl_LeastLength_an) ⟨mkE 31 0 [(4, dI x2077)], []⟩ (impl_LeastLength_n7 x2077) (fun (t : Int) => (Exit.ret, ⟨mkE 31 0 [(2, dI t)], []⟩)) := .of fun K h => by
  simp only [impl_LeastLength_n7, wpW] at h
  exact .of (by kernel_rfl) h

def impl_LeastLength_n8_l (x1433 : List Int) (x1866 : List Int) := (link_seq (impl_LeastLength_n6_l x1433 x1866) (fun (t : Int) => (impl_LeastLength_n7_l t)))

def impl_LeastLength_n9_l (x1433 : List Int) := (link_group (c := (cq [0,1,1,1] (bodyOf Tryd.f6))) (a := (aq [0,1,1,1] impl_LeastLength_an)) [(cq [0] (bodyOf Tryd.f6)), (cq [0,1] (bodyOf Tryd.f6)), (cq [0,1,1] (bodyOf Tryd.f6))] [(aq [0] impl_LeastLength_an), (aq [0,1] impl_LeastLength_an), (aq [0,1,1] impl_LeastLength_an)] rfl (link_seq2 (impl_LeastLength_n1_l x1433) (fun (t : (List Int)) => (impl_LeastLength_n8_l x1433 t)) (fun (t : Int) => t) (by
  rintro t
  · kernel_rfl) (by
  rintro t f K h
  · exact h)))

theorem impl_LeastLength_e (x1433 : List Int) {r : AV} {H' : Heap} (h : (Ans.mk _ (impl_LeastLength x1433) (fun (t : Int) => (dI t, [])) [] none).run = some (r, H')) : Awp impl_LeastLength_ctx LL (bodyOf Tryd.f6) impl_LeastLength_an ⟨mkE 31 0 [(0, dL x1433)], []⟩ (Ret (tlook tys) Tryd.f6.results.toList r H') :=
  ret_of' (Link.cast (by kernel_rfl) (by kernel_rfl) (impl_LeastLength_n9_l x1433)) (by unfold impl_LeastLength; kernel_rfl) (by
  intro t
  exact ret_mk [dI t] (by kernel_rfl) (by kernel_rfl) (by kernel_rfl) (by kernel_rfl)) h

def F_impl_LeastLength : Fun := fun avs H =>
  match avs, H with
  | [.dat (.list (.int .i64)) x1433], [] => ⟨_, impl_LeastLength x1433, fun (t : Int) => (dI t, []), [], none⟩
  | _, _ => Ans.no

theorem impl_LeastLength_sound : Sound Tryd.prog 6 F_impl_LeastLength := by
  refine fn_sound' (C := impl_LeastLength_ctx) (c := bodyOf Tryd.f6) (cok_of tys_ok (allc impl_TreeOk_sound (allc impl_yieldsOf_sound (allc impl_sizesBelow_sound (allc impl_leastByChoice_sound alln)))) (allc Tryd.call8 (allc Tryd.call18 (allc Tryd.call20 (allc Tryd.call19 alln)))) (by kernel_rfl)) Tryd.func6 (by kernel_rfl) LL impl_LeastLength_an ?_
  intro avs H r H' h
  unfold F_impl_LeastLength at h
  split at h
  · refine Awp.cast ?_ ?_ ?_ (impl_LeastLength_e _ h) <;> kernel_rfl
  · simp [Ans.no, Ans.run] at h


/-! loop.example/headtrees/spec.l2Yield -/

def spec_l2Yield_an : Ann := (.seq (.leaf [0, 1]) (.seq (.leaf [0, 1, 5]) (.seq (.seq (.leaf [0, 1, 5, 6]) (.block (.loop (.seq (.seq (.leaf [0, 1, 5, 6, 13]) (.cond (.leaf [0, 1, 5, 6]) (.leaf [5]))) (.seq (.block (.seq (.leaf [0, 1, 5, 6, 21]) (.cond (.leaf [0, 1, 5, 6]) (.leaf [0, 1, 5, 6])))) (.leaf [0, 1, 5, 6])))))) (.seq (.leaf [4]) (.leaf [4])))))

def F_spec_l2Yield_fuel (n : Nat) : Fun := fun avs H =>
  match avs, H with
  | [.dat (.list (.int .i64)) x2127, .dat (.int .i64) x2128], [] => ⟨_, spec_l2Yield_fuel n x2127 x2128, fun (t : Int) => (dI t, []), [], none⟩
  | _, _ => Ans.no

noncomputable def spec_l2Yield_ctx (n : Nat) : Ctx := ⟨tlook tys, olook [(48, F_spec_l2Yield_fuel n)], ioF, 0, false, []⟩

theorem spec_l2Yield_n1_l (n : Nat) (x2127 : List Int) (x2128 : Int) : Link (spec_l2Yield_ctx n) LL (Code.seq (cq [0] (bodyOf Tryd.f48)) (cq [0,1] (bodyOf Tryd.f48))) (Ann.seq (aq [0] spec_l2Yield_an) (aq [0,1] spec_l2Yield_an)) ⟨mkE 29 0 [(0, dL x2127), (1, dI x2128)], []⟩ (spec_l2Yield_n1 (spec_l2Yield_fuel n) x2128) (fun (t : Int) => (Exit.normal, ⟨mkE 29 0 [(0, dL x2127), (1, dI x2128), (5, dI t)], []⟩)) := .of fun K h => by
  simp only [spec_l2Yield_n1, wpW] at h
  exact .of (by kernel_rfl) h

theorem spec_l2Yield_n2_l (n : Nat) (x2127 : List Int) (x2128 : Int) (x2159 : Int) : Link (spec_l2Yield_ctx n) LL (cq [0,0,1,1] (bodyOf Tryd.f48)) (aq [0,0,1,1] spec_l2Yield_an) ⟨mkE 29 0 [(0, dL x2127), (1, dI x2128), (5, dI x2159)], []⟩ (spec_l2Yield_n2 (spec_l2Yield_fuel n)) (fun (t : Unit) => (Exit.normal, ⟨mkE 29 0 [(0, dL x2127), (1, dI x2128), (5, dI x2159), (6, dI 0)], []⟩)) := .of fun K h => by
  simp only [spec_l2Yield_n2, wpW] at h
  exact .of (by kernel_rfl) h

theorem spec_l2Yield_n3_l (n : Nat) (x2127 : List Int) (x2128 : Int) (x2180 : Int) (x2181 : Int) : Link (spec_l2Yield_ctx n) LL (cq [0,0,1,0,1,1] (bodyOf Tryd.f48)) (aq [0,0,1,0,1,1] spec_l2Yield_an) ⟨mkE 29 0 [(0, dL x2127), (1, dI x2128), (5, dI x2180), (6, dI x2181)], []⟩ (spec_l2Yield_n3 (spec_l2Yield_fuel n) x2127 x2128 x2180 x2181) (Sum.elim (fun (t : Int × Int) => (Exit.normal, ⟨mkE 29 0 [(0, dL x2127), (1, dI x2128), (5, dI t.1), (6, dI t.2)], []⟩)) (fun (t : Int) => ((Exit.exit 0), ⟨mkE 29 0 [(5, dI t)], []⟩))) := .of fun K h => by
  simp only [spec_l2Yield_n3, wpW] at h
  exact .of (by kernel_rfl) h

def spec_l2Yield_n4_l (n : Nat) (x2127 : List Int) (x2128 : Int) (x2159 : Int) := (link_loop (mk := fun (s : Int × Int) => ⟨mkE 29 0 [(0, dL x2127), (1, dI x2128), (5, dI s.1), (6, dI s.2)], []⟩) (fin := (fun (t : Int) => ((Exit.exit 0), ⟨mkE 29 0 [(5, dI t)], []⟩))) (by
  rintro t f K h
  · exact h) (fun s => link_map (spec_l2Yield_n3_l n x2127 x2128 s.1 s.2) (Sum.elim (fun (t : Int × Int) => Sum.inl (t.1, t.2)) (fun (t : Int) => Sum.inr t)) (by
  rintro (t | t)
  · kernel_rfl
  · kernel_rfl)) (x2159, 0))

def spec_l2Yield_n5_l (n : Nat) (x2127 : List Int) (x2128 : Int) (x2159 : Int) := (link_block (fin2 := (fun (t : Int) => (Exit.normal, ⟨mkE 29 0 [(5, dI t)], []⟩))) (id := 0) (spec_l2Yield_n4_l n x2127 x2128 x2159) (fun (t : Int) => t) (by
  rintro t K h
  · exact Eq.mp (by kernel_rfl) h))

def spec_l2Yield_n6_l (n : Nat) (x2127 : List Int) (x2128 : Int) (x2159 : Int) := (link_seq (spec_l2Yield_n2_l n x2127 x2128 x2159) (fun (t : Unit) => (spec_l2Yield_n5_l n x2127 x2128 x2159)))

theorem spec_l2Yield_n7_l (n : Nat) (x2180 : Int) : Link (spec_l2Yield_ctx n) LL (cq [1,1,1] (bodyOf Tryd.f48)) (aq [1,1,1] spec_l2Yield_an) ⟨mkE 29 0 [(5, dI x2180)], []⟩ (spec_l2Yield_n7 (spec_l2Yield_fuel n) x2180) (fun (t : Int) => (Exit.ret, ⟨mkE 29 0 [(4, dI t)], []⟩)) := .of fun K h => by
  simp only [spec_l2Yield_n7, wpW] at h
  exact .of (by kernel_rfl) h

def spec_l2Yield_n8_l (n : Nat) (x2127 : List Int) (x2128 : Int) (x2159 : Int) := (link_seq (spec_l2Yield_n6_l n x2127 x2128 x2159) (fun (t : Int) => (spec_l2Yield_n7_l n t)))

def spec_l2Yield_n9_l (n : Nat) (x2127 : List Int) (x2128 : Int) := (link_group (c := (cq [0,1] (bodyOf Tryd.f48))) (a := (aq [0,1] spec_l2Yield_an)) [(cq [0] (bodyOf Tryd.f48))] [(aq [0] spec_l2Yield_an)] rfl (link_seq (spec_l2Yield_n1_l n x2127 x2128) (fun (t : Int) => (spec_l2Yield_n8_l n x2127 x2128 t))))

theorem spec_l2Yield_e (n : Nat) (x2127 : List Int) (x2128 : Int) {r : AV} {H' : Heap} (h : (Ans.mk _ (spec_l2Yield_fuel (n + 1) x2127 x2128) (fun (t : Int) => (dI t, [])) [] none).run = some (r, H')) : Awp (spec_l2Yield_ctx n) LL (bodyOf Tryd.f48) spec_l2Yield_an ⟨mkE 29 0 [(0, dL x2127), (1, dI x2128)], []⟩ (Ret (tlook tys) Tryd.f48.results.toList r H') :=
  ret_of' (Link.cast (by kernel_rfl) (by kernel_rfl) (spec_l2Yield_n9_l n x2127 x2128)) (by (show _ = _); kernel_rfl) (by
  intro t
  exact ret_mk [dI t] (by kernel_rfl) (by kernel_rfl) (by kernel_rfl) (by kernel_rfl)) h

theorem spec_l2Yield_step (n : Nat) (h48 : Sound Tryd.prog 48 (F_spec_l2Yield_fuel n)) : Sound Tryd.prog 48 (F_spec_l2Yield_fuel (n + 1)) := by
  refine fn_sound' (C := spec_l2Yield_ctx n) (c := bodyOf Tryd.f48) (cok_of tys_ok (allc h48 alln) (allc Tryd.call48 alln) (by kernel_rfl)) Tryd.func48 (by kernel_rfl) LL spec_l2Yield_an ?_
  intro avs H r H' h
  unfold F_spec_l2Yield_fuel at h
  split at h
  · refine Awp.cast ?_ ?_ ?_ (spec_l2Yield_e n _ _ h) <;> kernel_rfl
  · simp [Ans.no, Ans.run] at h

theorem spec_l2Yield_null : Sound Tryd.prog 48 (F_spec_l2Yield_fuel 0) := by
  intro avs H r H' h
  unfold F_spec_l2Yield_fuel at h
  split at h
  · simp [spec_l2Yield_fuel, spec_l2Yield_knot, Ans.run] at h
  · simp [Ans.no, Ans.run] at h

theorem spec_l2Yield_knot_all : ∀ n, Sound Tryd.prog 48 (F_spec_l2Yield_fuel n)
  | 0 => spec_l2Yield_null
  | n + 1 => by
    have h48 := spec_l2Yield_knot_all n
    exact spec_l2Yield_step n h48

def F_spec_l2Yield : Fun := fun avs H =>
  match avs, H with
  | [.dat (.list (.int .i64)) x2127, .dat (.int .i64) x2128], [] => ⟨_, spec_l2Yield x2127 x2128, fun (t : Int) => (dI t, []), [], none⟩
  | _, _ => Ans.no

theorem spec_l2Yield_sound : Sound Tryd.prog 48 F_spec_l2Yield := by
  have e : F_spec_l2Yield = F_spec_l2Yield_fuel RR := by
    funext avs H
    unfold F_spec_l2Yield F_spec_l2Yield_fuel
    split <;> first | rfl | (simp only [spec_l2Yield])
  rw [e]
  exact (spec_l2Yield_knot_all RR)


/-! loop.example/headtrees/spec.l2Words -/

def spec_l2Words_an : Ann := (.seq (.leaf [0]) (.seq (.leaf [0, 3]) (.seq (.seq (.leaf [0, 3, 4]) (.block (.loop (.seq (.seq (.leaf [0, 3, 4, 9]) (.cond (.leaf [0, 3, 4]) (.leaf [3]))) (.seq (.block (.seq (.leaf [0, 3, 4, 16]) (.cond (.leaf [0, 3, 4]) (.leaf [0, 3, 4])))) (.leaf [0, 3, 4])))))) (.seq (.leaf [2]) (.leaf [2])))))

noncomputable def spec_l2Words_ctx : Ctx := ⟨tlook tys, olook [], ioF, 0, false, []⟩

theorem spec_l2Words_n1_l (x2203 : Int) : Link spec_l2Words_ctx LL (Code.seq (cq [0] (bodyOf Tryd.f47)) (cq [0,1] (bodyOf Tryd.f47))) (Ann.seq (aq [0] spec_l2Words_an) (aq [0,1] spec_l2Words_an)) ⟨mkE 23 0 [(0, dI x2203)], []⟩ (spec_l2Words_n1) (fun (t : Unit) => (Exit.normal, ⟨mkE 23 0 [(0, dI x2203), (3, .slc 0)], [some (sI ([] : List Int))]⟩)) := .of fun K h => by
  simp only [spec_l2Words_n1, wpW] at h
  exact .of (by kernel_rfl) h

theorem spec_l2Words_n2_l (x2203 : Int) : Link spec_l2Words_ctx LL (cq [0,0,1,1] (bodyOf Tryd.f47)) (aq [0,0,1,1] spec_l2Words_an) ⟨mkE 23 0 [(0, dI x2203), (3, .slc 0)], [some (sI ([] : List Int))]⟩ (spec_l2Words_n2) (fun (t : Unit) => (Exit.normal, ⟨mkE 23 0 [(0, dI x2203), (3, .slc 0), (4, dI 0)], [some (sI ([] : List Int))]⟩)) := .of fun K h => by
  simp only [spec_l2Words_n2, wpW] at h
  exact .of (by kernel_rfl) h

theorem spec_l2Words_n3_l (x2203 : Int) (x2230 : Int) (x2231 : List Int) : Link spec_l2Words_ctx LL (cq [0,0,1,0,1,1] (bodyOf Tryd.f47)) (aq [0,0,1,0,1,1] spec_l2Words_an) ⟨mkE 23 0 [(0, dI x2203), (3, .slc 0), (4, dI x2230)], [some (sI x2231)]⟩ (spec_l2Words_n3 x2203 x2230 x2231) (Sum.elim (fun (t : Int × (List Int)) => (Exit.normal, ⟨mkE 23 0 [(0, dI x2203), (3, .slc 0), (4, dI t.1)], [some (sI t.2)]⟩)) (fun (t : (List Int)) => ((Exit.exit 0), ⟨mkE 23 0 [(3, .slc 0)], [some (sI t)]⟩))) := .of fun K h => by
  simp only [spec_l2Words_n3, wpW] at h
  exact .of (by kernel_rfl) h

def spec_l2Words_n4_l (x2203 : Int) := (link_loop (mk := fun (s : Int × (List Int)) => ⟨mkE 23 0 [(0, dI x2203), (3, .slc 0), (4, dI s.1)], [some (sI s.2)]⟩) (fin := (fun (t : (List Int)) => ((Exit.exit 0), ⟨mkE 23 0 [(3, .slc 0)], [some (sI t)]⟩))) (by
  rintro t f K h
  · exact h) (fun s => link_map (spec_l2Words_n3_l x2203 s.1 s.2) (Sum.elim (fun (t : Int × (List Int)) => Sum.inl (t.1, t.2)) (fun (t : (List Int)) => Sum.inr t)) (by
  rintro (t | t)
  · kernel_rfl
  · kernel_rfl)) (0, ([] : List Int)))

def spec_l2Words_n5_l (x2203 : Int) := (link_block (fin2 := (fun (t : (List Int)) => (Exit.normal, ⟨mkE 23 0 [(3, .slc 0)], [some (sI t)]⟩))) (id := 0) (spec_l2Words_n4_l x2203) (fun (t : (List Int)) => t) (by
  rintro t K h
  · exact Eq.mp (by kernel_rfl) h))

def spec_l2Words_n6_l (x2203 : Int) := (link_seq (spec_l2Words_n2_l x2203) (fun (t : Unit) => (spec_l2Words_n5_l x2203)))

theorem spec_l2Words_n7_l (x2231 : List Int) : Link spec_l2Words_ctx LL (cq [1,1,1] (bodyOf Tryd.f47)) (aq [1,1,1] spec_l2Words_an) ⟨mkE 23 0 [(3, .slc 0)], [some (sI x2231)]⟩ (spec_l2Words_n7 x2231) (fun (t : (List Int)) => (Exit.ret, ⟨mkE 23 0 [(2, .slc 0)], [some (sI t)]⟩)) := .of fun K h => by
  simp only [spec_l2Words_n7, wpW] at h
  exact .of (by kernel_rfl) h

def spec_l2Words_n8_l (x2203 : Int) := (link_seq (spec_l2Words_n6_l x2203) (fun (t : (List Int)) => (spec_l2Words_n7_l t)))

def spec_l2Words_n9_l (x2203 : Int) := (link_group (c := (cq [0,1] (bodyOf Tryd.f47))) (a := (aq [0,1] spec_l2Words_an)) [(cq [0] (bodyOf Tryd.f47))] [(aq [0] spec_l2Words_an)] rfl (link_seq (spec_l2Words_n1_l x2203) (fun (t : Unit) => (spec_l2Words_n8_l x2203))))

theorem spec_l2Words_e (x2203 : Int) {r : AV} {H' : Heap} (h : (Ans.mk _ (spec_l2Words x2203) (fun (t : (List Int)) => (.slc 0, [some (sI t)])) [] none).run = some (r, H')) : Awp spec_l2Words_ctx LL (bodyOf Tryd.f47) spec_l2Words_an ⟨mkE 23 0 [(0, dI x2203)], []⟩ (Ret (tlook tys) Tryd.f47.results.toList r H') :=
  ret_of' (Link.cast (by kernel_rfl) (by kernel_rfl) (spec_l2Words_n9_l x2203)) (by unfold spec_l2Words; kernel_rfl) (by
  intro t
  exact ret_mk [.slc 0] (by kernel_rfl) (by kernel_rfl) (by kernel_rfl) (by kernel_rfl)) h

def F_spec_l2Words : Fun := fun avs H =>
  match avs, H with
  | [.dat (.int .i64) x2203], [] => ⟨_, spec_l2Words x2203, fun (t : (List Int)) => (.slc 0, [some (sI t)]), [], none⟩
  | _, _ => Ans.no

theorem spec_l2Words_sound : Sound Tryd.prog 47 F_spec_l2Words := by
  refine fn_sound' (C := spec_l2Words_ctx) (c := bodyOf Tryd.f47) (cok_of tys_ok (alln) (alln) (by kernel_rfl)) Tryd.func47 (by kernel_rfl) LL spec_l2Words_an ?_
  intro avs H r H' h
  unfold F_spec_l2Words at h
  split at h
  · refine Awp.cast ?_ ?_ ?_ (spec_l2Words_e _ h) <;> kernel_rfl
  · simp [Ans.no, Ans.run] at h


/-! loop.example/headtrees/spec.l10Sizes -/

def spec_l10Sizes_an : Ann := (.seq (.leaf [0, 1]) (.seq (.leaf [0, 1, 5]) (.seq (.seq (.leaf [0, 1, 5, 6]) (.block (.loop (.seq (.seq (.leaf [0, 1, 5, 6, 14]) (.cond (.leaf [0, 1, 5, 6]) (.leaf [5]))) (.seq (.block (.seq (.seq (.leaf [0, 1, 5, 6, 22]) (.cond (.leaf [0, 1, 5, 6]) (.leaf [0, 1, 5, 6]))) (.seq (.leaf [0, 1, 5, 6, 7]) (.seq (.leaf [0, 1, 5, 6, 7, 8]) (.seq (.block (.loop (.seq (.seq (.leaf [0, 1, 5, 6, 7, 8, 40]) (.cond (.leaf [0, 1, 5, 6, 7, 8]) (.leaf [0, 1, 5, 6, 7, 8]))) (.block (.leaf [0, 1, 5, 6, 7, 8]))))) (.seq (.leaf [0, 1, 5, 6, 7, 8, 9]) (.seq (.leaf [0, 1, 5, 6, 8, 9]) (.leaf [0, 1, 5, 6])))))))) (.leaf [0, 1, 5, 6])))))) (.seq (.leaf [4]) (.leaf [4])))))

noncomputable def spec_l10Sizes_ctx : Ctx := ⟨tlook tys, olook [(48, F_spec_l2Yield), (47, F_spec_l2Words)], ioF, 0, false, []⟩

theorem spec_l10Sizes_n1_l (x2118 : List Int) (x2119 : Int) : Link spec_l10Sizes_ctx LL (Code.seq (cq [0] (bodyOf Tryd.f23)) (cq [0,1] (bodyOf Tryd.f23))) (Ann.seq (aq [0] spec_l10Sizes_an) (aq [0,1] spec_l10Sizes_an)) ⟨mkE 58 0 [(0, dL x2118), (1, dI x2119)], []⟩ (spec_l10Sizes_n1) (fun (t : Unit) => (Exit.normal, ⟨mkE 58 0 [(0, dL x2118), (1, dI x2119), (5, .slc 0)], [some (sI ([] : List Int))]⟩)) := .of fun K h => by
  simp only [spec_l10Sizes_n1, wpW] at h
  exact .of (by kernel_rfl) h

theorem spec_l10Sizes_n2_l (x2118 : List Int) (x2119 : Int) : Link spec_l10Sizes_ctx LL (cq [0,0,1,1] (bodyOf Tryd.f23)) (aq [0,0,1,1] spec_l10Sizes_an) ⟨mkE 58 0 [(0, dL x2118), (1, dI x2119), (5, .slc 0)], [some (sI ([] : List Int))]⟩ (spec_l10Sizes_n2) (fun (t : Unit) => (Exit.normal, ⟨mkE 58 0 [(0, dL x2118), (1, dI x2119), (5, .slc 0), (6, dI 0)], [some (sI ([] : List Int))]⟩)) := .of fun K h => by
  simp only [spec_l10Sizes_n2, wpW] at h
  exact .of (by kernel_rfl) h

theorem spec_l10Sizes_n3_l (x2118 : List Int) (x2119 : Int) (x2327 : Int) (x2328 : List Int) : Link spec_l10Sizes_ctx LL (cq [0,0,0,1,0,1,1] (bodyOf Tryd.f23)) (aq [0,0,0,1,0,1,1] spec_l10Sizes_an) ⟨mkE 58 0 [(0, dL x2118), (1, dI x2119), (5, .slc 0), (6, dI x2327)], [some (sI x2328)]⟩ (spec_l10Sizes_n3 x2118 x2327 x2328) (Sum.elim (fun (t : Unit) => (Exit.normal, ⟨mkE 58 0 [(0, dL x2118), (1, dI x2119), (5, .slc 0), (6, dI x2327)], [some (sI x2328)]⟩)) (fun (t : (List Int)) => ((Exit.exit 0), ⟨mkE 58 0 [(5, .slc 0)], [some (sI t)]⟩))) := .of fun K h => by
  simp only [spec_l10Sizes_n3, wpW] at h
  exact .of (by kernel_rfl) h

theorem spec_l10Sizes_n4_l (x2118 : List Int) (x2119 : Int) (x2327 : Int) (x2328 : List Int) : Link spec_l10Sizes_ctx LL (Code.seq (cq [0,0,0,1,0,0,1,0,1,1] (bodyOf Tryd.f23)) (Code.seq (cq [0,1,0,0,1,0,0,1,0,1,1] (bodyOf Tryd.f23)) (cq [0,1,1,0,0,1,0,0,1,0,1,1] (bodyOf Tryd.f23)))) (Ann.seq (aq [0,0,0,1,0,0,1,0,1,1] spec_l10Sizes_an) (Ann.seq (aq [0,1,0,0,1,0,0,1,0,1,1] spec_l10Sizes_an) (aq [0,1,1,0,0,1,0,0,1,0,1,1] spec_l10Sizes_an))) ⟨mkE 58 0 [(0, dL x2118), (1, dI x2119), (5, .slc 0), (6, dI x2327)], [some (sI x2328)]⟩ (spec_l10Sizes_n4 x2118 x2119 x2327) (Sum.elim (fun (t : Int) => (Exit.normal, ⟨mkE 58 0 [(0, dL x2118), (1, dI x2119), (5, .slc 0), (6, dI x2327), (7, dI t), (8, dI 0)], [some (sI x2328)]⟩)) (fun (t : Unit) => ((Exit.exit 1), ⟨mkE 58 0 [(0, dL x2118), (1, dI x2119), (5, .slc 0), (6, dI x2327)], [some (sI x2328)]⟩))) := .of fun K h => by
  simp only [spec_l10Sizes_n4, wpW] at h
  exact .of (by kernel_rfl) h

theorem spec_l10Sizes_n5_l (x2118 : List Int) (x2119 : Int) (x2327 : Int) (x2344 : Int) (x2356 : Int) (x2328 : List Int) : Link spec_l10Sizes_ctx LL (cq [0,0,0,1,1,1,0,0,1,0,0,1,0,1,1] (bodyOf Tryd.f23)) (aq [0,0,0,1,1,1,0,0,1,0,0,1,0,1,1] spec_l10Sizes_an) ⟨mkE 58 0 [(0, dL x2118), (1, dI x2119), (5, .slc 0), (6, dI x2327), (7, dI x2344), (8, dI x2356)], [some (sI x2328)]⟩ (spec_l10Sizes_n5 x2344 x2356 x2328) (Sum.elim (fun (t : Int) => (Exit.normal, ⟨mkE 58 0 [(0, dL x2118), (1, dI x2119), (5, .slc 0), (6, dI x2327), (7, dI x2344), (8, dI t)], [some (sI x2328)]⟩)) (fun (t : Int) => ((Exit.exit 2), ⟨mkE 58 0 [(0, dL x2118), (1, dI x2119), (5, .slc 0), (6, dI x2327), (7, dI x2344), (8, dI t)], [some (sI x2328)]⟩))) := .of fun K h => by
  simp only [spec_l10Sizes_n5, wpW] at h
  exact .of (by kernel_rfl) h

def spec_l10Sizes_n6_l (x2118 : List Int) (x2119 : Int) (x2327 : Int) (x2344 : Int) (x2328 : List Int) := (link_loop (mk := fun (s : Int) => ⟨mkE 58 0 [(0, dL x2118), (1, dI x2119), (5, .slc 0), (6, dI x2327), (7, dI x2344), (8, dI s)], [some (sI x2328)]⟩) (fin := (fun (t : Int) => ((Exit.exit 2), ⟨mkE 58 0 [(0, dL x2118), (1, dI x2119), (5, .slc 0), (6, dI x2327), (7, dI x2344), (8, dI t)], [some (sI x2328)]⟩))) (by
  rintro t f K h
  · exact h) (fun s => link_map (spec_l10Sizes_n5_l x2118 x2119 x2327 x2344 s x2328) (Sum.elim (fun (t : Int) => Sum.inl t) (fun (t : Int) => Sum.inr t)) (by
  rintro (t | t)
  · kernel_rfl
  · kernel_rfl)) 0)

def spec_l10Sizes_n7_l (x2118 : List Int) (x2119 : Int) (x2327 : Int) (x2344 : Int) (x2328 : List Int) := (link_block (fin2 := (fun (t : Int) => (Exit.normal, ⟨mkE 58 0 [(0, dL x2118), (1, dI x2119), (5, .slc 0), (6, dI x2327), (7, dI x2344), (8, dI t)], [some (sI x2328)]⟩))) (id := 2) (spec_l10Sizes_n6_l x2118 x2119 x2327 x2344 x2328) (fun (t : Int) => t) (by
  rintro t K h
  · exact Eq.mp (by kernel_rfl) h))

theorem spec_l10Sizes_n8_l (x2118 : List Int) (x2119 : Int) (x2327 : Int) (x2344 : Int) (x2356 : Int) (x2328 : List Int) : Link spec_l10Sizes_ctx LL (cq [1,1,1,1,0,0,1,0,0,1,0,1,1] (bodyOf Tryd.f23)) (aq [1,1,1,1,0,0,1,0,0,1,0,1,1] spec_l10Sizes_an) ⟨mkE 58 0 [(0, dL x2118), (1, dI x2119), (5, .slc 0), (6, dI x2327), (7, dI x2344), (8, dI x2356)], [some (sI x2328)]⟩ (spec_l10Sizes_n8 x2344 x2356 x2328) (fun (t : (List Int)) => (Exit.normal, ⟨mkE 58 0 [(0, dL x2118), (1, dI x2119), (5, .slc 0), (6, dI x2327)], [some (sI t)]⟩)) := .of fun K h => by
  simp only [spec_l10Sizes_n8, wpW] at h
  exact .of (by kernel_rfl) h

def spec_l10Sizes_n9_l (x2118 : List Int) (x2119 : Int) (x2327 : Int) (x2344 : Int) (x2328 : List Int) := (link_seq (spec_l10Sizes_n7_l x2118 x2119 x2327 x2344 x2328) (fun (t : Int) => (spec_l10Sizes_n8_l x2118 x2119 x2327 x2344 t x2328)))

def spec_l10Sizes_n10_l (x2118 : List Int) (x2119 : Int) (x2327 : Int) (x2328 : List Int) := (link_group (c := (cq [0,1,1,0,0,1,0,0,1,0,1,1] (bodyOf Tryd.f23))) (a := (aq [0,1,1,0,0,1,0,0,1,0,1,1] spec_l10Sizes_an)) [(cq [0,0,0,1,0,0,1,0,1,1] (bodyOf Tryd.f23)), (cq [0,1,0,0,1,0,0,1,0,1,1] (bodyOf Tryd.f23))] [(aq [0,0,0,1,0,0,1,0,1,1] spec_l10Sizes_an), (aq [0,1,0,0,1,0,0,1,0,1,1] spec_l10Sizes_an)] rfl (link_seq2 (spec_l10Sizes_n4_l x2118 x2119 x2327 x2328) (fun (t : Int) => (link_map (fin2 := (Sum.elim (fun (t : (List Int)) => (Exit.normal, ⟨mkE 58 0 [(0, dL x2118), (1, dI x2119), (5, .slc 0), (6, dI x2327)], [some (sI t)]⟩)) (fun (t : Unit) => ((Exit.exit 1), ⟨mkE 58 0 [(0, dL x2118), (1, dI x2119), (5, .slc 0), (6, dI x2327)], [some (sI x2328)]⟩)))) (spec_l10Sizes_n9_l x2118 x2119 x2327 t x2328) (fun (u : (List Int)) => (Sum.inl u)) (by
  rintro t
  · kernel_rfl))) (fun (t : Unit) => (Sum.inr t)) (by
  rintro t
  · kernel_rfl) (by
  rintro t f K h
  · exact h)))

def spec_l10Sizes_n11_l (x2118 : List Int) (x2119 : Int) (x2327 : Int) (x2328 : List Int) := (link_block (fin2 := (fun (t : (List Int)) => (Exit.normal, ⟨mkE 58 0 [(0, dL x2118), (1, dI x2119), (5, .slc 0), (6, dI x2327)], [some (sI t)]⟩))) (id := 1) (spec_l10Sizes_n10_l x2118 x2119 x2327 x2328) (Sum.elim (fun (t : (List Int)) => t) (fun (t : Unit) => x2328)) (by
  rintro (t | t) K h
  · exact Eq.mp (by kernel_rfl) h
  · exact Eq.mp (by kernel_rfl) h))

theorem spec_l10Sizes_n12_l (x2118 : List Int) (x2119 : Int) (x2327 : Int) (x2404 : List Int) : Link spec_l10Sizes_ctx LL (cq [1,1,0,0,1,0,1,1] (bodyOf Tryd.f23)) (aq [1,1,0,0,1,0,1,1] spec_l10Sizes_an) ⟨mkE 58 0 [(0, dL x2118), (1, dI x2119), (5, .slc 0), (6, dI x2327)], [some (sI x2404)]⟩ (spec_l10Sizes_n12 x2327) (fun (t : Int) => (Exit.normal, ⟨mkE 58 0 [(0, dL x2118), (1, dI x2119), (5, .slc 0), (6, dI t)], [some (sI x2404)]⟩)) := .of fun K h => by
  simp only [spec_l10Sizes_n12, wpW] at h
  exact .of (by kernel_rfl) h

def spec_l10Sizes_n13_l (x2118 : List Int) (x2119 : Int) (x2327 : Int) (x2328 : List Int) := (link_seq (spec_l10Sizes_n11_l x2118 x2119 x2327 x2328) (fun (t : (List Int)) => (link_map (fin2 := (fun (t : Int × (List Int)) => (Exit.normal, ⟨mkE 58 0 [(0, dL x2118), (1, dI x2119), (5, .slc 0), (6, dI t.1)], [some (sI t.2)]⟩))) (spec_l10Sizes_n12_l x2118 x2119 x2327 t) (fun (u : Int) => (u, t)) (by
  rintro t
  · kernel_rfl))))

def spec_l10Sizes_n14_l (x2118 : List Int) (x2119 : Int) (x2327 : Int) (x2328 : List Int) := (link_seq2 (spec_l10Sizes_n3_l x2118 x2119 x2327 x2328) (fun (t : Unit) => (link_map (fin2 := (Sum.elim (fun (t : Int × (List Int)) => (Exit.normal, ⟨mkE 58 0 [(0, dL x2118), (1, dI x2119), (5, .slc 0), (6, dI t.1)], [some (sI t.2)]⟩)) (fun (t : (List Int)) => ((Exit.exit 0), ⟨mkE 58 0 [(5, .slc 0)], [some (sI t)]⟩)))) (spec_l10Sizes_n13_l x2118 x2119 x2327 x2328) (fun (t : Int × (List Int)) => (Sum.inl (t.1, t.2))) (by
  rintro t
  · kernel_rfl))) (fun (t : (List Int)) => (Sum.inr t)) (by
  rintro t
  · kernel_rfl) (by
  rintro t f K h
  · exact h))

def spec_l10Sizes_n15_l (x2118 : List Int) (x2119 : Int) := (link_loop (mk := fun (s : Int × (List Int)) => ⟨mkE 58 0 [(0, dL x2118), (1, dI x2119), (5, .slc 0), (6, dI s.1)], [some (sI s.2)]⟩) (fin := (fun (t : (List Int)) => ((Exit.exit 0), ⟨mkE 58 0 [(5, .slc 0)], [some (sI t)]⟩))) (by
  rintro t f K h
  · exact h) (fun s => link_map (spec_l10Sizes_n14_l x2118 x2119 s.1 s.2) (Sum.elim (fun (t : Int × (List Int)) => Sum.inl (t.1, t.2)) (fun (t : (List Int)) => Sum.inr t)) (by
  rintro (t | t)
  · kernel_rfl
  · kernel_rfl)) (0, ([] : List Int)))

def spec_l10Sizes_n16_l (x2118 : List Int) (x2119 : Int) := (link_block (fin2 := (fun (t : (List Int)) => (Exit.normal, ⟨mkE 58 0 [(5, .slc 0)], [some (sI t)]⟩))) (id := 0) (spec_l10Sizes_n15_l x2118 x2119) (fun (t : (List Int)) => t) (by
  rintro t K h
  · exact Eq.mp (by kernel_rfl) h))

def spec_l10Sizes_n17_l (x2118 : List Int) (x2119 : Int) := (link_seq (spec_l10Sizes_n2_l x2118 x2119) (fun (t : Unit) => (spec_l10Sizes_n16_l x2118 x2119)))

theorem spec_l10Sizes_n18_l (x2328 : List Int) : Link spec_l10Sizes_ctx LL (cq [1,1,1] (bodyOf Tryd.f23)) (aq [1,1,1] spec_l10Sizes_an) ⟨mkE 58 0 [(5, .slc 0)], [some (sI x2328)]⟩ (spec_l10Sizes_n18 x2328) (fun (t : (List Int)) => (Exit.ret, ⟨mkE 58 0 [(4, .slc 0)], [some (sI t)]⟩)) := .of fun K h => by
  simp only [spec_l10Sizes_n18, wpW] at h
  exact .of (by kernel_rfl) h

def spec_l10Sizes_n19_l (x2118 : List Int) (x2119 : Int) := (link_seq (spec_l10Sizes_n17_l x2118 x2119) (fun (t : (List Int)) => (spec_l10Sizes_n18_l t)))

def spec_l10Sizes_n20_l (x2118 : List Int) (x2119 : Int) := (link_group (c := (cq [0,1] (bodyOf Tryd.f23))) (a := (aq [0,1] spec_l10Sizes_an)) [(cq [0] (bodyOf Tryd.f23))] [(aq [0] spec_l10Sizes_an)] rfl (link_seq (spec_l10Sizes_n1_l x2118 x2119) (fun (t : Unit) => (spec_l10Sizes_n19_l x2118 x2119))))

theorem spec_l10Sizes_e (x2118 : List Int) (x2119 : Int) {r : AV} {H' : Heap} (h : (Ans.mk _ (spec_l10Sizes x2118 x2119) (fun (t : (List Int)) => (.slc 0, [some (sI t)])) [] none).run = some (r, H')) : Awp spec_l10Sizes_ctx LL (bodyOf Tryd.f23) spec_l10Sizes_an ⟨mkE 58 0 [(0, dL x2118), (1, dI x2119)], []⟩ (Ret (tlook tys) Tryd.f23.results.toList r H') :=
  ret_of' (Link.cast (by kernel_rfl) (by kernel_rfl) (spec_l10Sizes_n20_l x2118 x2119)) (by unfold spec_l10Sizes; kernel_rfl) (by
  intro t
  exact ret_mk [.slc 0] (by kernel_rfl) (by kernel_rfl) (by kernel_rfl) (by kernel_rfl)) h

def F_spec_l10Sizes : Fun := fun avs H =>
  match avs, H with
  | [.dat (.list (.int .i64)) x2118, .dat (.int .i64) x2119], [] => ⟨_, spec_l10Sizes x2118 x2119, fun (t : (List Int)) => (.slc 0, [some (sI t)]), [], none⟩
  | _, _ => Ans.no

theorem spec_l10Sizes_sound : Sound Tryd.prog 23 F_spec_l10Sizes := by
  refine fn_sound' (C := spec_l10Sizes_ctx) (c := bodyOf Tryd.f23) (cok_of tys_ok (allc spec_l2Yield_sound (allc spec_l2Words_sound alln)) (allc Tryd.call48 (allc Tryd.call47 alln)) (by kernel_rfl)) Tryd.func23 (by kernel_rfl) LL spec_l10Sizes_an ?_
  intro avs H r H' h
  unfold F_spec_l10Sizes at h
  split at h
  · refine Awp.cast ?_ ?_ ?_ (spec_l10Sizes_e _ _ h) <;> kernel_rfl
  · simp [Ans.no, Ans.run] at h


/-! loop.example/headtrees/spec.l10Least -/

def spec_l10Least_an : Ann := (.seq (.leaf [0, 1]) (.seq (.leaf [0, 1, 5]) (.seq (.seq (.leaf [0, 1, 5, 6]) (.block (.loop (.seq (.seq (.leaf [0, 1, 5, 6, 15]) (.cond (.leaf [0, 1, 5, 6]) (.leaf [5]))) (.seq (.block (.seq (.leaf [0, 1, 5, 6, 7]) (.seq (.seq (.leaf [0, 1, 5, 6, 7, 8]) (.block (.loop (.seq (.seq (.leaf [0, 1, 5, 6, 7, 8, 19]) (.cond (.leaf [0, 1, 5, 6, 7, 8]) (.leaf [0, 1, 5, 6, 7]))) (.seq (.block (.seq (.leaf [0, 1, 5, 6, 7, 8, 9]) (.seq (.leaf [0, 1, 5, 6, 7, 8, 9, 10]) (.block (.loop (.seq (.seq (.leaf [0, 1, 5, 6, 7, 8, 9, 10, 26]) (.cond (.leaf [0, 1, 5, 6, 7, 8, 9, 10]) (.leaf [0, 1, 5, 6, 7, 8]))) (.seq (.block (.seq (.leaf [0, 1, 5, 6, 7, 8, 9, 10, 34]) (.cond (.seq (.leaf [0, 1, 5, 6, 7, 8, 9, 10]) (.seq (.leaf [0, 1, 5, 6, 7, 8, 9, 10]) (.seq (.leaf [0, 1, 5, 6, 7, 8, 9, 10, 50]) (.cond (.leaf [0, 1, 5, 6, 7, 8, 9, 10]) (.leaf [0, 1, 5, 6, 7, 8, 9, 10]))))) (.leaf [0, 1, 5, 6, 7, 8, 9, 10])))) (.leaf [0, 1, 5, 6, 7, 8, 9, 10])))))))) (.leaf [0, 1, 5, 6, 7, 8])))))) (.seq (.leaf [0, 1, 5, 6, 7, 63]) (.cond (.leaf [0, 1, 5, 6]) (.leaf [0, 1, 5, 6])))))) (.leaf [0, 1, 5, 6])))))) (.seq (.leaf [4]) (.leaf [4])))))

noncomputable def spec_l10Least_ctx : Ctx := ⟨tlook tys, olook [], ioF, 0, false, []⟩

theorem spec_l10Least_n1_l (x2407 : List Int) (x2408 : Bool) : Link spec_l10Least_ctx LL (Code.seq (cq [0] (bodyOf Tryd.f22)) (cq [0,1] (bodyOf Tryd.f22))) (Ann.seq (aq [0] spec_l10Least_an) (aq [0,1] spec_l10Least_an)) ⟨mkE 66 0 [(0, dL x2407), (1, dB x2408)], []⟩ (spec_l10Least_n1) (fun (t : Unit) => (Exit.normal, ⟨mkE 66 0 [(0, dL x2407), (1, dB x2408), (5, dI (-1))], []⟩)) := .of fun K h => by
  simp only [spec_l10Least_n1, wpW] at h
  exact .of (by kernel_rfl) h

theorem spec_l10Least_n2_l (x2407 : List Int) (x2408 : Bool) : Link spec_l10Least_ctx LL (cq [0,0,1,1] (bodyOf Tryd.f22)) (aq [0,0,1,1] spec_l10Least_an) ⟨mkE 66 0 [(0, dL x2407), (1, dB x2408), (5, dI (-1))], []⟩ (spec_l10Least_n2) (fun (t : Unit) => (Exit.normal, ⟨mkE 66 0 [(0, dL x2407), (1, dB x2408), (5, dI (-1)), (6, dI 0)], []⟩)) := .of fun K h => by
  simp only [spec_l10Least_n2, wpW] at h
  exact .of (by kernel_rfl) h

theorem spec_l10Least_n3_l (x2407 : List Int) (x2408 : Bool) (x2562 : Int) (x2563 : Int) : Link spec_l10Least_ctx LL (cq [0,0,0,1,0,1,1] (bodyOf Tryd.f22)) (aq [0,0,0,1,0,1,1] spec_l10Least_an) ⟨mkE 66 0 [(0, dL x2407), (1, dB x2408), (5, dI x2562), (6, dI x2563)], []⟩ (spec_l10Least_n3 x2407 x2562 x2563) (Sum.elim (fun (t : Unit) => (Exit.normal, ⟨mkE 66 0 [(0, dL x2407), (1, dB x2408), (5, dI x2562), (6, dI x2563)], []⟩)) (fun (t : Int) => ((Exit.exit 0), ⟨mkE 66 0 [(5, dI t)], []⟩))) := .of fun K h => by
  simp only [spec_l10Least_n3, wpW] at h
  exact .of (by kernel_rfl) h

theorem spec_l10Least_n4_l (x2407 : List Int) (x2408 : Bool) (x2562 : Int) (x2563 : Int) : Link spec_l10Least_ctx LL (cq [0,0,0,1,0,0,1,0,1,1] (bodyOf Tryd.f22)) (aq [0,0,0,1,0,0,1,0,1,1] spec_l10Least_an) ⟨mkE 66 0 [(0, dL x2407), (1, dB x2408), (5, dI x2562), (6, dI x2563)], []⟩ (spec_l10Least_n4) (fun (t : Unit) => (Exit.normal, ⟨mkE 66 0 [(0, dL x2407), (1, dB x2408), (5, dI x2562), (6, dI x2563), (7, dI 0)], []⟩)) := .of fun K h => by
  simp only [spec_l10Least_n4, wpW] at h
  exact .of (by kernel_rfl) h

theorem spec_l10Least_n5_l (x2407 : List Int) (x2408 : Bool) (x2562 : Int) (x2563 : Int) : Link spec_l10Least_ctx LL (cq [0,0,1,0,0,1,0,0,1,0,1,1] (bodyOf Tryd.f22)) (aq [0,0,1,0,0,1,0,0,1,0,1,1] spec_l10Least_an) ⟨mkE 66 0 [(0, dL x2407), (1, dB x2408), (5, dI x2562), (6, dI x2563), (7, dI 0)], []⟩ (spec_l10Least_n5) (fun (t : Unit) => (Exit.normal, ⟨mkE 66 0 [(0, dL x2407), (1, dB x2408), (5, dI x2562), (6, dI x2563), (7, dI 0), (8, dI 0)], []⟩)) := .of fun K h => by
  simp only [spec_l10Least_n5, wpW] at h
  exact .of (by kernel_rfl) h

theorem spec_l10Least_n6_l (x2407 : List Int) (x2408 : Bool) (x2562 : Int) (x2563 : Int) (x2638 : Int) (x2639 : Int) : Link spec_l10Least_ctx LL (cq [0,0,0,1,0,1,0,0,1,0,0,1,0,1,1] (bodyOf Tryd.f22)) (aq [0,0,0,1,0,1,0,0,1,0,0,1,0,1,1] spec_l10Least_an) ⟨mkE 66 0 [(0, dL x2407), (1, dB x2408), (5, dI x2562), (6, dI x2563), (7, dI x2638), (8, dI x2639)], []⟩ (spec_l10Least_n6 x2638 x2639) (Sum.elim (fun (t : Unit) => (Exit.normal, ⟨mkE 66 0 [(0, dL x2407), (1, dB x2408), (5, dI x2562), (6, dI x2563), (7, dI x2638), (8, dI x2639)], []⟩)) (fun (t : Int) => ((Exit.exit 2), ⟨mkE 66 0 [(0, dL x2407), (1, dB x2408), (5, dI x2562), (6, dI x2563), (7, dI t)], []⟩))) := .of fun K h => by
  simp only [spec_l10Least_n6, wpW] at h
  exact .of (by kernel_rfl) h

theorem spec_l10Least_n7_l (x2407 : List Int) (x2408 : Bool) (x2562 : Int) (x2563 : Int) (x2638 : Int) (x2639 : Int) : Link spec_l10Least_ctx LL (Code.seq (cq [0,0,0,1,0,0,1,0,1,0,0,1,0,0,1,0,1,1] (bodyOf Tryd.f22)) (cq [0,1,0,0,1,0,0,1,0,1,0,0,1,0,0,1,0,1,1] (bodyOf Tryd.f22))) (Ann.seq (aq [0,0,0,1,0,0,1,0,1,0,0,1,0,0,1,0,1,1] spec_l10Least_an) (aq [0,1,0,0,1,0,0,1,0,1,0,0,1,0,0,1,0,1,1] spec_l10Least_an)) ⟨mkE 66 0 [(0, dL x2407), (1, dB x2408), (5, dI x2562), (6, dI x2563), (7, dI x2638), (8, dI x2639)], []⟩ (spec_l10Least_n7 x2407) (fun (t : Int) => (Exit.normal, ⟨mkE 66 0 [(0, dL x2407), (1, dB x2408), (5, dI x2562), (6, dI x2563), (7, dI x2638), (8, dI x2639), (9, dI 0), (10, dI t)], []⟩)) := .of fun K h => by
  simp only [spec_l10Least_n7, wpW] at h
  exact .of (by kernel_rfl) h

theorem spec_l10Least_n8_l (x2407 : List Int) (x2408 : Bool) (x2562 : Int) (x2563 : Int) (x2675 : Int) (x2639 : Int) (x2676 : Int) (x2677 : Int) : Link spec_l10Least_ctx LL (cq [0,0,1,1,0,0,1,0,0,1,0,1,0,0,1,0,0,1,0,1,1] (bodyOf Tryd.f22)) (aq [0,0,1,1,0,0,1,0,0,1,0,1,0,0,1,0,0,1,0,1,1] spec_l10Least_an) ⟨mkE 66 0 [(0, dL x2407), (1, dB x2408), (5, dI x2562), (6, dI x2563), (7, dI x2675), (8, dI x2639), (9, dI x2676), (10, dI x2677)], []⟩ (spec_l10Least_n8 x2407 x2408 x2563 x2675 x2639 x2676 x2677) (Sum.elim (fun (t : Int × Int × Int) => (Exit.normal, ⟨mkE 66 0 [(0, dL x2407), (1, dB x2408), (5, dI x2562), (6, dI x2563), (7, dI t.1), (8, dI x2639), (9, dI t.2.1), (10, dI t.2.2)], []⟩)) (fun (t : Int) => ((Exit.exit 4), ⟨mkE 66 0 [(0, dL x2407), (1, dB x2408), (5, dI x2562), (6, dI x2563), (7, dI t), (8, dI x2639)], []⟩))) := .of fun K h => by
  simp only [spec_l10Least_n8, wpW] at h
  exact .of (by kernel_rfl) h

def spec_l10Least_n9_l (x2407 : List Int) (x2408 : Bool) (x2562 : Int) (x2563 : Int) (x2638 : Int) (x2639 : Int) (x2642 : Int) := (link_loop (mk := fun (s : Int × Int × Int) => ⟨mkE 66 0 [(0, dL x2407), (1, dB x2408), (5, dI x2562), (6, dI x2563), (7, dI s.1), (8, dI x2639), (9, dI s.2.1), (10, dI s.2.2)], []⟩) (fin := (fun (t : Int) => ((Exit.exit 4), ⟨mkE 66 0 [(0, dL x2407), (1, dB x2408), (5, dI x2562), (6, dI x2563), (7, dI t), (8, dI x2639)], []⟩))) (by
  rintro t f K h
  · exact h) (fun s => link_map (spec_l10Least_n8_l x2407 x2408 x2562 x2563 s.1 x2639 s.2.1 s.2.2) (Sum.elim (fun (t : Int × Int × Int) => Sum.inl (t.1, t.2.1, t.2.2)) (fun (t : Int) => Sum.inr t)) (by
  rintro (t | t)
  · kernel_rfl
  · kernel_rfl)) (x2638, 0, x2642))

def spec_l10Least_n10_l (x2407 : List Int) (x2408 : Bool) (x2562 : Int) (x2563 : Int) (x2638 : Int) (x2639 : Int) (x2642 : Int) := (link_block (fin2 := (fun (t : Int) => (Exit.normal, ⟨mkE 66 0 [(0, dL x2407), (1, dB x2408), (5, dI x2562), (6, dI x2563), (7, dI t), (8, dI x2639)], []⟩))) (id := 4) (spec_l10Least_n9_l x2407 x2408 x2562 x2563 x2638 x2639 x2642) (fun (t : Int) => t) (by
  rintro t K h
  · exact Eq.mp (by kernel_rfl) h))

def spec_l10Least_n11_l (x2407 : List Int) (x2408 : Bool) (x2562 : Int) (x2563 : Int) (x2638 : Int) (x2639 : Int) := (link_group (c := (cq [0,1,0,0,1,0,0,1,0,1,0,0,1,0,0,1,0,1,1] (bodyOf Tryd.f22))) (a := (aq [0,1,0,0,1,0,0,1,0,1,0,0,1,0,0,1,0,1,1] spec_l10Least_an)) [(cq [0,0,0,1,0,0,1,0,1,0,0,1,0,0,1,0,1,1] (bodyOf Tryd.f22))] [(aq [0,0,0,1,0,0,1,0,1,0,0,1,0,0,1,0,1,1] spec_l10Least_an)] rfl (link_seq (spec_l10Least_n7_l x2407 x2408 x2562 x2563 x2638 x2639) (fun (t : Int) => (spec_l10Least_n10_l x2407 x2408 x2562 x2563 x2638 x2639 t))))

def spec_l10Least_n12_l (x2407 : List Int) (x2408 : Bool) (x2562 : Int) (x2563 : Int) (x2638 : Int) (x2639 : Int) := (link_block (fin2 := (fun (t : Int) => (Exit.normal, ⟨mkE 66 0 [(0, dL x2407), (1, dB x2408), (5, dI x2562), (6, dI x2563), (7, dI t), (8, dI x2639)], []⟩))) (id := 3) (spec_l10Least_n11_l x2407 x2408 x2562 x2563 x2638 x2639) (fun (t : Int) => t) (by
  rintro t K h
  · exact Eq.mp (by kernel_rfl) h))

theorem spec_l10Least_n13_l (x2407 : List Int) (x2408 : Bool) (x2562 : Int) (x2563 : Int) (x2675 : Int) (x2639 : Int) : Link spec_l10Least_ctx LL (cq [1,1,0,0,1,0,1,0,0,1,0,0,1,0,1,1] (bodyOf Tryd.f22)) (aq [1,1,0,0,1,0,1,0,0,1,0,0,1,0,1,1] spec_l10Least_an) ⟨mkE 66 0 [(0, dL x2407), (1, dB x2408), (5, dI x2562), (6, dI x2563), (7, dI x2675), (8, dI x2639)], []⟩ (spec_l10Least_n13 x2639) (fun (t : Int) => (Exit.normal, ⟨mkE 66 0 [(0, dL x2407), (1, dB x2408), (5, dI x2562), (6, dI x2563), (7, dI x2675), (8, dI t)], []⟩)) := .of fun K h => by
  simp only [spec_l10Least_n13, wpW] at h
  exact .of (by kernel_rfl) h

def spec_l10Least_n14_l (x2407 : List Int) (x2408 : Bool) (x2562 : Int) (x2563 : Int) (x2638 : Int) (x2639 : Int) := (link_seq (spec_l10Least_n12_l x2407 x2408 x2562 x2563 x2638 x2639) (fun (t : Int) => (link_map (fin2 := (fun (t : Int × Int) => (Exit.normal, ⟨mkE 66 0 [(0, dL x2407), (1, dB x2408), (5, dI x2562), (6, dI x2563), (7, dI t.1), (8, dI t.2)], []⟩))) (spec_l10Least_n13_l x2407 x2408 x2562 x2563 t x2639) (fun (u : Int) => (t, u)) (by
  rintro t
  · kernel_rfl))))

def spec_l10Least_n15_l (x2407 : List Int) (x2408 : Bool) (x2562 : Int) (x2563 : Int) (x2638 : Int) (x2639 : Int) := (link_seq2 (spec_l10Least_n6_l x2407 x2408 x2562 x2563 x2638 x2639) (fun (t : Unit) => (link_map (fin2 := (Sum.elim (fun (t : Int × Int) => (Exit.normal, ⟨mkE 66 0 [(0, dL x2407), (1, dB x2408), (5, dI x2562), (6, dI x2563), (7, dI t.1), (8, dI t.2)], []⟩)) (fun (t : Int) => ((Exit.exit 2), ⟨mkE 66 0 [(0, dL x2407), (1, dB x2408), (5, dI x2562), (6, dI x2563), (7, dI t)], []⟩)))) (spec_l10Least_n14_l x2407 x2408 x2562 x2563 x2638 x2639) (fun (t : Int × Int) => (Sum.inl (t.1, t.2))) (by
  rintro t
  · kernel_rfl))) (fun (t : Int) => (Sum.inr t)) (by
  rintro t
  · kernel_rfl) (by
  rintro t f K h
  · exact h))

def spec_l10Least_n16_l (x2407 : List Int) (x2408 : Bool) (x2562 : Int) (x2563 : Int) := (link_loop (mk := fun (s : Int × Int) => ⟨mkE 66 0 [(0, dL x2407), (1, dB x2408), (5, dI x2562), (6, dI x2563), (7, dI s.1), (8, dI s.2)], []⟩) (fin := (fun (t : Int) => ((Exit.exit 2), ⟨mkE 66 0 [(0, dL x2407), (1, dB x2408), (5, dI x2562), (6, dI x2563), (7, dI t)], []⟩))) (by
  rintro t f K h
  · exact h) (fun s => link_map (spec_l10Least_n15_l x2407 x2408 x2562 x2563 s.1 s.2) (Sum.elim (fun (t : Int × Int) => Sum.inl (t.1, t.2)) (fun (t : Int) => Sum.inr t)) (by
  rintro (t | t)
  · kernel_rfl
  · kernel_rfl)) (0, 0))

def spec_l10Least_n17_l (x2407 : List Int) (x2408 : Bool) (x2562 : Int) (x2563 : Int) := (link_block (fin2 := (fun (t : Int) => (Exit.normal, ⟨mkE 66 0 [(0, dL x2407), (1, dB x2408), (5, dI x2562), (6, dI x2563), (7, dI t)], []⟩))) (id := 2) (spec_l10Least_n16_l x2407 x2408 x2562 x2563) (fun (t : Int) => t) (by
  rintro t K h
  · exact Eq.mp (by kernel_rfl) h))

def spec_l10Least_n18_l (x2407 : List Int) (x2408 : Bool) (x2562 : Int) (x2563 : Int) := (link_seq (spec_l10Least_n5_l x2407 x2408 x2562 x2563) (fun (t : Unit) => (spec_l10Least_n17_l x2407 x2408 x2562 x2563)))

theorem spec_l10Least_n19_l (x2407 : List Int) (x2408 : Bool) (x2562 : Int) (x2563 : Int) (x2638 : Int) : Link spec_l10Least_ctx LL (cq [1,1,0,0,1,0,0,1,0,1,1] (bodyOf Tryd.f22)) (aq [1,1,0,0,1,0,0,1,0,1,1] spec_l10Least_an) ⟨mkE 66 0 [(0, dL x2407), (1, dB x2408), (5, dI x2562), (6, dI x2563), (7, dI x2638)], []⟩ (spec_l10Least_n19 x2562 x2638) (fun (t : Int) => (Exit.normal, ⟨mkE 66 0 [(0, dL x2407), (1, dB x2408), (5, dI t), (6, dI x2563)], []⟩)) := .of fun K h => by
  simp only [spec_l10Least_n19, wpW] at h
  exact .of (by kernel_rfl) h

def spec_l10Least_n20_l (x2407 : List Int) (x2408 : Bool) (x2562 : Int) (x2563 : Int) := (link_seq (spec_l10Least_n18_l x2407 x2408 x2562 x2563) (fun (t : Int) => (spec_l10Least_n19_l x2407 x2408 x2562 x2563 t)))

def spec_l10Least_n21_l (x2407 : List Int) (x2408 : Bool) (x2562 : Int) (x2563 : Int) := (link_seq (spec_l10Least_n4_l x2407 x2408 x2562 x2563) (fun (t : Unit) => (spec_l10Least_n20_l x2407 x2408 x2562 x2563)))

def spec_l10Least_n22_l (x2407 : List Int) (x2408 : Bool) (x2562 : Int) (x2563 : Int) := (link_block (fin2 := (fun (t : Int) => (Exit.normal, ⟨mkE 66 0 [(0, dL x2407), (1, dB x2408), (5, dI t), (6, dI x2563)], []⟩))) (id := 1) (spec_l10Least_n21_l x2407 x2408 x2562 x2563) (fun (t : Int) => t) (by
  rintro t K h
  · exact Eq.mp (by kernel_rfl) h))

theorem spec_l10Least_n23_l (x2407 : List Int) (x2408 : Bool) (x2715 : Int) (x2563 : Int) : Link spec_l10Least_ctx LL (cq [1,1,0,0,1,0,1,1] (bodyOf Tryd.f22)) (aq [1,1,0,0,1,0,1,1] spec_l10Least_an) ⟨mkE 66 0 [(0, dL x2407), (1, dB x2408), (5, dI x2715), (6, dI x2563)], []⟩ (spec_l10Least_n23 x2563) (fun (t : Int) => (Exit.normal, ⟨mkE 66 0 [(0, dL x2407), (1, dB x2408), (5, dI x2715), (6, dI t)], []⟩)) := .of fun K h => by
  simp only [spec_l10Least_n23, wpW] at h
  exact .of (by kernel_rfl) h

def spec_l10Least_n24_l (x2407 : List Int) (x2408 : Bool) (x2562 : Int) (x2563 : Int) := (link_seq (spec_l10Least_n22_l x2407 x2408 x2562 x2563) (fun (t : Int) => (link_map (fin2 := (fun (t : Int × Int) => (Exit.normal, ⟨mkE 66 0 [(0, dL x2407), (1, dB x2408), (5, dI t.1), (6, dI t.2)], []⟩))) (spec_l10Least_n23_l x2407 x2408 t x2563) (fun (u : Int) => (t, u)) (by
  rintro t
  · kernel_rfl))))

def spec_l10Least_n25_l (x2407 : List Int) (x2408 : Bool) (x2562 : Int) (x2563 : Int) := (link_seq2 (spec_l10Least_n3_l x2407 x2408 x2562 x2563) (fun (t : Unit) => (link_map (fin2 := (Sum.elim (fun (t : Int × Int) => (Exit.normal, ⟨mkE 66 0 [(0, dL x2407), (1, dB x2408), (5, dI t.1), (6, dI t.2)], []⟩)) (fun (t : Int) => ((Exit.exit 0), ⟨mkE 66 0 [(5, dI t)], []⟩)))) (spec_l10Least_n24_l x2407 x2408 x2562 x2563) (fun (t : Int × Int) => (Sum.inl (t.1, t.2))) (by
  rintro t
  · kernel_rfl))) (fun (t : Int) => (Sum.inr t)) (by
  rintro t
  · kernel_rfl) (by
  rintro t f K h
  · exact h))

def spec_l10Least_n26_l (x2407 : List Int) (x2408 : Bool) := (link_loop (mk := fun (s : Int × Int) => ⟨mkE 66 0 [(0, dL x2407), (1, dB x2408), (5, dI s.1), (6, dI s.2)], []⟩) (fin := (fun (t : Int) => ((Exit.exit 0), ⟨mkE 66 0 [(5, dI t)], []⟩))) (by
  rintro t f K h
  · exact h) (fun s => link_map (spec_l10Least_n25_l x2407 x2408 s.1 s.2) (Sum.elim (fun (t : Int × Int) => Sum.inl (t.1, t.2)) (fun (t : Int) => Sum.inr t)) (by
  rintro (t | t)
  · kernel_rfl
  · kernel_rfl)) ((-1), 0))

def spec_l10Least_n27_l (x2407 : List Int) (x2408 : Bool) := (link_block (fin2 := (fun (t : Int) => (Exit.normal, ⟨mkE 66 0 [(5, dI t)], []⟩))) (id := 0) (spec_l10Least_n26_l x2407 x2408) (fun (t : Int) => t) (by
  rintro t K h
  · exact Eq.mp (by kernel_rfl) h))

def spec_l10Least_n28_l (x2407 : List Int) (x2408 : Bool) := (link_seq (spec_l10Least_n2_l x2407 x2408) (fun (t : Unit) => (spec_l10Least_n27_l x2407 x2408)))

theorem spec_l10Least_n29_l (x2562 : Int) : Link spec_l10Least_ctx LL (cq [1,1,1] (bodyOf Tryd.f22)) (aq [1,1,1] spec_l10Least_an) ⟨mkE 66 0 [(5, dI x2562)], []⟩ (spec_l10Least_n29 x2562) (fun (t : Int) => (Exit.ret, ⟨mkE 66 0 [(4, dI t)], []⟩)) := .of fun K h => by
  simp only [spec_l10Least_n29, wpW] at h
  exact .of (by kernel_rfl) h

def spec_l10Least_n30_l (x2407 : List Int) (x2408 : Bool) := (link_seq (spec_l10Least_n28_l x2407 x2408) (fun (t : Int) => (spec_l10Least_n29_l t)))

def spec_l10Least_n31_l (x2407 : List Int) (x2408 : Bool) := (link_group (c := (cq [0,1] (bodyOf Tryd.f22))) (a := (aq [0,1] spec_l10Least_an)) [(cq [0] (bodyOf Tryd.f22))] [(aq [0] spec_l10Least_an)] rfl (link_seq (spec_l10Least_n1_l x2407 x2408) (fun (t : Unit) => (spec_l10Least_n30_l x2407 x2408))))

theorem spec_l10Least_e (x2407 : List Int) (x2408 : Bool) {r : AV} {H' : Heap} (h : (Ans.mk _ (spec_l10Least x2407 x2408) (fun (t : Int) => (dI t, [])) [] none).run = some (r, H')) : Awp spec_l10Least_ctx LL (bodyOf Tryd.f22) spec_l10Least_an ⟨mkE 66 0 [(0, dL x2407), (1, dB x2408)], []⟩ (Ret (tlook tys) Tryd.f22.results.toList r H') :=
  ret_of' (Link.cast (by kernel_rfl) (by kernel_rfl) (spec_l10Least_n31_l x2407 x2408)) (by unfold spec_l10Least; kernel_rfl) (by
  intro t
  exact ret_mk [dI t] (by kernel_rfl) (by kernel_rfl) (by kernel_rfl) (by kernel_rfl)) h

def F_spec_l10Least : Fun := fun avs H =>
  match avs, H with
  | [.dat (.list (.int .i64)) x2407, .dat .bool x2408], [] => ⟨_, spec_l10Least x2407 x2408, fun (t : Int) => (dI t, []), [], none⟩
  | _, _ => Ans.no

theorem spec_l10Least_sound : Sound Tryd.prog 22 F_spec_l10Least := by
  refine fn_sound' (C := spec_l10Least_ctx) (c := bodyOf Tryd.f22) (cok_of tys_ok (alln) (alln) (by kernel_rfl)) Tryd.func22 (by kernel_rfl) LL spec_l10Least_an ?_
  intro avs H r H' h
  unfold F_spec_l10Least at h
  split at h
  · refine Awp.cast ?_ ?_ ?_ (spec_l10Least_e _ _ h) <;> kernel_rfl
  · simp [Ans.no, Ans.run] at h


/-! loop.example/headtrees/spec.LeastLength -/

def spec_LeastLength_an : Ann := (.seq (.leaf [0]) (.seq (.seq (.leaf [0, 7]) (.cond (.seq (.leaf [2]) (.leaf [2])) (.leaf [0]))) (.seq (.leaf [0, 3]) (.seq (.seq (.leaf [0, 3, 4]) (.block (.loop (.seq (.seq (.leaf [0, 3, 4, 14]) (.cond (.leaf [0, 3, 4]) (.leaf [3]))) (.seq (.block (.draw [3, 10] [0, 1, 2, 4, 5, 6, 7, 8, 9, 3, 10, 11, 12] [] [0, 3, 4])) (.leaf [0, 3, 4])))))) (.seq (.leaf [2]) (.leaf [2]))))))

noncomputable def spec_LeastLength_ctx : Ctx := ⟨tlook tys, olook [(21, F_spec_TreeOk), (23, F_spec_l10Sizes), (22, F_spec_l10Least)], ioF, 0, false, []⟩

theorem spec_LeastLength_n1_l (x2104 : List Int) : Link spec_LeastLength_ctx LL (Code.seq (cq [0] (bodyOf Tryd.f7)) (Code.seq (cq [0,1] (bodyOf Tryd.f7)) (cq [0,1,1] (bodyOf Tryd.f7)))) (Ann.seq (aq [0] spec_LeastLength_an) (Ann.seq (aq [0,1] spec_LeastLength_an) (aq [0,1,1] spec_LeastLength_an))) ⟨mkE 30 0 [(0, dL x2104)], []⟩ (spec_LeastLength_n1 x2104) (Sum.elim (fun (t : Int) => (Exit.normal, ⟨mkE 30 0 [(0, dL x2104), (3, dI t)], []⟩)) (fun (t : Int) => (Exit.ret, ⟨mkE 30 0 [(2, dI t)], []⟩))) := .of fun K h => by
  simp only [spec_LeastLength_n1, wpW] at h
  exact .of (by kernel_rfl) h

theorem spec_LeastLength_n2_l (x2104 : List Int) (x2110 : Int) : Link spec_LeastLength_ctx LL (cq [0,0,1,1,1] (bodyOf Tryd.f7)) (aq [0,0,1,1,1] spec_LeastLength_an) ⟨mkE 30 0 [(0, dL x2104), (3, dI x2110)], []⟩ (spec_LeastLength_n2) (fun (t : Unit) => (Exit.normal, ⟨mkE 30 0 [(0, dL x2104), (3, dI x2110), (4, dI 1)], []⟩)) := .of fun K h => by
  simp only [spec_LeastLength_n2, wpW] at h
  exact .of (by kernel_rfl) h

theorem spec_LeastLength_n3_l (x2104 : List Int) (x2728 : Int) (x2729 : Int) : Link spec_LeastLength_ctx LL (cq [0,0,1,0,1,1,1] (bodyOf Tryd.f7)) (aq [0,0,1,0,1,1,1] spec_LeastLength_an) ⟨mkE 30 0 [(0, dL x2104), (3, dI x2728), (4, dI x2729)], []⟩ (spec_LeastLength_n3 x2104 x2728 x2729) (Sum.elim (fun (t : Int × Int) => (Exit.normal, ⟨mkE 30 0 [(0, dL x2104), (3, dI t.1), (4, dI t.2)], []⟩)) (fun (t : Int) => ((Exit.exit 0), ⟨mkE 30 0 [(3, dI t)], []⟩))) := .of fun K h => by
  simp only [spec_LeastLength_n3, wpW] at h
  exact .of (by kernel_rfl) h

def spec_LeastLength_n4_l (x2104 : List Int) (x2110 : Int) := (link_loop (mk := fun (s : Int × Int) => ⟨mkE 30 0 [(0, dL x2104), (3, dI s.1), (4, dI s.2)], []⟩) (fin := (fun (t : Int) => ((Exit.exit 0), ⟨mkE 30 0 [(3, dI t)], []⟩))) (by
  rintro t f K h
  · exact h) (fun s => link_map (spec_LeastLength_n3_l x2104 s.1 s.2) (Sum.elim (fun (t : Int × Int) => Sum.inl (t.1, t.2)) (fun (t : Int) => Sum.inr t)) (by
  rintro (t | t)
  · kernel_rfl
  · kernel_rfl)) (x2110, 1))

def spec_LeastLength_n5_l (x2104 : List Int) (x2110 : Int) := (link_block (fin2 := (fun (t : Int) => (Exit.normal, ⟨mkE 30 0 [(3, dI t)], []⟩))) (id := 0) (spec_LeastLength_n4_l x2104 x2110) (fun (t : Int) => t) (by
  rintro t K h
  · exact Eq.mp (by kernel_rfl) h))

def spec_LeastLength_n6_l (x2104 : List Int) (x2110 : Int) := (link_seq (spec_LeastLength_n2_l x2104 x2110) (fun (t : Unit) => (spec_LeastLength_n5_l x2104 x2110)))

theorem spec_LeastLength_n7_l (x2728 : Int) : Link spec_LeastLength_ctx LL (cq [1,1,1,1] (bodyOf Tryd.f7)) (aq [1,1,1,1] spec_LeastLength_an) ⟨mkE 30 0 [(3, dI x2728)], []⟩ (spec_LeastLength_n7 x2728) (fun (t : Int) => (Exit.ret, ⟨mkE 30 0 [(2, dI t)], []⟩)) := .of fun K h => by
  simp only [spec_LeastLength_n7, wpW] at h
  exact .of (by kernel_rfl) h

def spec_LeastLength_n8_l (x2104 : List Int) (x2110 : Int) := (link_seq (spec_LeastLength_n6_l x2104 x2110) (fun (t : Int) => (spec_LeastLength_n7_l t)))

def spec_LeastLength_n9_l (x2104 : List Int) := (link_group (c := (cq [0,1,1] (bodyOf Tryd.f7))) (a := (aq [0,1,1] spec_LeastLength_an)) [(cq [0] (bodyOf Tryd.f7)), (cq [0,1] (bodyOf Tryd.f7))] [(aq [0] spec_LeastLength_an), (aq [0,1] spec_LeastLength_an)] rfl (link_seq2 (spec_LeastLength_n1_l x2104) (fun (t : Int) => (spec_LeastLength_n8_l x2104 t)) (fun (t : Int) => t) (by
  rintro t
  · kernel_rfl) (by
  rintro t f K h
  · exact h)))

theorem spec_LeastLength_e (x2104 : List Int) {r : AV} {H' : Heap} (h : (Ans.mk _ (spec_LeastLength x2104) (fun (t : Int) => (dI t, [])) [] none).run = some (r, H')) : Awp spec_LeastLength_ctx LL (bodyOf Tryd.f7) spec_LeastLength_an ⟨mkE 30 0 [(0, dL x2104)], []⟩ (Ret (tlook tys) Tryd.f7.results.toList r H') :=
  ret_of' (Link.cast (by kernel_rfl) (by kernel_rfl) (spec_LeastLength_n9_l x2104)) (by unfold spec_LeastLength; kernel_rfl) (by
  intro t
  exact ret_mk [dI t] (by kernel_rfl) (by kernel_rfl) (by kernel_rfl) (by kernel_rfl)) h

def F_spec_LeastLength : Fun := fun avs H =>
  match avs, H with
  | [.dat (.list (.int .i64)) x2104], [] => ⟨_, spec_LeastLength x2104, fun (t : Int) => (dI t, []), [], none⟩
  | _, _ => Ans.no

theorem spec_LeastLength_sound : Sound Tryd.prog 7 F_spec_LeastLength := by
  refine fn_sound' (C := spec_LeastLength_ctx) (c := bodyOf Tryd.f7) (cok_of tys_ok (allc spec_TreeOk_sound (allc spec_l10Sizes_sound (allc spec_l10Least_sound alln))) (allc Tryd.call21 (allc Tryd.call23 (allc Tryd.call22 alln))) (by kernel_rfl)) Tryd.func7 (by kernel_rfl) LL spec_LeastLength_an ?_
  intro avs H r H' h
  unfold F_spec_LeastLength at h
  split at h
  · refine Awp.cast ?_ ?_ ?_ (spec_LeastLength_e _ h) <;> kernel_rfl
  · simp [Ans.no, Ans.run] at h


/-! loop.example/headtrees/laws.toIntS -/

def laws_toIntS_an : Ann := (.seq (.leaf [0]) (.seq (.leaf [0, 3]) (.seq (.seq (.leaf [0, 3, 4]) (.block (.loop (.seq (.seq (.leaf [0, 3, 4, 11]) (.cond (.leaf [0, 3, 4]) (.leaf [3]))) (.seq (.block (.leaf [0, 3, 4])) (.leaf [0, 3, 4])))))) (.seq (.leaf [2]) (.leaf [2])))))

noncomputable def laws_toIntS_ctx : Ctx := ⟨tlook tys, olook [], ioF, 0, false, []⟩

theorem laws_toIntS_n1_l (x3852 : List Int) : Link laws_toIntS_ctx LL (Code.seq (cq [0] (bodyOf Tryd.f14)) (cq [0,1] (bodyOf Tryd.f14))) (Ann.seq (aq [0] laws_toIntS_an) (aq [0,1] laws_toIntS_an)) ⟨mkE 22 0 [(0, dL x3852)], []⟩ (laws_toIntS_n1 x3852) (fun (t : (List Int)) => (Exit.normal, ⟨mkE 22 0 [(0, dL x3852), (3, .slc 0)], [some (sI t)]⟩)) := .of fun K h => by
  simp only [laws_toIntS_n1, wpW] at h
  exact .of (by kernel_rfl) h

theorem laws_toIntS_n2_l (x3852 : List Int) (x3855 : List Int) : Link laws_toIntS_ctx LL (cq [0,0,1,1] (bodyOf Tryd.f14)) (aq [0,0,1,1] laws_toIntS_an) ⟨mkE 22 0 [(0, dL x3852), (3, .slc 0)], [some (sI x3855)]⟩ (laws_toIntS_n2) (fun (t : Unit) => (Exit.normal, ⟨mkE 22 0 [(0, dL x3852), (3, .slc 0), (4, dI 0)], [some (sI x3855)]⟩)) := .of fun K h => by
  simp only [laws_toIntS_n2, wpW] at h
  exact .of (by kernel_rfl) h

theorem laws_toIntS_n3_l (x3852 : List Int) (x3869 : Int) (x3870 : List Int) : Link laws_toIntS_ctx LL (cq [0,0,1,0,1,1] (bodyOf Tryd.f14)) (aq [0,0,1,0,1,1] laws_toIntS_an) ⟨mkE 22 0 [(0, dL x3852), (3, .slc 0), (4, dI x3869)], [some (sI x3870)]⟩ (laws_toIntS_n3 x3852 x3869 x3870) (Sum.elim (fun (t : Int × (List Int)) => (Exit.normal, ⟨mkE 22 0 [(0, dL x3852), (3, .slc 0), (4, dI t.1)], [some (sI t.2)]⟩)) (fun (t : (List Int)) => ((Exit.exit 0), ⟨mkE 22 0 [(3, .slc 0)], [some (sI t)]⟩))) := .of fun K h => by
  simp only [laws_toIntS_n3, wpW] at h
  exact .of (by kernel_rfl) h

def laws_toIntS_n4_l (x3852 : List Int) (x3855 : List Int) := (link_loop (mk := fun (s : Int × (List Int)) => ⟨mkE 22 0 [(0, dL x3852), (3, .slc 0), (4, dI s.1)], [some (sI s.2)]⟩) (fin := (fun (t : (List Int)) => ((Exit.exit 0), ⟨mkE 22 0 [(3, .slc 0)], [some (sI t)]⟩))) (by
  rintro t f K h
  · exact h) (fun s => link_map (laws_toIntS_n3_l x3852 s.1 s.2) (Sum.elim (fun (t : Int × (List Int)) => Sum.inl (t.1, t.2)) (fun (t : (List Int)) => Sum.inr t)) (by
  rintro (t | t)
  · kernel_rfl
  · kernel_rfl)) (0, x3855))

def laws_toIntS_n5_l (x3852 : List Int) (x3855 : List Int) := (link_block (fin2 := (fun (t : (List Int)) => (Exit.normal, ⟨mkE 22 0 [(3, .slc 0)], [some (sI t)]⟩))) (id := 0) (laws_toIntS_n4_l x3852 x3855) (fun (t : (List Int)) => t) (by
  rintro t K h
  · exact Eq.mp (by kernel_rfl) h))

def laws_toIntS_n6_l (x3852 : List Int) (x3855 : List Int) := (link_seq (laws_toIntS_n2_l x3852 x3855) (fun (t : Unit) => (laws_toIntS_n5_l x3852 x3855)))

theorem laws_toIntS_n7_l (x3870 : List Int) : Link laws_toIntS_ctx LL (cq [1,1,1] (bodyOf Tryd.f14)) (aq [1,1,1] laws_toIntS_an) ⟨mkE 22 0 [(3, .slc 0)], [some (sI x3870)]⟩ (laws_toIntS_n7 x3870) (fun (t : (List Int)) => (Exit.ret, ⟨mkE 22 0 [(2, .slc 0)], [some (sI t)]⟩)) := .of fun K h => by
  simp only [laws_toIntS_n7, wpW] at h
  exact .of (by kernel_rfl) h

def laws_toIntS_n8_l (x3852 : List Int) (x3855 : List Int) := (link_seq (laws_toIntS_n6_l x3852 x3855) (fun (t : (List Int)) => (laws_toIntS_n7_l t)))

def laws_toIntS_n9_l (x3852 : List Int) := (link_group (c := (cq [0,1] (bodyOf Tryd.f14))) (a := (aq [0,1] laws_toIntS_an)) [(cq [0] (bodyOf Tryd.f14))] [(aq [0] laws_toIntS_an)] rfl (link_seq (laws_toIntS_n1_l x3852) (fun (t : (List Int)) => (laws_toIntS_n8_l x3852 t))))

theorem laws_toIntS_e (x3852 : List Int) {r : AV} {H' : Heap} (h : (Ans.mk _ (laws_toIntS x3852) (fun (t : (List Int)) => (.slc 0, [some (sI t)])) [] none).run = some (r, H')) : Awp laws_toIntS_ctx LL (bodyOf Tryd.f14) laws_toIntS_an ⟨mkE 22 0 [(0, dL x3852)], []⟩ (Ret (tlook tys) Tryd.f14.results.toList r H') :=
  ret_of' (Link.cast (by kernel_rfl) (by kernel_rfl) (laws_toIntS_n9_l x3852)) (by unfold laws_toIntS; kernel_rfl) (by
  intro t
  exact ret_mk [.slc 0] (by kernel_rfl) (by kernel_rfl) (by kernel_rfl) (by kernel_rfl)) h

def F_laws_toIntS : Fun := fun avs H =>
  match avs, H with
  | [.dat (.list (.int .i64)) x3852], [] => ⟨_, laws_toIntS x3852, fun (t : (List Int)) => (.slc 0, [some (sI t)]), [], none⟩
  | _, _ => Ans.no

theorem laws_toIntS_sound : Sound Tryd.prog 14 F_laws_toIntS := by
  refine fn_sound' (C := laws_toIntS_ctx) (c := bodyOf Tryd.f14) (cok_of tys_ok (alln) (alln) (by kernel_rfl)) Tryd.func14 (by kernel_rfl) LL laws_toIntS_an ?_
  intro avs H r H' h
  unfold F_laws_toIntS at h
  split at h
  · refine Awp.cast ?_ ?_ ?_ (laws_toIntS_e _ h) <;> kernel_rfl
  · simp [Ans.no, Ans.run] at h


/-! loop.example/headtrees/laws.eqIntS -/

def laws_eqIntS_an : Ann := (.seq (.leaf [0, 1]) (.seq (.seq (.leaf [0, 1, 10]) (.cond (.seq (.leaf [4]) (.leaf [4])) (.leaf [0, 1]))) (.seq (.seq (.leaf [0, 1, 5]) (.block (.loop (.seq (.seq (.leaf [0, 1, 5, 14]) (.cond (.leaf [0, 1, 5]) (.leaf []))) (.seq (.block (.seq (.draw [] [0, 1, 2, 3, 4, 5, 6, 7, 8] [] [0, 1, 5, 25]) (.cond (.seq (.leaf [4]) (.leaf [4])) (.leaf [0, 1, 5])))) (.leaf [0, 1, 5])))))) (.seq (.leaf [4]) (.leaf [4])))))

noncomputable def laws_eqIntS_ctx : Ctx := ⟨tlook tys, olook [], ioF, 0, false, []⟩

theorem laws_eqIntS_n1_l (x3912 : List Int) (x3913 : List Int) : Link laws_eqIntS_ctx LL (Code.seq (cq [0] (bodyOf Tryd.f15)) (cq [0,1] (bodyOf Tryd.f15))) (Ann.seq (aq [0] laws_eqIntS_an) (aq [0,1] laws_eqIntS_an)) ⟨mkE 26 0 [(0, dL x3912), (1, dL x3913)], []⟩ (laws_eqIntS_n1 x3912 x3913) (Sum.elim (fun (t : Unit) => (Exit.normal, ⟨mkE 26 0 [(0, dL x3912), (1, dL x3913)], []⟩)) (fun (t : Bool) => (Exit.ret, ⟨mkE 26 0 [(4, dB t)], []⟩))) := .of fun K h => by
  simp only [laws_eqIntS_n1, wpW] at h
  exact .of (by kernel_rfl) h

theorem laws_eqIntS_n2_l (x3912 : List Int) (x3913 : List Int) : Link laws_eqIntS_ctx LL (cq [0,0,1,1] (bodyOf Tryd.f15)) (aq [0,0,1,1] laws_eqIntS_an) ⟨mkE 26 0 [(0, dL x3912), (1, dL x3913)], []⟩ (laws_eqIntS_n2) (fun (t : Unit) => (Exit.normal, ⟨mkE 26 0 [(0, dL x3912), (1, dL x3913), (5, dI 0)], []⟩)) := .of fun K h => by
  simp only [laws_eqIntS_n2, wpW] at h
  exact .of (by kernel_rfl) h

theorem laws_eqIntS_n3_l (x3912 : List Int) (x3913 : List Int) (x3930 : Int) : Link laws_eqIntS_ctx LL (cq [0,0,1,0,1,1] (bodyOf Tryd.f15)) (aq [0,0,1,0,1,1] laws_eqIntS_an) ⟨mkE 26 0 [(0, dL x3912), (1, dL x3913), (5, dI x3930)], []⟩ (laws_eqIntS_n3 x3912 x3913 x3930) (Sum.elim (fun (t : Int) => (Exit.normal, ⟨mkE 26 0 [(0, dL x3912), (1, dL x3913), (5, dI t)], []⟩)) (Sum.elim (fun (t : Bool) => (Exit.ret, ⟨mkE 26 0 [(4, dB t)], []⟩)) (fun (t : Unit) => ((Exit.exit 0), ⟨mkE 26 0 [], []⟩)))) := .of fun K h => by
  simp only [laws_eqIntS_n3, wpW] at h
  exact .of (by kernel_rfl) h

def laws_eqIntS_n4_l (x3912 : List Int) (x3913 : List Int) := (link_loop (mk := fun (s : Int) => ⟨mkE 26 0 [(0, dL x3912), (1, dL x3913), (5, dI s)], []⟩) (fin := (Sum.elim (fun (t : Bool) => (Exit.ret, ⟨mkE 26 0 [(4, dB t)], []⟩)) (fun (t : Unit) => ((Exit.exit 0), ⟨mkE 26 0 [], []⟩)))) (by
  rintro (t | t) f K h
  · exact h
  · exact h) (fun s => link_map (laws_eqIntS_n3_l x3912 x3913 s) (Sum.elim (fun (t : Int) => Sum.inl t) (Sum.elim (fun (t : Bool) => Sum.inr (Sum.inl t)) (fun (t : Unit) => Sum.inr (Sum.inr t)))) (by
  rintro (t | t | t)
  · kernel_rfl
  · kernel_rfl
  · kernel_rfl)) 0)

def laws_eqIntS_n5_l (x3912 : List Int) (x3913 : List Int) := (link_block (fin2 := (Sum.elim (fun (t : Unit) => (Exit.normal, ⟨mkE 26 0 [], []⟩)) (fun (t : Bool) => (Exit.ret, ⟨mkE 26 0 [(4, dB t)], []⟩)))) (id := 0) (laws_eqIntS_n4_l x3912 x3913) (Sum.elim (fun (t : Bool) => (Sum.inr t)) (fun (t : Unit) => (Sum.inl ()))) (by
  rintro (t | t) K h
  · exact Eq.mp (by kernel_rfl) h
  · exact Eq.mp (by kernel_rfl) h))

def laws_eqIntS_n6_l (x3912 : List Int) (x3913 : List Int) := (link_seq (laws_eqIntS_n2_l x3912 x3913) (fun (t : Unit) => (laws_eqIntS_n5_l x3912 x3913)))

theorem laws_eqIntS_n7_l : Link laws_eqIntS_ctx LL (cq [1,1,1] (bodyOf Tryd.f15)) (aq [1,1,1] laws_eqIntS_an) ⟨mkE 26 0 [], []⟩ (laws_eqIntS_n7) (fun (t : Bool) => (Exit.ret, ⟨mkE 26 0 [(4, dB t)], []⟩)) := .of fun K h => by
  simp only [laws_eqIntS_n7, wpW] at h
  exact .of (by kernel_rfl) h

def laws_eqIntS_n8_l (x3912 : List Int) (x3913 : List Int) := (link_seq2 (laws_eqIntS_n6_l x3912 x3913) (fun (t : Unit) => (laws_eqIntS_n7_l)) (fun (t : Bool) => t) (by
  rintro t
  · kernel_rfl) (by
  rintro t f K h
  · exact h))

def laws_eqIntS_n9_l (x3912 : List Int) (x3913 : List Int) := (link_group (c := (cq [0,1] (bodyOf Tryd.f15))) (a := (aq [0,1] laws_eqIntS_an)) [(cq [0] (bodyOf Tryd.f15))] [(aq [0] laws_eqIntS_an)] rfl (link_seq2 (laws_eqIntS_n1_l x3912 x3913) (fun (t : Unit) => (laws_eqIntS_n8_l x3912 x3913)) (fun (t : Bool) => t) (by
  rintro t
  · kernel_rfl) (by
  rintro t f K h
  · exact h)))

theorem laws_eqIntS_e (x3912 : List Int) (x3913 : List Int) {r : AV} {H' : Heap} (h : (Ans.mk _ (laws_eqIntS x3912 x3913) (fun (t : Bool) => (dB t, [])) [] none).run = some (r, H')) : Awp laws_eqIntS_ctx LL (bodyOf Tryd.f15) laws_eqIntS_an ⟨mkE 26 0 [(0, dL x3912), (1, dL x3913)], []⟩ (Ret (tlook tys) Tryd.f15.results.toList r H') :=
  ret_of' (Link.cast (by kernel_rfl) (by kernel_rfl) (laws_eqIntS_n9_l x3912 x3913)) (by unfold laws_eqIntS; kernel_rfl) (by
  intro t
  exact ret_mk [dB t] (by kernel_rfl) (by kernel_rfl) (by kernel_rfl) (by kernel_rfl)) h

def F_laws_eqIntS : Fun := fun avs H =>
  match avs, H with
  | [.dat (.list (.int .i64)) x3912, .dat (.list (.int .i64)) x3913], [] => ⟨_, laws_eqIntS x3912 x3913, fun (t : Bool) => (dB t, []), [], none⟩
  | _, _ => Ans.no

theorem laws_eqIntS_sound : Sound Tryd.prog 15 F_laws_eqIntS := by
  refine fn_sound' (C := laws_eqIntS_ctx) (c := bodyOf Tryd.f15) (cok_of tys_ok (alln) (alln) (by kernel_rfl)) Tryd.func15 (by kernel_rfl) LL laws_eqIntS_an ?_
  intro avs H r H' h
  unfold F_laws_eqIntS at h
  split at h
  · refine Awp.cast ?_ ?_ ?_ (laws_eqIntS_e _ _ h) <;> kernel_rfl
  · simp [Ans.no, Ans.run] at h


/-! loop.example/headtrees/laws.FnExactLeastLength -/

def laws_FnExactLeastLength_an : Ann := (.seq (.leaf [0]) (.seq (.seq (.leaf [0, 8]) (.cond (.seq (.leaf [2]) (.leaf [2])) (.leaf [0]))) (.seq (.leaf [0, 3]) (.seq (.leaf [0, 3, 4]) (.seq (.leaf [0, 3, 4, 5]) (.seq (.seq (.leaf [0, 4, 18]) (.cond (.seq (.leaf [2]) (.leaf [2])) (.leaf [0, 4]))) (.seq (.seq (.leaf [23]) (.cond (.seq (.leaf [2]) (.leaf [2])) (.leaf []))) (.seq (.leaf [2]) (.leaf [2])))))))))

noncomputable def laws_FnExactLeastLength_ctx : Ctx := ⟨tlook tys, olook [(14, F_laws_toIntS), (7, F_spec_LeastLength), (6, F_impl_LeastLength), (15, F_laws_eqIntS)], ioF, 0, false, []⟩

theorem laws_FnExactLeastLength_n1_l (x3847 : List Int) : Link laws_FnExactLeastLength_ctx LL (bodyOf Tryd.f4) laws_FnExactLeastLength_an ⟨mkE 24 0 [(0, dL x3847)], []⟩ (laws_FnExactLeastLength_n1 x3847) (fun (t : Bool) => (Exit.ret, ⟨mkE 24 0 [(2, dB t)], []⟩)) := .of fun K h => by
  simp only [laws_FnExactLeastLength_n1, wpW] at h
  exact .of (by kernel_rfl) h

theorem laws_FnExactLeastLength_e (x3847 : List Int) {r : AV} {H' : Heap} (h : (Ans.mk _ (laws_FnExactLeastLength x3847) (fun (t : Bool) => (dB t, [])) [] none).run = some (r, H')) : Awp laws_FnExactLeastLength_ctx LL (bodyOf Tryd.f4) laws_FnExactLeastLength_an ⟨mkE 24 0 [(0, dL x3847)], []⟩ (Ret (tlook tys) Tryd.f4.results.toList r H') :=
  ret_of' (laws_FnExactLeastLength_n1_l x3847) (by unfold laws_FnExactLeastLength; kernel_rfl) (by
  intro t
  exact ret_mk [dB t] (by kernel_rfl) (by kernel_rfl) (by kernel_rfl) (by kernel_rfl)) h

def F_laws_FnExactLeastLength : Fun := fun avs H =>
  match avs, H with
  | [.dat (.list (.int .i64)) x3847], [] => ⟨_, laws_FnExactLeastLength x3847, fun (t : Bool) => (dB t, []), [], none⟩
  | _, _ => Ans.no

theorem laws_FnExactLeastLength_sound : Sound Tryd.prog 4 F_laws_FnExactLeastLength := by
  refine fn_sound' (C := laws_FnExactLeastLength_ctx) (c := bodyOf Tryd.f4) (cok_of tys_ok (allc laws_toIntS_sound (allc spec_LeastLength_sound (allc impl_LeastLength_sound (allc laws_eqIntS_sound alln)))) (allc Tryd.call14 (allc Tryd.call7 (allc Tryd.call6 (allc Tryd.call15 alln)))) (by kernel_rfl)) Tryd.func4 (by kernel_rfl) LL laws_FnExactLeastLength_an ?_
  intro avs H r H' h
  unfold F_laws_FnExactLeastLength at h
  split at h
  · refine Awp.cast ?_ ?_ ?_ (laws_FnExactLeastLength_e _ h) <;> kernel_rfl
  · simp [Ans.no, Ans.run] at h

end Go.Rv
