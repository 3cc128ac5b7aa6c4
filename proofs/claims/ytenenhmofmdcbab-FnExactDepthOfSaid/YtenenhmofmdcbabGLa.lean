/-
  The checked code answers as the plain functions do; written by program. Conditions: none.
-/
import Derived.Test.YtenenhmofmdcbabGN
import Derived.Test.YtenenhmofmdcbabProg
set_option linter.unusedVariables false
set_option linter.unusedSimpArgs false
set_option maxRecDepth 100000
namespace Go.Rv
open Go.Proofs
theorem ty3 : TIOk Try.prog 3 ⟨.int .i64, 1, 8, some (.int .i64), [.int .i64 0]⟩ := ⟨⟨infoOf (Try.prog.info? 3), by kernel_rfl, by kernel_rfl, by kernel_rfl, .int .i64 0, by kernel_rfl, by kernel_rfl⟩, (by kernel_rfl : Try.prog.underlying 3 = some (.int .i64))⟩
theorem ty4 : TIOk Try.prog 4 ⟨.bool, 1, 1, some .bool, [.bool false]⟩ := ⟨⟨infoOf (Try.prog.info? 4), by kernel_rfl, by kernel_rfl, by kernel_rfl, .bool false, by kernel_rfl, by kernel_rfl⟩, (by kernel_rfl : Try.prog.underlying 4 = some .bool)⟩
theorem ty22 : TIOk Try.prog 22 ⟨.slice 3, 1, 24, some (.list (.int .i64)), [.slice none 0 0]⟩ := ⟨⟨infoOf (Try.prog.info? 22), by kernel_rfl, by kernel_rfl, by kernel_rfl, .slice none 0 0, by kernel_rfl, by kernel_rfl⟩, (by kernel_rfl : Try.prog.underlying 22 = some (.slice 3))⟩
theorem ty36 : TIOk Try.prog 36 ⟨.strct [(0, 22), (1, 3), (2, 3)], 3, 40, some (.pair (.list (.int .i64)) (.pair (.int .i64) (.pair (.int .i64) .unit))), [.slice none 0 0, .int .i64 0, .int .i64 0]⟩ := ⟨⟨infoOf (Try.prog.info? 36), by kernel_rfl, by kernel_rfl, by kernel_rfl, .agg #[.slice none 0 0, .int .i64 0, .int .i64 0], by kernel_rfl, by kernel_rfl⟩, ⟨fieldsOf (Try.prog.underlying 36), by kernel_rfl, by kernel_rfl⟩⟩
theorem ty42 : TIOk Try.prog 42 ⟨.arr 9 4, 9, 9, none, [.bool false, .bool false, .bool false, .bool false, .bool false, .bool false, .bool false, .bool false, .bool false]⟩ := ⟨⟨infoOf (Try.prog.info? 42), by kernel_rfl, by kernel_rfl, by kernel_rfl, .agg #[.bool false, .bool false, .bool false, .bool false, .bool false, .bool false, .bool false, .bool false, .bool false], by kernel_rfl, by kernel_rfl⟩, (by kernel_rfl : Try.prog.underlying 42 = some (.array 9 4))⟩
theorem ty54 : TIOk Try.prog 54 ⟨.int .u64, 1, 8, some (.int .u64), [.int .u64 0]⟩ := ⟨⟨infoOf (Try.prog.info? 54), by kernel_rfl, by kernel_rfl, by kernel_rfl, .int .u64 0, by kernel_rfl, by kernel_rfl⟩, (by kernel_rfl : Try.prog.underlying 54 = some (.int .u64))⟩
def tys : List (TypeId × TI) := [(3, ⟨.int .i64, 1, 8, some (.int .i64), [.int .i64 0]⟩), (4, ⟨.bool, 1, 1, some .bool, [.bool false]⟩), (22, ⟨.slice 3, 1, 24, some (.list (.int .i64)), [.slice none 0 0]⟩), (36, ⟨.strct [(0, 22), (1, 3), (2, 3)], 3, 40, some (.pair (.list (.int .i64)) (.pair (.int .i64) (.pair (.int .i64) .unit))), [.slice none 0 0, .int .i64 0, .int .i64 0]⟩), (42, ⟨.arr 9 4, 9, 9, none, [.bool false, .bool false, .bool false, .bool false, .bool false, .bool false, .bool false, .bool false, .bool false]⟩), (54, ⟨.int .u64, 1, 8, some (.int .u64), [.int .u64 0]⟩)]
theorem tys_ok : TOk Try.prog (tlook tys) := tok_of (List.forall_mem_cons.2 ⟨ty3, List.forall_mem_cons.2 ⟨ty4, List.forall_mem_cons.2 ⟨ty22, List.forall_mem_cons.2 ⟨ty36, List.forall_mem_cons.2 ⟨ty42, List.forall_mem_cons.2 ⟨ty54, by simp⟩⟩⟩⟩⟩⟩)
def ioF (f : FuncId) (i : Nat) : Bool := [(15, 0)].any fun (p : Nat × Nat) => Nat.beq p.1 f && Nat.beq p.2 i

/-! loop.example/headtrees/laws.toIntS -/

def laws_toIntS_an : Ann := (.seq (.leaf [0]) (.seq (.leaf [0, 3]) (.seq (.seq (.leaf [0, 3, 4]) (.block (.loop (.seq (.seq (.leaf [0, 3, 4, 11]) (.cond (.leaf [0, 3, 4]) (.leaf [3]))) (.seq (.block (.leaf [0, 3, 4])) (.leaf [0, 3, 4])))))) (.seq (.leaf [2]) (.leaf [2])))))

noncomputable def laws_toIntS_ctx : Ctx := ⟨tlook tys, olook [], ioF, 0⟩

theorem laws_toIntS_n1_l (x10 : List Int) : Link laws_toIntS_ctx LL (Code.seq (Code.fst (bodyOf Try.f10)) (Code.fst (Code.snd (bodyOf Try.f10)))) (Ann.seq (Ann.fst laws_toIntS_an) (Ann.fst (Ann.snd laws_toIntS_an))) (⟨mkE 22 0 [(0, .dat (.list (.int .i64)) x10)], []⟩ : St) (laws_toIntS_n1 x10) (fun (t : (List Int)) => (Exit.normal, (⟨mkE 22 0 [(0, .dat (.list (.int .i64)) x10), (3, .slc 0)], [some (.seq (.int .i64) t)]⟩ : St))) := by
  refine Link.of fun K h => ?_
  simp only [laws_toIntS_n1, wpO_bind, wpO_cond, wpO_map, wpO_some] at h
  exact Awp.of (by kernel_rfl) h

theorem laws_toIntS_n2_l (x10 : List Int) (x14 : List Int) : Link laws_toIntS_ctx LL (Code.fst (Code.fst (Code.snd (Code.snd (bodyOf Try.f10))))) (Ann.fst (Ann.fst (Ann.snd (Ann.snd laws_toIntS_an)))) (⟨mkE 22 0 [(0, .dat (.list (.int .i64)) x10), (3, .slc 0)], [some (.seq (.int .i64) x14)]⟩ : St) (laws_toIntS_n2) (fun (t : Unit) => (Exit.normal, (⟨mkE 22 0 [(0, .dat (.list (.int .i64)) x10), (3, .slc 0), (4, .dat (.int .i64) 0)], [some (.seq (.int .i64) x14)]⟩ : St))) := by
  refine Link.of fun K h => ?_
  simp only [laws_toIntS_n2, wpO_bind, wpO_cond, wpO_map, wpO_some] at h
  exact Awp.of (by kernel_rfl) h

theorem laws_toIntS_n3_l (x10 : List Int) (x30 : Int) (x31 : List Int) : Link laws_toIntS_ctx LL (Code.fst (Code.fst (Code.snd (Code.fst (Code.snd (Code.snd (bodyOf Try.f10))))))) (Ann.fst (Ann.fst (Ann.snd (Ann.fst (Ann.snd (Ann.snd laws_toIntS_an)))))) (⟨mkE 22 0 [(0, .dat (.list (.int .i64)) x10), (3, .slc 0), (4, .dat (.int .i64) x30)], [some (.seq (.int .i64) x31)]⟩ : St) (laws_toIntS_n3 x10 x30 x31) (Sum.elim (fun (t : Int × (List Int)) => (Exit.normal, (⟨mkE 22 0 [(0, .dat (.list (.int .i64)) x10), (3, .slc 0), (4, .dat (.int .i64) t.1)], [some (.seq (.int .i64) t.2)]⟩ : St))) (fun (t : (List Int)) => ((Exit.exit 0), (⟨mkE 22 0 [(3, .slc 0)], [some (.seq (.int .i64) t)]⟩ : St)))) := by
  refine Link.of fun K h => ?_
  simp only [laws_toIntS_n3, wpO_bind, wpO_cond, wpO_map, wpO_some] at h
  exact Awp.of (by kernel_rfl) h

theorem laws_toIntS_n4_l (x10 : List Int) (x14 : List Int) : Link laws_toIntS_ctx LL (Code.fst (Code.snd (Code.fst (Code.snd (Code.snd (bodyOf Try.f10)))))) (Ann.fst (Ann.snd (Ann.fst (Ann.snd (Ann.snd laws_toIntS_an))))) (⟨mkE 22 0 [(0, .dat (.list (.int .i64)) x10), (3, .slc 0), (4, .dat (.int .i64) 0)], [some (.seq (.int .i64) x14)]⟩ : St) (laws_toIntS_n4 x10 x14) (fun (t : (List Int)) => ((Exit.exit 0), (⟨mkE 22 0 [(3, .slc 0)], [some (.seq (.int .i64) t)]⟩ : St))) := by
  unfold laws_toIntS_n4
  exact Link.cast (by kernel_rfl) (by kernel_rfl) (link_loop (mk := fun (s : Int × (List Int)) => (⟨mkE 22 0 [(0, .dat (.list (.int .i64)) x10), (3, .slc 0), (4, .dat (.int .i64) s.1)], [some (.seq (.int .i64) s.2)]⟩ : St)) (fin := (fun (t : (List Int)) => ((Exit.exit 0), (⟨mkE 22 0 [(3, .slc 0)], [some (.seq (.int .i64) t)]⟩ : St)))) (by
  rintro t f K h
  · exact h) (fun s => link_map (laws_toIntS_n3_l x10 s.1 s.2) (Sum.elim (fun (t : Int × (List Int)) => Sum.inl (t.1, t.2)) (fun (t : (List Int)) => Sum.inr t)) (by
  rintro (t | t)
  · kernel_rfl
  · kernel_rfl)) (0, x14))

theorem laws_toIntS_n5_l (x10 : List Int) (x14 : List Int) : Link laws_toIntS_ctx LL (Code.snd (Code.fst (Code.snd (Code.snd (bodyOf Try.f10))))) (Ann.snd (Ann.fst (Ann.snd (Ann.snd laws_toIntS_an)))) (⟨mkE 22 0 [(0, .dat (.list (.int .i64)) x10), (3, .slc 0), (4, .dat (.int .i64) 0)], [some (.seq (.int .i64) x14)]⟩ : St) (laws_toIntS_n5 x10 x14) (fun (t : (List Int)) => (Exit.normal, (⟨mkE 22 0 [(3, .slc 0)], [some (.seq (.int .i64) t)]⟩ : St))) := by
  unfold laws_toIntS_n5
  exact Link.cast (by kernel_rfl) (by kernel_rfl) (link_block (id := 0) (laws_toIntS_n4_l x10 x14) (fun (t : (List Int)) => t) (by
  rintro t K h
  · exact Eq.mp (by kernel_rfl) h))

theorem laws_toIntS_n6_l (x10 : List Int) (x14 : List Int) : Link laws_toIntS_ctx LL (Code.fst (Code.snd (Code.snd (bodyOf Try.f10)))) (Ann.fst (Ann.snd (Ann.snd laws_toIntS_an))) (⟨mkE 22 0 [(0, .dat (.list (.int .i64)) x10), (3, .slc 0)], [some (.seq (.int .i64) x14)]⟩ : St) (laws_toIntS_n6 x10 x14) (fun (t : (List Int)) => (Exit.normal, (⟨mkE 22 0 [(3, .slc 0)], [some (.seq (.int .i64) t)]⟩ : St))) := by
  unfold laws_toIntS_n6
  exact Link.cast (by kernel_rfl) (by kernel_rfl) (link_seq (b := (Code.snd (Code.fst (Code.snd (Code.snd (bodyOf Try.f10)))))) (y := (Ann.snd (Ann.fst (Ann.snd (Ann.snd laws_toIntS_an))))) (laws_toIntS_n2_l x10 x14) (fun (t : Unit) => (laws_toIntS_n5_l x10 x14)))

theorem laws_toIntS_n7_l (x31 : List Int) : Link laws_toIntS_ctx LL (Code.snd (Code.snd (Code.snd (bodyOf Try.f10)))) (Ann.snd (Ann.snd (Ann.snd laws_toIntS_an))) (⟨mkE 22 0 [(3, .slc 0)], [some (.seq (.int .i64) x31)]⟩ : St) (laws_toIntS_n7 x31) (fun (t : (List Int)) => (Exit.ret, (⟨mkE 22 0 [(2, .slc 0)], [some (.seq (.int .i64) t)]⟩ : St))) := by
  refine Link.of fun K h => ?_
  simp only [laws_toIntS_n7, wpO_bind, wpO_cond, wpO_map, wpO_some] at h
  exact Awp.of (by kernel_rfl) h

theorem laws_toIntS_n8_l (x10 : List Int) (x14 : List Int) : Link laws_toIntS_ctx LL (Code.snd (Code.snd (bodyOf Try.f10))) (Ann.snd (Ann.snd laws_toIntS_an)) (⟨mkE 22 0 [(0, .dat (.list (.int .i64)) x10), (3, .slc 0)], [some (.seq (.int .i64) x14)]⟩ : St) (laws_toIntS_n8 x10 x14) (fun (t : (List Int)) => (Exit.ret, (⟨mkE 22 0 [(2, .slc 0)], [some (.seq (.int .i64) t)]⟩ : St))) := by
  unfold laws_toIntS_n8
  exact Link.cast (by kernel_rfl) (by kernel_rfl) (link_seq (b := (Code.snd (Code.snd (Code.snd (bodyOf Try.f10))))) (y := (Ann.snd (Ann.snd (Ann.snd laws_toIntS_an)))) (laws_toIntS_n6_l x10 x14) (fun (t : (List Int)) => (laws_toIntS_n7_l t)))

theorem laws_toIntS_n9_l (x10 : List Int) : Link laws_toIntS_ctx LL (bodyOf Try.f10) laws_toIntS_an (⟨mkE 22 0 [(0, .dat (.list (.int .i64)) x10)], []⟩ : St) (laws_toIntS_n9 x10) (fun (t : (List Int)) => (Exit.ret, (⟨mkE 22 0 [(2, .slc 0)], [some (.seq (.int .i64) t)]⟩ : St))) := by
  unfold laws_toIntS_n9
  exact Link.cast (by kernel_rfl) (by kernel_rfl) (link_group (c := (Code.fst (Code.snd (bodyOf Try.f10)))) (a := (Ann.fst (Ann.snd laws_toIntS_an))) [(Code.fst (bodyOf Try.f10))] [(Ann.fst laws_toIntS_an)] rfl (link_seq (b := (Code.snd (Code.snd (bodyOf Try.f10)))) (y := (Ann.snd (Ann.snd laws_toIntS_an))) (laws_toIntS_n1_l x10) (fun (t : (List Int)) => (laws_toIntS_n8_l x10 t))))

theorem laws_toIntS_e (x10 : List Int) {r : AV} {H' : Heap} (h : (Ans.mk _ (laws_toIntS x10) (fun (t : (List Int)) => (.slc 0, [some (.seq (.int .i64) t)]))).run = some (r, H')) : Awp laws_toIntS_ctx LL (bodyOf Try.f10) laws_toIntS_an (⟨mkE 22 0 [(0, .dat (.list (.int .i64)) x10)], []⟩ : St) (Ret (tlook tys) Try.f10.results.toList r H') :=
  ret_of' (laws_toIntS_n9_l x10) (by unfold laws_toIntS; kernel_rfl) (by
  intro t
  exact ret_mk [.slc 0] (by kernel_rfl) (by kernel_rfl) (by kernel_rfl) (by kernel_rfl)) h

def F_laws_toIntS : Fun := fun avs H =>
  match avs, H with
  | [.dat (.list (.int .i64)) x10], [] => ⟨_, laws_toIntS x10, fun (t : (List Int)) => (.slc 0, [some (.seq (.int .i64) t)])⟩
  | _, _ => Ans.no

theorem laws_toIntS_sound : Sound Try.prog 10 F_laws_toIntS := by
  refine fn_sound' (C := laws_toIntS_ctx) (c := bodyOf Try.f10) (cok_of tys_ok (by simp) (by simp) (by kernel_rfl)) Try.func10 (by kernel_rfl) LL laws_toIntS_an ?_
  intro avs H r H' h
  unfold F_laws_toIntS at h
  split at h
  · refine Awp.cast ?_ ?_ ?_ (laws_toIntS_e _ h) <;> kernel_rfl
  · simp [Ans.no, Ans.run] at h

/-! loop.example/headtrees/spec.l1In -/

def spec_l1In_an : Ann := (.seq (.leaf [0, 1, 2]) (.seq (.leaf [6]) (.leaf [6])))

noncomputable def spec_l1In_ctx : Ctx := ⟨tlook tys, olook [], ioF, 0⟩

theorem spec_l1In_n1_l (x53 : Int) (x54 : Int) (x55 : Int) : Link spec_l1In_ctx LL (bodyOf Try.f29) spec_l1In_an (⟨mkE 15 0 [(0, .dat (.int .i64) x53), (1, .dat (.int .i64) x54), (2, .dat (.int .i64) x55)], []⟩ : St) (spec_l1In_n1 x53 x54 x55) (fun (t : Bool) => (Exit.ret, (⟨mkE 15 0 [(6, .dat .bool t)], []⟩ : St))) := by
  refine Link.of fun K h => ?_
  simp only [spec_l1In_n1, wpO_bind, wpO_cond, wpO_map, wpO_some] at h
  exact Awp.of (by kernel_rfl) h

theorem spec_l1In_e (x53 : Int) (x54 : Int) (x55 : Int) {r : AV} {H' : Heap} (h : (Ans.mk _ (spec_l1In x53 x54 x55) (fun (t : Bool) => (.dat .bool t, []))).run = some (r, H')) : Awp spec_l1In_ctx LL (bodyOf Try.f29) spec_l1In_an (⟨mkE 15 0 [(0, .dat (.int .i64) x53), (1, .dat (.int .i64) x54), (2, .dat (.int .i64) x55)], []⟩ : St) (Ret (tlook tys) Try.f29.results.toList r H') :=
  ret_of' (spec_l1In_n1_l x53 x54 x55) (by unfold spec_l1In; kernel_rfl) (by
  intro t
  exact ret_mk [.dat .bool t] (by kernel_rfl) (by kernel_rfl) (by kernel_rfl) (by kernel_rfl)) h

def F_spec_l1In : Fun := fun avs H =>
  match avs, H with
  | [.dat (.int .i64) x53, .dat (.int .i64) x54, .dat (.int .i64) x55], [] => ⟨_, spec_l1In x53 x54 x55, fun (t : Bool) => (.dat .bool t, [])⟩
  | _, _ => Ans.no

theorem spec_l1In_sound : Sound Try.prog 29 F_spec_l1In := by
  refine fn_sound' (C := spec_l1In_ctx) (c := bodyOf Try.f29) (cok_of tys_ok (by simp) (by simp) (by kernel_rfl)) Try.func29 (by kernel_rfl) LL spec_l1In_an ?_
  intro avs H r H' h
  unfold F_spec_l1In at h
  split at h
  · refine Awp.cast ?_ ?_ ?_ (spec_l1In_e _ _ _ h) <;> kernel_rfl
  · simp [Ans.no, Ans.run] at h

/-! loop.example/headtrees/spec.TreeOk -/

def spec_TreeOk_an : Ann := (.seq (.leaf [0]) (.seq (.leaf [0, 3]) (.seq (.seq (.leaf [0, 3, 12]) (.cond (.seq (.leaf [2]) (.leaf [2])) (.leaf [0, 3]))) (.seq (.leaf [0, 3, 4]) (.seq (.seq (.leaf [0, 3, 4, 5]) (.block (.loop (.seq (.seq (.leaf [0, 3, 4, 5, 15]) (.cond (.leaf [0, 3, 4, 5]) (.leaf [4]))) (.seq (.block (.seq (.seq (.leaf [0, 3, 4, 5, 33]) (.cond (.seq (.leaf [2]) (.leaf [2])) (.leaf [0, 3, 4, 5]))) (.seq (.seq (.leaf [0, 3, 4, 5, 38]) (.cond (.leaf [0, 3, 4, 5]) (.leaf [0, 3, 4, 5]))) (.seq (.leaf [0, 3, 4, 5, 6]) (.seq (.seq (.leaf [0, 3, 4, 5, 6, 7]) (.block (.loop (.seq (.seq (.leaf [0, 3, 4, 5, 6, 7, 49]) (.cond (.leaf [0, 3, 4, 5, 6, 7]) (.leaf [0, 3, 4, 5, 6]))) (.seq (.block (.seq (.leaf [0, 3, 4, 5, 6, 7]) (.seq (.leaf [0, 3, 4, 5, 6, 7, 60]) (.cond (.seq (.leaf [2]) (.leaf [2])) (.leaf [0, 3, 4, 5, 6, 7]))))) (.leaf [0, 3, 4, 5, 6, 7])))))) (.seq (.leaf [0, 3, 4, 5, 62]) (.cond (.seq (.leaf [2]) (.leaf [2])) (.leaf [0, 3, 4, 5])))))))) (.leaf [0, 3, 4, 5])))))) (.seq (.leaf [2]) (.leaf [2])))))))

noncomputable def spec_TreeOk_ctx : Ctx := ⟨tlook tys, olook [(29, F_spec_l1In)], ioF, 0⟩

theorem spec_TreeOk_n1_l (x49 : List Int) : Link spec_TreeOk_ctx LL (Code.seq (Code.fst (bodyOf Try.f25)) (Code.seq (Code.fst (Code.snd (bodyOf Try.f25))) (Code.seq (Code.fst (Code.snd (Code.snd (bodyOf Try.f25)))) (Code.fst (Code.snd (Code.snd (Code.snd (bodyOf Try.f25)))))))) (Ann.seq (Ann.fst spec_TreeOk_an) (Ann.seq (Ann.fst (Ann.snd spec_TreeOk_an)) (Ann.seq (Ann.fst (Ann.snd (Ann.snd spec_TreeOk_an))) (Ann.fst (Ann.snd (Ann.snd (Ann.snd spec_TreeOk_an))))))) (⟨mkE 65 0 [(0, .dat (.list (.int .i64)) x49)], []⟩ : St) (spec_TreeOk_n1 x49) (Sum.elim (fun (t : Int) => (Exit.normal, (⟨mkE 65 0 [(0, .dat (.list (.int .i64)) x49), (3, .dat (.int .i64) t), (4, .dat (.int .i64) 0)], []⟩ : St))) (fun (t : Bool) => (Exit.ret, (⟨mkE 65 0 [(2, .dat .bool t)], []⟩ : St)))) := by
  refine Link.of fun K h => ?_
  simp only [spec_TreeOk_n1, wpO_bind, wpO_cond, wpO_map, wpO_some] at h
  exact Awp.of (by kernel_rfl) h

theorem spec_TreeOk_n2_l (x49 : List Int) (x63 : Int) : Link spec_TreeOk_ctx LL (Code.fst (Code.fst (Code.snd (Code.snd (Code.snd (Code.snd (bodyOf Try.f25))))))) (Ann.fst (Ann.fst (Ann.snd (Ann.snd (Ann.snd (Ann.snd spec_TreeOk_an)))))) (⟨mkE 65 0 [(0, .dat (.list (.int .i64)) x49), (3, .dat (.int .i64) x63), (4, .dat (.int .i64) 0)], []⟩ : St) (spec_TreeOk_n2) (fun (t : Unit) => (Exit.normal, (⟨mkE 65 0 [(0, .dat (.list (.int .i64)) x49), (3, .dat (.int .i64) x63), (4, .dat (.int .i64) 0), (5, .dat (.int .i64) 0)], []⟩ : St))) := by
  refine Link.of fun K h => ?_
  simp only [spec_TreeOk_n2, wpO_bind, wpO_cond, wpO_map, wpO_some] at h
  exact Awp.of (by kernel_rfl) h

theorem spec_TreeOk_n3_l (x49 : List Int) (x63 : Int) (x130 : Int) (x131 : Int) : Link spec_TreeOk_ctx LL (Code.fst (Code.fst (Code.fst (Code.snd (Code.fst (Code.snd (Code.snd (Code.snd (Code.snd (bodyOf Try.f25)))))))))) (Ann.fst (Ann.fst (Ann.fst (Ann.snd (Ann.fst (Ann.snd (Ann.snd (Ann.snd (Ann.snd spec_TreeOk_an))))))))) (⟨mkE 65 0 [(0, .dat (.list (.int .i64)) x49), (3, .dat (.int .i64) x63), (4, .dat (.int .i64) x130), (5, .dat (.int .i64) x131)], []⟩ : St) (spec_TreeOk_n3 x63 x130 x131) (Sum.elim (fun (t : Unit) => (Exit.normal, (⟨mkE 65 0 [(0, .dat (.list (.int .i64)) x49), (3, .dat (.int .i64) x63), (4, .dat (.int .i64) x130), (5, .dat (.int .i64) x131)], []⟩ : St))) (fun (t : Int) => ((Exit.exit 0), (⟨mkE 65 0 [(4, .dat (.int .i64) t)], []⟩ : St)))) := by
  refine Link.of fun K h => ?_
  simp only [spec_TreeOk_n3, wpO_bind, wpO_cond, wpO_map, wpO_some] at h
  exact Awp.of (by kernel_rfl) h

theorem spec_TreeOk_n4_l (x49 : List Int) (x63 : Int) (x130 : Int) (x131 : Int) : Link spec_TreeOk_ctx LL (Code.seq (Code.fst (Code.fst (Code.fst (Code.snd (Code.fst (Code.fst (Code.snd (Code.fst (Code.snd (Code.snd (Code.snd (Code.snd (bodyOf Try.f25))))))))))))) (Code.seq (Code.fst (Code.snd (Code.fst (Code.fst (Code.snd (Code.fst (Code.fst (Code.snd (Code.fst (Code.snd (Code.snd (Code.snd (Code.snd (bodyOf Try.f25)))))))))))))) (Code.fst (Code.snd (Code.snd (Code.fst (Code.fst (Code.snd (Code.fst (Code.fst (Code.snd (Code.fst (Code.snd (Code.snd (Code.snd (Code.snd (bodyOf Try.f25))))))))))))))))) (Ann.seq (Ann.fst (Ann.fst (Ann.fst (Ann.snd (Ann.fst (Ann.fst (Ann.snd (Ann.fst (Ann.snd (Ann.snd (Ann.snd (Ann.snd spec_TreeOk_an)))))))))))) (Ann.seq (Ann.fst (Ann.snd (Ann.fst (Ann.fst (Ann.snd (Ann.fst (Ann.fst (Ann.snd (Ann.fst (Ann.snd (Ann.snd (Ann.snd (Ann.snd spec_TreeOk_an))))))))))))) (Ann.fst (Ann.snd (Ann.snd (Ann.fst (Ann.fst (Ann.snd (Ann.fst (Ann.fst (Ann.snd (Ann.fst (Ann.snd (Ann.snd (Ann.snd (Ann.snd spec_TreeOk_an)))))))))))))))) (⟨mkE 65 0 [(0, .dat (.list (.int .i64)) x49), (3, .dat (.int .i64) x63), (4, .dat (.int .i64) x130), (5, .dat (.int .i64) x131)], []⟩ : St) (spec_TreeOk_n4 x49 x63 x130 x131) (Sum.elim (fun (t : Int × Int) => (Exit.normal, (⟨mkE 65 0 [(0, .dat (.list (.int .i64)) x49), (3, .dat (.int .i64) x63), (4, .dat (.int .i64) t.1), (5, .dat (.int .i64) x131), (6, .dat (.int .i64) t.2)], []⟩ : St))) (fun (t : Bool) => (Exit.ret, (⟨mkE 65 0 [(2, .dat .bool t)], []⟩ : St)))) := by
  refine Link.of fun K h => ?_
  simp only [spec_TreeOk_n4, wpO_bind, wpO_cond, wpO_map, wpO_some] at h
  exact Awp.of (by kernel_rfl) h

theorem spec_TreeOk_n5_l (x49 : List Int) (x63 : Int) (x159 : Int) (x131 : Int) (x160 : Int) : Link spec_TreeOk_ctx LL (Code.fst (Code.fst (Code.snd (Code.snd (Code.snd (Code.fst (Code.fst (Code.snd (Code.fst (Code.fst (Code.snd (Code.fst (Code.snd (Code.snd (Code.snd (Code.snd (bodyOf Try.f25))))))))))))))))) (Ann.fst (Ann.fst (Ann.snd (Ann.snd (Ann.snd (Ann.fst (Ann.fst (Ann.snd (Ann.fst (Ann.fst (Ann.snd (Ann.fst (Ann.snd (Ann.snd (Ann.snd (Ann.snd spec_TreeOk_an)))))))))))))))) (⟨mkE 65 0 [(0, .dat (.list (.int .i64)) x49), (3, .dat (.int .i64) x63), (4, .dat (.int .i64) x159), (5, .dat (.int .i64) x131), (6, .dat (.int .i64) x160)], []⟩ : St) (spec_TreeOk_n5) (fun (t : Unit) => (Exit.normal, (⟨mkE 65 0 [(0, .dat (.list (.int .i64)) x49), (3, .dat (.int .i64) x63), (4, .dat (.int .i64) x159), (5, .dat (.int .i64) x131), (6, .dat (.int .i64) x160), (7, .dat (.int .i64) 0)], []⟩ : St))) := by
  refine Link.of fun K h => ?_
  simp only [spec_TreeOk_n5, wpO_bind, wpO_cond, wpO_map, wpO_some] at h
  exact Awp.of (by kernel_rfl) h

theorem spec_TreeOk_n6_l (x49 : List Int) (x63 : Int) (x159 : Int) (x131 : Int) (x176 : Int) (x177 : Int) : Link spec_TreeOk_ctx LL (Code.fst (Code.fst (Code.snd (Code.fst (Code.snd (Code.snd (Code.snd (Code.fst (Code.fst (Code.snd (Code.fst (Code.fst (Code.snd (Code.fst (Code.snd (Code.snd (Code.snd (Code.snd (bodyOf Try.f25))))))))))))))))))) (Ann.fst (Ann.fst (Ann.snd (Ann.fst (Ann.snd (Ann.snd (Ann.snd (Ann.fst (Ann.fst (Ann.snd (Ann.fst (Ann.fst (Ann.snd (Ann.fst (Ann.snd (Ann.snd (Ann.snd (Ann.snd spec_TreeOk_an)))))))))))))))))) (⟨mkE 65 0 [(0, .dat (.list (.int .i64)) x49), (3, .dat (.int .i64) x63), (4, .dat (.int .i64) x159), (5, .dat (.int .i64) x131), (6, .dat (.int .i64) x176), (7, .dat (.int .i64) x177)], []⟩ : St) (spec_TreeOk_n6 x49 x63 x176 x177) (Sum.elim (fun (t : Int × Int) => (Exit.normal, (⟨mkE 65 0 [(0, .dat (.list (.int .i64)) x49), (3, .dat (.int .i64) x63), (4, .dat (.int .i64) x159), (5, .dat (.int .i64) x131), (6, .dat (.int .i64) t.1), (7, .dat (.int .i64) t.2)], []⟩ : St))) (Sum.elim (fun (t : Bool) => (Exit.ret, (⟨mkE 65 0 [(2, .dat .bool t)], []⟩ : St))) (fun (t : Int) => ((Exit.exit 2), (⟨mkE 65 0 [(0, .dat (.list (.int .i64)) x49), (3, .dat (.int .i64) x63), (4, .dat (.int .i64) x159), (5, .dat (.int .i64) x131), (6, .dat (.int .i64) t)], []⟩ : St))))) := by
  refine Link.of fun K h => ?_
  simp only [spec_TreeOk_n6, wpO_bind, wpO_cond, wpO_map, wpO_some] at h
  exact Awp.of (by kernel_rfl) h

theorem spec_TreeOk_n7_l (x49 : List Int) (x63 : Int) (x159 : Int) (x131 : Int) (x160 : Int) : Link spec_TreeOk_ctx LL (Code.fst (Code.snd (Code.fst (Code.snd (Code.snd (Code.snd (Code.fst (Code.fst (Code.snd (Code.fst (Code.fst (Code.snd (Code.fst (Code.snd (Code.snd (Code.snd (Code.snd (bodyOf Try.f25)))))))))))))))))) (Ann.fst (Ann.snd (Ann.fst (Ann.snd (Ann.snd (Ann.snd (Ann.fst (Ann.fst (Ann.snd (Ann.fst (Ann.fst (Ann.snd (Ann.fst (Ann.snd (Ann.snd (Ann.snd (Ann.snd spec_TreeOk_an))))))))))))))))) (⟨mkE 65 0 [(0, .dat (.list (.int .i64)) x49), (3, .dat (.int .i64) x63), (4, .dat (.int .i64) x159), (5, .dat (.int .i64) x131), (6, .dat (.int .i64) x160), (7, .dat (.int .i64) 0)], []⟩ : St) (spec_TreeOk_n7 x49 x63 x160) (Sum.elim (fun (t : Bool) => (Exit.ret, (⟨mkE 65 0 [(2, .dat .bool t)], []⟩ : St))) (fun (t : Int) => ((Exit.exit 2), (⟨mkE 65 0 [(0, .dat (.list (.int .i64)) x49), (3, .dat (.int .i64) x63), (4, .dat (.int .i64) x159), (5, .dat (.int .i64) x131), (6, .dat (.int .i64) t)], []⟩ : St)))) := by
  unfold spec_TreeOk_n7
  exact Link.cast (by kernel_rfl) (by kernel_rfl) (link_loop (mk := fun (s : Int × Int) => (⟨mkE 65 0 [(0, .dat (.list (.int .i64)) x49), (3, .dat (.int .i64) x63), (4, .dat (.int .i64) x159), (5, .dat (.int .i64) x131), (6, .dat (.int .i64) s.1), (7, .dat (.int .i64) s.2)], []⟩ : St)) (fin := (Sum.elim (fun (t : Bool) => (Exit.ret, (⟨mkE 65 0 [(2, .dat .bool t)], []⟩ : St))) (fun (t : Int) => ((Exit.exit 2), (⟨mkE 65 0 [(0, .dat (.list (.int .i64)) x49), (3, .dat (.int .i64) x63), (4, .dat (.int .i64) x159), (5, .dat (.int .i64) x131), (6, .dat (.int .i64) t)], []⟩ : St))))) (by
  rintro (t | t) f K h
  · exact h
  · exact h) (fun s => link_map (spec_TreeOk_n6_l x49 x63 x159 x131 s.1 s.2) (Sum.elim (fun (t : Int × Int) => Sum.inl (t.1, t.2)) (Sum.elim (fun (t : Bool) => Sum.inr (Sum.inl t)) (fun (t : Int) => Sum.inr (Sum.inr t)))) (by
  rintro (t | t | t)
  · kernel_rfl
  · kernel_rfl
  · kernel_rfl)) (x160, 0))

theorem spec_TreeOk_n8_l (x49 : List Int) (x63 : Int) (x159 : Int) (x131 : Int) (x160 : Int) : Link spec_TreeOk_ctx LL (Code.snd (Code.fst (Code.snd (Code.snd (Code.snd (Code.fst (Code.fst (Code.snd (Code.fst (Code.fst (Code.snd (Code.fst (Code.snd (Code.snd (Code.snd (Code.snd (bodyOf Try.f25))))))))))))))))) (Ann.snd (Ann.fst (Ann.snd (Ann.snd (Ann.snd (Ann.fst (Ann.fst (Ann.snd (Ann.fst (Ann.fst (Ann.snd (Ann.fst (Ann.snd (Ann.snd (Ann.snd (Ann.snd spec_TreeOk_an)))))))))))))))) (⟨mkE 65 0 [(0, .dat (.list (.int .i64)) x49), (3, .dat (.int .i64) x63), (4, .dat (.int .i64) x159), (5, .dat (.int .i64) x131), (6, .dat (.int .i64) x160), (7, .dat (.int .i64) 0)], []⟩ : St) (spec_TreeOk_n8 x49 x63 x160) (Sum.elim (fun (t : Int) => (Exit.normal, (⟨mkE 65 0 [(0, .dat (.list (.int .i64)) x49), (3, .dat (.int .i64) x63), (4, .dat (.int .i64) x159), (5, .dat (.int .i64) x131), (6, .dat (.int .i64) t)], []⟩ : St))) (fun (t : Bool) => (Exit.ret, (⟨mkE 65 0 [(2, .dat .bool t)], []⟩ : St)))) := by
  unfold spec_TreeOk_n8
  exact Link.cast (by kernel_rfl) (by kernel_rfl) (link_block (id := 2) (spec_TreeOk_n7_l x49 x63 x159 x131 x160) (Sum.elim (fun (t : Bool) => (Sum.inr t)) (fun (t : Int) => (Sum.inl t))) (by
  rintro (t | t) K h
  · exact Eq.mp (by kernel_rfl) h
  · exact Eq.mp (by kernel_rfl) h))

theorem spec_TreeOk_n9_l (x49 : List Int) (x63 : Int) (x159 : Int) (x131 : Int) (x160 : Int) : Link spec_TreeOk_ctx LL (Code.fst (Code.snd (Code.snd (Code.snd (Code.fst (Code.fst (Code.snd (Code.fst (Code.fst (Code.snd (Code.fst (Code.snd (Code.snd (Code.snd (Code.snd (bodyOf Try.f25)))))))))))))))) (Ann.fst (Ann.snd (Ann.snd (Ann.snd (Ann.fst (Ann.fst (Ann.snd (Ann.fst (Ann.fst (Ann.snd (Ann.fst (Ann.snd (Ann.snd (Ann.snd (Ann.snd spec_TreeOk_an))))))))))))))) (⟨mkE 65 0 [(0, .dat (.list (.int .i64)) x49), (3, .dat (.int .i64) x63), (4, .dat (.int .i64) x159), (5, .dat (.int .i64) x131), (6, .dat (.int .i64) x160)], []⟩ : St) (spec_TreeOk_n9 x49 x63 x160) (Sum.elim (fun (t : Int) => (Exit.normal, (⟨mkE 65 0 [(0, .dat (.list (.int .i64)) x49), (3, .dat (.int .i64) x63), (4, .dat (.int .i64) x159), (5, .dat (.int .i64) x131), (6, .dat (.int .i64) t)], []⟩ : St))) (fun (t : Bool) => (Exit.ret, (⟨mkE 65 0 [(2, .dat .bool t)], []⟩ : St)))) := by
  unfold spec_TreeOk_n9
  exact Link.cast (by kernel_rfl) (by kernel_rfl) (link_seq (b := (Code.snd (Code.fst (Code.snd (Code.snd (Code.snd (Code.fst (Code.fst (Code.snd (Code.fst (Code.fst (Code.snd (Code.fst (Code.snd (Code.snd (Code.snd (Code.snd (bodyOf Try.f25)))))))))))))))))) (y := (Ann.snd (Ann.fst (Ann.snd (Ann.snd (Ann.snd (Ann.fst (Ann.fst (Ann.snd (Ann.fst (Ann.fst (Ann.snd (Ann.fst (Ann.snd (Ann.snd (Ann.snd (Ann.snd spec_TreeOk_an))))))))))))))))) (spec_TreeOk_n5_l x49 x63 x159 x131 x160) (fun (t : Unit) => (spec_TreeOk_n8_l x49 x63 x159 x131 x160)))

theorem spec_TreeOk_n10_l (x49 : List Int) (x63 : Int) (x159 : Int) (x131 : Int) (x176 : Int) : Link spec_TreeOk_ctx LL (Code.snd (Code.snd (Code.snd (Code.snd (Code.fst (Code.fst (Code.snd (Code.fst (Code.fst (Code.snd (Code.fst (Code.snd (Code.snd (Code.snd (Code.snd (bodyOf Try.f25)))))))))))))))) (Ann.snd (Ann.snd (Ann.snd (Ann.snd (Ann.fst (Ann.fst (Ann.snd (Ann.fst (Ann.fst (Ann.snd (Ann.fst (Ann.snd (Ann.snd (Ann.snd (Ann.snd spec_TreeOk_an))))))))))))))) (⟨mkE 65 0 [(0, .dat (.list (.int .i64)) x49), (3, .dat (.int .i64) x63), (4, .dat (.int .i64) x159), (5, .dat (.int .i64) x131), (6, .dat (.int .i64) x176)], []⟩ : St) (spec_TreeOk_n10 x176) (Sum.elim (fun (t : Unit) => (Exit.normal, (⟨mkE 65 0 [(0, .dat (.list (.int .i64)) x49), (3, .dat (.int .i64) x63), (4, .dat (.int .i64) x159), (5, .dat (.int .i64) x131)], []⟩ : St))) (fun (t : Bool) => (Exit.ret, (⟨mkE 65 0 [(2, .dat .bool t)], []⟩ : St)))) := by
  refine Link.of fun K h => ?_
  simp only [spec_TreeOk_n10, wpO_bind, wpO_cond, wpO_map, wpO_some] at h
  exact Awp.of (by kernel_rfl) h

theorem spec_TreeOk_n11_l (x49 : List Int) (x63 : Int) (x159 : Int) (x131 : Int) (x160 : Int) : Link spec_TreeOk_ctx LL (Code.snd (Code.snd (Code.snd (Code.fst (Code.fst (Code.snd (Code.fst (Code.fst (Code.snd (Code.fst (Code.snd (Code.snd (Code.snd (Code.snd (bodyOf Try.f25))))))))))))))) (Ann.snd (Ann.snd (Ann.snd (Ann.fst (Ann.fst (Ann.snd (Ann.fst (Ann.fst (Ann.snd (Ann.fst (Ann.snd (Ann.snd (Ann.snd (Ann.snd spec_TreeOk_an)))))))))))))) (⟨mkE 65 0 [(0, .dat (.list (.int .i64)) x49), (3, .dat (.int .i64) x63), (4, .dat (.int .i64) x159), (5, .dat (.int .i64) x131), (6, .dat (.int .i64) x160)], []⟩ : St) (spec_TreeOk_n11 x49 x63 x160) (Sum.elim (fun (t : Unit) => (Exit.normal, (⟨mkE 65 0 [(0, .dat (.list (.int .i64)) x49), (3, .dat (.int .i64) x63), (4, .dat (.int .i64) x159), (5, .dat (.int .i64) x131)], []⟩ : St))) (fun (t : Bool) => (Exit.ret, (⟨mkE 65 0 [(2, .dat .bool t)], []⟩ : St)))) := by
  unfold spec_TreeOk_n11
  exact Link.cast (by kernel_rfl) (by kernel_rfl) (link_seq2 (b := (Code.snd (Code.snd (Code.snd (Code.snd (Code.fst (Code.fst (Code.snd (Code.fst (Code.fst (Code.snd (Code.fst (Code.snd (Code.snd (Code.snd (Code.snd (bodyOf Try.f25))))))))))))))))) (y := (Ann.snd (Ann.snd (Ann.snd (Ann.snd (Ann.fst (Ann.fst (Ann.snd (Ann.fst (Ann.fst (Ann.snd (Ann.fst (Ann.snd (Ann.snd (Ann.snd (Ann.snd spec_TreeOk_an)))))))))))))))) (spec_TreeOk_n9_l x49 x63 x159 x131 x160) (fun (t : Int) => (spec_TreeOk_n10_l x49 x63 x159 x131 t)) (fun (t : Bool) => (Sum.inr t)) (by
  rintro t
  · kernel_rfl) (by
  rintro t f K h
  · exact h))

theorem spec_TreeOk_n12_l (x49 : List Int) (x63 : Int) (x130 : Int) (x131 : Int) : Link spec_TreeOk_ctx LL (Code.fst (Code.fst (Code.snd (Code.fst (Code.fst (Code.snd (Code.fst (Code.snd (Code.snd (Code.snd (Code.snd (bodyOf Try.f25)))))))))))) (Ann.fst (Ann.fst (Ann.snd (Ann.fst (Ann.fst (Ann.snd (Ann.fst (Ann.snd (Ann.snd (Ann.snd (Ann.snd spec_TreeOk_an))))))))))) (⟨mkE 65 0 [(0, .dat (.list (.int .i64)) x49), (3, .dat (.int .i64) x63), (4, .dat (.int .i64) x130), (5, .dat (.int .i64) x131)], []⟩ : St) (spec_TreeOk_n12 x49 x63 x130 x131) (Sum.elim (fun (t : Int) => (Exit.normal, (⟨mkE 65 0 [(0, .dat (.list (.int .i64)) x49), (3, .dat (.int .i64) x63), (4, .dat (.int .i64) t), (5, .dat (.int .i64) x131)], []⟩ : St))) (fun (t : Bool) => (Exit.ret, (⟨mkE 65 0 [(2, .dat .bool t)], []⟩ : St)))) := by
  unfold spec_TreeOk_n12
  exact Link.cast (by kernel_rfl) (by kernel_rfl) (link_group (c := (Code.fst (Code.snd (Code.snd (Code.fst (Code.fst (Code.snd (Code.fst (Code.fst (Code.snd (Code.fst (Code.snd (Code.snd (Code.snd (Code.snd (bodyOf Try.f25)))))))))))))))) (a := (Ann.fst (Ann.snd (Ann.snd (Ann.fst (Ann.fst (Ann.snd (Ann.fst (Ann.fst (Ann.snd (Ann.fst (Ann.snd (Ann.snd (Ann.snd (Ann.snd spec_TreeOk_an))))))))))))))) [(Code.fst (Code.fst (Code.fst (Code.snd (Code.fst (Code.fst (Code.snd (Code.fst (Code.snd (Code.snd (Code.snd (Code.snd (bodyOf Try.f25))))))))))))), (Code.fst (Code.snd (Code.fst (Code.fst (Code.snd (Code.fst (Code.fst (Code.snd (Code.fst (Code.snd (Code.snd (Code.snd (Code.snd (bodyOf Try.f25))))))))))))))] [(Ann.fst (Ann.fst (Ann.fst (Ann.snd (Ann.fst (Ann.fst (Ann.snd (Ann.fst (Ann.snd (Ann.snd (Ann.snd (Ann.snd spec_TreeOk_an)))))))))))), (Ann.fst (Ann.snd (Ann.fst (Ann.fst (Ann.snd (Ann.fst (Ann.fst (Ann.snd (Ann.fst (Ann.snd (Ann.snd (Ann.snd (Ann.snd spec_TreeOk_an)))))))))))))] rfl (link_seq2 (b := (Code.snd (Code.snd (Code.snd (Code.fst (Code.fst (Code.snd (Code.fst (Code.fst (Code.snd (Code.fst (Code.snd (Code.snd (Code.snd (Code.snd (bodyOf Try.f25)))))))))))))))) (y := (Ann.snd (Ann.snd (Ann.snd (Ann.fst (Ann.fst (Ann.snd (Ann.fst (Ann.fst (Ann.snd (Ann.fst (Ann.snd (Ann.snd (Ann.snd (Ann.snd spec_TreeOk_an))))))))))))))) (spec_TreeOk_n4_l x49 x63 x130 x131) (fun (t : Int × Int) => (link_map (spec_TreeOk_n11_l x49 x63 t.1 x131 t.2) (Sum.elim (fun (u : Unit) => (Sum.inl t.1)) (fun (u : Bool) => (Sum.inr u))) (by
  rintro (t | t)
  · kernel_rfl
  · kernel_rfl))) (fun (t : Bool) => (Sum.inr t)) (by
  rintro t
  · kernel_rfl) (by
  rintro t f K h
  · exact h)))

theorem spec_TreeOk_n13_l (x49 : List Int) (x63 : Int) (x130 : Int) (x131 : Int) : Link spec_TreeOk_ctx LL (Code.fst (Code.snd (Code.fst (Code.fst (Code.snd (Code.fst (Code.snd (Code.snd (Code.snd (Code.snd (bodyOf Try.f25))))))))))) (Ann.fst (Ann.snd (Ann.fst (Ann.fst (Ann.snd (Ann.fst (Ann.snd (Ann.snd (Ann.snd (Ann.snd spec_TreeOk_an)))))))))) (⟨mkE 65 0 [(0, .dat (.list (.int .i64)) x49), (3, .dat (.int .i64) x63), (4, .dat (.int .i64) x130), (5, .dat (.int .i64) x131)], []⟩ : St) (spec_TreeOk_n13 x49 x63 x130 x131) (Sum.elim (fun (t : Int) => (Exit.normal, (⟨mkE 65 0 [(0, .dat (.list (.int .i64)) x49), (3, .dat (.int .i64) x63), (4, .dat (.int .i64) t), (5, .dat (.int .i64) x131)], []⟩ : St))) (fun (t : Bool) => (Exit.ret, (⟨mkE 65 0 [(2, .dat .bool t)], []⟩ : St)))) := by
  unfold spec_TreeOk_n13
  exact Link.cast (by kernel_rfl) (by kernel_rfl) (link_block (id := 1) (spec_TreeOk_n12_l x49 x63 x130 x131) (Sum.elim (fun (t : Int) => (Sum.inl t)) (fun (t : Bool) => (Sum.inr t))) (by
  rintro (t | t) K h
  · exact Eq.mp (by kernel_rfl) h
  · exact Eq.mp (by kernel_rfl) h))

theorem spec_TreeOk_n14_l (x49 : List Int) (x63 : Int) (x159 : Int) (x131 : Int) : Link spec_TreeOk_ctx LL (Code.snd (Code.snd (Code.fst (Code.fst (Code.snd (Code.fst (Code.snd (Code.snd (Code.snd (Code.snd (bodyOf Try.f25))))))))))) (Ann.snd (Ann.snd (Ann.fst (Ann.fst (Ann.snd (Ann.fst (Ann.snd (Ann.snd (Ann.snd (Ann.snd spec_TreeOk_an)))))))))) (⟨mkE 65 0 [(0, .dat (.list (.int .i64)) x49), (3, .dat (.int .i64) x63), (4, .dat (.int .i64) x159), (5, .dat (.int .i64) x131)], []⟩ : St) (spec_TreeOk_n14 x131) (fun (t : Int) => (Exit.normal, (⟨mkE 65 0 [(0, .dat (.list (.int .i64)) x49), (3, .dat (.int .i64) x63), (4, .dat (.int .i64) x159), (5, .dat (.int .i64) t)], []⟩ : St))) := by
  refine Link.of fun K h => ?_
  simp only [spec_TreeOk_n14, wpO_bind, wpO_cond, wpO_map, wpO_some] at h
  exact Awp.of (by kernel_rfl) h

theorem spec_TreeOk_n15_l (x49 : List Int) (x63 : Int) (x130 : Int) (x131 : Int) : Link spec_TreeOk_ctx LL (Code.snd (Code.fst (Code.fst (Code.snd (Code.fst (Code.snd (Code.snd (Code.snd (Code.snd (bodyOf Try.f25)))))))))) (Ann.snd (Ann.fst (Ann.fst (Ann.snd (Ann.fst (Ann.snd (Ann.snd (Ann.snd (Ann.snd spec_TreeOk_an))))))))) (⟨mkE 65 0 [(0, .dat (.list (.int .i64)) x49), (3, .dat (.int .i64) x63), (4, .dat (.int .i64) x130), (5, .dat (.int .i64) x131)], []⟩ : St) (spec_TreeOk_n15 x49 x63 x130 x131) (Sum.elim (fun (t : Int × Int) => (Exit.normal, (⟨mkE 65 0 [(0, .dat (.list (.int .i64)) x49), (3, .dat (.int .i64) x63), (4, .dat (.int .i64) t.1), (5, .dat (.int .i64) t.2)], []⟩ : St))) (fun (t : Bool) => (Exit.ret, (⟨mkE 65 0 [(2, .dat .bool t)], []⟩ : St)))) := by
  unfold spec_TreeOk_n15
  exact Link.cast (by kernel_rfl) (by kernel_rfl) (link_seq2 (b := (Code.snd (Code.snd (Code.fst (Code.fst (Code.snd (Code.fst (Code.snd (Code.snd (Code.snd (Code.snd (bodyOf Try.f25)))))))))))) (y := (Ann.snd (Ann.snd (Ann.fst (Ann.fst (Ann.snd (Ann.fst (Ann.snd (Ann.snd (Ann.snd (Ann.snd spec_TreeOk_an))))))))))) (spec_TreeOk_n13_l x49 x63 x130 x131) (fun (t : Int) => (link_map (spec_TreeOk_n14_l x49 x63 t x131) (fun (u : Int) => (Sum.inl (t, u))) (by
  rintro t
  · kernel_rfl))) (fun (t : Bool) => (Sum.inr t)) (by
  rintro t
  · kernel_rfl) (by
  rintro t f K h
  · exact h))

theorem spec_TreeOk_n16_l (x49 : List Int) (x63 : Int) (x130 : Int) (x131 : Int) : Link spec_TreeOk_ctx LL (Code.fst (Code.fst (Code.snd (Code.fst (Code.snd (Code.snd (Code.snd (Code.snd (bodyOf Try.f25))))))))) (Ann.fst (Ann.fst (Ann.snd (Ann.fst (Ann.snd (Ann.snd (Ann.snd (Ann.snd spec_TreeOk_an)))))))) (⟨mkE 65 0 [(0, .dat (.list (.int .i64)) x49), (3, .dat (.int .i64) x63), (4, .dat (.int .i64) x130), (5, .dat (.int .i64) x131)], []⟩ : St) (spec_TreeOk_n16 x49 x63 x130 x131) (Sum.elim (fun (t : Int × Int) => (Exit.normal, (⟨mkE 65 0 [(0, .dat (.list (.int .i64)) x49), (3, .dat (.int .i64) x63), (4, .dat (.int .i64) t.1), (5, .dat (.int .i64) t.2)], []⟩ : St))) (Sum.elim (fun (t : Bool) => (Exit.ret, (⟨mkE 65 0 [(2, .dat .bool t)], []⟩ : St))) (fun (t : Int) => ((Exit.exit 0), (⟨mkE 65 0 [(4, .dat (.int .i64) t)], []⟩ : St))))) := by
  unfold spec_TreeOk_n16
  exact Link.cast (by kernel_rfl) (by kernel_rfl) (link_seq2 (b := (Code.snd (Code.fst (Code.fst (Code.snd (Code.fst (Code.snd (Code.snd (Code.snd (Code.snd (bodyOf Try.f25))))))))))) (y := (Ann.snd (Ann.fst (Ann.fst (Ann.snd (Ann.fst (Ann.snd (Ann.snd (Ann.snd (Ann.snd spec_TreeOk_an)))))))))) (spec_TreeOk_n3_l x49 x63 x130 x131) (fun (t : Unit) => (link_map (spec_TreeOk_n15_l x49 x63 x130 x131) (Sum.elim (fun (t : Int × Int) => (Sum.inl (t.1, t.2))) (fun (t : Bool) => (Sum.inr (Sum.inl t)))) (by
  rintro (t | t)
  · kernel_rfl
  · kernel_rfl))) (fun (t : Int) => (Sum.inr (Sum.inr t))) (by
  rintro t
  · kernel_rfl) (by
  rintro t f K h
  · exact h))

theorem spec_TreeOk_n17_l (x49 : List Int) (x63 : Int) : Link spec_TreeOk_ctx LL (Code.fst (Code.snd (Code.fst (Code.snd (Code.snd (Code.snd (Code.snd (bodyOf Try.f25)))))))) (Ann.fst (Ann.snd (Ann.fst (Ann.snd (Ann.snd (Ann.snd (Ann.snd spec_TreeOk_an))))))) (⟨mkE 65 0 [(0, .dat (.list (.int .i64)) x49), (3, .dat (.int .i64) x63), (4, .dat (.int .i64) 0), (5, .dat (.int .i64) 0)], []⟩ : St) (spec_TreeOk_n17 x49 x63) (Sum.elim (fun (t : Bool) => (Exit.ret, (⟨mkE 65 0 [(2, .dat .bool t)], []⟩ : St))) (fun (t : Int) => ((Exit.exit 0), (⟨mkE 65 0 [(4, .dat (.int .i64) t)], []⟩ : St)))) := by
  unfold spec_TreeOk_n17
  exact Link.cast (by kernel_rfl) (by kernel_rfl) (link_loop (mk := fun (s : Int × Int) => (⟨mkE 65 0 [(0, .dat (.list (.int .i64)) x49), (3, .dat (.int .i64) x63), (4, .dat (.int .i64) s.1), (5, .dat (.int .i64) s.2)], []⟩ : St)) (fin := (Sum.elim (fun (t : Bool) => (Exit.ret, (⟨mkE 65 0 [(2, .dat .bool t)], []⟩ : St))) (fun (t : Int) => ((Exit.exit 0), (⟨mkE 65 0 [(4, .dat (.int .i64) t)], []⟩ : St))))) (by
  rintro (t | t) f K h
  · exact h
  · exact h) (fun s => link_map (spec_TreeOk_n16_l x49 x63 s.1 s.2) (Sum.elim (fun (t : Int × Int) => Sum.inl (t.1, t.2)) (Sum.elim (fun (t : Bool) => Sum.inr (Sum.inl t)) (fun (t : Int) => Sum.inr (Sum.inr t)))) (by
  rintro (t | t | t)
  · kernel_rfl
  · kernel_rfl
  · kernel_rfl)) (0, 0))

theorem spec_TreeOk_n18_l (x49 : List Int) (x63 : Int) : Link spec_TreeOk_ctx LL (Code.snd (Code.fst (Code.snd (Code.snd (Code.snd (Code.snd (bodyOf Try.f25))))))) (Ann.snd (Ann.fst (Ann.snd (Ann.snd (Ann.snd (Ann.snd spec_TreeOk_an)))))) (⟨mkE 65 0 [(0, .dat (.list (.int .i64)) x49), (3, .dat (.int .i64) x63), (4, .dat (.int .i64) 0), (5, .dat (.int .i64) 0)], []⟩ : St) (spec_TreeOk_n18 x49 x63) (Sum.elim (fun (t : Int) => (Exit.normal, (⟨mkE 65 0 [(4, .dat (.int .i64) t)], []⟩ : St))) (fun (t : Bool) => (Exit.ret, (⟨mkE 65 0 [(2, .dat .bool t)], []⟩ : St)))) := by
  unfold spec_TreeOk_n18
  exact Link.cast (by kernel_rfl) (by kernel_rfl) (link_block (id := 0) (spec_TreeOk_n17_l x49 x63) (Sum.elim (fun (t : Bool) => (Sum.inr t)) (fun (t : Int) => (Sum.inl t))) (by
  rintro (t | t) K h
  · exact Eq.mp (by kernel_rfl) h
  · exact Eq.mp (by kernel_rfl) h))

theorem spec_TreeOk_n19_l (x49 : List Int) (x63 : Int) : Link spec_TreeOk_ctx LL (Code.fst (Code.snd (Code.snd (Code.snd (Code.snd (bodyOf Try.f25)))))) (Ann.fst (Ann.snd (Ann.snd (Ann.snd (Ann.snd spec_TreeOk_an))))) (⟨mkE 65 0 [(0, .dat (.list (.int .i64)) x49), (3, .dat (.int .i64) x63), (4, .dat (.int .i64) 0)], []⟩ : St) (spec_TreeOk_n19 x49 x63) (Sum.elim (fun (t : Int) => (Exit.normal, (⟨mkE 65 0 [(4, .dat (.int .i64) t)], []⟩ : St))) (fun (t : Bool) => (Exit.ret, (⟨mkE 65 0 [(2, .dat .bool t)], []⟩ : St)))) := by
  unfold spec_TreeOk_n19
  exact Link.cast (by kernel_rfl) (by kernel_rfl) (link_seq (b := (Code.snd (Code.fst (Code.snd (Code.snd (Code.snd (Code.snd (bodyOf Try.f25)))))))) (y := (Ann.snd (Ann.fst (Ann.snd (Ann.snd (Ann.snd (Ann.snd spec_TreeOk_an))))))) (spec_TreeOk_n2_l x49 x63) (fun (t : Unit) => (spec_TreeOk_n18_l x49 x63)))

theorem spec_TreeOk_n20_l (x130 : Int) : Link spec_TreeOk_ctx LL (Code.snd (Code.snd (Code.snd (Code.snd (Code.snd (bodyOf Try.f25)))))) (Ann.snd (Ann.snd (Ann.snd (Ann.snd (Ann.snd spec_TreeOk_an))))) (⟨mkE 65 0 [(4, .dat (.int .i64) x130)], []⟩ : St) (spec_TreeOk_n20 x130) (fun (t : Bool) => (Exit.ret, (⟨mkE 65 0 [(2, .dat .bool t)], []⟩ : St))) := by
  refine Link.of fun K h => ?_
  simp only [spec_TreeOk_n20, wpO_bind, wpO_cond, wpO_map, wpO_some] at h
  exact Awp.of (by kernel_rfl) h

theorem spec_TreeOk_n21_l (x49 : List Int) (x63 : Int) : Link spec_TreeOk_ctx LL (Code.snd (Code.snd (Code.snd (Code.snd (bodyOf Try.f25))))) (Ann.snd (Ann.snd (Ann.snd (Ann.snd spec_TreeOk_an)))) (⟨mkE 65 0 [(0, .dat (.list (.int .i64)) x49), (3, .dat (.int .i64) x63), (4, .dat (.int .i64) 0)], []⟩ : St) (spec_TreeOk_n21 x49 x63) (fun (t : Bool) => (Exit.ret, (⟨mkE 65 0 [(2, .dat .bool t)], []⟩ : St))) := by
  unfold spec_TreeOk_n21
  exact Link.cast (by kernel_rfl) (by kernel_rfl) (link_seq2 (b := (Code.snd (Code.snd (Code.snd (Code.snd (Code.snd (bodyOf Try.f25))))))) (y := (Ann.snd (Ann.snd (Ann.snd (Ann.snd (Ann.snd spec_TreeOk_an)))))) (spec_TreeOk_n19_l x49 x63) (fun (t : Int) => (spec_TreeOk_n20_l t)) (fun (t : Bool) => t) (by
  rintro t
  · kernel_rfl) (by
  rintro t f K h
  · exact h))

theorem spec_TreeOk_n22_l (x49 : List Int) : Link spec_TreeOk_ctx LL (bodyOf Try.f25) spec_TreeOk_an (⟨mkE 65 0 [(0, .dat (.list (.int .i64)) x49)], []⟩ : St) (spec_TreeOk_n22 x49) (fun (t : Bool) => (Exit.ret, (⟨mkE 65 0 [(2, .dat .bool t)], []⟩ : St))) := by
  unfold spec_TreeOk_n22
  exact Link.cast (by kernel_rfl) (by kernel_rfl) (link_group (c := (Code.fst (Code.snd (Code.snd (Code.snd (bodyOf Try.f25)))))) (a := (Ann.fst (Ann.snd (Ann.snd (Ann.snd spec_TreeOk_an))))) [(Code.fst (bodyOf Try.f25)), (Code.fst (Code.snd (bodyOf Try.f25))), (Code.fst (Code.snd (Code.snd (bodyOf Try.f25))))] [(Ann.fst spec_TreeOk_an), (Ann.fst (Ann.snd spec_TreeOk_an)), (Ann.fst (Ann.snd (Ann.snd spec_TreeOk_an)))] rfl (link_seq2 (b := (Code.snd (Code.snd (Code.snd (Code.snd (bodyOf Try.f25)))))) (y := (Ann.snd (Ann.snd (Ann.snd (Ann.snd spec_TreeOk_an))))) (spec_TreeOk_n1_l x49) (fun (t : Int) => (spec_TreeOk_n21_l x49 t)) (fun (t : Bool) => t) (by
  rintro t
  · kernel_rfl) (by
  rintro t f K h
  · exact h)))

theorem spec_TreeOk_e (x49 : List Int) {r : AV} {H' : Heap} (h : (Ans.mk _ (spec_TreeOk x49) (fun (t : Bool) => (.dat .bool t, []))).run = some (r, H')) : Awp spec_TreeOk_ctx LL (bodyOf Try.f25) spec_TreeOk_an (⟨mkE 65 0 [(0, .dat (.list (.int .i64)) x49)], []⟩ : St) (Ret (tlook tys) Try.f25.results.toList r H') :=
  ret_of' (spec_TreeOk_n22_l x49) (by unfold spec_TreeOk; kernel_rfl) (by
  intro t
  exact ret_mk [.dat .bool t] (by kernel_rfl) (by kernel_rfl) (by kernel_rfl) (by kernel_rfl)) h

def F_spec_TreeOk : Fun := fun avs H =>
  match avs, H with
  | [.dat (.list (.int .i64)) x49], [] => ⟨_, spec_TreeOk x49, fun (t : Bool) => (.dat .bool t, [])⟩
  | _, _ => Ans.no

theorem spec_TreeOk_sound : Sound Try.prog 25 F_spec_TreeOk := by
  refine fn_sound' (C := spec_TreeOk_ctx) (c := bodyOf Try.f25) (cok_of tys_ok (List.forall_mem_cons.2 ⟨spec_l1In_sound, by simp⟩) (List.forall_mem_cons.2 ⟨Try.call29, by simp⟩) (by kernel_rfl)) Try.func25 (by kernel_rfl) LL spec_TreeOk_an ?_
  intro avs H r H' h
  unfold F_spec_TreeOk at h
  split at h
  · refine Awp.cast ?_ ?_ ?_ (spec_TreeOk_e _ h) <;> kernel_rfl
  · simp [Ans.no, Ans.run] at h

/-! loop.example/headtrees/spec.RootOf -/

def spec_RootOf_an : Ann := (.seq (.leaf [0]) (.seq (.seq (.leaf [0, 3]) (.block (.loop (.seq (.seq (.leaf [0, 3, 11]) (.cond (.leaf [0, 3]) (.leaf []))) (.seq (.block (.seq (.leaf [0, 3, 18]) (.cond (.seq (.leaf [2]) (.leaf [2])) (.leaf [0, 3])))) (.leaf [0, 3])))))) (.seq (.leaf [2]) (.leaf [2]))))

noncomputable def spec_RootOf_ctx : Ctx := ⟨tlook tys, olook [(25, F_spec_TreeOk)], ioF, 0⟩

theorem spec_RootOf_n1_l (x46 : List Int) : Link spec_RootOf_ctx LL (Code.fst (bodyOf Try.f9)) (Ann.fst spec_RootOf_an) (⟨mkE 21 0 [(0, .dat (.list (.int .i64)) x46)], []⟩ : St) (spec_RootOf_n1) (fun (t : Unit) => (Exit.normal, (⟨mkE 21 0 [(0, .dat (.list (.int .i64)) x46)], []⟩ : St))) := by
  refine Link.of fun K h => ?_
  simp only [spec_RootOf_n1, wpO_bind, wpO_cond, wpO_map, wpO_some] at h
  exact Awp.of (by kernel_rfl) h

theorem spec_RootOf_n2_l (x46 : List Int) : Link spec_RootOf_ctx LL (Code.fst (Code.fst (Code.snd (bodyOf Try.f9)))) (Ann.fst (Ann.fst (Ann.snd spec_RootOf_an))) (⟨mkE 21 0 [(0, .dat (.list (.int .i64)) x46)], []⟩ : St) (spec_RootOf_n2) (fun (t : Unit) => (Exit.normal, (⟨mkE 21 0 [(0, .dat (.list (.int .i64)) x46), (3, .dat (.int .i64) 0)], []⟩ : St))) := by
  refine Link.of fun K h => ?_
  simp only [spec_RootOf_n2, wpO_bind, wpO_cond, wpO_map, wpO_some] at h
  exact Awp.of (by kernel_rfl) h

theorem spec_RootOf_n3_l (x46 : List Int) (x213 : Int) : Link spec_RootOf_ctx LL (Code.fst (Code.fst (Code.snd (Code.fst (Code.snd (bodyOf Try.f9)))))) (Ann.fst (Ann.fst (Ann.snd (Ann.fst (Ann.snd spec_RootOf_an))))) (⟨mkE 21 0 [(0, .dat (.list (.int .i64)) x46), (3, .dat (.int .i64) x213)], []⟩ : St) (spec_RootOf_n3 x46 x213) (Sum.elim (fun (t : Int) => (Exit.normal, (⟨mkE 21 0 [(0, .dat (.list (.int .i64)) x46), (3, .dat (.int .i64) t)], []⟩ : St))) (Sum.elim (fun (t : Int) => (Exit.ret, (⟨mkE 21 0 [(2, .dat (.int .i64) t)], []⟩ : St))) (fun (t : Unit) => ((Exit.exit 0), (⟨mkE 21 0 [], []⟩ : St))))) := by
  refine Link.of fun K h => ?_
  simp only [spec_RootOf_n3, wpO_bind, wpO_cond, wpO_map, wpO_some] at h
  exact Awp.of (by kernel_rfl) h

theorem spec_RootOf_n4_l (x46 : List Int) : Link spec_RootOf_ctx LL (Code.fst (Code.snd (Code.fst (Code.snd (bodyOf Try.f9))))) (Ann.fst (Ann.snd (Ann.fst (Ann.snd spec_RootOf_an)))) (⟨mkE 21 0 [(0, .dat (.list (.int .i64)) x46), (3, .dat (.int .i64) 0)], []⟩ : St) (spec_RootOf_n4 x46) (Sum.elim (fun (t : Int) => (Exit.ret, (⟨mkE 21 0 [(2, .dat (.int .i64) t)], []⟩ : St))) (fun (t : Unit) => ((Exit.exit 0), (⟨mkE 21 0 [], []⟩ : St)))) := by
  unfold spec_RootOf_n4
  exact Link.cast (by kernel_rfl) (by kernel_rfl) (link_loop (mk := fun (s : Int) => (⟨mkE 21 0 [(0, .dat (.list (.int .i64)) x46), (3, .dat (.int .i64) s)], []⟩ : St)) (fin := (Sum.elim (fun (t : Int) => (Exit.ret, (⟨mkE 21 0 [(2, .dat (.int .i64) t)], []⟩ : St))) (fun (t : Unit) => ((Exit.exit 0), (⟨mkE 21 0 [], []⟩ : St))))) (by
  rintro (t | t) f K h
  · exact h
  · exact h) (fun s => link_map (spec_RootOf_n3_l x46 s) (Sum.elim (fun (t : Int) => Sum.inl t) (Sum.elim (fun (t : Int) => Sum.inr (Sum.inl t)) (fun (t : Unit) => Sum.inr (Sum.inr t)))) (by
  rintro (t | t | t)
  · kernel_rfl
  · kernel_rfl
  · kernel_rfl)) 0)

theorem spec_RootOf_n5_l (x46 : List Int) : Link spec_RootOf_ctx LL (Code.snd (Code.fst (Code.snd (bodyOf Try.f9)))) (Ann.snd (Ann.fst (Ann.snd spec_RootOf_an))) (⟨mkE 21 0 [(0, .dat (.list (.int .i64)) x46), (3, .dat (.int .i64) 0)], []⟩ : St) (spec_RootOf_n5 x46) (Sum.elim (fun (t : Unit) => (Exit.normal, (⟨mkE 21 0 [], []⟩ : St))) (fun (t : Int) => (Exit.ret, (⟨mkE 21 0 [(2, .dat (.int .i64) t)], []⟩ : St)))) := by
  unfold spec_RootOf_n5
  exact Link.cast (by kernel_rfl) (by kernel_rfl) (link_block (id := 0) (spec_RootOf_n4_l x46) (Sum.elim (fun (t : Int) => (Sum.inr t)) (fun (t : Unit) => (Sum.inl ()))) (by
  rintro (t | t) K h
  · exact Eq.mp (by kernel_rfl) h
  · exact Eq.mp (by kernel_rfl) h))

theorem spec_RootOf_n6_l (x46 : List Int) : Link spec_RootOf_ctx LL (Code.fst (Code.snd (bodyOf Try.f9))) (Ann.fst (Ann.snd spec_RootOf_an)) (⟨mkE 21 0 [(0, .dat (.list (.int .i64)) x46)], []⟩ : St) (spec_RootOf_n6 x46) (Sum.elim (fun (t : Unit) => (Exit.normal, (⟨mkE 21 0 [], []⟩ : St))) (fun (t : Int) => (Exit.ret, (⟨mkE 21 0 [(2, .dat (.int .i64) t)], []⟩ : St)))) := by
  unfold spec_RootOf_n6
  exact Link.cast (by kernel_rfl) (by kernel_rfl) (link_seq (b := (Code.snd (Code.fst (Code.snd (bodyOf Try.f9))))) (y := (Ann.snd (Ann.fst (Ann.snd spec_RootOf_an)))) (spec_RootOf_n2_l x46) (fun (t : Unit) => (spec_RootOf_n5_l x46)))

theorem spec_RootOf_n7_l : Link spec_RootOf_ctx LL (Code.snd (Code.snd (bodyOf Try.f9))) (Ann.snd (Ann.snd spec_RootOf_an)) (⟨mkE 21 0 [], []⟩ : St) (spec_RootOf_n7) (fun (t : Int) => (Exit.ret, (⟨mkE 21 0 [(2, .dat (.int .i64) t)], []⟩ : St))) := by
  refine Link.of fun K h => ?_
  simp only [spec_RootOf_n7, wpO_bind, wpO_cond, wpO_map, wpO_some] at h
  exact Awp.of (by kernel_rfl) h

theorem spec_RootOf_n8_l (x46 : List Int) : Link spec_RootOf_ctx LL (Code.snd (bodyOf Try.f9)) (Ann.snd spec_RootOf_an) (⟨mkE 21 0 [(0, .dat (.list (.int .i64)) x46)], []⟩ : St) (spec_RootOf_n8 x46) (fun (t : Int) => (Exit.ret, (⟨mkE 21 0 [(2, .dat (.int .i64) t)], []⟩ : St))) := by
  unfold spec_RootOf_n8
  exact Link.cast (by kernel_rfl) (by kernel_rfl) (link_seq2 (b := (Code.snd (Code.snd (bodyOf Try.f9)))) (y := (Ann.snd (Ann.snd spec_RootOf_an))) (spec_RootOf_n6_l x46) (fun (t : Unit) => (spec_RootOf_n7_l)) (fun (t : Int) => t) (by
  rintro t
  · kernel_rfl) (by
  rintro t f K h
  · exact h))

theorem spec_RootOf_n9_l (x46 : List Int) : Link spec_RootOf_ctx LL (bodyOf Try.f9) spec_RootOf_an (⟨mkE 21 0 [(0, .dat (.list (.int .i64)) x46)], []⟩ : St) (spec_RootOf_n9 x46) (fun (t : Int) => (Exit.ret, (⟨mkE 21 0 [(2, .dat (.int .i64) t)], []⟩ : St))) := by
  unfold spec_RootOf_n9
  exact Link.cast (by kernel_rfl) (by kernel_rfl) (link_seq (b := (Code.snd (bodyOf Try.f9))) (y := (Ann.snd spec_RootOf_an)) (spec_RootOf_n1_l x46) (fun (t : Unit) => (spec_RootOf_n8_l x46)))

theorem spec_RootOf_e (x46 : List Int) {r : AV} {H' : Heap} (h : (Ans.mk _ (spec_RootOf x46) (fun (t : Int) => (.dat (.int .i64) t, []))).run = some (r, H')) : Awp spec_RootOf_ctx LL (bodyOf Try.f9) spec_RootOf_an (⟨mkE 21 0 [(0, .dat (.list (.int .i64)) x46)], []⟩ : St) (Ret (tlook tys) Try.f9.results.toList r H') :=
  ret_of' (spec_RootOf_n9_l x46) (by unfold spec_RootOf; kernel_rfl) (by
  intro t
  exact ret_mk [.dat (.int .i64) t] (by kernel_rfl) (by kernel_rfl) (by kernel_rfl) (by kernel_rfl)) h

def F_spec_RootOf : Fun := fun avs H =>
  match avs, H with
  | [.dat (.list (.int .i64)) x46], [] => ⟨_, spec_RootOf x46, fun (t : Int) => (.dat (.int .i64) t, [])⟩
  | _, _ => Ans.no

theorem spec_RootOf_sound : Sound Try.prog 9 F_spec_RootOf := by
  refine fn_sound' (C := spec_RootOf_ctx) (c := bodyOf Try.f9) (cok_of tys_ok (List.forall_mem_cons.2 ⟨spec_TreeOk_sound, by simp⟩) (List.forall_mem_cons.2 ⟨Try.call25, by simp⟩) (by kernel_rfl)) Try.func9 (by kernel_rfl) LL spec_RootOf_an ?_
  intro avs H r H' h
  unfold F_spec_RootOf at h
  split at h
  · refine Awp.cast ?_ ?_ ?_ (spec_RootOf_e _ h) <;> kernel_rfl
  · simp [Ans.no, Ans.run] at h

/-! loop.example/headtrees/impl.oneRoot -/

def impl_oneRoot_an : Ann := (.seq (.leaf [0]) (.seq (.leaf [0, 3]) (.seq (.seq (.leaf [0, 3, 6, 7, 8]) (.block (.loop (.seq (.leaf [0, 3, 6, 7, 8, 9]) (.seq (.cond (.leaf [0, 3, 6, 7, 8]) (.leaf [3])) (.seq (.block (.seq (.leaf [0, 3, 5, 6, 7, 8]) (.seq (.seq (.leaf [0, 3, 5, 6, 7, 8, 19]) (.cond (.seq (.leaf [2]) (.leaf [2])) (.leaf [0, 3, 5, 6, 7, 8]))) (.seq (.leaf [0, 3, 6, 7, 8, 21]) (.cond (.leaf [0, 3, 6, 7, 8]) (.leaf [0, 3, 6, 7, 8])))))) (.leaf [0, 3, 6, 7, 8]))))))) (.seq (.leaf [2]) (.leaf [2])))))

noncomputable def impl_oneRoot_ctx : Ctx := ⟨tlook tys, olook [], ioF, 0⟩

theorem impl_oneRoot_n1_l (x249 : List Int) : Link impl_oneRoot_ctx LL (Code.seq (Code.fst (bodyOf Try.f38)) (Code.fst (Code.snd (bodyOf Try.f38)))) (Ann.seq (Ann.fst impl_oneRoot_an) (Ann.fst (Ann.snd impl_oneRoot_an))) (⟨mkE 27 0 [(0, .dat (.list (.int .i64)) x249)], []⟩ : St) (impl_oneRoot_n1) (fun (t : Unit) => (Exit.normal, (⟨mkE 27 0 [(0, .dat (.list (.int .i64)) x249), (3, .dat (.int .i64) 0)], []⟩ : St))) := by
  refine Link.of fun K h => ?_
  simp only [impl_oneRoot_n1, wpO_bind, wpO_cond, wpO_map, wpO_some] at h
  exact Awp.of (by kernel_rfl) h

theorem impl_oneRoot_n2_l (x249 : List Int) : Link impl_oneRoot_ctx LL (Code.fst (Code.fst (Code.snd (Code.snd (bodyOf Try.f38))))) (Ann.fst (Ann.fst (Ann.snd (Ann.snd impl_oneRoot_an)))) (⟨mkE 27 0 [(0, .dat (.list (.int .i64)) x249), (3, .dat (.int .i64) 0)], []⟩ : St) (impl_oneRoot_n2 x249) (fun (t : Int) => (Exit.normal, (⟨mkE 27 0 [(0, .dat (.list (.int .i64)) x249), (3, .dat (.int .i64) 0), (6, .dat (.list (.int .i64)) x249), (7, .dat (.int .i64) t), (8, .dat (.int .i64) 0)], []⟩ : St))) := by
  refine Link.of fun K h => ?_
  simp only [impl_oneRoot_n2, wpO_bind, wpO_cond, wpO_map, wpO_some] at h
  exact Awp.of (by kernel_rfl) h

theorem impl_oneRoot_n3_l (x249 : List Int) (x271 : Int) (x250 : Int) (x272 : Int) : Link impl_oneRoot_ctx LL (Code.fst (Code.fst (Code.snd (Code.fst (Code.snd (Code.snd (bodyOf Try.f38))))))) (Ann.fst (Ann.fst (Ann.snd (Ann.fst (Ann.snd (Ann.snd impl_oneRoot_an)))))) (⟨mkE 27 0 [(0, .dat (.list (.int .i64)) x249), (3, .dat (.int .i64) x271), (6, .dat (.list (.int .i64)) x249), (7, .dat (.int .i64) x250), (8, .dat (.int .i64) x272)], []⟩ : St) (impl_oneRoot_n3 x249 x271 x250 x272) (Sum.elim (fun (t : Int × Int) => (Exit.normal, (⟨mkE 27 0 [(0, .dat (.list (.int .i64)) x249), (3, .dat (.int .i64) t.1), (6, .dat (.list (.int .i64)) x249), (7, .dat (.int .i64) x250), (8, .dat (.int .i64) t.2)], []⟩ : St))) (Sum.elim (fun (t : Bool) => (Exit.ret, (⟨mkE 27 0 [(2, .dat .bool t)], []⟩ : St))) (fun (t : Int) => ((Exit.exit 0), (⟨mkE 27 0 [(3, .dat (.int .i64) t)], []⟩ : St))))) := by
  refine Link.of fun K h => ?_
  simp only [impl_oneRoot_n3, wpO_bind, wpO_cond, wpO_map, wpO_some] at h
  exact Awp.of (by kernel_rfl) h

theorem impl_oneRoot_n4_l (x249 : List Int) (x250 : Int) : Link impl_oneRoot_ctx LL (Code.fst (Code.snd (Code.fst (Code.snd (Code.snd (bodyOf Try.f38)))))) (Ann.fst (Ann.snd (Ann.fst (Ann.snd (Ann.snd impl_oneRoot_an))))) (⟨mkE 27 0 [(0, .dat (.list (.int .i64)) x249), (3, .dat (.int .i64) 0), (6, .dat (.list (.int .i64)) x249), (7, .dat (.int .i64) x250), (8, .dat (.int .i64) 0)], []⟩ : St) (impl_oneRoot_n4 x249 x250) (Sum.elim (fun (t : Bool) => (Exit.ret, (⟨mkE 27 0 [(2, .dat .bool t)], []⟩ : St))) (fun (t : Int) => ((Exit.exit 0), (⟨mkE 27 0 [(3, .dat (.int .i64) t)], []⟩ : St)))) := by
  unfold impl_oneRoot_n4
  exact Link.cast (by kernel_rfl) (by kernel_rfl) (link_loop (mk := fun (s : Int × Int) => (⟨mkE 27 0 [(0, .dat (.list (.int .i64)) x249), (3, .dat (.int .i64) s.1), (6, .dat (.list (.int .i64)) x249), (7, .dat (.int .i64) x250), (8, .dat (.int .i64) s.2)], []⟩ : St)) (fin := (Sum.elim (fun (t : Bool) => (Exit.ret, (⟨mkE 27 0 [(2, .dat .bool t)], []⟩ : St))) (fun (t : Int) => ((Exit.exit 0), (⟨mkE 27 0 [(3, .dat (.int .i64) t)], []⟩ : St))))) (by
  rintro (t | t) f K h
  · exact h
  · exact h) (fun s => link_map (impl_oneRoot_n3_l x249 s.1 x250 s.2) (Sum.elim (fun (t : Int × Int) => Sum.inl (t.1, t.2)) (Sum.elim (fun (t : Bool) => Sum.inr (Sum.inl t)) (fun (t : Int) => Sum.inr (Sum.inr t)))) (by
  rintro (t | t | t)
  · kernel_rfl
  · kernel_rfl
  · kernel_rfl)) (0, 0))

theorem impl_oneRoot_n5_l (x249 : List Int) (x250 : Int) : Link impl_oneRoot_ctx LL (Code.snd (Code.fst (Code.snd (Code.snd (bodyOf Try.f38))))) (Ann.snd (Ann.fst (Ann.snd (Ann.snd impl_oneRoot_an)))) (⟨mkE 27 0 [(0, .dat (.list (.int .i64)) x249), (3, .dat (.int .i64) 0), (6, .dat (.list (.int .i64)) x249), (7, .dat (.int .i64) x250), (8, .dat (.int .i64) 0)], []⟩ : St) (impl_oneRoot_n5 x249 x250) (Sum.elim (fun (t : Int) => (Exit.normal, (⟨mkE 27 0 [(3, .dat (.int .i64) t)], []⟩ : St))) (fun (t : Bool) => (Exit.ret, (⟨mkE 27 0 [(2, .dat .bool t)], []⟩ : St)))) := by
  unfold impl_oneRoot_n5
  exact Link.cast (by kernel_rfl) (by kernel_rfl) (link_block (id := 0) (impl_oneRoot_n4_l x249 x250) (Sum.elim (fun (t : Bool) => (Sum.inr t)) (fun (t : Int) => (Sum.inl t))) (by
  rintro (t | t) K h
  · exact Eq.mp (by kernel_rfl) h
  · exact Eq.mp (by kernel_rfl) h))

theorem impl_oneRoot_n6_l (x249 : List Int) : Link impl_oneRoot_ctx LL (Code.fst (Code.snd (Code.snd (bodyOf Try.f38)))) (Ann.fst (Ann.snd (Ann.snd impl_oneRoot_an))) (⟨mkE 27 0 [(0, .dat (.list (.int .i64)) x249), (3, .dat (.int .i64) 0)], []⟩ : St) (impl_oneRoot_n6 x249) (Sum.elim (fun (t : Int) => (Exit.normal, (⟨mkE 27 0 [(3, .dat (.int .i64) t)], []⟩ : St))) (fun (t : Bool) => (Exit.ret, (⟨mkE 27 0 [(2, .dat .bool t)], []⟩ : St)))) := by
  unfold impl_oneRoot_n6
  exact Link.cast (by kernel_rfl) (by kernel_rfl) (link_seq (b := (Code.snd (Code.fst (Code.snd (Code.snd (bodyOf Try.f38)))))) (y := (Ann.snd (Ann.fst (Ann.snd (Ann.snd impl_oneRoot_an))))) (impl_oneRoot_n2_l x249) (fun (t : Int) => (impl_oneRoot_n5_l x249 t)))

theorem impl_oneRoot_n7_l (x271 : Int) : Link impl_oneRoot_ctx LL (Code.snd (Code.snd (Code.snd (bodyOf Try.f38)))) (Ann.snd (Ann.snd (Ann.snd impl_oneRoot_an))) (⟨mkE 27 0 [(3, .dat (.int .i64) x271)], []⟩ : St) (impl_oneRoot_n7 x271) (fun (t : Bool) => (Exit.ret, (⟨mkE 27 0 [(2, .dat .bool t)], []⟩ : St))) := by
  refine Link.of fun K h => ?_
  simp only [impl_oneRoot_n7, wpO_bind, wpO_cond, wpO_map, wpO_some] at h
  exact Awp.of (by kernel_rfl) h

theorem impl_oneRoot_n8_l (x249 : List Int) : Link impl_oneRoot_ctx LL (Code.snd (Code.snd (bodyOf Try.f38))) (Ann.snd (Ann.snd impl_oneRoot_an)) (⟨mkE 27 0 [(0, .dat (.list (.int .i64)) x249), (3, .dat (.int .i64) 0)], []⟩ : St) (impl_oneRoot_n8 x249) (fun (t : Bool) => (Exit.ret, (⟨mkE 27 0 [(2, .dat .bool t)], []⟩ : St))) := by
  unfold impl_oneRoot_n8
  exact Link.cast (by kernel_rfl) (by kernel_rfl) (link_seq2 (b := (Code.snd (Code.snd (Code.snd (bodyOf Try.f38))))) (y := (Ann.snd (Ann.snd (Ann.snd impl_oneRoot_an)))) (impl_oneRoot_n6_l x249) (fun (t : Int) => (impl_oneRoot_n7_l t)) (fun (t : Bool) => t) (by
  rintro t
  · kernel_rfl) (by
  rintro t f K h
  · exact h))

theorem impl_oneRoot_n9_l (x249 : List Int) : Link impl_oneRoot_ctx LL (bodyOf Try.f38) impl_oneRoot_an (⟨mkE 27 0 [(0, .dat (.list (.int .i64)) x249)], []⟩ : St) (impl_oneRoot_n9 x249) (fun (t : Bool) => (Exit.ret, (⟨mkE 27 0 [(2, .dat .bool t)], []⟩ : St))) := by
  unfold impl_oneRoot_n9
  exact Link.cast (by kernel_rfl) (by kernel_rfl) (link_group (c := (Code.fst (Code.snd (bodyOf Try.f38)))) (a := (Ann.fst (Ann.snd impl_oneRoot_an))) [(Code.fst (bodyOf Try.f38))] [(Ann.fst impl_oneRoot_an)] rfl (link_seq (b := (Code.snd (Code.snd (bodyOf Try.f38)))) (y := (Ann.snd (Ann.snd impl_oneRoot_an))) (impl_oneRoot_n1_l x249) (fun (t : Unit) => (impl_oneRoot_n8_l x249))))

theorem impl_oneRoot_e (x249 : List Int) {r : AV} {H' : Heap} (h : (Ans.mk _ (impl_oneRoot x249) (fun (t : Bool) => (.dat .bool t, []))).run = some (r, H')) : Awp impl_oneRoot_ctx LL (bodyOf Try.f38) impl_oneRoot_an (⟨mkE 27 0 [(0, .dat (.list (.int .i64)) x249)], []⟩ : St) (Ret (tlook tys) Try.f38.results.toList r H') :=
  ret_of' (impl_oneRoot_n9_l x249) (by unfold impl_oneRoot; kernel_rfl) (by
  intro t
  exact ret_mk [.dat .bool t] (by kernel_rfl) (by kernel_rfl) (by kernel_rfl) (by kernel_rfl)) h

def F_impl_oneRoot : Fun := fun avs H =>
  match avs, H with
  | [.dat (.list (.int .i64)) x249], [] => ⟨_, impl_oneRoot x249, fun (t : Bool) => (.dat .bool t, [])⟩
  | _, _ => Ans.no

theorem impl_oneRoot_sound : Sound Try.prog 38 F_impl_oneRoot := by
  refine fn_sound' (C := impl_oneRoot_ctx) (c := bodyOf Try.f38) (cok_of tys_ok (by simp) (by simp) (by kernel_rfl)) Try.func38 (by kernel_rfl) LL impl_oneRoot_an ?_
  intro avs H r H' h
  unfold F_impl_oneRoot at h
  split at h
  · refine Awp.cast ?_ ?_ ?_ (impl_oneRoot_e _ h) <;> kernel_rfl
  · simp [Ans.no, Ans.run] at h

/-! (*loop.example/headtrees/impl.walker).up -/

def impl_walker_up_an : Ann := (.seq (.leaf [0]) (.seq (.draw [] [0, 1, 2, 3, 4, 5, 6, 7, 8, 9, 10, 11] [] [0, 3]) (.seq (.seq (.leaf [0, 3, 16]) (.cond (.seq (.leaf [2]) (.leaf [2])) (.leaf [0, 3]))) (.seq (.leaf [0]) (.seq (.leaf []) (.seq (.leaf [2]) (.leaf [2])))))))

noncomputable def impl_walker_up_ctx : Ctx := ⟨tlook tys, olook [], ioF, 1⟩

theorem impl_walker_up_n1_l (x305 : List Int) (x306 : Int) (x307 : Int) : Link impl_walker_up_ctx LL (bodyOf Try.f27) impl_walker_up_an (⟨mkE 28 0 [(0, .ptr 0 0)], [some (.box [.dat (.list (.int .i64)) x305, .dat (.int .i64) x306, .dat (.int .i64) x307])]⟩ : St) (impl_walker_up_n1 x305 x306 x307) (fun (t : Bool × Int × Int) => (Exit.ret, (⟨mkE 28 0 [(2, .dat .bool t.1)], [some (.box [.dat (.list (.int .i64)) x305, .dat (.int .i64) t.2.1, .dat (.int .i64) t.2.2])]⟩ : St))) := by
  refine Link.of fun K h => ?_
  simp only [impl_walker_up_n1, wpO_bind, wpO_cond, wpO_map, wpO_some] at h
  exact Awp.of (by kernel_rfl) h

theorem impl_walker_up_e (x305 : List Int) (x306 : Int) (x307 : Int) {r : AV} {H' : Heap} (h : (Ans.mk _ (impl_walker_up x305 x306 x307) (fun (t : Bool × Int × Int) => (.dat .bool t.1, [some (.box [.dat (.list (.int .i64)) x305, .dat (.int .i64) t.2.1, .dat (.int .i64) t.2.2])]))).run = some (r, H')) : Awp impl_walker_up_ctx LL (bodyOf Try.f27) impl_walker_up_an (⟨mkE 28 0 [(0, .ptr 0 0)], [some (.box [.dat (.list (.int .i64)) x305, .dat (.int .i64) x306, .dat (.int .i64) x307])]⟩ : St) (Ret (tlook tys) Try.f27.results.toList r H') :=
  ret_of' (impl_walker_up_n1_l x305 x306 x307) (by unfold impl_walker_up; kernel_rfl) (by
  intro t
  exact ret_mk [.dat .bool t.1] (by kernel_rfl) (by kernel_rfl) (by kernel_rfl) (by kernel_rfl)) h

def F_impl_walker_up : Fun := fun avs H =>
  match avs, H with
  | [.ptr 0 0], [some (.box [.dat (.list (.int .i64)) x305, .dat (.int .i64) x306, .dat (.int .i64) x307])] => ⟨_, impl_walker_up x305 x306 x307, fun (t : Bool × Int × Int) => (.dat .bool t.1, [some (.box [.dat (.list (.int .i64)) x305, .dat (.int .i64) t.2.1, .dat (.int .i64) t.2.2])])⟩
  | _, _ => Ans.no

theorem impl_walker_up_sound : Sound Try.prog 27 F_impl_walker_up := by
  refine fn_sound' (C := impl_walker_up_ctx) (c := bodyOf Try.f27) (cok_of tys_ok (by simp) (by simp) (by kernel_rfl)) Try.func27 (by kernel_rfl) LL impl_walker_up_an ?_
  intro avs H r H' h
  unfold F_impl_walker_up at h
  split at h
  · refine Awp.cast ?_ ?_ ?_ (impl_walker_up_e _ _ _ h) <;> kernel_rfl
  · simp [Ans.no, Ans.run] at h

/-! loop.example/headtrees/impl.stepsToRoot -/

def impl_stepsToRoot_an : Ann := (.seq (.leaf [0, 1]) (.seq (.leaf [0, 6]) (.seq (.block (.loop (.seq (.seq (.leaf [0, 6, 10]) (.cond (.leaf [0, 6]) (.leaf [6]))) (.block (.seq (.leaf [0, 6, 15]) (.cond (.seq (.leaf [4, 5]) (.leaf [4, 5])) (.leaf [0, 6]))))))) (.seq (.leaf [4, 5]) (.leaf [4, 5])))))

noncomputable def impl_stepsToRoot_ctx : Ctx := ⟨tlook tys, olook [(27, F_impl_walker_up)], ioF, 0⟩

theorem impl_stepsToRoot_n1_l (x303 : List Int) (x304 : Int) : Link impl_stepsToRoot_ctx LL (Code.seq (Code.fst (bodyOf Try.f28)) (Code.fst (Code.snd (bodyOf Try.f28)))) (Ann.seq (Ann.fst impl_stepsToRoot_an) (Ann.fst (Ann.snd impl_stepsToRoot_an))) (⟨mkE 18 0 [(0, .dat (.list (.int .i64)) x303), (1, .dat (.int .i64) x304)], []⟩ : St) (impl_stepsToRoot_n1) (fun (t : Unit) => (Exit.normal, (⟨mkE 18 0 [(0, .dat (.list (.int .i64)) x303), (6, .ptr 0 0)], [some (.box [.dat (.list (.int .i64)) x303, .dat (.int .i64) x304, .dat (.int .i64) 0])]⟩ : St))) := by
  refine Link.of fun K h => ?_
  simp only [impl_stepsToRoot_n1, wpO_bind, wpO_cond, wpO_map, wpO_some] at h
  exact Awp.of (by kernel_rfl) h

theorem impl_stepsToRoot_n2_l (x303 : List Int) (x341 : Int) (x342 : Int) : Link impl_stepsToRoot_ctx LL (Code.fst (Code.fst (Code.fst (Code.snd (Code.snd (bodyOf Try.f28)))))) (Ann.fst (Ann.fst (Ann.fst (Ann.snd (Ann.snd impl_stepsToRoot_an))))) (⟨mkE 18 0 [(0, .dat (.list (.int .i64)) x303), (6, .ptr 0 0)], [some (.box [.dat (.list (.int .i64)) x303, .dat (.int .i64) x341, .dat (.int .i64) x342])]⟩ : St) (impl_stepsToRoot_n2 x303 x341 x342) (Sum.elim (fun (t : Int × Int) => (Exit.normal, (⟨mkE 18 0 [(0, .dat (.list (.int .i64)) x303), (6, .ptr 0 0)], [some (.box [.dat (.list (.int .i64)) x303, .dat (.int .i64) t.1, .dat (.int .i64) t.2])]⟩ : St))) (Sum.elim (fun (t : Int × Bool) => (Exit.ret, (⟨mkE 18 0 [(4, .dat (.int .i64) t.1), (5, .dat .bool t.2)], []⟩ : St))) (fun (t : Int × Int) => ((Exit.exit 0), (⟨mkE 18 0 [(6, .ptr 0 0)], [some (.box [.dat (.list (.int .i64)) x303, .dat (.int .i64) t.1, .dat (.int .i64) t.2])]⟩ : St))))) := by
  refine Link.of fun K h => ?_
  simp only [impl_stepsToRoot_n2, wpO_bind, wpO_cond, wpO_map, wpO_some] at h
  exact Awp.of (by kernel_rfl) h

theorem impl_stepsToRoot_n3_l (x303 : List Int) (x304 : Int) : Link impl_stepsToRoot_ctx LL (Code.fst (Code.fst (Code.snd (Code.snd (bodyOf Try.f28))))) (Ann.fst (Ann.fst (Ann.snd (Ann.snd impl_stepsToRoot_an)))) (⟨mkE 18 0 [(0, .dat (.list (.int .i64)) x303), (6, .ptr 0 0)], [some (.box [.dat (.list (.int .i64)) x303, .dat (.int .i64) x304, .dat (.int .i64) 0])]⟩ : St) (impl_stepsToRoot_n3 x303 x304) (Sum.elim (fun (t : Int × Bool) => (Exit.ret, (⟨mkE 18 0 [(4, .dat (.int .i64) t.1), (5, .dat .bool t.2)], []⟩ : St))) (fun (t : Int × Int) => ((Exit.exit 0), (⟨mkE 18 0 [(6, .ptr 0 0)], [some (.box [.dat (.list (.int .i64)) x303, .dat (.int .i64) t.1, .dat (.int .i64) t.2])]⟩ : St)))) := by
  unfold impl_stepsToRoot_n3
  exact Link.cast (by kernel_rfl) (by kernel_rfl) (link_loop (mk := fun (s : Int × Int) => (⟨mkE 18 0 [(0, .dat (.list (.int .i64)) x303), (6, .ptr 0 0)], [some (.box [.dat (.list (.int .i64)) x303, .dat (.int .i64) s.1, .dat (.int .i64) s.2])]⟩ : St)) (fin := (Sum.elim (fun (t : Int × Bool) => (Exit.ret, (⟨mkE 18 0 [(4, .dat (.int .i64) t.1), (5, .dat .bool t.2)], []⟩ : St))) (fun (t : Int × Int) => ((Exit.exit 0), (⟨mkE 18 0 [(6, .ptr 0 0)], [some (.box [.dat (.list (.int .i64)) x303, .dat (.int .i64) t.1, .dat (.int .i64) t.2])]⟩ : St))))) (by
  rintro (t | t) f K h
  · exact h
  · exact h) (fun s => link_map (impl_stepsToRoot_n2_l x303 s.1 s.2) (Sum.elim (fun (t : Int × Int) => Sum.inl (t.1, t.2)) (Sum.elim (fun (t : Int × Bool) => Sum.inr (Sum.inl t)) (fun (t : Int × Int) => Sum.inr (Sum.inr t)))) (by
  rintro (t | t | t)
  · kernel_rfl
  · kernel_rfl
  · kernel_rfl)) (x304, 0))

theorem impl_stepsToRoot_n4_l (x303 : List Int) (x304 : Int) : Link impl_stepsToRoot_ctx LL (Code.fst (Code.snd (Code.snd (bodyOf Try.f28)))) (Ann.fst (Ann.snd (Ann.snd impl_stepsToRoot_an))) (⟨mkE 18 0 [(0, .dat (.list (.int .i64)) x303), (6, .ptr 0 0)], [some (.box [.dat (.list (.int .i64)) x303, .dat (.int .i64) x304, .dat (.int .i64) 0])]⟩ : St) (impl_stepsToRoot_n4 x303 x304) (Sum.elim (fun (t : Int × Int) => (Exit.normal, (⟨mkE 18 0 [(6, .ptr 0 0)], [some (.box [.dat (.list (.int .i64)) x303, .dat (.int .i64) t.1, .dat (.int .i64) t.2])]⟩ : St))) (fun (t : Int × Bool) => (Exit.ret, (⟨mkE 18 0 [(4, .dat (.int .i64) t.1), (5, .dat .bool t.2)], []⟩ : St)))) := by
  unfold impl_stepsToRoot_n4
  exact Link.cast (by kernel_rfl) (by kernel_rfl) (link_block (id := 0) (impl_stepsToRoot_n3_l x303 x304) (Sum.elim (fun (t : Int × Bool) => (Sum.inr t)) (fun (t : Int × Int) => (Sum.inl (t.1, t.2)))) (by
  rintro (t | t) K h
  · exact Eq.mp (by kernel_rfl) h
  · exact Eq.mp (by kernel_rfl) h))

theorem impl_stepsToRoot_n5_l (x303 : List Int) (x349 : Int) (x350 : Int) : Link impl_stepsToRoot_ctx LL (Code.snd (Code.snd (Code.snd (bodyOf Try.f28)))) (Ann.snd (Ann.snd (Ann.snd impl_stepsToRoot_an))) (⟨mkE 18 0 [(6, .ptr 0 0)], [some (.box [.dat (.list (.int .i64)) x303, .dat (.int .i64) x349, .dat (.int .i64) x350])]⟩ : St) (impl_stepsToRoot_n5 x350) (fun (t : Int × Bool) => (Exit.ret, (⟨mkE 18 0 [(4, .dat (.int .i64) t.1), (5, .dat .bool t.2)], []⟩ : St))) := by
  refine Link.of fun K h => ?_
  simp only [impl_stepsToRoot_n5, wpO_bind, wpO_cond, wpO_map, wpO_some] at h
  exact Awp.of (by kernel_rfl) h

theorem impl_stepsToRoot_n6_l (x303 : List Int) (x304 : Int) : Link impl_stepsToRoot_ctx LL (Code.snd (Code.snd (bodyOf Try.f28))) (Ann.snd (Ann.snd impl_stepsToRoot_an)) (⟨mkE 18 0 [(0, .dat (.list (.int .i64)) x303), (6, .ptr 0 0)], [some (.box [.dat (.list (.int .i64)) x303, .dat (.int .i64) x304, .dat (.int .i64) 0])]⟩ : St) (impl_stepsToRoot_n6 x303 x304) (fun (t : Int × Bool) => (Exit.ret, (⟨mkE 18 0 [(4, .dat (.int .i64) t.1), (5, .dat .bool t.2)], []⟩ : St))) := by
  unfold impl_stepsToRoot_n6
  exact Link.cast (by kernel_rfl) (by kernel_rfl) (link_seq2 (b := (Code.snd (Code.snd (Code.snd (bodyOf Try.f28))))) (y := (Ann.snd (Ann.snd (Ann.snd impl_stepsToRoot_an)))) (impl_stepsToRoot_n4_l x303 x304) (fun (t : Int × Int) => (impl_stepsToRoot_n5_l x303 t.1 t.2)) (fun (t : Int × Bool) => t) (by
  rintro t
  · kernel_rfl) (by
  rintro t f K h
  · exact h))

theorem impl_stepsToRoot_n7_l (x303 : List Int) (x304 : Int) : Link impl_stepsToRoot_ctx LL (bodyOf Try.f28) impl_stepsToRoot_an (⟨mkE 18 0 [(0, .dat (.list (.int .i64)) x303), (1, .dat (.int .i64) x304)], []⟩ : St) (impl_stepsToRoot_n7 x303 x304) (fun (t : Int × Bool) => (Exit.ret, (⟨mkE 18 0 [(4, .dat (.int .i64) t.1), (5, .dat .bool t.2)], []⟩ : St))) := by
  unfold impl_stepsToRoot_n7
  exact Link.cast (by kernel_rfl) (by kernel_rfl) (link_group (c := (Code.fst (Code.snd (bodyOf Try.f28)))) (a := (Ann.fst (Ann.snd impl_stepsToRoot_an))) [(Code.fst (bodyOf Try.f28))] [(Ann.fst impl_stepsToRoot_an)] rfl (link_seq (b := (Code.snd (Code.snd (bodyOf Try.f28)))) (y := (Ann.snd (Ann.snd impl_stepsToRoot_an))) (impl_stepsToRoot_n1_l x303 x304) (fun (t : Unit) => (impl_stepsToRoot_n6_l x303 x304))))

theorem impl_stepsToRoot_e (x303 : List Int) (x304 : Int) {r : AV} {H' : Heap} (h : (Ans.mk _ (impl_stepsToRoot x303 x304) (fun (t : Int × Bool) => (.tup [.dat (.int .i64) t.1, .dat .bool t.2], []))).run = some (r, H')) : Awp impl_stepsToRoot_ctx LL (bodyOf Try.f28) impl_stepsToRoot_an (⟨mkE 18 0 [(0, .dat (.list (.int .i64)) x303), (1, .dat (.int .i64) x304)], []⟩ : St) (Ret (tlook tys) Try.f28.results.toList r H') :=
  ret_of' (impl_stepsToRoot_n7_l x303 x304) (by unfold impl_stepsToRoot; kernel_rfl) (by
  intro t
  exact ret_mk [.dat (.int .i64) t.1, .dat .bool t.2] (by kernel_rfl) (by kernel_rfl) (by kernel_rfl) (by kernel_rfl)) h

def F_impl_stepsToRoot : Fun := fun avs H =>
  match avs, H with
  | [.dat (.list (.int .i64)) x303, .dat (.int .i64) x304], [] => ⟨_, impl_stepsToRoot x303 x304, fun (t : Int × Bool) => (.tup [.dat (.int .i64) t.1, .dat .bool t.2], [])⟩
  | _, _ => Ans.no

theorem impl_stepsToRoot_sound : Sound Try.prog 28 F_impl_stepsToRoot := by
  refine fn_sound' (C := impl_stepsToRoot_ctx) (c := bodyOf Try.f28) (cok_of tys_ok (List.forall_mem_cons.2 ⟨impl_walker_up_sound, by simp⟩) (List.forall_mem_cons.2 ⟨Try.call27, by simp⟩) (by kernel_rfl)) Try.func28 (by kernel_rfl) LL impl_stepsToRoot_an ?_
  intro avs H r H' h
  unfold F_impl_stepsToRoot at h
  split at h
  · refine Awp.cast ?_ ?_ ?_ (impl_stepsToRoot_e _ _ h) <;> kernel_rfl
  · simp [Ans.no, Ans.run] at h

/-! loop.example/headtrees/impl.TreeOk -/

def impl_TreeOk_an : Ann := (.seq (.leaf [0]) (.seq (.seq (.leaf [0, 18]) (.cond (.seq (.leaf [2]) (.leaf [2])) (.leaf [0]))) (.seq (.seq (.leaf [0, 20, 21]) (.block (.loop (.seq (.leaf [0, 20, 21, 22]) (.seq (.cond (.leaf [0, 20, 21]) (.leaf [])) (.seq (.block (.seq (.leaf [0, 3, 20, 21]) (.seq (.leaf [0, 5, 20, 21]) (.seq (.leaf [0, 20, 21, 32]) (.cond (.seq (.leaf [2]) (.leaf [2])) (.leaf [0, 20, 21])))))) (.leaf [0, 20, 21]))))))) (.seq (.leaf [2]) (.leaf [2])))))

noncomputable def impl_TreeOk_ctx : Ctx := ⟨tlook tys, olook [(38, F_impl_oneRoot), (28, F_impl_stepsToRoot)], ioF, 0⟩

theorem impl_TreeOk_n1_l (x244 : List Int) : Link impl_TreeOk_ctx LL (Code.seq (Code.fst (bodyOf Try.f26)) (Code.fst (Code.snd (bodyOf Try.f26)))) (Ann.seq (Ann.fst impl_TreeOk_an) (Ann.fst (Ann.snd impl_TreeOk_an))) (⟨mkE 34 0 [(0, .dat (.list (.int .i64)) x244)], []⟩ : St) (impl_TreeOk_n1 x244) (Sum.elim (fun (t : Unit) => (Exit.normal, (⟨mkE 34 0 [(0, .dat (.list (.int .i64)) x244)], []⟩ : St))) (fun (t : Bool) => (Exit.ret, (⟨mkE 34 0 [(2, .dat .bool t)], []⟩ : St)))) := by
  refine Link.of fun K h => ?_
  simp only [impl_TreeOk_n1, wpO_bind, wpO_cond, wpO_map, wpO_some] at h
  exact Awp.of (by kernel_rfl) h

theorem impl_TreeOk_n2_l (x244 : List Int) : Link impl_TreeOk_ctx LL (Code.fst (Code.fst (Code.snd (Code.snd (bodyOf Try.f26))))) (Ann.fst (Ann.fst (Ann.snd (Ann.snd impl_TreeOk_an)))) (⟨mkE 34 0 [(0, .dat (.list (.int .i64)) x244)], []⟩ : St) (impl_TreeOk_n2 x244) (fun (t : Int) => (Exit.normal, (⟨mkE 34 0 [(0, .dat (.list (.int .i64)) x244), (20, .dat (.int .i64) t), (21, .dat (.int .i64) 0)], []⟩ : St))) := by
  refine Link.of fun K h => ?_
  simp only [impl_TreeOk_n2, wpO_bind, wpO_cond, wpO_map, wpO_some] at h
  exact Awp.of (by kernel_rfl) h

theorem impl_TreeOk_n3_l (x244 : List Int) (x298 : Int) (x366 : Int) : Link impl_TreeOk_ctx LL (Code.fst (Code.fst (Code.snd (Code.fst (Code.snd (Code.snd (bodyOf Try.f26))))))) (Ann.fst (Ann.fst (Ann.snd (Ann.fst (Ann.snd (Ann.snd impl_TreeOk_an)))))) (⟨mkE 34 0 [(0, .dat (.list (.int .i64)) x244), (20, .dat (.int .i64) x298), (21, .dat (.int .i64) x366)], []⟩ : St) (impl_TreeOk_n3 x244 x298 x366) (Sum.elim (fun (t : Int) => (Exit.normal, (⟨mkE 34 0 [(0, .dat (.list (.int .i64)) x244), (20, .dat (.int .i64) x298), (21, .dat (.int .i64) t)], []⟩ : St))) (Sum.elim (fun (t : Bool) => (Exit.ret, (⟨mkE 34 0 [(2, .dat .bool t)], []⟩ : St))) (fun (t : Unit) => ((Exit.exit 0), (⟨mkE 34 0 [], []⟩ : St))))) := by
  refine Link.of fun K h => ?_
  simp only [impl_TreeOk_n3, wpO_bind, wpO_cond, wpO_map, wpO_some] at h
  exact Awp.of (by kernel_rfl) h

theorem impl_TreeOk_n4_l (x244 : List Int) (x298 : Int) : Link impl_TreeOk_ctx LL (Code.fst (Code.snd (Code.fst (Code.snd (Code.snd (bodyOf Try.f26)))))) (Ann.fst (Ann.snd (Ann.fst (Ann.snd (Ann.snd impl_TreeOk_an))))) (⟨mkE 34 0 [(0, .dat (.list (.int .i64)) x244), (20, .dat (.int .i64) x298), (21, .dat (.int .i64) 0)], []⟩ : St) (impl_TreeOk_n4 x244 x298) (Sum.elim (fun (t : Bool) => (Exit.ret, (⟨mkE 34 0 [(2, .dat .bool t)], []⟩ : St))) (fun (t : Unit) => ((Exit.exit 0), (⟨mkE 34 0 [], []⟩ : St)))) := by
  unfold impl_TreeOk_n4
  exact Link.cast (by kernel_rfl) (by kernel_rfl) (link_loop (mk := fun (s : Int) => (⟨mkE 34 0 [(0, .dat (.list (.int .i64)) x244), (20, .dat (.int .i64) x298), (21, .dat (.int .i64) s)], []⟩ : St)) (fin := (Sum.elim (fun (t : Bool) => (Exit.ret, (⟨mkE 34 0 [(2, .dat .bool t)], []⟩ : St))) (fun (t : Unit) => ((Exit.exit 0), (⟨mkE 34 0 [], []⟩ : St))))) (by
  rintro (t | t) f K h
  · exact h
  · exact h) (fun s => link_map (impl_TreeOk_n3_l x244 x298 s) (Sum.elim (fun (t : Int) => Sum.inl t) (Sum.elim (fun (t : Bool) => Sum.inr (Sum.inl t)) (fun (t : Unit) => Sum.inr (Sum.inr t)))) (by
  rintro (t | t | t)
  · kernel_rfl
  · kernel_rfl
  · kernel_rfl)) 0)

theorem impl_TreeOk_n5_l (x244 : List Int) (x298 : Int) : Link impl_TreeOk_ctx LL (Code.snd (Code.fst (Code.snd (Code.snd (bodyOf Try.f26))))) (Ann.snd (Ann.fst (Ann.snd (Ann.snd impl_TreeOk_an)))) (⟨mkE 34 0 [(0, .dat (.list (.int .i64)) x244), (20, .dat (.int .i64) x298), (21, .dat (.int .i64) 0)], []⟩ : St) (impl_TreeOk_n5 x244 x298) (Sum.elim (fun (t : Unit) => (Exit.normal, (⟨mkE 34 0 [], []⟩ : St))) (fun (t : Bool) => (Exit.ret, (⟨mkE 34 0 [(2, .dat .bool t)], []⟩ : St)))) := by
  unfold impl_TreeOk_n5
  exact Link.cast (by kernel_rfl) (by kernel_rfl) (link_block (id := 0) (impl_TreeOk_n4_l x244 x298) (Sum.elim (fun (t : Bool) => (Sum.inr t)) (fun (t : Unit) => (Sum.inl ()))) (by
  rintro (t | t) K h
  · exact Eq.mp (by kernel_rfl) h
  · exact Eq.mp (by kernel_rfl) h))

theorem impl_TreeOk_n6_l (x244 : List Int) : Link impl_TreeOk_ctx LL (Code.fst (Code.snd (Code.snd (bodyOf Try.f26)))) (Ann.fst (Ann.snd (Ann.snd impl_TreeOk_an))) (⟨mkE 34 0 [(0, .dat (.list (.int .i64)) x244)], []⟩ : St) (impl_TreeOk_n6 x244) (Sum.elim (fun (t : Unit) => (Exit.normal, (⟨mkE 34 0 [], []⟩ : St))) (fun (t : Bool) => (Exit.ret, (⟨mkE 34 0 [(2, .dat .bool t)], []⟩ : St)))) := by
  unfold impl_TreeOk_n6
  exact Link.cast (by kernel_rfl) (by kernel_rfl) (link_seq (b := (Code.snd (Code.fst (Code.snd (Code.snd (bodyOf Try.f26)))))) (y := (Ann.snd (Ann.fst (Ann.snd (Ann.snd impl_TreeOk_an))))) (impl_TreeOk_n2_l x244) (fun (t : Int) => (impl_TreeOk_n5_l x244 t)))

theorem impl_TreeOk_n7_l : Link impl_TreeOk_ctx LL (Code.snd (Code.snd (Code.snd (bodyOf Try.f26)))) (Ann.snd (Ann.snd (Ann.snd impl_TreeOk_an))) (⟨mkE 34 0 [], []⟩ : St) (impl_TreeOk_n7) (fun (t : Bool) => (Exit.ret, (⟨mkE 34 0 [(2, .dat .bool t)], []⟩ : St))) := by
  refine Link.of fun K h => ?_
  simp only [impl_TreeOk_n7, wpO_bind, wpO_cond, wpO_map, wpO_some] at h
  exact Awp.of (by kernel_rfl) h

theorem impl_TreeOk_n8_l (x244 : List Int) : Link impl_TreeOk_ctx LL (Code.snd (Code.snd (bodyOf Try.f26))) (Ann.snd (Ann.snd impl_TreeOk_an)) (⟨mkE 34 0 [(0, .dat (.list (.int .i64)) x244)], []⟩ : St) (impl_TreeOk_n8 x244) (fun (t : Bool) => (Exit.ret, (⟨mkE 34 0 [(2, .dat .bool t)], []⟩ : St))) := by
  unfold impl_TreeOk_n8
  exact Link.cast (by kernel_rfl) (by kernel_rfl) (link_seq2 (b := (Code.snd (Code.snd (Code.snd (bodyOf Try.f26))))) (y := (Ann.snd (Ann.snd (Ann.snd impl_TreeOk_an)))) (impl_TreeOk_n6_l x244) (fun (t : Unit) => (impl_TreeOk_n7_l)) (fun (t : Bool) => t) (by
  rintro t
  · kernel_rfl) (by
  rintro t f K h
  · exact h))

theorem impl_TreeOk_n9_l (x244 : List Int) : Link impl_TreeOk_ctx LL (bodyOf Try.f26) impl_TreeOk_an (⟨mkE 34 0 [(0, .dat (.list (.int .i64)) x244)], []⟩ : St) (impl_TreeOk_n9 x244) (fun (t : Bool) => (Exit.ret, (⟨mkE 34 0 [(2, .dat .bool t)], []⟩ : St))) := by
  unfold impl_TreeOk_n9
  exact Link.cast (by kernel_rfl) (by kernel_rfl) (link_group (c := (Code.fst (Code.snd (bodyOf Try.f26)))) (a := (Ann.fst (Ann.snd impl_TreeOk_an))) [(Code.fst (bodyOf Try.f26))] [(Ann.fst impl_TreeOk_an)] rfl (link_seq2 (b := (Code.snd (Code.snd (bodyOf Try.f26)))) (y := (Ann.snd (Ann.snd impl_TreeOk_an))) (impl_TreeOk_n1_l x244) (fun (t : Unit) => (impl_TreeOk_n8_l x244)) (fun (t : Bool) => t) (by
  rintro t
  · kernel_rfl) (by
  rintro t f K h
  · exact h)))

theorem impl_TreeOk_e (x244 : List Int) {r : AV} {H' : Heap} (h : (Ans.mk _ (impl_TreeOk x244) (fun (t : Bool) => (.dat .bool t, []))).run = some (r, H')) : Awp impl_TreeOk_ctx LL (bodyOf Try.f26) impl_TreeOk_an (⟨mkE 34 0 [(0, .dat (.list (.int .i64)) x244)], []⟩ : St) (Ret (tlook tys) Try.f26.results.toList r H') :=
  ret_of' (impl_TreeOk_n9_l x244) (by unfold impl_TreeOk; kernel_rfl) (by
  intro t
  exact ret_mk [.dat .bool t] (by kernel_rfl) (by kernel_rfl) (by kernel_rfl) (by kernel_rfl)) h

def F_impl_TreeOk : Fun := fun avs H =>
  match avs, H with
  | [.dat (.list (.int .i64)) x244], [] => ⟨_, impl_TreeOk x244, fun (t : Bool) => (.dat .bool t, [])⟩
  | _, _ => Ans.no

theorem impl_TreeOk_sound : Sound Try.prog 26 F_impl_TreeOk := by
  refine fn_sound' (C := impl_TreeOk_ctx) (c := bodyOf Try.f26) (cok_of tys_ok (List.forall_mem_cons.2 ⟨impl_oneRoot_sound, List.forall_mem_cons.2 ⟨impl_stepsToRoot_sound, by simp⟩⟩) (List.forall_mem_cons.2 ⟨Try.call38, List.forall_mem_cons.2 ⟨Try.call28, by simp⟩⟩) (by kernel_rfl)) Try.func26 (by kernel_rfl) LL impl_TreeOk_an ?_
  intro avs H r H' h
  unfold F_impl_TreeOk at h
  split at h
  · refine Awp.cast ?_ ?_ ?_ (impl_TreeOk_e _ h) <;> kernel_rfl
  · simp [Ans.no, Ans.run] at h

/-! loop.example/headtrees/impl.RootOf -/

def impl_RootOf_an : Ann := (.seq (.leaf [0]) (.seq (.seq (.leaf [0, 6]) (.cond (.seq (.leaf [2]) (.leaf [2])) (.leaf [0]))) (.seq (.leaf [3]) (.seq (.block (.loop (.seq (.seq (.leaf [3, 9]) (.cond (.leaf [3]) (.leaf [3]))) (.block (.leaf [3]))))) (.seq (.leaf [2]) (.leaf [2]))))))

noncomputable def impl_RootOf_ctx : Ctx := ⟨tlook tys, olook [(26, F_impl_TreeOk), (27, F_impl_walker_up)], ioF, 0⟩

theorem impl_RootOf_n1_l (x243 : List Int) : Link impl_RootOf_ctx LL (Code.seq (Code.fst (bodyOf Try.f11)) (Code.seq (Code.fst (Code.snd (bodyOf Try.f11))) (Code.fst (Code.snd (Code.snd (bodyOf Try.f11)))))) (Ann.seq (Ann.fst impl_RootOf_an) (Ann.seq (Ann.fst (Ann.snd impl_RootOf_an)) (Ann.fst (Ann.snd (Ann.snd impl_RootOf_an))))) (⟨mkE 12 0 [(0, .dat (.list (.int .i64)) x243)], []⟩ : St) (impl_RootOf_n1 x243) (Sum.elim (fun (t : Unit) => (Exit.normal, (⟨mkE 12 0 [(3, .ptr 0 0)], [some (.box [.dat (.list (.int .i64)) x243, .dat (.int .i64) 1, .dat (.int .i64) 0])]⟩ : St))) (fun (t : Int) => (Exit.ret, (⟨mkE 12 0 [(2, .dat (.int .i64) t)], []⟩ : St)))) := by
  refine Link.of fun K h => ?_
  simp only [impl_RootOf_n1, wpO_bind, wpO_cond, wpO_map, wpO_some] at h
  exact Awp.of (by kernel_rfl) h

theorem impl_RootOf_n2_l (x243 : List Int) (x395 : Int) (x396 : Int) : Link impl_RootOf_ctx LL (Code.fst (Code.fst (Code.fst (Code.snd (Code.snd (Code.snd (bodyOf Try.f11))))))) (Ann.fst (Ann.fst (Ann.fst (Ann.snd (Ann.snd (Ann.snd impl_RootOf_an)))))) (⟨mkE 12 0 [(3, .ptr 0 0)], [some (.box [.dat (.list (.int .i64)) x243, .dat (.int .i64) x395, .dat (.int .i64) x396])]⟩ : St) (impl_RootOf_n2 x243 x395 x396) (Sum.elim (fun (t : Int × Int) => (Exit.normal, (⟨mkE 12 0 [(3, .ptr 0 0)], [some (.box [.dat (.list (.int .i64)) x243, .dat (.int .i64) t.1, .dat (.int .i64) t.2])]⟩ : St))) (fun (t : Int × Int) => ((Exit.exit 0), (⟨mkE 12 0 [(3, .ptr 0 0)], [some (.box [.dat (.list (.int .i64)) x243, .dat (.int .i64) t.1, .dat (.int .i64) t.2])]⟩ : St)))) := by
  refine Link.of fun K h => ?_
  simp only [impl_RootOf_n2, wpO_bind, wpO_cond, wpO_map, wpO_some] at h
  exact Awp.of (by kernel_rfl) h

theorem impl_RootOf_n3_l (x243 : List Int) : Link impl_RootOf_ctx LL (Code.fst (Code.fst (Code.snd (Code.snd (Code.snd (bodyOf Try.f11)))))) (Ann.fst (Ann.fst (Ann.snd (Ann.snd (Ann.snd impl_RootOf_an))))) (⟨mkE 12 0 [(3, .ptr 0 0)], [some (.box [.dat (.list (.int .i64)) x243, .dat (.int .i64) 1, .dat (.int .i64) 0])]⟩ : St) (impl_RootOf_n3 x243) (fun (t : Int × Int) => ((Exit.exit 0), (⟨mkE 12 0 [(3, .ptr 0 0)], [some (.box [.dat (.list (.int .i64)) x243, .dat (.int .i64) t.1, .dat (.int .i64) t.2])]⟩ : St))) := by
  unfold impl_RootOf_n3
  exact Link.cast (by kernel_rfl) (by kernel_rfl) (link_loop (mk := fun (s : Int × Int) => (⟨mkE 12 0 [(3, .ptr 0 0)], [some (.box [.dat (.list (.int .i64)) x243, .dat (.int .i64) s.1, .dat (.int .i64) s.2])]⟩ : St)) (fin := (fun (t : Int × Int) => ((Exit.exit 0), (⟨mkE 12 0 [(3, .ptr 0 0)], [some (.box [.dat (.list (.int .i64)) x243, .dat (.int .i64) t.1, .dat (.int .i64) t.2])]⟩ : St)))) (by
  rintro t f K h
  · exact h) (fun s => link_map (impl_RootOf_n2_l x243 s.1 s.2) (Sum.elim (fun (t : Int × Int) => Sum.inl (t.1, t.2)) (fun (t : Int × Int) => Sum.inr t)) (by
  rintro (t | t)
  · kernel_rfl
  · kernel_rfl)) (1, 0))

theorem impl_RootOf_n4_l (x243 : List Int) : Link impl_RootOf_ctx LL (Code.fst (Code.snd (Code.snd (Code.snd (bodyOf Try.f11))))) (Ann.fst (Ann.snd (Ann.snd (Ann.snd impl_RootOf_an)))) (⟨mkE 12 0 [(3, .ptr 0 0)], [some (.box [.dat (.list (.int .i64)) x243, .dat (.int .i64) 1, .dat (.int .i64) 0])]⟩ : St) (impl_RootOf_n4 x243) (fun (t : Int × Int) => (Exit.normal, (⟨mkE 12 0 [(3, .ptr 0 0)], [some (.box [.dat (.list (.int .i64)) x243, .dat (.int .i64) t.1, .dat (.int .i64) t.2])]⟩ : St))) := by
  unfold impl_RootOf_n4
  exact Link.cast (by kernel_rfl) (by kernel_rfl) (link_block (id := 0) (impl_RootOf_n3_l x243) (fun (t : Int × Int) => (t.1, t.2)) (by
  rintro t K h
  · exact Eq.mp (by kernel_rfl) h))

theorem impl_RootOf_n5_l (x243 : List Int) (x403 : Int) (x404 : Int) : Link impl_RootOf_ctx LL (Code.snd (Code.snd (Code.snd (Code.snd (bodyOf Try.f11))))) (Ann.snd (Ann.snd (Ann.snd (Ann.snd impl_RootOf_an)))) (⟨mkE 12 0 [(3, .ptr 0 0)], [some (.box [.dat (.list (.int .i64)) x243, .dat (.int .i64) x403, .dat (.int .i64) x404])]⟩ : St) (impl_RootOf_n5 x403) (fun (t : Int) => (Exit.ret, (⟨mkE 12 0 [(2, .dat (.int .i64) t)], []⟩ : St))) := by
  refine Link.of fun K h => ?_
  simp only [impl_RootOf_n5, wpO_bind, wpO_cond, wpO_map, wpO_some] at h
  exact Awp.of (by kernel_rfl) h

theorem impl_RootOf_n6_l (x243 : List Int) : Link impl_RootOf_ctx LL (Code.snd (Code.snd (Code.snd (bodyOf Try.f11)))) (Ann.snd (Ann.snd (Ann.snd impl_RootOf_an))) (⟨mkE 12 0 [(3, .ptr 0 0)], [some (.box [.dat (.list (.int .i64)) x243, .dat (.int .i64) 1, .dat (.int .i64) 0])]⟩ : St) (impl_RootOf_n6 x243) (fun (t : Int) => (Exit.ret, (⟨mkE 12 0 [(2, .dat (.int .i64) t)], []⟩ : St))) := by
  unfold impl_RootOf_n6
  exact Link.cast (by kernel_rfl) (by kernel_rfl) (link_seq (b := (Code.snd (Code.snd (Code.snd (Code.snd (bodyOf Try.f11)))))) (y := (Ann.snd (Ann.snd (Ann.snd (Ann.snd impl_RootOf_an))))) (impl_RootOf_n4_l x243) (fun (t : Int × Int) => (impl_RootOf_n5_l x243 t.1 t.2)))

theorem impl_RootOf_n7_l (x243 : List Int) : Link impl_RootOf_ctx LL (bodyOf Try.f11) impl_RootOf_an (⟨mkE 12 0 [(0, .dat (.list (.int .i64)) x243)], []⟩ : St) (impl_RootOf_n7 x243) (fun (t : Int) => (Exit.ret, (⟨mkE 12 0 [(2, .dat (.int .i64) t)], []⟩ : St))) := by
  unfold impl_RootOf_n7
  exact Link.cast (by kernel_rfl) (by kernel_rfl) (link_group (c := (Code.fst (Code.snd (Code.snd (bodyOf Try.f11))))) (a := (Ann.fst (Ann.snd (Ann.snd impl_RootOf_an)))) [(Code.fst (bodyOf Try.f11)), (Code.fst (Code.snd (bodyOf Try.f11)))] [(Ann.fst impl_RootOf_an), (Ann.fst (Ann.snd impl_RootOf_an))] rfl (link_seq2 (b := (Code.snd (Code.snd (Code.snd (bodyOf Try.f11))))) (y := (Ann.snd (Ann.snd (Ann.snd impl_RootOf_an)))) (impl_RootOf_n1_l x243) (fun (t : Unit) => (impl_RootOf_n6_l x243)) (fun (t : Int) => t) (by
  rintro t
  · kernel_rfl) (by
  rintro t f K h
  · exact h)))

theorem impl_RootOf_e (x243 : List Int) {r : AV} {H' : Heap} (h : (Ans.mk _ (impl_RootOf x243) (fun (t : Int) => (.dat (.int .i64) t, []))).run = some (r, H')) : Awp impl_RootOf_ctx LL (bodyOf Try.f11) impl_RootOf_an (⟨mkE 12 0 [(0, .dat (.list (.int .i64)) x243)], []⟩ : St) (Ret (tlook tys) Try.f11.results.toList r H') :=
  ret_of' (impl_RootOf_n7_l x243) (by unfold impl_RootOf; kernel_rfl) (by
  intro t
  exact ret_mk [.dat (.int .i64) t] (by kernel_rfl) (by kernel_rfl) (by kernel_rfl) (by kernel_rfl)) h

def F_impl_RootOf : Fun := fun avs H =>
  match avs, H with
  | [.dat (.list (.int .i64)) x243], [] => ⟨_, impl_RootOf x243, fun (t : Int) => (.dat (.int .i64) t, [])⟩
  | _, _ => Ans.no

theorem impl_RootOf_sound : Sound Try.prog 11 F_impl_RootOf := by
  refine fn_sound' (C := impl_RootOf_ctx) (c := bodyOf Try.f11) (cok_of tys_ok (List.forall_mem_cons.2 ⟨impl_TreeOk_sound, List.forall_mem_cons.2 ⟨impl_walker_up_sound, by simp⟩⟩) (List.forall_mem_cons.2 ⟨Try.call26, List.forall_mem_cons.2 ⟨Try.call27, by simp⟩⟩) (by kernel_rfl)) Try.func11 (by kernel_rfl) LL impl_RootOf_an ?_
  intro avs H r H' h
  unfold F_impl_RootOf at h
  split at h
  · refine Awp.cast ?_ ?_ ?_ (impl_RootOf_e _ h) <;> kernel_rfl
  · simp [Ans.no, Ans.run] at h

/-! loop.example/headtrees/laws.eqIntS -/

def laws_eqIntS_an : Ann := (.seq (.leaf [0, 1]) (.seq (.seq (.leaf [0, 1, 10]) (.cond (.seq (.leaf [4]) (.leaf [4])) (.leaf [0, 1]))) (.seq (.seq (.leaf [0, 1, 5]) (.block (.loop (.seq (.seq (.leaf [0, 1, 5, 14]) (.cond (.leaf [0, 1, 5]) (.leaf []))) (.seq (.block (.seq (.draw [] [0, 1, 2, 3, 4, 5, 6, 7, 8] [] [0, 1, 5, 25]) (.cond (.seq (.leaf [4]) (.leaf [4])) (.leaf [0, 1, 5])))) (.leaf [0, 1, 5])))))) (.seq (.leaf [4]) (.leaf [4])))))

noncomputable def laws_eqIntS_ctx : Ctx := ⟨tlook tys, olook [], ioF, 0⟩

theorem laws_eqIntS_n1_l (x422 : List Int) (x423 : List Int) : Link laws_eqIntS_ctx LL (Code.seq (Code.fst (bodyOf Try.f12)) (Code.fst (Code.snd (bodyOf Try.f12)))) (Ann.seq (Ann.fst laws_eqIntS_an) (Ann.fst (Ann.snd laws_eqIntS_an))) (⟨mkE 26 0 [(0, .dat (.list (.int .i64)) x422), (1, .dat (.list (.int .i64)) x423)], []⟩ : St) (laws_eqIntS_n1 x422 x423) (Sum.elim (fun (t : Unit) => (Exit.normal, (⟨mkE 26 0 [(0, .dat (.list (.int .i64)) x422), (1, .dat (.list (.int .i64)) x423)], []⟩ : St))) (fun (t : Bool) => (Exit.ret, (⟨mkE 26 0 [(4, .dat .bool t)], []⟩ : St)))) := by
  refine Link.of fun K h => ?_
  simp only [laws_eqIntS_n1, wpO_bind, wpO_cond, wpO_map, wpO_some] at h
  exact Awp.of (by kernel_rfl) h

theorem laws_eqIntS_n2_l (x422 : List Int) (x423 : List Int) : Link laws_eqIntS_ctx LL (Code.fst (Code.fst (Code.snd (Code.snd (bodyOf Try.f12))))) (Ann.fst (Ann.fst (Ann.snd (Ann.snd laws_eqIntS_an)))) (⟨mkE 26 0 [(0, .dat (.list (.int .i64)) x422), (1, .dat (.list (.int .i64)) x423)], []⟩ : St) (laws_eqIntS_n2) (fun (t : Unit) => (Exit.normal, (⟨mkE 26 0 [(0, .dat (.list (.int .i64)) x422), (1, .dat (.list (.int .i64)) x423), (5, .dat (.int .i64) 0)], []⟩ : St))) := by
  refine Link.of fun K h => ?_
  simp only [laws_eqIntS_n2, wpO_bind, wpO_cond, wpO_map, wpO_some] at h
  exact Awp.of (by kernel_rfl) h

theorem laws_eqIntS_n3_l (x422 : List Int) (x423 : List Int) (x440 : Int) : Link laws_eqIntS_ctx LL (Code.fst (Code.fst (Code.snd (Code.fst (Code.snd (Code.snd (bodyOf Try.f12))))))) (Ann.fst (Ann.fst (Ann.snd (Ann.fst (Ann.snd (Ann.snd laws_eqIntS_an)))))) (⟨mkE 26 0 [(0, .dat (.list (.int .i64)) x422), (1, .dat (.list (.int .i64)) x423), (5, .dat (.int .i64) x440)], []⟩ : St) (laws_eqIntS_n3 x422 x423 x440) (Sum.elim (fun (t : Int) => (Exit.normal, (⟨mkE 26 0 [(0, .dat (.list (.int .i64)) x422), (1, .dat (.list (.int .i64)) x423), (5, .dat (.int .i64) t)], []⟩ : St))) (Sum.elim (fun (t : Bool) => (Exit.ret, (⟨mkE 26 0 [(4, .dat .bool t)], []⟩ : St))) (fun (t : Unit) => ((Exit.exit 0), (⟨mkE 26 0 [], []⟩ : St))))) := by
  refine Link.of fun K h => ?_
  simp only [laws_eqIntS_n3, wpO_bind, wpO_cond, wpO_map, wpO_some] at h
  exact Awp.of (by kernel_rfl) h

theorem laws_eqIntS_n4_l (x422 : List Int) (x423 : List Int) : Link laws_eqIntS_ctx LL (Code.fst (Code.snd (Code.fst (Code.snd (Code.snd (bodyOf Try.f12)))))) (Ann.fst (Ann.snd (Ann.fst (Ann.snd (Ann.snd laws_eqIntS_an))))) (⟨mkE 26 0 [(0, .dat (.list (.int .i64)) x422), (1, .dat (.list (.int .i64)) x423), (5, .dat (.int .i64) 0)], []⟩ : St) (laws_eqIntS_n4 x422 x423) (Sum.elim (fun (t : Bool) => (Exit.ret, (⟨mkE 26 0 [(4, .dat .bool t)], []⟩ : St))) (fun (t : Unit) => ((Exit.exit 0), (⟨mkE 26 0 [], []⟩ : St)))) := by
  unfold laws_eqIntS_n4
  exact Link.cast (by kernel_rfl) (by kernel_rfl) (link_loop (mk := fun (s : Int) => (⟨mkE 26 0 [(0, .dat (.list (.int .i64)) x422), (1, .dat (.list (.int .i64)) x423), (5, .dat (.int .i64) s)], []⟩ : St)) (fin := (Sum.elim (fun (t : Bool) => (Exit.ret, (⟨mkE 26 0 [(4, .dat .bool t)], []⟩ : St))) (fun (t : Unit) => ((Exit.exit 0), (⟨mkE 26 0 [], []⟩ : St))))) (by
  rintro (t | t) f K h
  · exact h
  · exact h) (fun s => link_map (laws_eqIntS_n3_l x422 x423 s) (Sum.elim (fun (t : Int) => Sum.inl t) (Sum.elim (fun (t : Bool) => Sum.inr (Sum.inl t)) (fun (t : Unit) => Sum.inr (Sum.inr t)))) (by
  rintro (t | t | t)
  · kernel_rfl
  · kernel_rfl
  · kernel_rfl)) 0)

theorem laws_eqIntS_n5_l (x422 : List Int) (x423 : List Int) : Link laws_eqIntS_ctx LL (Code.snd (Code.fst (Code.snd (Code.snd (bodyOf Try.f12))))) (Ann.snd (Ann.fst (Ann.snd (Ann.snd laws_eqIntS_an)))) (⟨mkE 26 0 [(0, .dat (.list (.int .i64)) x422), (1, .dat (.list (.int .i64)) x423), (5, .dat (.int .i64) 0)], []⟩ : St) (laws_eqIntS_n5 x422 x423) (Sum.elim (fun (t : Unit) => (Exit.normal, (⟨mkE 26 0 [], []⟩ : St))) (fun (t : Bool) => (Exit.ret, (⟨mkE 26 0 [(4, .dat .bool t)], []⟩ : St)))) := by
  unfold laws_eqIntS_n5
  exact Link.cast (by kernel_rfl) (by kernel_rfl) (link_block (id := 0) (laws_eqIntS_n4_l x422 x423) (Sum.elim (fun (t : Bool) => (Sum.inr t)) (fun (t : Unit) => (Sum.inl ()))) (by
  rintro (t | t) K h
  · exact Eq.mp (by kernel_rfl) h
  · exact Eq.mp (by kernel_rfl) h))

theorem laws_eqIntS_n6_l (x422 : List Int) (x423 : List Int) : Link laws_eqIntS_ctx LL (Code.fst (Code.snd (Code.snd (bodyOf Try.f12)))) (Ann.fst (Ann.snd (Ann.snd laws_eqIntS_an))) (⟨mkE 26 0 [(0, .dat (.list (.int .i64)) x422), (1, .dat (.list (.int .i64)) x423)], []⟩ : St) (laws_eqIntS_n6 x422 x423) (Sum.elim (fun (t : Unit) => (Exit.normal, (⟨mkE 26 0 [], []⟩ : St))) (fun (t : Bool) => (Exit.ret, (⟨mkE 26 0 [(4, .dat .bool t)], []⟩ : St)))) := by
  unfold laws_eqIntS_n6
  exact Link.cast (by kernel_rfl) (by kernel_rfl) (link_seq (b := (Code.snd (Code.fst (Code.snd (Code.snd (bodyOf Try.f12)))))) (y := (Ann.snd (Ann.fst (Ann.snd (Ann.snd laws_eqIntS_an))))) (laws_eqIntS_n2_l x422 x423) (fun (t : Unit) => (laws_eqIntS_n5_l x422 x423)))

theorem laws_eqIntS_n7_l : Link laws_eqIntS_ctx LL (Code.snd (Code.snd (Code.snd (bodyOf Try.f12)))) (Ann.snd (Ann.snd (Ann.snd laws_eqIntS_an))) (⟨mkE 26 0 [], []⟩ : St) (laws_eqIntS_n7) (fun (t : Bool) => (Exit.ret, (⟨mkE 26 0 [(4, .dat .bool t)], []⟩ : St))) := by
  refine Link.of fun K h => ?_
  simp only [laws_eqIntS_n7, wpO_bind, wpO_cond, wpO_map, wpO_some] at h
  exact Awp.of (by kernel_rfl) h

theorem laws_eqIntS_n8_l (x422 : List Int) (x423 : List Int) : Link laws_eqIntS_ctx LL (Code.snd (Code.snd (bodyOf Try.f12))) (Ann.snd (Ann.snd laws_eqIntS_an)) (⟨mkE 26 0 [(0, .dat (.list (.int .i64)) x422), (1, .dat (.list (.int .i64)) x423)], []⟩ : St) (laws_eqIntS_n8 x422 x423) (fun (t : Bool) => (Exit.ret, (⟨mkE 26 0 [(4, .dat .bool t)], []⟩ : St))) := by
  unfold laws_eqIntS_n8
  exact Link.cast (by kernel_rfl) (by kernel_rfl) (link_seq2 (b := (Code.snd (Code.snd (Code.snd (bodyOf Try.f12))))) (y := (Ann.snd (Ann.snd (Ann.snd laws_eqIntS_an)))) (laws_eqIntS_n6_l x422 x423) (fun (t : Unit) => (laws_eqIntS_n7_l)) (fun (t : Bool) => t) (by
  rintro t
  · kernel_rfl) (by
  rintro t f K h
  · exact h))

theorem laws_eqIntS_n9_l (x422 : List Int) (x423 : List Int) : Link laws_eqIntS_ctx LL (bodyOf Try.f12) laws_eqIntS_an (⟨mkE 26 0 [(0, .dat (.list (.int .i64)) x422), (1, .dat (.list (.int .i64)) x423)], []⟩ : St) (laws_eqIntS_n9 x422 x423) (fun (t : Bool) => (Exit.ret, (⟨mkE 26 0 [(4, .dat .bool t)], []⟩ : St))) := by
  unfold laws_eqIntS_n9
  exact Link.cast (by kernel_rfl) (by kernel_rfl) (link_group (c := (Code.fst (Code.snd (bodyOf Try.f12)))) (a := (Ann.fst (Ann.snd laws_eqIntS_an))) [(Code.fst (bodyOf Try.f12))] [(Ann.fst laws_eqIntS_an)] rfl (link_seq2 (b := (Code.snd (Code.snd (bodyOf Try.f12)))) (y := (Ann.snd (Ann.snd laws_eqIntS_an))) (laws_eqIntS_n1_l x422 x423) (fun (t : Unit) => (laws_eqIntS_n8_l x422 x423)) (fun (t : Bool) => t) (by
  rintro t
  · kernel_rfl) (by
  rintro t f K h
  · exact h)))

theorem laws_eqIntS_e (x422 : List Int) (x423 : List Int) {r : AV} {H' : Heap} (h : (Ans.mk _ (laws_eqIntS x422 x423) (fun (t : Bool) => (.dat .bool t, []))).run = some (r, H')) : Awp laws_eqIntS_ctx LL (bodyOf Try.f12) laws_eqIntS_an (⟨mkE 26 0 [(0, .dat (.list (.int .i64)) x422), (1, .dat (.list (.int .i64)) x423)], []⟩ : St) (Ret (tlook tys) Try.f12.results.toList r H') :=
  ret_of' (laws_eqIntS_n9_l x422 x423) (by unfold laws_eqIntS; kernel_rfl) (by
  intro t
  exact ret_mk [.dat .bool t] (by kernel_rfl) (by kernel_rfl) (by kernel_rfl) (by kernel_rfl)) h

def F_laws_eqIntS : Fun := fun avs H =>
  match avs, H with
  | [.dat (.list (.int .i64)) x422, .dat (.list (.int .i64)) x423], [] => ⟨_, laws_eqIntS x422 x423, fun (t : Bool) => (.dat .bool t, [])⟩
  | _, _ => Ans.no

theorem laws_eqIntS_sound : Sound Try.prog 12 F_laws_eqIntS := by
  refine fn_sound' (C := laws_eqIntS_ctx) (c := bodyOf Try.f12) (cok_of tys_ok (by simp) (by simp) (by kernel_rfl)) Try.func12 (by kernel_rfl) LL laws_eqIntS_an ?_
  intro avs H r H' h
  unfold F_laws_eqIntS at h
  split at h
  · refine Awp.cast ?_ ?_ ?_ (laws_eqIntS_e _ _ h) <;> kernel_rfl
  · simp [Ans.no, Ans.run] at h

/-! loop.example/headtrees/laws.FnExactRootOf -/

def laws_FnExactRootOf_an : Ann := (.seq (.leaf [0]) (.seq (.seq (.leaf [0, 8]) (.cond (.seq (.leaf [2]) (.leaf [2])) (.leaf [0]))) (.seq (.leaf [0, 3]) (.seq (.leaf [0, 3, 4]) (.seq (.leaf [0, 3, 4, 5]) (.seq (.seq (.leaf [0, 4, 18]) (.cond (.seq (.leaf [2]) (.leaf [2])) (.leaf [0, 4]))) (.seq (.seq (.leaf [23]) (.cond (.seq (.leaf [2]) (.leaf [2])) (.leaf []))) (.seq (.leaf [2]) (.leaf [2])))))))))

noncomputable def laws_FnExactRootOf_ctx : Ctx := ⟨tlook tys, olook [(10, F_laws_toIntS), (9, F_spec_RootOf), (11, F_impl_RootOf), (12, F_laws_eqIntS)], ioF, 0⟩

theorem laws_FnExactRootOf_n1_l (x2 : List Int) : Link laws_FnExactRootOf_ctx LL (bodyOf Try.f3) laws_FnExactRootOf_an (⟨mkE 24 0 [(0, .dat (.list (.int .i64)) x2)], []⟩ : St) (laws_FnExactRootOf_n1 x2) (fun (t : Bool) => (Exit.ret, (⟨mkE 24 0 [(2, .dat .bool t)], []⟩ : St))) := by
  refine Link.of fun K h => ?_
  simp only [laws_FnExactRootOf_n1, wpO_bind, wpO_cond, wpO_map, wpO_some] at h
  exact Awp.of (by kernel_rfl) h

theorem laws_FnExactRootOf_e (x2 : List Int) {r : AV} {H' : Heap} (h : (Ans.mk _ (laws_FnExactRootOf x2) (fun (t : Bool) => (.dat .bool t, []))).run = some (r, H')) : Awp laws_FnExactRootOf_ctx LL (bodyOf Try.f3) laws_FnExactRootOf_an (⟨mkE 24 0 [(0, .dat (.list (.int .i64)) x2)], []⟩ : St) (Ret (tlook tys) Try.f3.results.toList r H') :=
  ret_of' (laws_FnExactRootOf_n1_l x2) (by unfold laws_FnExactRootOf; kernel_rfl) (by
  intro t
  exact ret_mk [.dat .bool t] (by kernel_rfl) (by kernel_rfl) (by kernel_rfl) (by kernel_rfl)) h

def F_laws_FnExactRootOf : Fun := fun avs H =>
  match avs, H with
  | [.dat (.list (.int .i64)) x2], [] => ⟨_, laws_FnExactRootOf x2, fun (t : Bool) => (.dat .bool t, [])⟩
  | _, _ => Ans.no

theorem laws_FnExactRootOf_sound : Sound Try.prog 3 F_laws_FnExactRootOf := by
  refine fn_sound' (C := laws_FnExactRootOf_ctx) (c := bodyOf Try.f3) (cok_of tys_ok (List.forall_mem_cons.2 ⟨laws_toIntS_sound, List.forall_mem_cons.2 ⟨spec_RootOf_sound, List.forall_mem_cons.2 ⟨impl_RootOf_sound, List.forall_mem_cons.2 ⟨laws_eqIntS_sound, by simp⟩⟩⟩⟩) (List.forall_mem_cons.2 ⟨Try.call10, List.forall_mem_cons.2 ⟨Try.call9, List.forall_mem_cons.2 ⟨Try.call11, List.forall_mem_cons.2 ⟨Try.call12, by simp⟩⟩⟩⟩) (by kernel_rfl)) Try.func3 (by kernel_rfl) LL laws_FnExactRootOf_an ?_
  intro avs H r H' h
  unfold F_laws_FnExactRootOf at h
  split at h
  · refine Awp.cast ?_ ?_ ?_ (laws_FnExactRootOf_e _ h) <;> kernel_rfl
  · simp [Ans.no, Ans.run] at h

/-! loop.example/headtrees/spec.DepthOf -/

def spec_DepthOf_an : Ann := (.seq (.leaf [0]) (.seq (.leaf [0, 3]) (.seq (.seq (.leaf [0, 3, 4]) (.block (.loop (.seq (.seq (.leaf [0, 3, 4, 15]) (.cond (.leaf [0, 3, 4]) (.leaf [3]))) (.seq (.block (.seq (.leaf [0, 3, 4, 5]) (.seq (.seq (.leaf [0, 3, 4, 5, 6]) (.block (.loop (.seq (.seq (.leaf [0, 3, 4, 5, 6, 25]) (.cond (.leaf [0, 3, 4, 5, 6]) (.leaf [0, 3, 4, 5]))) (.seq (.block (.leaf [0, 3, 4, 5, 6])) (.leaf [0, 3, 4, 5, 6])))))) (.leaf [0, 3, 4])))) (.leaf [0, 3, 4])))))) (.seq (.leaf [2]) (.leaf [2])))))

noncomputable def spec_DepthOf_ctx : Ctx := ⟨tlook tys, olook [(25, F_spec_TreeOk)], ioF, 0⟩

theorem spec_DepthOf_n1_l (x485 : List Int) : Link spec_DepthOf_ctx LL (Code.seq (Code.fst (bodyOf Try.f13)) (Code.fst (Code.snd (bodyOf Try.f13)))) (Ann.seq (Ann.fst spec_DepthOf_an) (Ann.fst (Ann.snd spec_DepthOf_an))) (⟨mkE 38 0 [(0, .dat (.list (.int .i64)) x485)], []⟩ : St) (spec_DepthOf_n1) (fun (t : Unit) => (Exit.normal, (⟨mkE 38 0 [(0, .dat (.list (.int .i64)) x485), (3, .slc 0)], [some (.seq (.int .i64) ([] : List Int))]⟩ : St))) := by
  refine Link.of fun K h => ?_
  simp only [spec_DepthOf_n1, wpO_bind, wpO_cond, wpO_map, wpO_some] at h
  exact Awp.of (by kernel_rfl) h

theorem spec_DepthOf_n2_l (x485 : List Int) : Link spec_DepthOf_ctx LL (Code.fst (Code.fst (Code.snd (Code.snd (bodyOf Try.f13))))) (Ann.fst (Ann.fst (Ann.snd (Ann.snd spec_DepthOf_an)))) (⟨mkE 38 0 [(0, .dat (.list (.int .i64)) x485), (3, .slc 0)], [some (.seq (.int .i64) ([] : List Int))]⟩ : St) (spec_DepthOf_n2) (fun (t : Unit) => (Exit.normal, (⟨mkE 38 0 [(0, .dat (.list (.int .i64)) x485), (3, .slc 0), (4, .dat (.int .i64) 0)], [some (.seq (.int .i64) ([] : List Int))]⟩ : St))) := by
  refine Link.of fun K h => ?_
  simp only [spec_DepthOf_n2, wpO_bind, wpO_cond, wpO_map, wpO_some] at h
  exact Awp.of (by kernel_rfl) h

theorem spec_DepthOf_n3_l (x485 : List Int) (x523 : Int) (x524 : List Int) : Link spec_DepthOf_ctx LL (Code.fst (Code.fst (Code.fst (Code.snd (Code.fst (Code.snd (Code.snd (bodyOf Try.f13)))))))) (Ann.fst (Ann.fst (Ann.fst (Ann.snd (Ann.fst (Ann.snd (Ann.snd spec_DepthOf_an))))))) (⟨mkE 38 0 [(0, .dat (.list (.int .i64)) x485), (3, .slc 0), (4, .dat (.int .i64) x523)], [some (.seq (.int .i64) x524)]⟩ : St) (spec_DepthOf_n3 x485 x523 x524) (Sum.elim (fun (t : Unit) => (Exit.normal, (⟨mkE 38 0 [(0, .dat (.list (.int .i64)) x485), (3, .slc 0), (4, .dat (.int .i64) x523)], [some (.seq (.int .i64) x524)]⟩ : St))) (fun (t : (List Int)) => ((Exit.exit 0), (⟨mkE 38 0 [(3, .slc 0)], [some (.seq (.int .i64) t)]⟩ : St)))) := by
  refine Link.of fun K h => ?_
  simp only [spec_DepthOf_n3, wpO_bind, wpO_cond, wpO_map, wpO_some] at h
  exact Awp.of (by kernel_rfl) h

theorem spec_DepthOf_n4_l (x485 : List Int) (x523 : Int) (x524 : List Int) : Link spec_DepthOf_ctx LL (Code.fst (Code.fst (Code.fst (Code.snd (Code.fst (Code.fst (Code.snd (Code.fst (Code.snd (Code.snd (bodyOf Try.f13))))))))))) (Ann.fst (Ann.fst (Ann.fst (Ann.snd (Ann.fst (Ann.fst (Ann.snd (Ann.fst (Ann.snd (Ann.snd spec_DepthOf_an)))))))))) (⟨mkE 38 0 [(0, .dat (.list (.int .i64)) x485), (3, .slc 0), (4, .dat (.int .i64) x523)], [some (.seq (.int .i64) x524)]⟩ : St) (spec_DepthOf_n4) (fun (t : Unit) => (Exit.normal, (⟨mkE 38 0 [(0, .dat (.list (.int .i64)) x485), (3, .slc 0), (4, .dat (.int .i64) x523), (5, .dat (.int .i64) 0)], [some (.seq (.int .i64) x524)]⟩ : St))) := by
  refine Link.of fun K h => ?_
  simp only [spec_DepthOf_n4, wpO_bind, wpO_cond, wpO_map, wpO_some] at h
  exact Awp.of (by kernel_rfl) h

theorem spec_DepthOf_n5_l (x485 : List Int) (x523 : Int) (x524 : List Int) : Link spec_DepthOf_ctx LL (Code.fst (Code.fst (Code.snd (Code.fst (Code.fst (Code.snd (Code.fst (Code.fst (Code.snd (Code.fst (Code.snd (Code.snd (bodyOf Try.f13))))))))))))) (Ann.fst (Ann.fst (Ann.snd (Ann.fst (Ann.fst (Ann.snd (Ann.fst (Ann.fst (Ann.snd (Ann.fst (Ann.snd (Ann.snd spec_DepthOf_an)))))))))))) (⟨mkE 38 0 [(0, .dat (.list (.int .i64)) x485), (3, .slc 0), (4, .dat (.int .i64) x523), (5, .dat (.int .i64) 0)], [some (.seq (.int .i64) x524)]⟩ : St) (spec_DepthOf_n5 x523) (fun (t : Int) => (Exit.normal, (⟨mkE 38 0 [(0, .dat (.list (.int .i64)) x485), (3, .slc 0), (4, .dat (.int .i64) x523), (5, .dat (.int .i64) 0), (6, .dat (.int .i64) t)], [some (.seq (.int .i64) x524)]⟩ : St))) := by
  refine Link.of fun K h => ?_
  simp only [spec_DepthOf_n5, wpO_bind, wpO_cond, wpO_map, wpO_some] at h
  exact Awp.of (by kernel_rfl) h

theorem spec_DepthOf_n6_l (x485 : List Int) (x523 : Int) (x542 : Int) (x543 : Int) (x524 : List Int) : Link spec_DepthOf_ctx LL (Code.fst (Code.fst (Code.snd (Code.fst (Code.snd (Code.fst (Code.fst (Code.snd (Code.fst (Code.fst (Code.snd (Code.fst (Code.snd (Code.snd (bodyOf Try.f13))))))))))))))) (Ann.fst (Ann.fst (Ann.snd (Ann.fst (Ann.snd (Ann.fst (Ann.fst (Ann.snd (Ann.fst (Ann.fst (Ann.snd (Ann.fst (Ann.snd (Ann.snd spec_DepthOf_an)))))))))))))) (⟨mkE 38 0 [(0, .dat (.list (.int .i64)) x485), (3, .slc 0), (4, .dat (.int .i64) x523), (5, .dat (.int .i64) x542), (6, .dat (.int .i64) x543)], [some (.seq (.int .i64) x524)]⟩ : St) (spec_DepthOf_n6 x485 x542 x543) (Sum.elim (fun (t : Int × Int) => (Exit.normal, (⟨mkE 38 0 [(0, .dat (.list (.int .i64)) x485), (3, .slc 0), (4, .dat (.int .i64) x523), (5, .dat (.int .i64) t.1), (6, .dat (.int .i64) t.2)], [some (.seq (.int .i64) x524)]⟩ : St))) (fun (t : Int) => ((Exit.exit 2), (⟨mkE 38 0 [(0, .dat (.list (.int .i64)) x485), (3, .slc 0), (4, .dat (.int .i64) x523), (5, .dat (.int .i64) t)], [some (.seq (.int .i64) x524)]⟩ : St)))) := by
  refine Link.of fun K h => ?_
  simp only [spec_DepthOf_n6, wpO_bind, wpO_cond, wpO_map, wpO_some] at h
  exact Awp.of (by kernel_rfl) h

theorem spec_DepthOf_n7_l (x485 : List Int) (x523 : Int) (x528 : Int) (x524 : List Int) : Link spec_DepthOf_ctx LL (Code.fst (Code.snd (Code.fst (Code.snd (Code.fst (Code.fst (Code.snd (Code.fst (Code.fst (Code.snd (Code.fst (Code.snd (Code.snd (bodyOf Try.f13)))))))))))))) (Ann.fst (Ann.snd (Ann.fst (Ann.snd (Ann.fst (Ann.fst (Ann.snd (Ann.fst (Ann.fst (Ann.snd (Ann.fst (Ann.snd (Ann.snd spec_DepthOf_an))))))))))))) (⟨mkE 38 0 [(0, .dat (.list (.int .i64)) x485), (3, .slc 0), (4, .dat (.int .i64) x523), (5, .dat (.int .i64) 0), (6, .dat (.int .i64) x528)], [some (.seq (.int .i64) x524)]⟩ : St) (spec_DepthOf_n7 x485 x528) (fun (t : Int) => ((Exit.exit 2), (⟨mkE 38 0 [(0, .dat (.list (.int .i64)) x485), (3, .slc 0), (4, .dat (.int .i64) x523), (5, .dat (.int .i64) t)], [some (.seq (.int .i64) x524)]⟩ : St))) := by
  unfold spec_DepthOf_n7
  exact Link.cast (by kernel_rfl) (by kernel_rfl) (link_loop (mk := fun (s : Int × Int) => (⟨mkE 38 0 [(0, .dat (.list (.int .i64)) x485), (3, .slc 0), (4, .dat (.int .i64) x523), (5, .dat (.int .i64) s.1), (6, .dat (.int .i64) s.2)], [some (.seq (.int .i64) x524)]⟩ : St)) (fin := (fun (t : Int) => ((Exit.exit 2), (⟨mkE 38 0 [(0, .dat (.list (.int .i64)) x485), (3, .slc 0), (4, .dat (.int .i64) x523), (5, .dat (.int .i64) t)], [some (.seq (.int .i64) x524)]⟩ : St)))) (by
  rintro t f K h
  · exact h) (fun s => link_map (spec_DepthOf_n6_l x485 x523 s.1 s.2 x524) (Sum.elim (fun (t : Int × Int) => Sum.inl (t.1, t.2)) (fun (t : Int) => Sum.inr t)) (by
  rintro (t | t)
  · kernel_rfl
  · kernel_rfl)) (0, x528))

theorem spec_DepthOf_n8_l (x485 : List Int) (x523 : Int) (x528 : Int) (x524 : List Int) : Link spec_DepthOf_ctx LL (Code.snd (Code.fst (Code.snd (Code.fst (Code.fst (Code.snd (Code.fst (Code.fst (Code.snd (Code.fst (Code.snd (Code.snd (bodyOf Try.f13))))))))))))) (Ann.snd (Ann.fst (Ann.snd (Ann.fst (Ann.fst (Ann.snd (Ann.fst (Ann.fst (Ann.snd (Ann.fst (Ann.snd (Ann.snd spec_DepthOf_an)))))))))))) (⟨mkE 38 0 [(0, .dat (.list (.int .i64)) x485), (3, .slc 0), (4, .dat (.int .i64) x523), (5, .dat (.int .i64) 0), (6, .dat (.int .i64) x528)], [some (.seq (.int .i64) x524)]⟩ : St) (spec_DepthOf_n8 x485 x528) (fun (t : Int) => (Exit.normal, (⟨mkE 38 0 [(0, .dat (.list (.int .i64)) x485), (3, .slc 0), (4, .dat (.int .i64) x523), (5, .dat (.int .i64) t)], [some (.seq (.int .i64) x524)]⟩ : St))) := by
  unfold spec_DepthOf_n8
  exact Link.cast (by kernel_rfl) (by kernel_rfl) (link_block (id := 2) (spec_DepthOf_n7_l x485 x523 x528 x524) (fun (t : Int) => t) (by
  rintro t K h
  · exact Eq.mp (by kernel_rfl) h))

theorem spec_DepthOf_n9_l (x485 : List Int) (x523 : Int) (x524 : List Int) : Link spec_DepthOf_ctx LL (Code.fst (Code.snd (Code.fst (Code.fst (Code.snd (Code.fst (Code.fst (Code.snd (Code.fst (Code.snd (Code.snd (bodyOf Try.f13)))))))))))) (Ann.fst (Ann.snd (Ann.fst (Ann.fst (Ann.snd (Ann.fst (Ann.fst (Ann.snd (Ann.fst (Ann.snd (Ann.snd spec_DepthOf_an))))))))))) (⟨mkE 38 0 [(0, .dat (.list (.int .i64)) x485), (3, .slc 0), (4, .dat (.int .i64) x523), (5, .dat (.int .i64) 0)], [some (.seq (.int .i64) x524)]⟩ : St) (spec_DepthOf_n9 x485 x523) (fun (t : Int) => (Exit.normal, (⟨mkE 38 0 [(0, .dat (.list (.int .i64)) x485), (3, .slc 0), (4, .dat (.int .i64) x523), (5, .dat (.int .i64) t)], [some (.seq (.int .i64) x524)]⟩ : St))) := by
  unfold spec_DepthOf_n9
  exact Link.cast (by kernel_rfl) (by kernel_rfl) (link_seq (b := (Code.snd (Code.fst (Code.snd (Code.fst (Code.fst (Code.snd (Code.fst (Code.fst (Code.snd (Code.fst (Code.snd (Code.snd (bodyOf Try.f13)))))))))))))) (y := (Ann.snd (Ann.fst (Ann.snd (Ann.fst (Ann.fst (Ann.snd (Ann.fst (Ann.fst (Ann.snd (Ann.fst (Ann.snd (Ann.snd spec_DepthOf_an))))))))))))) (spec_DepthOf_n5_l x485 x523 x524) (fun (t : Int) => (spec_DepthOf_n8_l x485 x523 t x524)))

theorem spec_DepthOf_n10_l (x485 : List Int) (x523 : Int) (x542 : Int) (x524 : List Int) : Link spec_DepthOf_ctx LL (Code.snd (Code.snd (Code.fst (Code.fst (Code.snd (Code.fst (Code.fst (Code.snd (Code.fst (Code.snd (Code.snd (bodyOf Try.f13)))))))))))) (Ann.snd (Ann.snd (Ann.fst (Ann.fst (Ann.snd (Ann.fst (Ann.fst (Ann.snd (Ann.fst (Ann.snd (Ann.snd spec_DepthOf_an))))))))))) (⟨mkE 38 0 [(0, .dat (.list (.int .i64)) x485), (3, .slc 0), (4, .dat (.int .i64) x523), (5, .dat (.int .i64) x542)], [some (.seq (.int .i64) x524)]⟩ : St) (spec_DepthOf_n10 x542 x524) (fun (t : (List Int)) => (Exit.normal, (⟨mkE 38 0 [(0, .dat (.list (.int .i64)) x485), (3, .slc 0), (4, .dat (.int .i64) x523)], [some (.seq (.int .i64) t)]⟩ : St))) := by
  refine Link.of fun K h => ?_
  simp only [spec_DepthOf_n10, wpO_bind, wpO_cond, wpO_map, wpO_some] at h
  exact Awp.of (by kernel_rfl) h

theorem spec_DepthOf_n11_l (x485 : List Int) (x523 : Int) (x524 : List Int) : Link spec_DepthOf_ctx LL (Code.snd (Code.fst (Code.fst (Code.snd (Code.fst (Code.fst (Code.snd (Code.fst (Code.snd (Code.snd (bodyOf Try.f13))))))))))) (Ann.snd (Ann.fst (Ann.fst (Ann.snd (Ann.fst (Ann.fst (Ann.snd (Ann.fst (Ann.snd (Ann.snd spec_DepthOf_an)))))))))) (⟨mkE 38 0 [(0, .dat (.list (.int .i64)) x485), (3, .slc 0), (4, .dat (.int .i64) x523), (5, .dat (.int .i64) 0)], [some (.seq (.int .i64) x524)]⟩ : St) (spec_DepthOf_n11 x485 x523 x524) (fun (t : (List Int)) => (Exit.normal, (⟨mkE 38 0 [(0, .dat (.list (.int .i64)) x485), (3, .slc 0), (4, .dat (.int .i64) x523)], [some (.seq (.int .i64) t)]⟩ : St))) := by
  unfold spec_DepthOf_n11
  exact Link.cast (by kernel_rfl) (by kernel_rfl) (link_seq (b := (Code.snd (Code.snd (Code.fst (Code.fst (Code.snd (Code.fst (Code.fst (Code.snd (Code.fst (Code.snd (Code.snd (bodyOf Try.f13))))))))))))) (y := (Ann.snd (Ann.snd (Ann.fst (Ann.fst (Ann.snd (Ann.fst (Ann.fst (Ann.snd (Ann.fst (Ann.snd (Ann.snd spec_DepthOf_an)))))))))))) (spec_DepthOf_n9_l x485 x523 x524) (fun (t : Int) => (spec_DepthOf_n10_l x485 x523 t x524)))

theorem spec_DepthOf_n12_l (x485 : List Int) (x523 : Int) (x524 : List Int) : Link spec_DepthOf_ctx LL (Code.fst (Code.fst (Code.snd (Code.fst (Code.fst (Code.snd (Code.fst (Code.snd (Code.snd (bodyOf Try.f13)))))))))) (Ann.fst (Ann.fst (Ann.snd (Ann.fst (Ann.fst (Ann.snd (Ann.fst (Ann.snd (Ann.snd spec_DepthOf_an))))))))) (⟨mkE 38 0 [(0, .dat (.list (.int .i64)) x485), (3, .slc 0), (4, .dat (.int .i64) x523)], [some (.seq (.int .i64) x524)]⟩ : St) (spec_DepthOf_n12 x485 x523 x524) (fun (t : (List Int)) => (Exit.normal, (⟨mkE 38 0 [(0, .dat (.list (.int .i64)) x485), (3, .slc 0), (4, .dat (.int .i64) x523)], [some (.seq (.int .i64) t)]⟩ : St))) := by
  unfold spec_DepthOf_n12
  exact Link.cast (by kernel_rfl) (by kernel_rfl) (link_seq (b := (Code.snd (Code.fst (Code.fst (Code.snd (Code.fst (Code.fst (Code.snd (Code.fst (Code.snd (Code.snd (bodyOf Try.f13)))))))))))) (y := (Ann.snd (Ann.fst (Ann.fst (Ann.snd (Ann.fst (Ann.fst (Ann.snd (Ann.fst (Ann.snd (Ann.snd spec_DepthOf_an))))))))))) (spec_DepthOf_n4_l x485 x523 x524) (fun (t : Unit) => (spec_DepthOf_n11_l x485 x523 x524)))

theorem spec_DepthOf_n13_l (x485 : List Int) (x523 : Int) (x524 : List Int) : Link spec_DepthOf_ctx LL (Code.fst (Code.snd (Code.fst (Code.fst (Code.snd (Code.fst (Code.snd (Code.snd (bodyOf Try.f13))))))))) (Ann.fst (Ann.snd (Ann.fst (Ann.fst (Ann.snd (Ann.fst (Ann.snd (Ann.snd spec_DepthOf_an)))))))) (⟨mkE 38 0 [(0, .dat (.list (.int .i64)) x485), (3, .slc 0), (4, .dat (.int .i64) x523)], [some (.seq (.int .i64) x524)]⟩ : St) (spec_DepthOf_n13 x485 x523 x524) (fun (t : (List Int)) => (Exit.normal, (⟨mkE 38 0 [(0, .dat (.list (.int .i64)) x485), (3, .slc 0), (4, .dat (.int .i64) x523)], [some (.seq (.int .i64) t)]⟩ : St))) := by
  unfold spec_DepthOf_n13
  exact Link.cast (by kernel_rfl) (by kernel_rfl) (link_block (id := 1) (spec_DepthOf_n12_l x485 x523 x524) (fun (t : (List Int)) => t) (by
  rintro t K h
  · exact Eq.mp (by kernel_rfl) h))

theorem spec_DepthOf_n14_l (x485 : List Int) (x523 : Int) (x560 : List Int) : Link spec_DepthOf_ctx LL (Code.snd (Code.snd (Code.fst (Code.fst (Code.snd (Code.fst (Code.snd (Code.snd (bodyOf Try.f13))))))))) (Ann.snd (Ann.snd (Ann.fst (Ann.fst (Ann.snd (Ann.fst (Ann.snd (Ann.snd spec_DepthOf_an)))))))) (⟨mkE 38 0 [(0, .dat (.list (.int .i64)) x485), (3, .slc 0), (4, .dat (.int .i64) x523)], [some (.seq (.int .i64) x560)]⟩ : St) (spec_DepthOf_n14 x523) (fun (t : Int) => (Exit.normal, (⟨mkE 38 0 [(0, .dat (.list (.int .i64)) x485), (3, .slc 0), (4, .dat (.int .i64) t)], [some (.seq (.int .i64) x560)]⟩ : St))) := by
  refine Link.of fun K h => ?_
  simp only [spec_DepthOf_n14, wpO_bind, wpO_cond, wpO_map, wpO_some] at h
  exact Awp.of (by kernel_rfl) h

theorem spec_DepthOf_n15_l (x485 : List Int) (x523 : Int) (x524 : List Int) : Link spec_DepthOf_ctx LL (Code.snd (Code.fst (Code.fst (Code.snd (Code.fst (Code.snd (Code.snd (bodyOf Try.f13)))))))) (Ann.snd (Ann.fst (Ann.fst (Ann.snd (Ann.fst (Ann.snd (Ann.snd spec_DepthOf_an))))))) (⟨mkE 38 0 [(0, .dat (.list (.int .i64)) x485), (3, .slc 0), (4, .dat (.int .i64) x523)], [some (.seq (.int .i64) x524)]⟩ : St) (spec_DepthOf_n15 x485 x523 x524) (fun (t : Int × (List Int)) => (Exit.normal, (⟨mkE 38 0 [(0, .dat (.list (.int .i64)) x485), (3, .slc 0), (4, .dat (.int .i64) t.1)], [some (.seq (.int .i64) t.2)]⟩ : St))) := by
  unfold spec_DepthOf_n15
  exact Link.cast (by kernel_rfl) (by kernel_rfl) (link_seq (b := (Code.snd (Code.snd (Code.fst (Code.fst (Code.snd (Code.fst (Code.snd (Code.snd (bodyOf Try.f13)))))))))) (y := (Ann.snd (Ann.snd (Ann.fst (Ann.fst (Ann.snd (Ann.fst (Ann.snd (Ann.snd spec_DepthOf_an))))))))) (spec_DepthOf_n13_l x485 x523 x524) (fun (t : (List Int)) => (link_map (spec_DepthOf_n14_l x485 x523 t) (fun (u : Int) => (u, t)) (by
  rintro t
  · kernel_rfl))))

theorem spec_DepthOf_n16_l (x485 : List Int) (x523 : Int) (x524 : List Int) : Link spec_DepthOf_ctx LL (Code.fst (Code.fst (Code.snd (Code.fst (Code.snd (Code.snd (bodyOf Try.f13))))))) (Ann.fst (Ann.fst (Ann.snd (Ann.fst (Ann.snd (Ann.snd spec_DepthOf_an)))))) (⟨mkE 38 0 [(0, .dat (.list (.int .i64)) x485), (3, .slc 0), (4, .dat (.int .i64) x523)], [some (.seq (.int .i64) x524)]⟩ : St) (spec_DepthOf_n16 x485 x523 x524) (Sum.elim (fun (t : Int × (List Int)) => (Exit.normal, (⟨mkE 38 0 [(0, .dat (.list (.int .i64)) x485), (3, .slc 0), (4, .dat (.int .i64) t.1)], [some (.seq (.int .i64) t.2)]⟩ : St))) (fun (t : (List Int)) => ((Exit.exit 0), (⟨mkE 38 0 [(3, .slc 0)], [some (.seq (.int .i64) t)]⟩ : St)))) := by
  unfold spec_DepthOf_n16
  exact Link.cast (by kernel_rfl) (by kernel_rfl) (link_seq2 (b := (Code.snd (Code.fst (Code.fst (Code.snd (Code.fst (Code.snd (Code.snd (bodyOf Try.f13))))))))) (y := (Ann.snd (Ann.fst (Ann.fst (Ann.snd (Ann.fst (Ann.snd (Ann.snd spec_DepthOf_an)))))))) (spec_DepthOf_n3_l x485 x523 x524) (fun (t : Unit) => (link_map (spec_DepthOf_n15_l x485 x523 x524) (fun (t : Int × (List Int)) => (Sum.inl (t.1, t.2))) (by
  rintro t
  · kernel_rfl))) (fun (t : (List Int)) => (Sum.inr t)) (by
  rintro t
  · kernel_rfl) (by
  rintro t f K h
  · exact h))

theorem spec_DepthOf_n17_l (x485 : List Int) : Link spec_DepthOf_ctx LL (Code.fst (Code.snd (Code.fst (Code.snd (Code.snd (bodyOf Try.f13)))))) (Ann.fst (Ann.snd (Ann.fst (Ann.snd (Ann.snd spec_DepthOf_an))))) (⟨mkE 38 0 [(0, .dat (.list (.int .i64)) x485), (3, .slc 0), (4, .dat (.int .i64) 0)], [some (.seq (.int .i64) ([] : List Int))]⟩ : St) (spec_DepthOf_n17 x485) (fun (t : (List Int)) => ((Exit.exit 0), (⟨mkE 38 0 [(3, .slc 0)], [some (.seq (.int .i64) t)]⟩ : St))) := by
  unfold spec_DepthOf_n17
  exact Link.cast (by kernel_rfl) (by kernel_rfl) (link_loop (mk := fun (s : Int × (List Int)) => (⟨mkE 38 0 [(0, .dat (.list (.int .i64)) x485), (3, .slc 0), (4, .dat (.int .i64) s.1)], [some (.seq (.int .i64) s.2)]⟩ : St)) (fin := (fun (t : (List Int)) => ((Exit.exit 0), (⟨mkE 38 0 [(3, .slc 0)], [some (.seq (.int .i64) t)]⟩ : St)))) (by
  rintro t f K h
  · exact h) (fun s => link_map (spec_DepthOf_n16_l x485 s.1 s.2) (Sum.elim (fun (t : Int × (List Int)) => Sum.inl (t.1, t.2)) (fun (t : (List Int)) => Sum.inr t)) (by
  rintro (t | t)
  · kernel_rfl
  · kernel_rfl)) (0, ([] : List Int)))

theorem spec_DepthOf_n18_l (x485 : List Int) : Link spec_DepthOf_ctx LL (Code.snd (Code.fst (Code.snd (Code.snd (bodyOf Try.f13))))) (Ann.snd (Ann.fst (Ann.snd (Ann.snd spec_DepthOf_an)))) (⟨mkE 38 0 [(0, .dat (.list (.int .i64)) x485), (3, .slc 0), (4, .dat (.int .i64) 0)], [some (.seq (.int .i64) ([] : List Int))]⟩ : St) (spec_DepthOf_n18 x485) (fun (t : (List Int)) => (Exit.normal, (⟨mkE 38 0 [(3, .slc 0)], [some (.seq (.int .i64) t)]⟩ : St))) := by
  unfold spec_DepthOf_n18
  exact Link.cast (by kernel_rfl) (by kernel_rfl) (link_block (id := 0) (spec_DepthOf_n17_l x485) (fun (t : (List Int)) => t) (by
  rintro t K h
  · exact Eq.mp (by kernel_rfl) h))

theorem spec_DepthOf_n19_l (x485 : List Int) : Link spec_DepthOf_ctx LL (Code.fst (Code.snd (Code.snd (bodyOf Try.f13)))) (Ann.fst (Ann.snd (Ann.snd spec_DepthOf_an))) (⟨mkE 38 0 [(0, .dat (.list (.int .i64)) x485), (3, .slc 0)], [some (.seq (.int .i64) ([] : List Int))]⟩ : St) (spec_DepthOf_n19 x485) (fun (t : (List Int)) => (Exit.normal, (⟨mkE 38 0 [(3, .slc 0)], [some (.seq (.int .i64) t)]⟩ : St))) := by
  unfold spec_DepthOf_n19
  exact Link.cast (by kernel_rfl) (by kernel_rfl) (link_seq (b := (Code.snd (Code.fst (Code.snd (Code.snd (bodyOf Try.f13)))))) (y := (Ann.snd (Ann.fst (Ann.snd (Ann.snd spec_DepthOf_an))))) (spec_DepthOf_n2_l x485) (fun (t : Unit) => (spec_DepthOf_n18_l x485)))

theorem spec_DepthOf_n20_l (x524 : List Int) : Link spec_DepthOf_ctx LL (Code.snd (Code.snd (Code.snd (bodyOf Try.f13)))) (Ann.snd (Ann.snd (Ann.snd spec_DepthOf_an))) (⟨mkE 38 0 [(3, .slc 0)], [some (.seq (.int .i64) x524)]⟩ : St) (spec_DepthOf_n20 x524) (fun (t : (List Int)) => (Exit.ret, (⟨mkE 38 0 [(2, .slc 0)], [some (.seq (.int .i64) t)]⟩ : St))) := by
  refine Link.of fun K h => ?_
  simp only [spec_DepthOf_n20, wpO_bind, wpO_cond, wpO_map, wpO_some] at h
  exact Awp.of (by kernel_rfl) h

theorem spec_DepthOf_n21_l (x485 : List Int) : Link spec_DepthOf_ctx LL (Code.snd (Code.snd (bodyOf Try.f13))) (Ann.snd (Ann.snd spec_DepthOf_an)) (⟨mkE 38 0 [(0, .dat (.list (.int .i64)) x485), (3, .slc 0)], [some (.seq (.int .i64) ([] : List Int))]⟩ : St) (spec_DepthOf_n21 x485) (fun (t : (List Int)) => (Exit.ret, (⟨mkE 38 0 [(2, .slc 0)], [some (.seq (.int .i64) t)]⟩ : St))) := by
  unfold spec_DepthOf_n21
  exact Link.cast (by kernel_rfl) (by kernel_rfl) (link_seq (b := (Code.snd (Code.snd (Code.snd (bodyOf Try.f13))))) (y := (Ann.snd (Ann.snd (Ann.snd spec_DepthOf_an)))) (spec_DepthOf_n19_l x485) (fun (t : (List Int)) => (spec_DepthOf_n20_l t)))

theorem spec_DepthOf_n22_l (x485 : List Int) : Link spec_DepthOf_ctx LL (bodyOf Try.f13) spec_DepthOf_an (⟨mkE 38 0 [(0, .dat (.list (.int .i64)) x485)], []⟩ : St) (spec_DepthOf_n22 x485) (fun (t : (List Int)) => (Exit.ret, (⟨mkE 38 0 [(2, .slc 0)], [some (.seq (.int .i64) t)]⟩ : St))) := by
  unfold spec_DepthOf_n22
  exact Link.cast (by kernel_rfl) (by kernel_rfl) (link_group (c := (Code.fst (Code.snd (bodyOf Try.f13)))) (a := (Ann.fst (Ann.snd spec_DepthOf_an))) [(Code.fst (bodyOf Try.f13))] [(Ann.fst spec_DepthOf_an)] rfl (link_seq (b := (Code.snd (Code.snd (bodyOf Try.f13)))) (y := (Ann.snd (Ann.snd spec_DepthOf_an))) (spec_DepthOf_n1_l x485) (fun (t : Unit) => (spec_DepthOf_n21_l x485))))

theorem spec_DepthOf_e (x485 : List Int) {r : AV} {H' : Heap} (h : (Ans.mk _ (spec_DepthOf x485) (fun (t : (List Int)) => (.slc 0, [some (.seq (.int .i64) t)]))).run = some (r, H')) : Awp spec_DepthOf_ctx LL (bodyOf Try.f13) spec_DepthOf_an (⟨mkE 38 0 [(0, .dat (.list (.int .i64)) x485)], []⟩ : St) (Ret (tlook tys) Try.f13.results.toList r H') :=
  ret_of' (spec_DepthOf_n22_l x485) (by unfold spec_DepthOf; kernel_rfl) (by
  intro t
  exact ret_mk [.slc 0] (by kernel_rfl) (by kernel_rfl) (by kernel_rfl) (by kernel_rfl)) h

def F_spec_DepthOf : Fun := fun avs H =>
  match avs, H with
  | [.dat (.list (.int .i64)) x485], [] => ⟨_, spec_DepthOf x485, fun (t : (List Int)) => (.slc 0, [some (.seq (.int .i64) t)])⟩
  | _, _ => Ans.no

theorem spec_DepthOf_sound : Sound Try.prog 13 F_spec_DepthOf := by
  refine fn_sound' (C := spec_DepthOf_ctx) (c := bodyOf Try.f13) (cok_of tys_ok (List.forall_mem_cons.2 ⟨spec_TreeOk_sound, by simp⟩) (List.forall_mem_cons.2 ⟨Try.call25, by simp⟩) (by kernel_rfl)) Try.func13 (by kernel_rfl) LL spec_DepthOf_an ?_
  intro avs H r H' h
  unfold F_spec_DepthOf at h
  split at h
  · refine Awp.cast ?_ ?_ ?_ (spec_DepthOf_e _ h) <;> kernel_rfl
  · simp [Ans.no, Ans.run] at h

/-! loop.example/headtrees/impl.DepthOf -/

def impl_DepthOf_an : Ann := (.seq (.leaf [0]) (.seq (.seq (.leaf [0, 7]) (.cond (.seq (.leaf [2]) (.leaf [2])) (.leaf [0]))) (.seq (.leaf [0, 3]) (.seq (.seq (.leaf [0, 3, 12, 13]) (.block (.loop (.seq (.leaf [0, 3, 12, 13, 14]) (.seq (.cond (.leaf [0, 3, 12, 13]) (.leaf [3])) (.seq (.block (.seq (.leaf [0, 3, 4, 12, 13]) (.leaf [0, 3, 12, 13]))) (.leaf [0, 3, 12, 13]))))))) (.seq (.leaf [2]) (.leaf [2]))))))

noncomputable def impl_DepthOf_ctx : Ctx := ⟨tlook tys, olook [(26, F_impl_TreeOk), (28, F_impl_stepsToRoot)], ioF, 0⟩

theorem impl_DepthOf_n1_l (x573 : List Int) : Link impl_DepthOf_ctx LL (Code.seq (Code.fst (bodyOf Try.f14)) (Code.seq (Code.fst (Code.snd (bodyOf Try.f14))) (Code.fst (Code.snd (Code.snd (bodyOf Try.f14)))))) (Ann.seq (Ann.fst impl_DepthOf_an) (Ann.seq (Ann.fst (Ann.snd impl_DepthOf_an)) (Ann.fst (Ann.snd (Ann.snd impl_DepthOf_an))))) (⟨mkE 28 0 [(0, .dat (.list (.int .i64)) x573)], []⟩ : St) (impl_DepthOf_n1 x573) (Sum.elim (fun (t : (List Int)) => (Exit.normal, (⟨mkE 28 0 [(0, .dat (.list (.int .i64)) x573), (3, .slc 0)], [some (.seq (.int .i64) t)]⟩ : St))) (fun (t : (List Int)) => (Exit.ret, (⟨mkE 28 0 [(2, .slc 0)], [some (.seq (.int .i64) t)]⟩ : St)))) := by
  refine Link.of fun K h => ?_
  simp only [impl_DepthOf_n1, wpO_bind, wpO_cond, wpO_map, wpO_some] at h
  exact Awp.of (by kernel_rfl) h

theorem impl_DepthOf_n2_l (x573 : List Int) (x580 : List Int) : Link impl_DepthOf_ctx LL (Code.fst (Code.fst (Code.snd (Code.snd (Code.snd (bodyOf Try.f14)))))) (Ann.fst (Ann.fst (Ann.snd (Ann.snd (Ann.snd impl_DepthOf_an))))) (⟨mkE 28 0 [(0, .dat (.list (.int .i64)) x573), (3, .slc 0)], [some (.seq (.int .i64) x580)]⟩ : St) (impl_DepthOf_n2 x573) (fun (t : Int) => (Exit.normal, (⟨mkE 28 0 [(0, .dat (.list (.int .i64)) x573), (3, .slc 0), (12, .dat (.int .i64) t), (13, .dat (.int .i64) 0)], [some (.seq (.int .i64) x580)]⟩ : St))) := by
  refine Link.of fun K h => ?_
  simp only [impl_DepthOf_n2, wpO_bind, wpO_cond, wpO_map, wpO_some] at h
  exact Awp.of (by kernel_rfl) h

theorem impl_DepthOf_n3_l (x573 : List Int) (x581 : Int) (x599 : Int) (x600 : List Int) : Link impl_DepthOf_ctx LL (Code.fst (Code.fst (Code.snd (Code.fst (Code.snd (Code.snd (Code.snd (bodyOf Try.f14)))))))) (Ann.fst (Ann.fst (Ann.snd (Ann.fst (Ann.snd (Ann.snd (Ann.snd impl_DepthOf_an))))))) (⟨mkE 28 0 [(0, .dat (.list (.int .i64)) x573), (3, .slc 0), (12, .dat (.int .i64) x581), (13, .dat (.int .i64) x599)], [some (.seq (.int .i64) x600)]⟩ : St) (impl_DepthOf_n3 x573 x581 x599 x600) (Sum.elim (fun (t : Int × (List Int)) => (Exit.normal, (⟨mkE 28 0 [(0, .dat (.list (.int .i64)) x573), (3, .slc 0), (12, .dat (.int .i64) x581), (13, .dat (.int .i64) t.1)], [some (.seq (.int .i64) t.2)]⟩ : St))) (fun (t : (List Int)) => ((Exit.exit 0), (⟨mkE 28 0 [(3, .slc 0)], [some (.seq (.int .i64) t)]⟩ : St)))) := by
  refine Link.of fun K h => ?_
  simp only [impl_DepthOf_n3, wpO_bind, wpO_cond, wpO_map, wpO_some] at h
  exact Awp.of (by kernel_rfl) h

theorem impl_DepthOf_n4_l (x573 : List Int) (x581 : Int) (x580 : List Int) : Link impl_DepthOf_ctx LL (Code.fst (Code.snd (Code.fst (Code.snd (Code.snd (Code.snd (bodyOf Try.f14))))))) (Ann.fst (Ann.snd (Ann.fst (Ann.snd (Ann.snd (Ann.snd impl_DepthOf_an)))))) (⟨mkE 28 0 [(0, .dat (.list (.int .i64)) x573), (3, .slc 0), (12, .dat (.int .i64) x581), (13, .dat (.int .i64) 0)], [some (.seq (.int .i64) x580)]⟩ : St) (impl_DepthOf_n4 x573 x581 x580) (fun (t : (List Int)) => ((Exit.exit 0), (⟨mkE 28 0 [(3, .slc 0)], [some (.seq (.int .i64) t)]⟩ : St))) := by
  unfold impl_DepthOf_n4
  exact Link.cast (by kernel_rfl) (by kernel_rfl) (link_loop (mk := fun (s : Int × (List Int)) => (⟨mkE 28 0 [(0, .dat (.list (.int .i64)) x573), (3, .slc 0), (12, .dat (.int .i64) x581), (13, .dat (.int .i64) s.1)], [some (.seq (.int .i64) s.2)]⟩ : St)) (fin := (fun (t : (List Int)) => ((Exit.exit 0), (⟨mkE 28 0 [(3, .slc 0)], [some (.seq (.int .i64) t)]⟩ : St)))) (by
  rintro t f K h
  · exact h) (fun s => link_map (impl_DepthOf_n3_l x573 x581 s.1 s.2) (Sum.elim (fun (t : Int × (List Int)) => Sum.inl (t.1, t.2)) (fun (t : (List Int)) => Sum.inr t)) (by
  rintro (t | t)
  · kernel_rfl
  · kernel_rfl)) (0, x580))

theorem impl_DepthOf_n5_l (x573 : List Int) (x581 : Int) (x580 : List Int) : Link impl_DepthOf_ctx LL (Code.snd (Code.fst (Code.snd (Code.snd (Code.snd (bodyOf Try.f14)))))) (Ann.snd (Ann.fst (Ann.snd (Ann.snd (Ann.snd impl_DepthOf_an))))) (⟨mkE 28 0 [(0, .dat (.list (.int .i64)) x573), (3, .slc 0), (12, .dat (.int .i64) x581), (13, .dat (.int .i64) 0)], [some (.seq (.int .i64) x580)]⟩ : St) (impl_DepthOf_n5 x573 x581 x580) (fun (t : (List Int)) => (Exit.normal, (⟨mkE 28 0 [(3, .slc 0)], [some (.seq (.int .i64) t)]⟩ : St))) := by
  unfold impl_DepthOf_n5
  exact Link.cast (by kernel_rfl) (by kernel_rfl) (link_block (id := 0) (impl_DepthOf_n4_l x573 x581 x580) (fun (t : (List Int)) => t) (by
  rintro t K h
  · exact Eq.mp (by kernel_rfl) h))

theorem impl_DepthOf_n6_l (x573 : List Int) (x580 : List Int) : Link impl_DepthOf_ctx LL (Code.fst (Code.snd (Code.snd (Code.snd (bodyOf Try.f14))))) (Ann.fst (Ann.snd (Ann.snd (Ann.snd impl_DepthOf_an)))) (⟨mkE 28 0 [(0, .dat (.list (.int .i64)) x573), (3, .slc 0)], [some (.seq (.int .i64) x580)]⟩ : St) (impl_DepthOf_n6 x573 x580) (fun (t : (List Int)) => (Exit.normal, (⟨mkE 28 0 [(3, .slc 0)], [some (.seq (.int .i64) t)]⟩ : St))) := by
  unfold impl_DepthOf_n6
  exact Link.cast (by kernel_rfl) (by kernel_rfl) (link_seq (b := (Code.snd (Code.fst (Code.snd (Code.snd (Code.snd (bodyOf Try.f14))))))) (y := (Ann.snd (Ann.fst (Ann.snd (Ann.snd (Ann.snd impl_DepthOf_an)))))) (impl_DepthOf_n2_l x573 x580) (fun (t : Int) => (impl_DepthOf_n5_l x573 t x580)))

theorem impl_DepthOf_n7_l (x600 : List Int) : Link impl_DepthOf_ctx LL (Code.snd (Code.snd (Code.snd (Code.snd (bodyOf Try.f14))))) (Ann.snd (Ann.snd (Ann.snd (Ann.snd impl_DepthOf_an)))) (⟨mkE 28 0 [(3, .slc 0)], [some (.seq (.int .i64) x600)]⟩ : St) (impl_DepthOf_n7 x600) (fun (t : (List Int)) => (Exit.ret, (⟨mkE 28 0 [(2, .slc 0)], [some (.seq (.int .i64) t)]⟩ : St))) := by
  refine Link.of fun K h => ?_
  simp only [impl_DepthOf_n7, wpO_bind, wpO_cond, wpO_map, wpO_some] at h
  exact Awp.of (by kernel_rfl) h

theorem impl_DepthOf_n8_l (x573 : List Int) (x580 : List Int) : Link impl_DepthOf_ctx LL (Code.snd (Code.snd (Code.snd (bodyOf Try.f14)))) (Ann.snd (Ann.snd (Ann.snd impl_DepthOf_an))) (⟨mkE 28 0 [(0, .dat (.list (.int .i64)) x573), (3, .slc 0)], [some (.seq (.int .i64) x580)]⟩ : St) (impl_DepthOf_n8 x573 x580) (fun (t : (List Int)) => (Exit.ret, (⟨mkE 28 0 [(2, .slc 0)], [some (.seq (.int .i64) t)]⟩ : St))) := by
  unfold impl_DepthOf_n8
  exact Link.cast (by kernel_rfl) (by kernel_rfl) (link_seq (b := (Code.snd (Code.snd (Code.snd (Code.snd (bodyOf Try.f14)))))) (y := (Ann.snd (Ann.snd (Ann.snd (Ann.snd impl_DepthOf_an))))) (impl_DepthOf_n6_l x573 x580) (fun (t : (List Int)) => (impl_DepthOf_n7_l t)))

theorem impl_DepthOf_n9_l (x573 : List Int) : Link impl_DepthOf_ctx LL (bodyOf Try.f14) impl_DepthOf_an (⟨mkE 28 0 [(0, .dat (.list (.int .i64)) x573)], []⟩ : St) (impl_DepthOf_n9 x573) (fun (t : (List Int)) => (Exit.ret, (⟨mkE 28 0 [(2, .slc 0)], [some (.seq (.int .i64) t)]⟩ : St))) := by
  unfold impl_DepthOf_n9
  exact Link.cast (by kernel_rfl) (by kernel_rfl) (link_group (c := (Code.fst (Code.snd (Code.snd (bodyOf Try.f14))))) (a := (Ann.fst (Ann.snd (Ann.snd impl_DepthOf_an)))) [(Code.fst (bodyOf Try.f14)), (Code.fst (Code.snd (bodyOf Try.f14)))] [(Ann.fst impl_DepthOf_an), (Ann.fst (Ann.snd impl_DepthOf_an))] rfl (link_seq2 (b := (Code.snd (Code.snd (Code.snd (bodyOf Try.f14))))) (y := (Ann.snd (Ann.snd (Ann.snd impl_DepthOf_an)))) (impl_DepthOf_n1_l x573) (fun (t : (List Int)) => (impl_DepthOf_n8_l x573 t)) (fun (t : (List Int)) => t) (by
  rintro t
  · kernel_rfl) (by
  rintro t f K h
  · exact h)))

theorem impl_DepthOf_e (x573 : List Int) {r : AV} {H' : Heap} (h : (Ans.mk _ (impl_DepthOf x573) (fun (t : (List Int)) => (.slc 0, [some (.seq (.int .i64) t)]))).run = some (r, H')) : Awp impl_DepthOf_ctx LL (bodyOf Try.f14) impl_DepthOf_an (⟨mkE 28 0 [(0, .dat (.list (.int .i64)) x573)], []⟩ : St) (Ret (tlook tys) Try.f14.results.toList r H') :=
  ret_of' (impl_DepthOf_n9_l x573) (by unfold impl_DepthOf; kernel_rfl) (by
  intro t
  exact ret_mk [.slc 0] (by kernel_rfl) (by kernel_rfl) (by kernel_rfl) (by kernel_rfl)) h

def F_impl_DepthOf : Fun := fun avs H =>
  match avs, H with
  | [.dat (.list (.int .i64)) x573], [] => ⟨_, impl_DepthOf x573, fun (t : (List Int)) => (.slc 0, [some (.seq (.int .i64) t)])⟩
  | _, _ => Ans.no

theorem impl_DepthOf_sound : Sound Try.prog 14 F_impl_DepthOf := by
  refine fn_sound' (C := impl_DepthOf_ctx) (c := bodyOf Try.f14) (cok_of tys_ok (List.forall_mem_cons.2 ⟨impl_TreeOk_sound, List.forall_mem_cons.2 ⟨impl_stepsToRoot_sound, by simp⟩⟩) (List.forall_mem_cons.2 ⟨Try.call26, List.forall_mem_cons.2 ⟨Try.call28, by simp⟩⟩) (by kernel_rfl)) Try.func14 (by kernel_rfl) LL impl_DepthOf_an ?_
  intro avs H r H' h
  unfold F_impl_DepthOf at h
  split at h
  · refine Awp.cast ?_ ?_ ?_ (impl_DepthOf_e _ h) <;> kernel_rfl
  · simp [Ans.no, Ans.run] at h

/-! loop.example/headtrees/laws.markIntS -/

def laws_markIntS_an : Ann := (.seq (.leaf [0, 1]) (.seq (.seq (.leaf [0, 1, 5]) (.block (.loop (.seq (.seq (.leaf [0, 1, 5, 9]) (.cond (.leaf [0, 1, 5]) (.leaf [1]))) (.seq (.block (.seq (.leaf [0, 1, 5]) (.leaf [0, 1, 5]))) (.leaf [0, 1, 5])))))) (.seq (.leaf [4]) (.leaf [4]))))

noncomputable def laws_markIntS_ctx : Ctx := ⟨tlook tys, olook [], ioF, 1⟩

theorem laws_markIntS_n1_l (x661 : Int) (x662 : List Int) : Link laws_markIntS_ctx LL (Code.fst (bodyOf Try.f15)) (Ann.fst laws_markIntS_an) (⟨mkE 19 0 [(0, .slc 0), (1, .dat (.int .i64) x661)], [some (.seq (.int .i64) x662)]⟩ : St) (laws_markIntS_n1) (fun (t : Unit) => (Exit.normal, (⟨mkE 19 0 [(0, .slc 0), (1, .dat (.int .i64) x661)], [some (.seq (.int .i64) x662)]⟩ : St))) := by
  refine Link.of fun K h => ?_
  simp only [laws_markIntS_n1, wpO_bind, wpO_cond, wpO_map, wpO_some] at h
  exact Awp.of (by kernel_rfl) h

theorem laws_markIntS_n2_l (x661 : Int) (x662 : List Int) : Link laws_markIntS_ctx LL (Code.fst (Code.fst (Code.snd (bodyOf Try.f15)))) (Ann.fst (Ann.fst (Ann.snd laws_markIntS_an))) (⟨mkE 19 0 [(0, .slc 0), (1, .dat (.int .i64) x661)], [some (.seq (.int .i64) x662)]⟩ : St) (laws_markIntS_n2) (fun (t : Unit) => (Exit.normal, (⟨mkE 19 0 [(0, .slc 0), (1, .dat (.int .i64) x661), (5, .dat (.int .i64) 0)], [some (.seq (.int .i64) x662)]⟩ : St))) := by
  refine Link.of fun K h => ?_
  simp only [laws_markIntS_n2, wpO_bind, wpO_cond, wpO_map, wpO_some] at h
  exact Awp.of (by kernel_rfl) h

theorem laws_markIntS_n3_l (x676 : Int) (x677 : Int) (x678 : List Int) : Link laws_markIntS_ctx LL (Code.fst (Code.fst (Code.snd (Code.fst (Code.snd (bodyOf Try.f15)))))) (Ann.fst (Ann.fst (Ann.snd (Ann.fst (Ann.snd laws_markIntS_an))))) (⟨mkE 19 0 [(0, .slc 0), (1, .dat (.int .i64) x676), (5, .dat (.int .i64) x677)], [some (.seq (.int .i64) x678)]⟩ : St) (laws_markIntS_n3 x676 x677 x678) (Sum.elim (fun (t : Int × Int × (List Int)) => (Exit.normal, (⟨mkE 19 0 [(0, .slc 0), (1, .dat (.int .i64) t.1), (5, .dat (.int .i64) t.2.1)], [some (.seq (.int .i64) t.2.2)]⟩ : St))) (fun (t : Int × (List Int)) => ((Exit.exit 0), (⟨mkE 19 0 [(1, .dat (.int .i64) t.1)], [some (.seq (.int .i64) t.2)]⟩ : St)))) := by
  refine Link.of fun K h => ?_
  simp only [laws_markIntS_n3, wpO_bind, wpO_cond, wpO_map, wpO_some] at h
  exact Awp.of (by kernel_rfl) h

theorem laws_markIntS_n4_l (x661 : Int) (x662 : List Int) : Link laws_markIntS_ctx LL (Code.fst (Code.snd (Code.fst (Code.snd (bodyOf Try.f15))))) (Ann.fst (Ann.snd (Ann.fst (Ann.snd laws_markIntS_an)))) (⟨mkE 19 0 [(0, .slc 0), (1, .dat (.int .i64) x661), (5, .dat (.int .i64) 0)], [some (.seq (.int .i64) x662)]⟩ : St) (laws_markIntS_n4 x661 x662) (fun (t : Int × (List Int)) => ((Exit.exit 0), (⟨mkE 19 0 [(1, .dat (.int .i64) t.1)], [some (.seq (.int .i64) t.2)]⟩ : St))) := by
  unfold laws_markIntS_n4
  exact Link.cast (by kernel_rfl) (by kernel_rfl) (link_loop (mk := fun (s : Int × Int × (List Int)) => (⟨mkE 19 0 [(0, .slc 0), (1, .dat (.int .i64) s.1), (5, .dat (.int .i64) s.2.1)], [some (.seq (.int .i64) s.2.2)]⟩ : St)) (fin := (fun (t : Int × (List Int)) => ((Exit.exit 0), (⟨mkE 19 0 [(1, .dat (.int .i64) t.1)], [some (.seq (.int .i64) t.2)]⟩ : St)))) (by
  rintro t f K h
  · exact h) (fun s => link_map (laws_markIntS_n3_l s.1 s.2.1 s.2.2) (Sum.elim (fun (t : Int × Int × (List Int)) => Sum.inl (t.1, t.2.1, t.2.2)) (fun (t : Int × (List Int)) => Sum.inr t)) (by
  rintro (t | t)
  · kernel_rfl
  · kernel_rfl)) (x661, 0, x662))

theorem laws_markIntS_n5_l (x661 : Int) (x662 : List Int) : Link laws_markIntS_ctx LL (Code.snd (Code.fst (Code.snd (bodyOf Try.f15)))) (Ann.snd (Ann.fst (Ann.snd laws_markIntS_an))) (⟨mkE 19 0 [(0, .slc 0), (1, .dat (.int .i64) x661), (5, .dat (.int .i64) 0)], [some (.seq (.int .i64) x662)]⟩ : St) (laws_markIntS_n5 x661 x662) (fun (t : Int × (List Int)) => (Exit.normal, (⟨mkE 19 0 [(1, .dat (.int .i64) t.1)], [some (.seq (.int .i64) t.2)]⟩ : St))) := by
  unfold laws_markIntS_n5
  exact Link.cast (by kernel_rfl) (by kernel_rfl) (link_block (id := 0) (laws_markIntS_n4_l x661 x662) (fun (t : Int × (List Int)) => (t.1, t.2)) (by
  rintro t K h
  · exact Eq.mp (by kernel_rfl) h))

theorem laws_markIntS_n6_l (x661 : Int) (x662 : List Int) : Link laws_markIntS_ctx LL (Code.fst (Code.snd (bodyOf Try.f15))) (Ann.fst (Ann.snd laws_markIntS_an)) (⟨mkE 19 0 [(0, .slc 0), (1, .dat (.int .i64) x661)], [some (.seq (.int .i64) x662)]⟩ : St) (laws_markIntS_n6 x661 x662) (fun (t : Int × (List Int)) => (Exit.normal, (⟨mkE 19 0 [(1, .dat (.int .i64) t.1)], [some (.seq (.int .i64) t.2)]⟩ : St))) := by
  unfold laws_markIntS_n6
  exact Link.cast (by kernel_rfl) (by kernel_rfl) (link_seq (b := (Code.snd (Code.fst (Code.snd (bodyOf Try.f15))))) (y := (Ann.snd (Ann.fst (Ann.snd laws_markIntS_an)))) (laws_markIntS_n2_l x661 x662) (fun (t : Unit) => (laws_markIntS_n5_l x661 x662)))

theorem laws_markIntS_n7_l (x676 : Int) (x678 : List Int) : Link laws_markIntS_ctx LL (Code.snd (Code.snd (bodyOf Try.f15))) (Ann.snd (Ann.snd laws_markIntS_an)) (⟨mkE 19 0 [(1, .dat (.int .i64) x676)], [some (.seq (.int .i64) x678)]⟩ : St) (laws_markIntS_n7 x676 x678) (fun (t : Int × (List Int)) => (Exit.ret, (⟨mkE 19 0 [(4, .dat (.int .i64) t.1)], [some (.seq (.int .i64) t.2)]⟩ : St))) := by
  refine Link.of fun K h => ?_
  simp only [laws_markIntS_n7, wpO_bind, wpO_cond, wpO_map, wpO_some] at h
  exact Awp.of (by kernel_rfl) h

theorem laws_markIntS_n8_l (x661 : Int) (x662 : List Int) : Link laws_markIntS_ctx LL (Code.snd (bodyOf Try.f15)) (Ann.snd laws_markIntS_an) (⟨mkE 19 0 [(0, .slc 0), (1, .dat (.int .i64) x661)], [some (.seq (.int .i64) x662)]⟩ : St) (laws_markIntS_n8 x661 x662) (fun (t : Int × (List Int)) => (Exit.ret, (⟨mkE 19 0 [(4, .dat (.int .i64) t.1)], [some (.seq (.int .i64) t.2)]⟩ : St))) := by
  unfold laws_markIntS_n8
  exact Link.cast (by kernel_rfl) (by kernel_rfl) (link_seq (b := (Code.snd (Code.snd (bodyOf Try.f15)))) (y := (Ann.snd (Ann.snd laws_markIntS_an))) (laws_markIntS_n6_l x661 x662) (fun (t : Int × (List Int)) => (laws_markIntS_n7_l t.1 t.2)))

theorem laws_markIntS_n9_l (x661 : Int) (x662 : List Int) : Link laws_markIntS_ctx LL (bodyOf Try.f15) laws_markIntS_an (⟨mkE 19 0 [(0, .slc 0), (1, .dat (.int .i64) x661)], [some (.seq (.int .i64) x662)]⟩ : St) (laws_markIntS_n9 x661 x662) (fun (t : Int × (List Int)) => (Exit.ret, (⟨mkE 19 0 [(4, .dat (.int .i64) t.1)], [some (.seq (.int .i64) t.2)]⟩ : St))) := by
  unfold laws_markIntS_n9
  exact Link.cast (by kernel_rfl) (by kernel_rfl) (link_seq (b := (Code.snd (bodyOf Try.f15))) (y := (Ann.snd laws_markIntS_an)) (laws_markIntS_n1_l x661 x662) (fun (t : Unit) => (laws_markIntS_n8_l x661 x662)))

theorem laws_markIntS_e (x661 : Int) (x662 : List Int) {r : AV} {H' : Heap} (h : (Ans.mk _ (laws_markIntS x661 x662) (fun (t : Int × (List Int)) => (.dat (.int .i64) t.1, [some (.seq (.int .i64) t.2)]))).run = some (r, H')) : Awp laws_markIntS_ctx LL (bodyOf Try.f15) laws_markIntS_an (⟨mkE 19 0 [(0, .slc 0), (1, .dat (.int .i64) x661)], [some (.seq (.int .i64) x662)]⟩ : St) (Ret (tlook tys) Try.f15.results.toList r H') :=
  ret_of' (laws_markIntS_n9_l x661 x662) (by unfold laws_markIntS; kernel_rfl) (by
  intro t
  exact ret_mk [.dat (.int .i64) t.1] (by kernel_rfl) (by kernel_rfl) (by kernel_rfl) (by kernel_rfl)) h

def F_laws_markIntS : Fun := fun avs H =>
  match avs, H with
  | [.slc 0, .dat (.int .i64) x661], [some (.seq (.int .i64) x662)] => ⟨_, laws_markIntS x661 x662, fun (t : Int × (List Int)) => (.dat (.int .i64) t.1, [some (.seq (.int .i64) t.2)])⟩
  | _, _ => Ans.no

theorem laws_markIntS_sound : Sound Try.prog 15 F_laws_markIntS := by
  refine fn_sound' (C := laws_markIntS_ctx) (c := bodyOf Try.f15) (cok_of tys_ok (by simp) (by simp) (by kernel_rfl)) Try.func15 (by kernel_rfl) LL laws_markIntS_an ?_
  intro avs H r H' h
  unfold F_laws_markIntS at h
  split at h
  · refine Awp.cast ?_ ?_ ?_ (laws_markIntS_e _ _ h) <;> kernel_rfl
  · simp [Ans.no, Ans.run] at h

/-! loop.example/headtrees/laws.heldIntS -/

def laws_heldIntS_an : Ann := (.seq (.leaf [0, 1]) (.seq (.seq (.leaf [0, 1, 5]) (.block (.loop (.seq (.seq (.leaf [0, 1, 5, 9]) (.cond (.leaf [0, 1, 5]) (.leaf [1]))) (.seq (.block (.seq (.seq (.leaf [0, 1, 5, 17]) (.cond (.seq (.leaf [4]) (.leaf [4])) (.leaf [0, 1, 5]))) (.leaf [0, 1, 5]))) (.leaf [0, 1, 5])))))) (.seq (.leaf [4]) (.leaf [4]))))

noncomputable def laws_heldIntS_ctx : Ctx := ⟨tlook tys, olook [], ioF, 0⟩

theorem laws_heldIntS_n1_l (x789 : List Int) (x790 : Int) : Link laws_heldIntS_ctx LL (Code.fst (bodyOf Try.f16)) (Ann.fst laws_heldIntS_an) (⟨mkE 21 0 [(0, .dat (.list (.int .i64)) x789), (1, .dat (.int .i64) x790)], []⟩ : St) (laws_heldIntS_n1) (fun (t : Unit) => (Exit.normal, (⟨mkE 21 0 [(0, .dat (.list (.int .i64)) x789), (1, .dat (.int .i64) x790)], []⟩ : St))) := by
  refine Link.of fun K h => ?_
  simp only [laws_heldIntS_n1, wpO_bind, wpO_cond, wpO_map, wpO_some] at h
  exact Awp.of (by kernel_rfl) h

theorem laws_heldIntS_n2_l (x789 : List Int) (x790 : Int) : Link laws_heldIntS_ctx LL (Code.fst (Code.fst (Code.snd (bodyOf Try.f16)))) (Ann.fst (Ann.fst (Ann.snd laws_heldIntS_an))) (⟨mkE 21 0 [(0, .dat (.list (.int .i64)) x789), (1, .dat (.int .i64) x790)], []⟩ : St) (laws_heldIntS_n2) (fun (t : Unit) => (Exit.normal, (⟨mkE 21 0 [(0, .dat (.list (.int .i64)) x789), (1, .dat (.int .i64) x790), (5, .dat (.int .i64) 0)], []⟩ : St))) := by
  refine Link.of fun K h => ?_
  simp only [laws_heldIntS_n2, wpO_bind, wpO_cond, wpO_map, wpO_some] at h
  exact Awp.of (by kernel_rfl) h

theorem laws_heldIntS_n3_l (x789 : List Int) (x804 : Int) (x805 : Int) : Link laws_heldIntS_ctx LL (Code.fst (Code.fst (Code.snd (Code.fst (Code.snd (bodyOf Try.f16)))))) (Ann.fst (Ann.fst (Ann.snd (Ann.fst (Ann.snd laws_heldIntS_an))))) (⟨mkE 21 0 [(0, .dat (.list (.int .i64)) x789), (1, .dat (.int .i64) x804), (5, .dat (.int .i64) x805)], []⟩ : St) (laws_heldIntS_n3 x789 x804 x805) (Sum.elim (fun (t : Int × Int) => (Exit.normal, (⟨mkE 21 0 [(0, .dat (.list (.int .i64)) x789), (1, .dat (.int .i64) t.1), (5, .dat (.int .i64) t.2)], []⟩ : St))) (Sum.elim (fun (t : Int) => (Exit.ret, (⟨mkE 21 0 [(4, .dat (.int .i64) t)], []⟩ : St))) (fun (t : Int) => ((Exit.exit 0), (⟨mkE 21 0 [(1, .dat (.int .i64) t)], []⟩ : St))))) := by
  refine Link.of fun K h => ?_
  simp only [laws_heldIntS_n3, wpO_bind, wpO_cond, wpO_map, wpO_some] at h
  exact Awp.of (by kernel_rfl) h

theorem laws_heldIntS_n4_l (x789 : List Int) (x790 : Int) : Link laws_heldIntS_ctx LL (Code.fst (Code.snd (Code.fst (Code.snd (bodyOf Try.f16))))) (Ann.fst (Ann.snd (Ann.fst (Ann.snd laws_heldIntS_an)))) (⟨mkE 21 0 [(0, .dat (.list (.int .i64)) x789), (1, .dat (.int .i64) x790), (5, .dat (.int .i64) 0)], []⟩ : St) (laws_heldIntS_n4 x789 x790) (Sum.elim (fun (t : Int) => (Exit.ret, (⟨mkE 21 0 [(4, .dat (.int .i64) t)], []⟩ : St))) (fun (t : Int) => ((Exit.exit 0), (⟨mkE 21 0 [(1, .dat (.int .i64) t)], []⟩ : St)))) := by
  unfold laws_heldIntS_n4
  exact Link.cast (by kernel_rfl) (by kernel_rfl) (link_loop (mk := fun (s : Int × Int) => (⟨mkE 21 0 [(0, .dat (.list (.int .i64)) x789), (1, .dat (.int .i64) s.1), (5, .dat (.int .i64) s.2)], []⟩ : St)) (fin := (Sum.elim (fun (t : Int) => (Exit.ret, (⟨mkE 21 0 [(4, .dat (.int .i64) t)], []⟩ : St))) (fun (t : Int) => ((Exit.exit 0), (⟨mkE 21 0 [(1, .dat (.int .i64) t)], []⟩ : St))))) (by
  rintro (t | t) f K h
  · exact h
  · exact h) (fun s => link_map (laws_heldIntS_n3_l x789 s.1 s.2) (Sum.elim (fun (t : Int × Int) => Sum.inl (t.1, t.2)) (Sum.elim (fun (t : Int) => Sum.inr (Sum.inl t)) (fun (t : Int) => Sum.inr (Sum.inr t)))) (by
  rintro (t | t | t)
  · kernel_rfl
  · kernel_rfl
  · kernel_rfl)) (x790, 0))

theorem laws_heldIntS_n5_l (x789 : List Int) (x790 : Int) : Link laws_heldIntS_ctx LL (Code.snd (Code.fst (Code.snd (bodyOf Try.f16)))) (Ann.snd (Ann.fst (Ann.snd laws_heldIntS_an))) (⟨mkE 21 0 [(0, .dat (.list (.int .i64)) x789), (1, .dat (.int .i64) x790), (5, .dat (.int .i64) 0)], []⟩ : St) (laws_heldIntS_n5 x789 x790) (Sum.elim (fun (t : Int) => (Exit.normal, (⟨mkE 21 0 [(1, .dat (.int .i64) t)], []⟩ : St))) (fun (t : Int) => (Exit.ret, (⟨mkE 21 0 [(4, .dat (.int .i64) t)], []⟩ : St)))) := by
  unfold laws_heldIntS_n5
  exact Link.cast (by kernel_rfl) (by kernel_rfl) (link_block (id := 0) (laws_heldIntS_n4_l x789 x790) (Sum.elim (fun (t : Int) => (Sum.inr t)) (fun (t : Int) => (Sum.inl t))) (by
  rintro (t | t) K h
  · exact Eq.mp (by kernel_rfl) h
  · exact Eq.mp (by kernel_rfl) h))

theorem laws_heldIntS_n6_l (x789 : List Int) (x790 : Int) : Link laws_heldIntS_ctx LL (Code.fst (Code.snd (bodyOf Try.f16))) (Ann.fst (Ann.snd laws_heldIntS_an)) (⟨mkE 21 0 [(0, .dat (.list (.int .i64)) x789), (1, .dat (.int .i64) x790)], []⟩ : St) (laws_heldIntS_n6 x789 x790) (Sum.elim (fun (t : Int) => (Exit.normal, (⟨mkE 21 0 [(1, .dat (.int .i64) t)], []⟩ : St))) (fun (t : Int) => (Exit.ret, (⟨mkE 21 0 [(4, .dat (.int .i64) t)], []⟩ : St)))) := by
  unfold laws_heldIntS_n6
  exact Link.cast (by kernel_rfl) (by kernel_rfl) (link_seq (b := (Code.snd (Code.fst (Code.snd (bodyOf Try.f16))))) (y := (Ann.snd (Ann.fst (Ann.snd laws_heldIntS_an)))) (laws_heldIntS_n2_l x789 x790) (fun (t : Unit) => (laws_heldIntS_n5_l x789 x790)))

theorem laws_heldIntS_n7_l (x804 : Int) : Link laws_heldIntS_ctx LL (Code.snd (Code.snd (bodyOf Try.f16))) (Ann.snd (Ann.snd laws_heldIntS_an)) (⟨mkE 21 0 [(1, .dat (.int .i64) x804)], []⟩ : St) (laws_heldIntS_n7 x804) (fun (t : Int) => (Exit.ret, (⟨mkE 21 0 [(4, .dat (.int .i64) t)], []⟩ : St))) := by
  refine Link.of fun K h => ?_
  simp only [laws_heldIntS_n7, wpO_bind, wpO_cond, wpO_map, wpO_some] at h
  exact Awp.of (by kernel_rfl) h

theorem laws_heldIntS_n8_l (x789 : List Int) (x790 : Int) : Link laws_heldIntS_ctx LL (Code.snd (bodyOf Try.f16)) (Ann.snd laws_heldIntS_an) (⟨mkE 21 0 [(0, .dat (.list (.int .i64)) x789), (1, .dat (.int .i64) x790)], []⟩ : St) (laws_heldIntS_n8 x789 x790) (fun (t : Int) => (Exit.ret, (⟨mkE 21 0 [(4, .dat (.int .i64) t)], []⟩ : St))) := by
  unfold laws_heldIntS_n8
  exact Link.cast (by kernel_rfl) (by kernel_rfl) (link_seq2 (b := (Code.snd (Code.snd (bodyOf Try.f16)))) (y := (Ann.snd (Ann.snd laws_heldIntS_an))) (laws_heldIntS_n6_l x789 x790) (fun (t : Int) => (laws_heldIntS_n7_l t)) (fun (t : Int) => t) (by
  rintro t
  · kernel_rfl) (by
  rintro t f K h
  · exact h))

theorem laws_heldIntS_n9_l (x789 : List Int) (x790 : Int) : Link laws_heldIntS_ctx LL (bodyOf Try.f16) laws_heldIntS_an (⟨mkE 21 0 [(0, .dat (.list (.int .i64)) x789), (1, .dat (.int .i64) x790)], []⟩ : St) (laws_heldIntS_n9 x789 x790) (fun (t : Int) => (Exit.ret, (⟨mkE 21 0 [(4, .dat (.int .i64) t)], []⟩ : St))) := by
  unfold laws_heldIntS_n9
  exact Link.cast (by kernel_rfl) (by kernel_rfl) (link_seq (b := (Code.snd (bodyOf Try.f16))) (y := (Ann.snd laws_heldIntS_an)) (laws_heldIntS_n1_l x789 x790) (fun (t : Unit) => (laws_heldIntS_n8_l x789 x790)))

theorem laws_heldIntS_e (x789 : List Int) (x790 : Int) {r : AV} {H' : Heap} (h : (Ans.mk _ (laws_heldIntS x789 x790) (fun (t : Int) => (.dat (.int .i64) t, []))).run = some (r, H')) : Awp laws_heldIntS_ctx LL (bodyOf Try.f16) laws_heldIntS_an (⟨mkE 21 0 [(0, .dat (.list (.int .i64)) x789), (1, .dat (.int .i64) x790)], []⟩ : St) (Ret (tlook tys) Try.f16.results.toList r H') :=
  ret_of' (laws_heldIntS_n9_l x789 x790) (by unfold laws_heldIntS; kernel_rfl) (by
  intro t
  exact ret_mk [.dat (.int .i64) t] (by kernel_rfl) (by kernel_rfl) (by kernel_rfl) (by kernel_rfl)) h

def F_laws_heldIntS : Fun := fun avs H =>
  match avs, H with
  | [.dat (.list (.int .i64)) x789, .dat (.int .i64) x790], [] => ⟨_, laws_heldIntS x789 x790, fun (t : Int) => (.dat (.int .i64) t, [])⟩
  | _, _ => Ans.no

theorem laws_heldIntS_sound : Sound Try.prog 16 F_laws_heldIntS := by
  refine fn_sound' (C := laws_heldIntS_ctx) (c := bodyOf Try.f16) (cok_of tys_ok (by simp) (by simp) (by kernel_rfl)) Try.func16 (by kernel_rfl) LL laws_heldIntS_an ?_
  intro avs H r H' h
  unfold F_laws_heldIntS at h
  split at h
  · refine Awp.cast ?_ ?_ ?_ (laws_heldIntS_e _ _ h) <;> kernel_rfl
  · simp [Ans.no, Ans.run] at h

/-! loop.example/headtrees/laws.FnExactDepthOf -/

def laws_FnExactDepthOf_an : Ann := (.seq (.leaf [0]) (.seq (.seq (.leaf [0, 12]) (.cond (.seq (.leaf [2]) (.leaf [2])) (.leaf [0]))) (.seq (.leaf [0, 3]) (.seq (.leaf [0, 3, 4]) (.seq (.leaf [0, 3, 4, 5]) (.seq (.seq (.leaf [0, 3, 4, 5, 23]) (.cond (.seq (.leaf [2]) (.leaf [2])) (.leaf [0, 3, 4, 5]))) (.seq (.seq (.leaf [0, 3, 4, 5, 28]) (.cond (.seq (.leaf [2]) (.leaf [2])) (.leaf [0, 3, 4, 5]))) (.seq (.leaf [0, 3, 4, 5, 6]) (.seq (.leaf [0, 3, 5, 6]) (.seq (.seq (.leaf [0, 3, 5, 39]) (.cond (.seq (.leaf [2]) (.leaf [2])) (.leaf [0, 3, 5]))) (.seq (.leaf [0, 3, 5, 7]) (.seq (.leaf [0, 3, 5, 7]) (.seq (.leaf [0, 3, 5, 7, 8]) (.seq (.leaf [0, 3, 5, 7, 8]) (.seq (.seq (.leaf [0, 3, 5, 7, 8, 47]) (.cond (.seq (.leaf [2]) (.leaf [2])) (.leaf [0, 3, 5, 7, 8]))) (.seq (.seq (.leaf [0, 3, 5, 7, 50]) (.cond (.seq (.leaf [2]) (.leaf [2])) (.leaf [0, 3, 5, 7]))) (.seq (.leaf [3, 5, 7, 9]) (.seq (.seq (.leaf [5, 7, 57]) (.cond (.seq (.leaf [2]) (.leaf [2])) (.leaf [5, 7]))) (.seq (.leaf [5, 7, 8]) (.seq (.leaf [7, 8]) (.seq (.seq (.leaf [7, 8, 62]) (.cond (.seq (.leaf [2]) (.leaf [2])) (.leaf [7, 8]))) (.seq (.seq (.leaf [65]) (.cond (.seq (.leaf [2]) (.leaf [2])) (.leaf []))) (.seq (.leaf [2]) (.leaf [2]))))))))))))))))))))))))

noncomputable def laws_FnExactDepthOf_ctx : Ctx := ⟨tlook tys, olook [(10, F_laws_toIntS), (13, F_spec_DepthOf), (14, F_impl_DepthOf), (12, F_laws_eqIntS), (15, F_laws_markIntS), (16, F_laws_heldIntS)], ioF, 0⟩

theorem laws_FnExactDepthOf_n1_l (x479 : List Int) : Link laws_FnExactDepthOf_ctx LL (bodyOf Try.f4) laws_FnExactDepthOf_an (⟨mkE 66 0 [(0, .dat (.list (.int .i64)) x479)], []⟩ : St) (laws_FnExactDepthOf_n1 x479) (fun (t : Bool) => (Exit.ret, (⟨mkE 66 0 [(2, .dat .bool t)], []⟩ : St))) := by
  refine Link.of fun K h => ?_
  simp only [laws_FnExactDepthOf_n1, wpO_bind, wpO_cond, wpO_map, wpO_some] at h
  exact Awp.of (by kernel_rfl) h

theorem laws_FnExactDepthOf_e (x479 : List Int) {r : AV} {H' : Heap} (h : (Ans.mk _ (laws_FnExactDepthOf x479) (fun (t : Bool) => (.dat .bool t, []))).run = some (r, H')) : Awp laws_FnExactDepthOf_ctx LL (bodyOf Try.f4) laws_FnExactDepthOf_an (⟨mkE 66 0 [(0, .dat (.list (.int .i64)) x479)], []⟩ : St) (Ret (tlook tys) Try.f4.results.toList r H') :=
  ret_of' (laws_FnExactDepthOf_n1_l x479) (by unfold laws_FnExactDepthOf; kernel_rfl) (by
  intro t
  exact ret_mk [.dat .bool t] (by kernel_rfl) (by kernel_rfl) (by kernel_rfl) (by kernel_rfl)) h

def F_laws_FnExactDepthOf : Fun := fun avs H =>
  match avs, H with
  | [.dat (.list (.int .i64)) x479], [] => ⟨_, laws_FnExactDepthOf x479, fun (t : Bool) => (.dat .bool t, [])⟩
  | _, _ => Ans.no

theorem laws_FnExactDepthOf_sound : Sound Try.prog 4 F_laws_FnExactDepthOf := by
  refine fn_sound' (C := laws_FnExactDepthOf_ctx) (c := bodyOf Try.f4) (cok_of tys_ok (List.forall_mem_cons.2 ⟨laws_toIntS_sound, List.forall_mem_cons.2 ⟨spec_DepthOf_sound, List.forall_mem_cons.2 ⟨impl_DepthOf_sound, List.forall_mem_cons.2 ⟨laws_eqIntS_sound, List.forall_mem_cons.2 ⟨laws_markIntS_sound, List.forall_mem_cons.2 ⟨laws_heldIntS_sound, by simp⟩⟩⟩⟩⟩⟩) (List.forall_mem_cons.2 ⟨Try.call10, List.forall_mem_cons.2 ⟨Try.call13, List.forall_mem_cons.2 ⟨Try.call14, List.forall_mem_cons.2 ⟨Try.call12, List.forall_mem_cons.2 ⟨Try.call15, List.forall_mem_cons.2 ⟨Try.call16, by simp⟩⟩⟩⟩⟩⟩) (by kernel_rfl)) Try.func4 (by kernel_rfl) LL laws_FnExactDepthOf_an ?_
  intro avs H r H' h
  unfold F_laws_FnExactDepthOf at h
  split at h
  · refine Awp.cast ?_ ?_ ?_ (laws_FnExactDepthOf_e _ h) <;> kernel_rfl
  · simp [Ans.no, Ans.run] at h

/-! loop.example/headtrees/spec.l1Power -/

def spec_l1Power_an : Ann := (.seq (.leaf [0, 1]) (.seq (.leaf [0, 1, 5]) (.seq (.seq (.leaf [0, 1, 5, 6]) (.block (.loop (.seq (.seq (.leaf [0, 1, 5, 6, 9]) (.cond (.leaf [0, 1, 5, 6]) (.leaf [5]))) (.seq (.block (.leaf [0, 1, 5, 6])) (.leaf [0, 1, 5, 6])))))) (.seq (.leaf [4]) (.leaf [4])))))

noncomputable def spec_l1Power_ctx : Ctx := ⟨tlook tys, olook [], ioF, 0⟩

theorem spec_l1Power_n1_l (x1101 : Int) (x1102 : Int) : Link spec_l1Power_ctx LL (Code.seq (Code.fst (bodyOf Try.f30)) (Code.fst (Code.snd (bodyOf Try.f30)))) (Ann.seq (Ann.fst spec_l1Power_an) (Ann.fst (Ann.snd spec_l1Power_an))) (⟨mkE 16 0 [(0, .dat (.int .i64) x1101), (1, .dat (.int .i64) x1102)], []⟩ : St) (spec_l1Power_n1) (fun (t : Unit) => (Exit.normal, (⟨mkE 16 0 [(0, .dat (.int .i64) x1101), (1, .dat (.int .i64) x1102), (5, .dat (.int .i64) 1)], []⟩ : St))) := by
  refine Link.of fun K h => ?_
  simp only [spec_l1Power_n1, wpO_bind, wpO_cond, wpO_map, wpO_some] at h
  exact Awp.of (by kernel_rfl) h

theorem spec_l1Power_n2_l (x1101 : Int) (x1102 : Int) : Link spec_l1Power_ctx LL (Code.fst (Code.fst (Code.snd (Code.snd (bodyOf Try.f30))))) (Ann.fst (Ann.fst (Ann.snd (Ann.snd spec_l1Power_an)))) (⟨mkE 16 0 [(0, .dat (.int .i64) x1101), (1, .dat (.int .i64) x1102), (5, .dat (.int .i64) 1)], []⟩ : St) (spec_l1Power_n2) (fun (t : Unit) => (Exit.normal, (⟨mkE 16 0 [(0, .dat (.int .i64) x1101), (1, .dat (.int .i64) x1102), (5, .dat (.int .i64) 1), (6, .dat (.int .i64) 0)], []⟩ : St))) := by
  refine Link.of fun K h => ?_
  simp only [spec_l1Power_n2, wpO_bind, wpO_cond, wpO_map, wpO_some] at h
  exact Awp.of (by kernel_rfl) h

theorem spec_l1Power_n3_l (x1101 : Int) (x1102 : Int) (x1109 : Int) (x1110 : Int) : Link spec_l1Power_ctx LL (Code.fst (Code.fst (Code.snd (Code.fst (Code.snd (Code.snd (bodyOf Try.f30))))))) (Ann.fst (Ann.fst (Ann.snd (Ann.fst (Ann.snd (Ann.snd spec_l1Power_an)))))) (⟨mkE 16 0 [(0, .dat (.int .i64) x1101), (1, .dat (.int .i64) x1102), (5, .dat (.int .i64) x1109), (6, .dat (.int .i64) x1110)], []⟩ : St) (spec_l1Power_n3 x1101 x1102 x1109 x1110) (Sum.elim (fun (t : Int × Int) => (Exit.normal, (⟨mkE 16 0 [(0, .dat (.int .i64) x1101), (1, .dat (.int .i64) x1102), (5, .dat (.int .i64) t.1), (6, .dat (.int .i64) t.2)], []⟩ : St))) (fun (t : Int) => ((Exit.exit 0), (⟨mkE 16 0 [(5, .dat (.int .i64) t)], []⟩ : St)))) := by
  refine Link.of fun K h => ?_
  simp only [spec_l1Power_n3, wpO_bind, wpO_cond, wpO_map, wpO_some] at h
  exact Awp.of (by kernel_rfl) h

theorem spec_l1Power_n4_l (x1101 : Int) (x1102 : Int) : Link spec_l1Power_ctx LL (Code.fst (Code.snd (Code.fst (Code.snd (Code.snd (bodyOf Try.f30)))))) (Ann.fst (Ann.snd (Ann.fst (Ann.snd (Ann.snd spec_l1Power_an))))) (⟨mkE 16 0 [(0, .dat (.int .i64) x1101), (1, .dat (.int .i64) x1102), (5, .dat (.int .i64) 1), (6, .dat (.int .i64) 0)], []⟩ : St) (spec_l1Power_n4 x1101 x1102) (fun (t : Int) => ((Exit.exit 0), (⟨mkE 16 0 [(5, .dat (.int .i64) t)], []⟩ : St))) := by
  unfold spec_l1Power_n4
  exact Link.cast (by kernel_rfl) (by kernel_rfl) (link_loop (mk := fun (s : Int × Int) => (⟨mkE 16 0 [(0, .dat (.int .i64) x1101), (1, .dat (.int .i64) x1102), (5, .dat (.int .i64) s.1), (6, .dat (.int .i64) s.2)], []⟩ : St)) (fin := (fun (t : Int) => ((Exit.exit 0), (⟨mkE 16 0 [(5, .dat (.int .i64) t)], []⟩ : St)))) (by
  rintro t f K h
  · exact h) (fun s => link_map (spec_l1Power_n3_l x1101 x1102 s.1 s.2) (Sum.elim (fun (t : Int × Int) => Sum.inl (t.1, t.2)) (fun (t : Int) => Sum.inr t)) (by
  rintro (t | t)
  · kernel_rfl
  · kernel_rfl)) (1, 0))

theorem spec_l1Power_n5_l (x1101 : Int) (x1102 : Int) : Link spec_l1Power_ctx LL (Code.snd (Code.fst (Code.snd (Code.snd (bodyOf Try.f30))))) (Ann.snd (Ann.fst (Ann.snd (Ann.snd spec_l1Power_an)))) (⟨mkE 16 0 [(0, .dat (.int .i64) x1101), (1, .dat (.int .i64) x1102), (5, .dat (.int .i64) 1), (6, .dat (.int .i64) 0)], []⟩ : St) (spec_l1Power_n5 x1101 x1102) (fun (t : Int) => (Exit.normal, (⟨mkE 16 0 [(5, .dat (.int .i64) t)], []⟩ : St))) := by
  unfold spec_l1Power_n5
  exact Link.cast (by kernel_rfl) (by kernel_rfl) (link_block (id := 0) (spec_l1Power_n4_l x1101 x1102) (fun (t : Int) => t) (by
  rintro t K h
  · exact Eq.mp (by kernel_rfl) h))

theorem spec_l1Power_n6_l (x1101 : Int) (x1102 : Int) : Link spec_l1Power_ctx LL (Code.fst (Code.snd (Code.snd (bodyOf Try.f30)))) (Ann.fst (Ann.snd (Ann.snd spec_l1Power_an))) (⟨mkE 16 0 [(0, .dat (.int .i64) x1101), (1, .dat (.int .i64) x1102), (5, .dat (.int .i64) 1)], []⟩ : St) (spec_l1Power_n6 x1101 x1102) (fun (t : Int) => (Exit.normal, (⟨mkE 16 0 [(5, .dat (.int .i64) t)], []⟩ : St))) := by
  unfold spec_l1Power_n6
  exact Link.cast (by kernel_rfl) (by kernel_rfl) (link_seq (b := (Code.snd (Code.fst (Code.snd (Code.snd (bodyOf Try.f30)))))) (y := (Ann.snd (Ann.fst (Ann.snd (Ann.snd spec_l1Power_an))))) (spec_l1Power_n2_l x1101 x1102) (fun (t : Unit) => (spec_l1Power_n5_l x1101 x1102)))

theorem spec_l1Power_n7_l (x1109 : Int) : Link spec_l1Power_ctx LL (Code.snd (Code.snd (Code.snd (bodyOf Try.f30)))) (Ann.snd (Ann.snd (Ann.snd spec_l1Power_an))) (⟨mkE 16 0 [(5, .dat (.int .i64) x1109)], []⟩ : St) (spec_l1Power_n7 x1109) (fun (t : Int) => (Exit.ret, (⟨mkE 16 0 [(4, .dat (.int .i64) t)], []⟩ : St))) := by
  refine Link.of fun K h => ?_
  simp only [spec_l1Power_n7, wpO_bind, wpO_cond, wpO_map, wpO_some] at h
  exact Awp.of (by kernel_rfl) h

theorem spec_l1Power_n8_l (x1101 : Int) (x1102 : Int) : Link spec_l1Power_ctx LL (Code.snd (Code.snd (bodyOf Try.f30))) (Ann.snd (Ann.snd spec_l1Power_an)) (⟨mkE 16 0 [(0, .dat (.int .i64) x1101), (1, .dat (.int .i64) x1102), (5, .dat (.int .i64) 1)], []⟩ : St) (spec_l1Power_n8 x1101 x1102) (fun (t : Int) => (Exit.ret, (⟨mkE 16 0 [(4, .dat (.int .i64) t)], []⟩ : St))) := by
  unfold spec_l1Power_n8
  exact Link.cast (by kernel_rfl) (by kernel_rfl) (link_seq (b := (Code.snd (Code.snd (Code.snd (bodyOf Try.f30))))) (y := (Ann.snd (Ann.snd (Ann.snd spec_l1Power_an)))) (spec_l1Power_n6_l x1101 x1102) (fun (t : Int) => (spec_l1Power_n7_l t)))

theorem spec_l1Power_n9_l (x1101 : Int) (x1102 : Int) : Link spec_l1Power_ctx LL (bodyOf Try.f30) spec_l1Power_an (⟨mkE 16 0 [(0, .dat (.int .i64) x1101), (1, .dat (.int .i64) x1102)], []⟩ : St) (spec_l1Power_n9 x1101 x1102) (fun (t : Int) => (Exit.ret, (⟨mkE 16 0 [(4, .dat (.int .i64) t)], []⟩ : St))) := by
  unfold spec_l1Power_n9
  exact Link.cast (by kernel_rfl) (by kernel_rfl) (link_group (c := (Code.fst (Code.snd (bodyOf Try.f30)))) (a := (Ann.fst (Ann.snd spec_l1Power_an))) [(Code.fst (bodyOf Try.f30))] [(Ann.fst spec_l1Power_an)] rfl (link_seq (b := (Code.snd (Code.snd (bodyOf Try.f30)))) (y := (Ann.snd (Ann.snd spec_l1Power_an))) (spec_l1Power_n1_l x1101 x1102) (fun (t : Unit) => (spec_l1Power_n8_l x1101 x1102))))

theorem spec_l1Power_e (x1101 : Int) (x1102 : Int) {r : AV} {H' : Heap} (h : (Ans.mk _ (spec_l1Power x1101 x1102) (fun (t : Int) => (.dat (.int .i64) t, []))).run = some (r, H')) : Awp spec_l1Power_ctx LL (bodyOf Try.f30) spec_l1Power_an (⟨mkE 16 0 [(0, .dat (.int .i64) x1101), (1, .dat (.int .i64) x1102)], []⟩ : St) (Ret (tlook tys) Try.f30.results.toList r H') :=
  ret_of' (spec_l1Power_n9_l x1101 x1102) (by unfold spec_l1Power; kernel_rfl) (by
  intro t
  exact ret_mk [.dat (.int .i64) t] (by kernel_rfl) (by kernel_rfl) (by kernel_rfl) (by kernel_rfl)) h

def F_spec_l1Power : Fun := fun avs H =>
  match avs, H with
  | [.dat (.int .i64) x1101, .dat (.int .i64) x1102], [] => ⟨_, spec_l1Power x1101 x1102, fun (t : Int) => (.dat (.int .i64) t, [])⟩
  | _, _ => Ans.no

theorem spec_l1Power_sound : Sound Try.prog 30 F_spec_l1Power := by
  refine fn_sound' (C := spec_l1Power_ctx) (c := bodyOf Try.f30) (cok_of tys_ok (by simp) (by simp) (by kernel_rfl)) Try.func30 (by kernel_rfl) LL spec_l1Power_an ?_
  intro avs H r H' h
  unfold F_spec_l1Power at h
  split at h
  · refine Awp.cast ?_ ?_ ?_ (spec_l1Power_e _ _ h) <;> kernel_rfl
  · simp [Ans.no, Ans.run] at h

/-! loop.example/headtrees/spec.CountTrees -/

def spec_CountTrees_an : Ann := (.seq (.leaf [0]) (.seq (.seq (.leaf [0, 5]) (.cond (.seq (.leaf [2]) (.leaf [2])) (.leaf [0]))) (.seq (.leaf [2]) (.leaf [2]))))

noncomputable def spec_CountTrees_ctx : Ctx := ⟨tlook tys, olook [(29, F_spec_l1In), (30, F_spec_l1Power)], ioF, 0⟩

theorem spec_CountTrees_n1_l (x1095 : Int) : Link spec_CountTrees_ctx LL (bodyOf Try.f17) spec_CountTrees_an (⟨mkE 10 0 [(0, .dat (.int .i64) x1095)], []⟩ : St) (spec_CountTrees_n1 x1095) (fun (t : Int) => (Exit.ret, (⟨mkE 10 0 [(2, .dat (.int .i64) t)], []⟩ : St))) := by
  refine Link.of fun K h => ?_
  simp only [spec_CountTrees_n1, wpO_bind, wpO_cond, wpO_map, wpO_some] at h
  exact Awp.of (by kernel_rfl) h

theorem spec_CountTrees_e (x1095 : Int) {r : AV} {H' : Heap} (h : (Ans.mk _ (spec_CountTrees x1095) (fun (t : Int) => (.dat (.int .i64) t, []))).run = some (r, H')) : Awp spec_CountTrees_ctx LL (bodyOf Try.f17) spec_CountTrees_an (⟨mkE 10 0 [(0, .dat (.int .i64) x1095)], []⟩ : St) (Ret (tlook tys) Try.f17.results.toList r H') :=
  ret_of' (spec_CountTrees_n1_l x1095) (by unfold spec_CountTrees; kernel_rfl) (by
  intro t
  exact ret_mk [.dat (.int .i64) t] (by kernel_rfl) (by kernel_rfl) (by kernel_rfl) (by kernel_rfl)) h

def F_spec_CountTrees : Fun := fun avs H =>
  match avs, H with
  | [.dat (.int .i64) x1095], [] => ⟨_, spec_CountTrees x1095, fun (t : Int) => (.dat (.int .i64) t, [])⟩
  | _, _ => Ans.no

theorem spec_CountTrees_sound : Sound Try.prog 17 F_spec_CountTrees := by
  refine fn_sound' (C := spec_CountTrees_ctx) (c := bodyOf Try.f17) (cok_of tys_ok (List.forall_mem_cons.2 ⟨spec_l1In_sound, List.forall_mem_cons.2 ⟨spec_l1Power_sound, by simp⟩⟩) (List.forall_mem_cons.2 ⟨Try.call29, List.forall_mem_cons.2 ⟨Try.call30, by simp⟩⟩) (by kernel_rfl)) Try.func17 (by kernel_rfl) LL spec_CountTrees_an ?_
  intro avs H r H' h
  unfold F_spec_CountTrees at h
  split at h
  · refine Awp.cast ?_ ?_ ?_ (spec_CountTrees_e _ h) <;> kernel_rfl
  · simp [Ans.no, Ans.run] at h

/-! loop.example/headtrees/impl.CountTrees -/

def impl_CountTrees_an : Ann := (.seq (.leaf [0]) (.seq (.seq (.leaf [0, 9]) (.cond (.seq (.leaf [2]) (.leaf [2])) (.leaf [0]))) (.seq (.leaf [0, 3]) (.seq (.seq (.leaf [0, 3, 11, 12]) (.block (.loop (.seq (.leaf [0, 3, 11, 12, 13]) (.seq (.cond (.leaf [0, 3, 11, 12]) (.leaf [3])) (.seq (.block (.leaf [0, 3, 11, 12])) (.leaf [0, 3, 11, 12]))))))) (.seq (.leaf [2]) (.leaf [2]))))))

noncomputable def impl_CountTrees_ctx : Ctx := ⟨tlook tys, olook [], ioF, 0⟩

theorem impl_CountTrees_n1_l (x1125 : Int) : Link impl_CountTrees_ctx LL (Code.seq (Code.fst (bodyOf Try.f18)) (Code.seq (Code.fst (Code.snd (bodyOf Try.f18))) (Code.fst (Code.snd (Code.snd (bodyOf Try.f18)))))) (Ann.seq (Ann.fst impl_CountTrees_an) (Ann.seq (Ann.fst (Ann.snd impl_CountTrees_an)) (Ann.fst (Ann.snd (Ann.snd impl_CountTrees_an))))) (⟨mkE 19 0 [(0, .dat (.int .i64) x1125)], []⟩ : St) (impl_CountTrees_n1 x1125) (Sum.elim (fun (t : Unit) => (Exit.normal, (⟨mkE 19 0 [(0, .dat (.int .i64) x1125), (3, .dat (.int .i64) 1)], []⟩ : St))) (fun (t : Int) => (Exit.ret, (⟨mkE 19 0 [(2, .dat (.int .i64) t)], []⟩ : St)))) := by
  refine Link.of fun K h => ?_
  simp only [impl_CountTrees_n1, wpO_bind, wpO_cond, wpO_map, wpO_some] at h
  exact Awp.of (by kernel_rfl) h

theorem impl_CountTrees_n2_l (x1125 : Int) : Link impl_CountTrees_ctx LL (Code.fst (Code.fst (Code.snd (Code.snd (Code.snd (bodyOf Try.f18)))))) (Ann.fst (Ann.fst (Ann.snd (Ann.snd (Ann.snd impl_CountTrees_an))))) (⟨mkE 19 0 [(0, .dat (.int .i64) x1125), (3, .dat (.int .i64) 1)], []⟩ : St) (impl_CountTrees_n2 x1125) (fun (t : Int) => (Exit.normal, (⟨mkE 19 0 [(0, .dat (.int .i64) x1125), (3, .dat (.int .i64) 1), (11, .dat (.int .i64) t), (12, .dat (.int .i64) 0)], []⟩ : St))) := by
  refine Link.of fun K h => ?_
  simp only [impl_CountTrees_n2, wpO_bind, wpO_cond, wpO_map, wpO_some] at h
  exact Awp.of (by kernel_rfl) h

theorem impl_CountTrees_n3_l (x1125 : Int) (x1138 : Int) (x1130 : Int) (x1139 : Int) : Link impl_CountTrees_ctx LL (Code.fst (Code.fst (Code.snd (Code.fst (Code.snd (Code.snd (Code.snd (bodyOf Try.f18)))))))) (Ann.fst (Ann.fst (Ann.snd (Ann.fst (Ann.snd (Ann.snd (Ann.snd impl_CountTrees_an))))))) (⟨mkE 19 0 [(0, .dat (.int .i64) x1125), (3, .dat (.int .i64) x1138), (11, .dat (.int .i64) x1130), (12, .dat (.int .i64) x1139)], []⟩ : St) (impl_CountTrees_n3 x1125 x1138 x1130 x1139) (Sum.elim (fun (t : Int × Int) => (Exit.normal, (⟨mkE 19 0 [(0, .dat (.int .i64) x1125), (3, .dat (.int .i64) t.1), (11, .dat (.int .i64) x1130), (12, .dat (.int .i64) t.2)], []⟩ : St))) (fun (t : Int) => ((Exit.exit 0), (⟨mkE 19 0 [(3, .dat (.int .i64) t)], []⟩ : St)))) := by
  refine Link.of fun K h => ?_
  simp only [impl_CountTrees_n3, wpO_bind, wpO_cond, wpO_map, wpO_some] at h
  exact Awp.of (by kernel_rfl) h

theorem impl_CountTrees_n4_l (x1125 : Int) (x1130 : Int) : Link impl_CountTrees_ctx LL (Code.fst (Code.snd (Code.fst (Code.snd (Code.snd (Code.snd (bodyOf Try.f18))))))) (Ann.fst (Ann.snd (Ann.fst (Ann.snd (Ann.snd (Ann.snd impl_CountTrees_an)))))) (⟨mkE 19 0 [(0, .dat (.int .i64) x1125), (3, .dat (.int .i64) 1), (11, .dat (.int .i64) x1130), (12, .dat (.int .i64) 0)], []⟩ : St) (impl_CountTrees_n4 x1125 x1130) (fun (t : Int) => ((Exit.exit 0), (⟨mkE 19 0 [(3, .dat (.int .i64) t)], []⟩ : St))) := by
  unfold impl_CountTrees_n4
  exact Link.cast (by kernel_rfl) (by kernel_rfl) (link_loop (mk := fun (s : Int × Int) => (⟨mkE 19 0 [(0, .dat (.int .i64) x1125), (3, .dat (.int .i64) s.1), (11, .dat (.int .i64) x1130), (12, .dat (.int .i64) s.2)], []⟩ : St)) (fin := (fun (t : Int) => ((Exit.exit 0), (⟨mkE 19 0 [(3, .dat (.int .i64) t)], []⟩ : St)))) (by
  rintro t f K h
  · exact h) (fun s => link_map (impl_CountTrees_n3_l x1125 s.1 x1130 s.2) (Sum.elim (fun (t : Int × Int) => Sum.inl (t.1, t.2)) (fun (t : Int) => Sum.inr t)) (by
  rintro (t | t)
  · kernel_rfl
  · kernel_rfl)) (1, 0))

theorem impl_CountTrees_n5_l (x1125 : Int) (x1130 : Int) : Link impl_CountTrees_ctx LL (Code.snd (Code.fst (Code.snd (Code.snd (Code.snd (bodyOf Try.f18)))))) (Ann.snd (Ann.fst (Ann.snd (Ann.snd (Ann.snd impl_CountTrees_an))))) (⟨mkE 19 0 [(0, .dat (.int .i64) x1125), (3, .dat (.int .i64) 1), (11, .dat (.int .i64) x1130), (12, .dat (.int .i64) 0)], []⟩ : St) (impl_CountTrees_n5 x1125 x1130) (fun (t : Int) => (Exit.normal, (⟨mkE 19 0 [(3, .dat (.int .i64) t)], []⟩ : St))) := by
  unfold impl_CountTrees_n5
  exact Link.cast (by kernel_rfl) (by kernel_rfl) (link_block (id := 0) (impl_CountTrees_n4_l x1125 x1130) (fun (t : Int) => t) (by
  rintro t K h
  · exact Eq.mp (by kernel_rfl) h))

theorem impl_CountTrees_n6_l (x1125 : Int) : Link impl_CountTrees_ctx LL (Code.fst (Code.snd (Code.snd (Code.snd (bodyOf Try.f18))))) (Ann.fst (Ann.snd (Ann.snd (Ann.snd impl_CountTrees_an)))) (⟨mkE 19 0 [(0, .dat (.int .i64) x1125), (3, .dat (.int .i64) 1)], []⟩ : St) (impl_CountTrees_n6 x1125) (fun (t : Int) => (Exit.normal, (⟨mkE 19 0 [(3, .dat (.int .i64) t)], []⟩ : St))) := by
  unfold impl_CountTrees_n6
  exact Link.cast (by kernel_rfl) (by kernel_rfl) (link_seq (b := (Code.snd (Code.fst (Code.snd (Code.snd (Code.snd (bodyOf Try.f18))))))) (y := (Ann.snd (Ann.fst (Ann.snd (Ann.snd (Ann.snd impl_CountTrees_an)))))) (impl_CountTrees_n2_l x1125) (fun (t : Int) => (impl_CountTrees_n5_l x1125 t)))

theorem impl_CountTrees_n7_l (x1138 : Int) : Link impl_CountTrees_ctx LL (Code.snd (Code.snd (Code.snd (Code.snd (bodyOf Try.f18))))) (Ann.snd (Ann.snd (Ann.snd (Ann.snd impl_CountTrees_an)))) (⟨mkE 19 0 [(3, .dat (.int .i64) x1138)], []⟩ : St) (impl_CountTrees_n7 x1138) (fun (t : Int) => (Exit.ret, (⟨mkE 19 0 [(2, .dat (.int .i64) t)], []⟩ : St))) := by
  refine Link.of fun K h => ?_
  simp only [impl_CountTrees_n7, wpO_bind, wpO_cond, wpO_map, wpO_some] at h
  exact Awp.of (by kernel_rfl) h

theorem impl_CountTrees_n8_l (x1125 : Int) : Link impl_CountTrees_ctx LL (Code.snd (Code.snd (Code.snd (bodyOf Try.f18)))) (Ann.snd (Ann.snd (Ann.snd impl_CountTrees_an))) (⟨mkE 19 0 [(0, .dat (.int .i64) x1125), (3, .dat (.int .i64) 1)], []⟩ : St) (impl_CountTrees_n8 x1125) (fun (t : Int) => (Exit.ret, (⟨mkE 19 0 [(2, .dat (.int .i64) t)], []⟩ : St))) := by
  unfold impl_CountTrees_n8
  exact Link.cast (by kernel_rfl) (by kernel_rfl) (link_seq (b := (Code.snd (Code.snd (Code.snd (Code.snd (bodyOf Try.f18)))))) (y := (Ann.snd (Ann.snd (Ann.snd (Ann.snd impl_CountTrees_an))))) (impl_CountTrees_n6_l x1125) (fun (t : Int) => (impl_CountTrees_n7_l t)))

theorem impl_CountTrees_n9_l (x1125 : Int) : Link impl_CountTrees_ctx LL (bodyOf Try.f18) impl_CountTrees_an (⟨mkE 19 0 [(0, .dat (.int .i64) x1125)], []⟩ : St) (impl_CountTrees_n9 x1125) (fun (t : Int) => (Exit.ret, (⟨mkE 19 0 [(2, .dat (.int .i64) t)], []⟩ : St))) := by
  unfold impl_CountTrees_n9
  exact Link.cast (by kernel_rfl) (by kernel_rfl) (link_group (c := (Code.fst (Code.snd (Code.snd (bodyOf Try.f18))))) (a := (Ann.fst (Ann.snd (Ann.snd impl_CountTrees_an)))) [(Code.fst (bodyOf Try.f18)), (Code.fst (Code.snd (bodyOf Try.f18)))] [(Ann.fst impl_CountTrees_an), (Ann.fst (Ann.snd impl_CountTrees_an))] rfl (link_seq2 (b := (Code.snd (Code.snd (Code.snd (bodyOf Try.f18))))) (y := (Ann.snd (Ann.snd (Ann.snd impl_CountTrees_an)))) (impl_CountTrees_n1_l x1125) (fun (t : Unit) => (impl_CountTrees_n8_l x1125)) (fun (t : Int) => t) (by
  rintro t
  · kernel_rfl) (by
  rintro t f K h
  · exact h)))

theorem impl_CountTrees_e (x1125 : Int) {r : AV} {H' : Heap} (h : (Ans.mk _ (impl_CountTrees x1125) (fun (t : Int) => (.dat (.int .i64) t, []))).run = some (r, H')) : Awp impl_CountTrees_ctx LL (bodyOf Try.f18) impl_CountTrees_an (⟨mkE 19 0 [(0, .dat (.int .i64) x1125)], []⟩ : St) (Ret (tlook tys) Try.f18.results.toList r H') :=
  ret_of' (impl_CountTrees_n9_l x1125) (by unfold impl_CountTrees; kernel_rfl) (by
  intro t
  exact ret_mk [.dat (.int .i64) t] (by kernel_rfl) (by kernel_rfl) (by kernel_rfl) (by kernel_rfl)) h

def F_impl_CountTrees : Fun := fun avs H =>
  match avs, H with
  | [.dat (.int .i64) x1125], [] => ⟨_, impl_CountTrees x1125, fun (t : Int) => (.dat (.int .i64) t, [])⟩
  | _, _ => Ans.no

theorem impl_CountTrees_sound : Sound Try.prog 18 F_impl_CountTrees := by
  refine fn_sound' (C := impl_CountTrees_ctx) (c := bodyOf Try.f18) (cok_of tys_ok (by simp) (by simp) (by kernel_rfl)) Try.func18 (by kernel_rfl) LL impl_CountTrees_an ?_
  intro avs H r H' h
  unfold F_impl_CountTrees at h
  split at h
  · refine Awp.cast ?_ ?_ ?_ (impl_CountTrees_e _ h) <;> kernel_rfl
  · simp [Ans.no, Ans.run] at h

/-! loop.example/headtrees/laws.FnExactCountTrees -/

def laws_FnExactCountTrees_an : Ann := (.seq (.leaf [0]) (.seq (.leaf [0, 3]) (.seq (.leaf [3, 4]) (.seq (.seq (.leaf [11]) (.cond (.seq (.leaf [2]) (.leaf [2])) (.leaf []))) (.seq (.leaf [2]) (.leaf [2]))))))

noncomputable def laws_FnExactCountTrees_ctx : Ctx := ⟨tlook tys, olook [(17, F_spec_CountTrees), (18, F_impl_CountTrees)], ioF, 0⟩

theorem laws_FnExactCountTrees_n1_l (x1094 : Int) : Link laws_FnExactCountTrees_ctx LL (bodyOf Try.f5) laws_FnExactCountTrees_an (⟨mkE 12 0 [(0, .dat (.int .i64) x1094)], []⟩ : St) (laws_FnExactCountTrees_n1 x1094) (fun (t : Bool) => (Exit.ret, (⟨mkE 12 0 [(2, .dat .bool t)], []⟩ : St))) := by
  refine Link.of fun K h => ?_
  simp only [laws_FnExactCountTrees_n1, wpO_bind, wpO_cond, wpO_map, wpO_some] at h
  exact Awp.of (by kernel_rfl) h

theorem laws_FnExactCountTrees_e (x1094 : Int) {r : AV} {H' : Heap} (h : (Ans.mk _ (laws_FnExactCountTrees x1094) (fun (t : Bool) => (.dat .bool t, []))).run = some (r, H')) : Awp laws_FnExactCountTrees_ctx LL (bodyOf Try.f5) laws_FnExactCountTrees_an (⟨mkE 12 0 [(0, .dat (.int .i64) x1094)], []⟩ : St) (Ret (tlook tys) Try.f5.results.toList r H') :=
  ret_of' (laws_FnExactCountTrees_n1_l x1094) (by unfold laws_FnExactCountTrees; kernel_rfl) (by
  intro t
  exact ret_mk [.dat .bool t] (by kernel_rfl) (by kernel_rfl) (by kernel_rfl) (by kernel_rfl)) h

def F_laws_FnExactCountTrees : Fun := fun avs H =>
  match avs, H with
  | [.dat (.int .i64) x1094], [] => ⟨_, laws_FnExactCountTrees x1094, fun (t : Bool) => (.dat .bool t, [])⟩
  | _, _ => Ans.no

theorem laws_FnExactCountTrees_sound : Sound Try.prog 5 F_laws_FnExactCountTrees := by
  refine fn_sound' (C := laws_FnExactCountTrees_ctx) (c := bodyOf Try.f5) (cok_of tys_ok (List.forall_mem_cons.2 ⟨spec_CountTrees_sound, List.forall_mem_cons.2 ⟨impl_CountTrees_sound, by simp⟩⟩) (List.forall_mem_cons.2 ⟨Try.call17, List.forall_mem_cons.2 ⟨Try.call18, by simp⟩⟩) (by kernel_rfl)) Try.func5 (by kernel_rfl) LL laws_FnExactCountTrees_an ?_
  intro avs H r H' h
  unfold F_laws_FnExactCountTrees at h
  split at h
  · refine Awp.cast ?_ ?_ ?_ (laws_FnExactCountTrees_e _ h) <;> kernel_rfl
  · simp [Ans.no, Ans.run] at h

end Go.Rv
