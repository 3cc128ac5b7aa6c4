/-
  The checked code answers as the plain functions do; written by program. Conditions: none.
-/
import Derived.Test.YtenenhmofmdcbabDoorGN
import Derived.Test.YtenenhmofmdcbabDoorProg
set_option linter.unusedVariables false
set_option linter.unusedSimpArgs false
set_option maxRecDepth 100000
namespace Go.Rv
open Go.Proofs
theorem ty3 : TIOk Tryd.prog 3 ⟨.int .i64, 1, 8, some (.int .i64), [.int .i64 0]⟩ := ⟨⟨infoOf (Tryd.prog.info? 3), by kernel_rfl, by kernel_rfl, by kernel_rfl, .int .i64 0, by kernel_rfl, by kernel_rfl⟩, (by kernel_rfl : Tryd.prog.underlying 3 = some (.int .i64))⟩
theorem ty4 : TIOk Tryd.prog 4 ⟨.bool, 1, 1, some .bool, [.bool false]⟩ := ⟨⟨infoOf (Tryd.prog.info? 4), by kernel_rfl, by kernel_rfl, by kernel_rfl, .bool false, by kernel_rfl, by kernel_rfl⟩, (by kernel_rfl : Tryd.prog.underlying 4 = some .bool)⟩
theorem ty5 : TIOk Tryd.prog 5 ⟨.int .u8, 1, 1, some (.int .u8), [.int .u8 0]⟩ := ⟨⟨infoOf (Tryd.prog.info? 5), by kernel_rfl, by kernel_rfl, by kernel_rfl, .int .u8 0, by kernel_rfl, by kernel_rfl⟩, (by kernel_rfl : Tryd.prog.underlying 5 = some (.int .u8))⟩
theorem ty22 : TIOk Tryd.prog 22 ⟨.slice 3, 1, 24, some (.list (.int .i64)), [.slice none 0 0]⟩ := ⟨⟨infoOf (Tryd.prog.info? 22), by kernel_rfl, by kernel_rfl, by kernel_rfl, .slice none 0 0, by kernel_rfl, by kernel_rfl⟩, (by kernel_rfl : Tryd.prog.underlying 22 = some (.slice 3))⟩
theorem ty34 : TIOk Tryd.prog 34 ⟨.int .u64, 1, 8, some (.int .u64), [.int .u64 0]⟩ := ⟨⟨infoOf (Tryd.prog.info? 34), by kernel_rfl, by kernel_rfl, by kernel_rfl, .int .u64 0, by kernel_rfl, by kernel_rfl⟩, (by kernel_rfl : Tryd.prog.underlying 34 = some (.int .u64))⟩
theorem ty35 : TIOk Tryd.prog 35 ⟨.slice 34, 1, 24, some (.list (.int .u64)), [.slice none 0 0]⟩ := ⟨⟨infoOf (Tryd.prog.info? 35), by kernel_rfl, by kernel_rfl, by kernel_rfl, .slice none 0 0, by kernel_rfl, by kernel_rfl⟩, (by kernel_rfl : Tryd.prog.underlying 35 = some (.slice 34))⟩
theorem ty48 : TIOk Tryd.prog 48 ⟨.strct [(0, 22), (1, 3), (2, 3)], 3, 40, some (.pair (.list (.int .i64)) (.pair (.int .i64) (.pair (.int .i64) .unit))), [.slice none 0 0, .int .i64 0, .int .i64 0]⟩ := ⟨⟨infoOf (Tryd.prog.info? 48), by kernel_rfl, by kernel_rfl, by kernel_rfl, .agg #[.slice none 0 0, .int .i64 0, .int .i64 0], by kernel_rfl, by kernel_rfl⟩, ⟨fieldsOf (Tryd.prog.underlying 48), by kernel_rfl, by kernel_rfl⟩⟩
theorem ty53 : TIOk Tryd.prog 53 ⟨.int .u64, 1, 8, some (.int .u64), [.int .u64 0]⟩ := ⟨⟨infoOf (Tryd.prog.info? 53), by kernel_rfl, by kernel_rfl, by kernel_rfl, .int .u64 0, by kernel_rfl, by kernel_rfl⟩, (by kernel_rfl : Tryd.prog.underlying 53 = some (.int .u64))⟩
theorem ty56 : TIOk Tryd.prog 56 ⟨.arr 64 5, 64, 64, none, [.int .u8 0, .int .u8 0, .int .u8 0, .int .u8 0, .int .u8 0, .int .u8 0, .int .u8 0, .int .u8 0, .int .u8 0, .int .u8 0, .int .u8 0, .int .u8 0, .int .u8 0, .int .u8 0, .int .u8 0, .int .u8 0, .int .u8 0, .int .u8 0, .int .u8 0, .int .u8 0, .int .u8 0, .int .u8 0, .int .u8 0, .int .u8 0, .int .u8 0, .int .u8 0, .int .u8 0, .int .u8 0, .int .u8 0, .int .u8 0, .int .u8 0, .int .u8 0, .int .u8 0, .int .u8 0, .int .u8 0, .int .u8 0, .int .u8 0, .int .u8 0, .int .u8 0, .int .u8 0, .int .u8 0, .int .u8 0, .int .u8 0, .int .u8 0, .int .u8 0, .int .u8 0, .int .u8 0, .int .u8 0, .int .u8 0, .int .u8 0, .int .u8 0, .int .u8 0, .int .u8 0, .int .u8 0, .int .u8 0, .int .u8 0, .int .u8 0, .int .u8 0, .int .u8 0, .int .u8 0, .int .u8 0, .int .u8 0, .int .u8 0, .int .u8 0]⟩ := ⟨⟨infoOf (Tryd.prog.info? 56), by kernel_rfl, by kernel_rfl, by kernel_rfl, .agg #[.int .u8 0, .int .u8 0, .int .u8 0, .int .u8 0, .int .u8 0, .int .u8 0, .int .u8 0, .int .u8 0, .int .u8 0, .int .u8 0, .int .u8 0, .int .u8 0, .int .u8 0, .int .u8 0, .int .u8 0, .int .u8 0, .int .u8 0, .int .u8 0, .int .u8 0, .int .u8 0, .int .u8 0, .int .u8 0, .int .u8 0, .int .u8 0, .int .u8 0, .int .u8 0, .int .u8 0, .int .u8 0, .int .u8 0, .int .u8 0, .int .u8 0, .int .u8 0, .int .u8 0, .int .u8 0, .int .u8 0, .int .u8 0, .int .u8 0, .int .u8 0, .int .u8 0, .int .u8 0, .int .u8 0, .int .u8 0, .int .u8 0, .int .u8 0, .int .u8 0, .int .u8 0, .int .u8 0, .int .u8 0, .int .u8 0, .int .u8 0, .int .u8 0, .int .u8 0, .int .u8 0, .int .u8 0, .int .u8 0, .int .u8 0, .int .u8 0, .int .u8 0, .int .u8 0, .int .u8 0, .int .u8 0, .int .u8 0, .int .u8 0, .int .u8 0], by kernel_rfl, by kernel_rfl⟩, (by kernel_rfl : Tryd.prog.underlying 56 = some (.array 64 5))⟩
def tys : List (TypeId × TI) := [(3, ⟨.int .i64, 1, 8, some (.int .i64), [.int .i64 0]⟩), (4, ⟨.bool, 1, 1, some .bool, [.bool false]⟩), (5, ⟨.int .u8, 1, 1, some (.int .u8), [.int .u8 0]⟩), (22, ⟨.slice 3, 1, 24, some (.list (.int .i64)), [.slice none 0 0]⟩), (34, ⟨.int .u64, 1, 8, some (.int .u64), [.int .u64 0]⟩), (35, ⟨.slice 34, 1, 24, some (.list (.int .u64)), [.slice none 0 0]⟩), (48, ⟨.strct [(0, 22), (1, 3), (2, 3)], 3, 40, some (.pair (.list (.int .i64)) (.pair (.int .i64) (.pair (.int .i64) .unit))), [.slice none 0 0, .int .i64 0, .int .i64 0]⟩), (53, ⟨.int .u64, 1, 8, some (.int .u64), [.int .u64 0]⟩), (56, ⟨.arr 64 5, 64, 64, none, [.int .u8 0, .int .u8 0, .int .u8 0, .int .u8 0, .int .u8 0, .int .u8 0, .int .u8 0, .int .u8 0, .int .u8 0, .int .u8 0, .int .u8 0, .int .u8 0, .int .u8 0, .int .u8 0, .int .u8 0, .int .u8 0, .int .u8 0, .int .u8 0, .int .u8 0, .int .u8 0, .int .u8 0, .int .u8 0, .int .u8 0, .int .u8 0, .int .u8 0, .int .u8 0, .int .u8 0, .int .u8 0, .int .u8 0, .int .u8 0, .int .u8 0, .int .u8 0, .int .u8 0, .int .u8 0, .int .u8 0, .int .u8 0, .int .u8 0, .int .u8 0, .int .u8 0, .int .u8 0, .int .u8 0, .int .u8 0, .int .u8 0, .int .u8 0, .int .u8 0, .int .u8 0, .int .u8 0, .int .u8 0, .int .u8 0, .int .u8 0, .int .u8 0, .int .u8 0, .int .u8 0, .int .u8 0, .int .u8 0, .int .u8 0, .int .u8 0, .int .u8 0, .int .u8 0, .int .u8 0, .int .u8 0, .int .u8 0, .int .u8 0, .int .u8 0]⟩)]
theorem tys_ok : TOk Tryd.prog (tlook tys) := tok_of (List.forall_mem_cons.2 ⟨ty3, List.forall_mem_cons.2 ⟨ty4, List.forall_mem_cons.2 ⟨ty5, List.forall_mem_cons.2 ⟨ty22, List.forall_mem_cons.2 ⟨ty34, List.forall_mem_cons.2 ⟨ty35, List.forall_mem_cons.2 ⟨ty48, List.forall_mem_cons.2 ⟨ty53, List.forall_mem_cons.2 ⟨ty56, by simp⟩⟩⟩⟩⟩⟩⟩⟩⟩)
def ioF (f : FuncId) (i : Nat) : Bool := [(11, 0), (32, 0)].any fun (p : Nat × Nat) => Nat.beq p.1 f && Nat.beq p.2 i

/-! loop.example/headtrees/laws.toIntS -/

def laws_toIntS_an : Ann := (.seq (.leaf [0]) (.seq (.leaf [0, 3]) (.seq (.seq (.leaf [0, 3, 4]) (.block (.loop (.seq (.seq (.leaf [0, 3, 4, 11]) (.cond (.leaf [0, 3, 4]) (.leaf [3]))) (.seq (.block (.leaf [0, 3, 4])) (.leaf [0, 3, 4])))))) (.seq (.leaf [2]) (.leaf [2])))))

noncomputable def laws_toIntS_ctx : Ctx := ⟨tlook tys, olook [], ioF, 0⟩

theorem laws_toIntS_n1_l (x12 : List Int) : Link laws_toIntS_ctx LL (Code.seq (Code.fst (bodyOf Tryd.f8)) (Code.fst (Code.snd (bodyOf Tryd.f8)))) (Ann.seq (Ann.fst laws_toIntS_an) (Ann.fst (Ann.snd laws_toIntS_an))) (⟨mkE 22 0 [(0, .dat (.list (.int .i64)) x12)], []⟩ : St) (laws_toIntS_n1 x12) (fun (t : (List Int)) => (Exit.normal, (⟨mkE 22 0 [(0, .dat (.list (.int .i64)) x12), (3, .slc 0)], [some (.seq (.int .i64) t)]⟩ : St))) := by
  refine Link.of fun K h => ?_
  simp only [laws_toIntS_n1, wpO_bind, wpO_cond, wpO_map, wpO_some] at h
  exact Awp.of (by kernel_rfl) h

theorem laws_toIntS_n2_l (x12 : List Int) (x16 : List Int) : Link laws_toIntS_ctx LL (Code.fst (Code.fst (Code.snd (Code.snd (bodyOf Tryd.f8))))) (Ann.fst (Ann.fst (Ann.snd (Ann.snd laws_toIntS_an)))) (⟨mkE 22 0 [(0, .dat (.list (.int .i64)) x12), (3, .slc 0)], [some (.seq (.int .i64) x16)]⟩ : St) (laws_toIntS_n2) (fun (t : Unit) => (Exit.normal, (⟨mkE 22 0 [(0, .dat (.list (.int .i64)) x12), (3, .slc 0), (4, .dat (.int .i64) 0)], [some (.seq (.int .i64) x16)]⟩ : St))) := by
  refine Link.of fun K h => ?_
  simp only [laws_toIntS_n2, wpO_bind, wpO_cond, wpO_map, wpO_some] at h
  exact Awp.of (by kernel_rfl) h

theorem laws_toIntS_n3_l (x12 : List Int) (x32 : Int) (x33 : List Int) : Link laws_toIntS_ctx LL (Code.fst (Code.fst (Code.snd (Code.fst (Code.snd (Code.snd (bodyOf Tryd.f8))))))) (Ann.fst (Ann.fst (Ann.snd (Ann.fst (Ann.snd (Ann.snd laws_toIntS_an)))))) (⟨mkE 22 0 [(0, .dat (.list (.int .i64)) x12), (3, .slc 0), (4, .dat (.int .i64) x32)], [some (.seq (.int .i64) x33)]⟩ : St) (laws_toIntS_n3 x12 x32 x33) (Sum.elim (fun (t : Int × (List Int)) => (Exit.normal, (⟨mkE 22 0 [(0, .dat (.list (.int .i64)) x12), (3, .slc 0), (4, .dat (.int .i64) t.1)], [some (.seq (.int .i64) t.2)]⟩ : St))) (fun (t : (List Int)) => ((Exit.exit 0), (⟨mkE 22 0 [(3, .slc 0)], [some (.seq (.int .i64) t)]⟩ : St)))) := by
  refine Link.of fun K h => ?_
  simp only [laws_toIntS_n3, wpO_bind, wpO_cond, wpO_map, wpO_some] at h
  exact Awp.of (by kernel_rfl) h

theorem laws_toIntS_n4_l (x12 : List Int) (x16 : List Int) : Link laws_toIntS_ctx LL (Code.fst (Code.snd (Code.fst (Code.snd (Code.snd (bodyOf Tryd.f8)))))) (Ann.fst (Ann.snd (Ann.fst (Ann.snd (Ann.snd laws_toIntS_an))))) (⟨mkE 22 0 [(0, .dat (.list (.int .i64)) x12), (3, .slc 0), (4, .dat (.int .i64) 0)], [some (.seq (.int .i64) x16)]⟩ : St) (laws_toIntS_n4 x12 x16) (fun (t : (List Int)) => ((Exit.exit 0), (⟨mkE 22 0 [(3, .slc 0)], [some (.seq (.int .i64) t)]⟩ : St))) := by
  unfold laws_toIntS_n4
  exact Link.cast (by kernel_rfl) (by kernel_rfl) (link_loop (mk := fun (s : Int × (List Int)) => (⟨mkE 22 0 [(0, .dat (.list (.int .i64)) x12), (3, .slc 0), (4, .dat (.int .i64) s.1)], [some (.seq (.int .i64) s.2)]⟩ : St)) (fin := (fun (t : (List Int)) => ((Exit.exit 0), (⟨mkE 22 0 [(3, .slc 0)], [some (.seq (.int .i64) t)]⟩ : St)))) (by
  rintro t f K h
  · exact h) (fun s => link_map (laws_toIntS_n3_l x12 s.1 s.2) (Sum.elim (fun (t : Int × (List Int)) => Sum.inl (t.1, t.2)) (fun (t : (List Int)) => Sum.inr t)) (by
  rintro (t | t)
  · kernel_rfl
  · kernel_rfl)) (0, x16))

theorem laws_toIntS_n5_l (x12 : List Int) (x16 : List Int) : Link laws_toIntS_ctx LL (Code.snd (Code.fst (Code.snd (Code.snd (bodyOf Tryd.f8))))) (Ann.snd (Ann.fst (Ann.snd (Ann.snd laws_toIntS_an)))) (⟨mkE 22 0 [(0, .dat (.list (.int .i64)) x12), (3, .slc 0), (4, .dat (.int .i64) 0)], [some (.seq (.int .i64) x16)]⟩ : St) (laws_toIntS_n5 x12 x16) (fun (t : (List Int)) => (Exit.normal, (⟨mkE 22 0 [(3, .slc 0)], [some (.seq (.int .i64) t)]⟩ : St))) := by
  unfold laws_toIntS_n5
  exact Link.cast (by kernel_rfl) (by kernel_rfl) (link_block (id := 0) (laws_toIntS_n4_l x12 x16) (fun (t : (List Int)) => t) (by
  rintro t K h
  · exact Eq.mp (by kernel_rfl) h))

theorem laws_toIntS_n6_l (x12 : List Int) (x16 : List Int) : Link laws_toIntS_ctx LL (Code.fst (Code.snd (Code.snd (bodyOf Tryd.f8)))) (Ann.fst (Ann.snd (Ann.snd laws_toIntS_an))) (⟨mkE 22 0 [(0, .dat (.list (.int .i64)) x12), (3, .slc 0)], [some (.seq (.int .i64) x16)]⟩ : St) (laws_toIntS_n6 x12 x16) (fun (t : (List Int)) => (Exit.normal, (⟨mkE 22 0 [(3, .slc 0)], [some (.seq (.int .i64) t)]⟩ : St))) := by
  unfold laws_toIntS_n6
  exact Link.cast (by kernel_rfl) (by kernel_rfl) (link_seq (b := (Code.snd (Code.fst (Code.snd (Code.snd (bodyOf Tryd.f8)))))) (y := (Ann.snd (Ann.fst (Ann.snd (Ann.snd laws_toIntS_an))))) (laws_toIntS_n2_l x12 x16) (fun (t : Unit) => (laws_toIntS_n5_l x12 x16)))

theorem laws_toIntS_n7_l (x33 : List Int) : Link laws_toIntS_ctx LL (Code.snd (Code.snd (Code.snd (bodyOf Tryd.f8)))) (Ann.snd (Ann.snd (Ann.snd laws_toIntS_an))) (⟨mkE 22 0 [(3, .slc 0)], [some (.seq (.int .i64) x33)]⟩ : St) (laws_toIntS_n7 x33) (fun (t : (List Int)) => (Exit.ret, (⟨mkE 22 0 [(2, .slc 0)], [some (.seq (.int .i64) t)]⟩ : St))) := by
  refine Link.of fun K h => ?_
  simp only [laws_toIntS_n7, wpO_bind, wpO_cond, wpO_map, wpO_some] at h
  exact Awp.of (by kernel_rfl) h

theorem laws_toIntS_n8_l (x12 : List Int) (x16 : List Int) : Link laws_toIntS_ctx LL (Code.snd (Code.snd (bodyOf Tryd.f8))) (Ann.snd (Ann.snd laws_toIntS_an)) (⟨mkE 22 0 [(0, .dat (.list (.int .i64)) x12), (3, .slc 0)], [some (.seq (.int .i64) x16)]⟩ : St) (laws_toIntS_n8 x12 x16) (fun (t : (List Int)) => (Exit.ret, (⟨mkE 22 0 [(2, .slc 0)], [some (.seq (.int .i64) t)]⟩ : St))) := by
  unfold laws_toIntS_n8
  exact Link.cast (by kernel_rfl) (by kernel_rfl) (link_seq (b := (Code.snd (Code.snd (Code.snd (bodyOf Tryd.f8))))) (y := (Ann.snd (Ann.snd (Ann.snd laws_toIntS_an)))) (laws_toIntS_n6_l x12 x16) (fun (t : (List Int)) => (laws_toIntS_n7_l t)))

theorem laws_toIntS_n9_l (x12 : List Int) : Link laws_toIntS_ctx LL (bodyOf Tryd.f8) laws_toIntS_an (⟨mkE 22 0 [(0, .dat (.list (.int .i64)) x12)], []⟩ : St) (laws_toIntS_n9 x12) (fun (t : (List Int)) => (Exit.ret, (⟨mkE 22 0 [(2, .slc 0)], [some (.seq (.int .i64) t)]⟩ : St))) := by
  unfold laws_toIntS_n9
  exact Link.cast (by kernel_rfl) (by kernel_rfl) (link_group (c := (Code.fst (Code.snd (bodyOf Tryd.f8)))) (a := (Ann.fst (Ann.snd laws_toIntS_an))) [(Code.fst (bodyOf Tryd.f8))] [(Ann.fst laws_toIntS_an)] rfl (link_seq (b := (Code.snd (Code.snd (bodyOf Tryd.f8)))) (y := (Ann.snd (Ann.snd laws_toIntS_an))) (laws_toIntS_n1_l x12) (fun (t : (List Int)) => (laws_toIntS_n8_l x12 t))))

theorem laws_toIntS_e (x12 : List Int) {r : AV} {H' : Heap} (h : (Ans.mk _ (laws_toIntS x12) (fun (t : (List Int)) => (.slc 0, [some (.seq (.int .i64) t)]))).run = some (r, H')) : Awp laws_toIntS_ctx LL (bodyOf Tryd.f8) laws_toIntS_an (⟨mkE 22 0 [(0, .dat (.list (.int .i64)) x12)], []⟩ : St) (Ret (tlook tys) Tryd.f8.results.toList r H') :=
  ret_of' (laws_toIntS_n9_l x12) (by unfold laws_toIntS; kernel_rfl) (by
  intro t
  exact ret_mk [.slc 0] (by kernel_rfl) (by kernel_rfl) (by kernel_rfl) (by kernel_rfl)) h

def F_laws_toIntS : Fun := fun avs H =>
  match avs, H with
  | [.dat (.list (.int .i64)) x12], [] => ⟨_, laws_toIntS x12, fun (t : (List Int)) => (.slc 0, [some (.seq (.int .i64) t)])⟩
  | _, _ => Ans.no

theorem laws_toIntS_sound : Sound Tryd.prog 8 F_laws_toIntS := by
  refine fn_sound' (C := laws_toIntS_ctx) (c := bodyOf Tryd.f8) (cok_of tys_ok (by simp) (by simp) (by kernel_rfl)) Tryd.func8 (by kernel_rfl) LL laws_toIntS_an ?_
  intro avs H r H' h
  unfold F_laws_toIntS at h
  split at h
  · refine Awp.cast ?_ ?_ ?_ (laws_toIntS_e _ h) <;> kernel_rfl
  · simp [Ans.no, Ans.run] at h

/-! loop.example/headtrees/spec.l1In -/

def spec_l1In_an : Ann := (.seq (.leaf [0, 1, 2]) (.seq (.leaf [6]) (.leaf [6])))

noncomputable def spec_l1In_ctx : Ctx := ⟨tlook tys, olook [], ioF, 0⟩

theorem spec_l1In_n1_l (x54 : Int) (x55 : Int) (x56 : Int) : Link spec_l1In_ctx LL (bodyOf Tryd.f20) spec_l1In_an (⟨mkE 15 0 [(0, .dat (.int .i64) x54), (1, .dat (.int .i64) x55), (2, .dat (.int .i64) x56)], []⟩ : St) (spec_l1In_n1 x54 x55 x56) (fun (t : Bool) => (Exit.ret, (⟨mkE 15 0 [(6, .dat .bool t)], []⟩ : St))) := by
  refine Link.of fun K h => ?_
  simp only [spec_l1In_n1, wpO_bind, wpO_cond, wpO_map, wpO_some] at h
  exact Awp.of (by kernel_rfl) h

theorem spec_l1In_e (x54 : Int) (x55 : Int) (x56 : Int) {r : AV} {H' : Heap} (h : (Ans.mk _ (spec_l1In x54 x55 x56) (fun (t : Bool) => (.dat .bool t, []))).run = some (r, H')) : Awp spec_l1In_ctx LL (bodyOf Tryd.f20) spec_l1In_an (⟨mkE 15 0 [(0, .dat (.int .i64) x54), (1, .dat (.int .i64) x55), (2, .dat (.int .i64) x56)], []⟩ : St) (Ret (tlook tys) Tryd.f20.results.toList r H') :=
  ret_of' (spec_l1In_n1_l x54 x55 x56) (by unfold spec_l1In; kernel_rfl) (by
  intro t
  exact ret_mk [.dat .bool t] (by kernel_rfl) (by kernel_rfl) (by kernel_rfl) (by kernel_rfl)) h

def F_spec_l1In : Fun := fun avs H =>
  match avs, H with
  | [.dat (.int .i64) x54, .dat (.int .i64) x55, .dat (.int .i64) x56], [] => ⟨_, spec_l1In x54 x55 x56, fun (t : Bool) => (.dat .bool t, [])⟩
  | _, _ => Ans.no

theorem spec_l1In_sound : Sound Tryd.prog 20 F_spec_l1In := by
  refine fn_sound' (C := spec_l1In_ctx) (c := bodyOf Tryd.f20) (cok_of tys_ok (by simp) (by simp) (by kernel_rfl)) Tryd.func20 (by kernel_rfl) LL spec_l1In_an ?_
  intro avs H r H' h
  unfold F_spec_l1In at h
  split at h
  · refine Awp.cast ?_ ?_ ?_ (spec_l1In_e _ _ _ h) <;> kernel_rfl
  · simp [Ans.no, Ans.run] at h

/-! loop.example/headtrees/spec.TreeOk -/

def spec_TreeOk_an : Ann := (.seq (.leaf [0]) (.seq (.leaf [0, 3]) (.seq (.seq (.leaf [0, 3, 12]) (.cond (.seq (.leaf [2]) (.leaf [2])) (.leaf [0, 3]))) (.seq (.leaf [0, 3, 4]) (.seq (.seq (.leaf [0, 3, 4, 5]) (.block (.loop (.seq (.seq (.leaf [0, 3, 4, 5, 15]) (.cond (.leaf [0, 3, 4, 5]) (.leaf [4]))) (.seq (.block (.seq (.seq (.leaf [0, 3, 4, 5, 33]) (.cond (.seq (.leaf [2]) (.leaf [2])) (.leaf [0, 3, 4, 5]))) (.seq (.seq (.leaf [0, 3, 4, 5, 38]) (.cond (.leaf [0, 3, 4, 5]) (.leaf [0, 3, 4, 5]))) (.seq (.leaf [0, 3, 4, 5, 6]) (.seq (.seq (.leaf [0, 3, 4, 5, 6, 7]) (.block (.loop (.seq (.seq (.leaf [0, 3, 4, 5, 6, 7, 49]) (.cond (.leaf [0, 3, 4, 5, 6, 7]) (.leaf [0, 3, 4, 5, 6]))) (.seq (.block (.seq (.leaf [0, 3, 4, 5, 6, 7]) (.seq (.leaf [0, 3, 4, 5, 6, 7, 60]) (.cond (.seq (.leaf [2]) (.leaf [2])) (.leaf [0, 3, 4, 5, 6, 7]))))) (.leaf [0, 3, 4, 5, 6, 7])))))) (.seq (.leaf [0, 3, 4, 5, 62]) (.cond (.seq (.leaf [2]) (.leaf [2])) (.leaf [0, 3, 4, 5])))))))) (.leaf [0, 3, 4, 5])))))) (.seq (.leaf [2]) (.leaf [2])))))))

noncomputable def spec_TreeOk_ctx : Ctx := ⟨tlook tys, olook [(20, F_spec_l1In)], ioF, 0⟩

theorem spec_TreeOk_n1_l (x50 : List Int) : Link spec_TreeOk_ctx LL (Code.seq (Code.fst (bodyOf Tryd.f19)) (Code.seq (Code.fst (Code.snd (bodyOf Tryd.f19))) (Code.seq (Code.fst (Code.snd (Code.snd (bodyOf Tryd.f19)))) (Code.fst (Code.snd (Code.snd (Code.snd (bodyOf Tryd.f19)))))))) (Ann.seq (Ann.fst spec_TreeOk_an) (Ann.seq (Ann.fst (Ann.snd spec_TreeOk_an)) (Ann.seq (Ann.fst (Ann.snd (Ann.snd spec_TreeOk_an))) (Ann.fst (Ann.snd (Ann.snd (Ann.snd spec_TreeOk_an))))))) (⟨mkE 65 0 [(0, .dat (.list (.int .i64)) x50)], []⟩ : St) (spec_TreeOk_n1 x50) (Sum.elim (fun (t : Int) => (Exit.normal, (⟨mkE 65 0 [(0, .dat (.list (.int .i64)) x50), (3, .dat (.int .i64) t), (4, .dat (.int .i64) 0)], []⟩ : St))) (fun (t : Bool) => (Exit.ret, (⟨mkE 65 0 [(2, .dat .bool t)], []⟩ : St)))) := by
  refine Link.of fun K h => ?_
  simp only [spec_TreeOk_n1, wpO_bind, wpO_cond, wpO_map, wpO_some] at h
  exact Awp.of (by kernel_rfl) h

theorem spec_TreeOk_n2_l (x50 : List Int) (x64 : Int) : Link spec_TreeOk_ctx LL (Code.fst (Code.fst (Code.snd (Code.snd (Code.snd (Code.snd (bodyOf Tryd.f19))))))) (Ann.fst (Ann.fst (Ann.snd (Ann.snd (Ann.snd (Ann.snd spec_TreeOk_an)))))) (⟨mkE 65 0 [(0, .dat (.list (.int .i64)) x50), (3, .dat (.int .i64) x64), (4, .dat (.int .i64) 0)], []⟩ : St) (spec_TreeOk_n2) (fun (t : Unit) => (Exit.normal, (⟨mkE 65 0 [(0, .dat (.list (.int .i64)) x50), (3, .dat (.int .i64) x64), (4, .dat (.int .i64) 0), (5, .dat (.int .i64) 0)], []⟩ : St))) := by
  refine Link.of fun K h => ?_
  simp only [spec_TreeOk_n2, wpO_bind, wpO_cond, wpO_map, wpO_some] at h
  exact Awp.of (by kernel_rfl) h

theorem spec_TreeOk_n3_l (x50 : List Int) (x64 : Int) (x131 : Int) (x132 : Int) : Link spec_TreeOk_ctx LL (Code.fst (Code.fst (Code.fst (Code.snd (Code.fst (Code.snd (Code.snd (Code.snd (Code.snd (bodyOf Tryd.f19)))))))))) (Ann.fst (Ann.fst (Ann.fst (Ann.snd (Ann.fst (Ann.snd (Ann.snd (Ann.snd (Ann.snd spec_TreeOk_an))))))))) (⟨mkE 65 0 [(0, .dat (.list (.int .i64)) x50), (3, .dat (.int .i64) x64), (4, .dat (.int .i64) x131), (5, .dat (.int .i64) x132)], []⟩ : St) (spec_TreeOk_n3 x64 x131 x132) (Sum.elim (fun (t : Unit) => (Exit.normal, (⟨mkE 65 0 [(0, .dat (.list (.int .i64)) x50), (3, .dat (.int .i64) x64), (4, .dat (.int .i64) x131), (5, .dat (.int .i64) x132)], []⟩ : St))) (fun (t : Int) => ((Exit.exit 0), (⟨mkE 65 0 [(4, .dat (.int .i64) t)], []⟩ : St)))) := by
  refine Link.of fun K h => ?_
  simp only [spec_TreeOk_n3, wpO_bind, wpO_cond, wpO_map, wpO_some] at h
  exact Awp.of (by kernel_rfl) h

theorem spec_TreeOk_n4_l (x50 : List Int) (x64 : Int) (x131 : Int) (x132 : Int) : Link spec_TreeOk_ctx LL (Code.seq (Code.fst (Code.fst (Code.fst (Code.snd (Code.fst (Code.fst (Code.snd (Code.fst (Code.snd (Code.snd (Code.snd (Code.snd (bodyOf Tryd.f19))))))))))))) (Code.seq (Code.fst (Code.snd (Code.fst (Code.fst (Code.snd (Code.fst (Code.fst (Code.snd (Code.fst (Code.snd (Code.snd (Code.snd (Code.snd (bodyOf Tryd.f19)))))))))))))) (Code.fst (Code.snd (Code.snd (Code.fst (Code.fst (Code.snd (Code.fst (Code.fst (Code.snd (Code.fst (Code.snd (Code.snd (Code.snd (Code.snd (bodyOf Tryd.f19))))))))))))))))) (Ann.seq (Ann.fst (Ann.fst (Ann.fst (Ann.snd (Ann.fst (Ann.fst (Ann.snd (Ann.fst (Ann.snd (Ann.snd (Ann.snd (Ann.snd spec_TreeOk_an)))))))))))) (Ann.seq (Ann.fst (Ann.snd (Ann.fst (Ann.fst (Ann.snd (Ann.fst (Ann.fst (Ann.snd (Ann.fst (Ann.snd (Ann.snd (Ann.snd (Ann.snd spec_TreeOk_an))))))))))))) (Ann.fst (Ann.snd (Ann.snd (Ann.fst (Ann.fst (Ann.snd (Ann.fst (Ann.fst (Ann.snd (Ann.fst (Ann.snd (Ann.snd (Ann.snd (Ann.snd spec_TreeOk_an)))))))))))))))) (⟨mkE 65 0 [(0, .dat (.list (.int .i64)) x50), (3, .dat (.int .i64) x64), (4, .dat (.int .i64) x131), (5, .dat (.int .i64) x132)], []⟩ : St) (spec_TreeOk_n4 x50 x64 x131 x132) (Sum.elim (fun (t : Int × Int) => (Exit.normal, (⟨mkE 65 0 [(0, .dat (.list (.int .i64)) x50), (3, .dat (.int .i64) x64), (4, .dat (.int .i64) t.1), (5, .dat (.int .i64) x132), (6, .dat (.int .i64) t.2)], []⟩ : St))) (fun (t : Bool) => (Exit.ret, (⟨mkE 65 0 [(2, .dat .bool t)], []⟩ : St)))) := by
  refine Link.of fun K h => ?_
  simp only [spec_TreeOk_n4, wpO_bind, wpO_cond, wpO_map, wpO_some] at h
  exact Awp.of (by kernel_rfl) h

theorem spec_TreeOk_n5_l (x50 : List Int) (x64 : Int) (x160 : Int) (x132 : Int) (x161 : Int) : Link spec_TreeOk_ctx LL (Code.fst (Code.fst (Code.snd (Code.snd (Code.snd (Code.fst (Code.fst (Code.snd (Code.fst (Code.fst (Code.snd (Code.fst (Code.snd (Code.snd (Code.snd (Code.snd (bodyOf Tryd.f19))))))))))))))))) (Ann.fst (Ann.fst (Ann.snd (Ann.snd (Ann.snd (Ann.fst (Ann.fst (Ann.snd (Ann.fst (Ann.fst (Ann.snd (Ann.fst (Ann.snd (Ann.snd (Ann.snd (Ann.snd spec_TreeOk_an)))))))))))))))) (⟨mkE 65 0 [(0, .dat (.list (.int .i64)) x50), (3, .dat (.int .i64) x64), (4, .dat (.int .i64) x160), (5, .dat (.int .i64) x132), (6, .dat (.int .i64) x161)], []⟩ : St) (spec_TreeOk_n5) (fun (t : Unit) => (Exit.normal, (⟨mkE 65 0 [(0, .dat (.list (.int .i64)) x50), (3, .dat (.int .i64) x64), (4, .dat (.int .i64) x160), (5, .dat (.int .i64) x132), (6, .dat (.int .i64) x161), (7, .dat (.int .i64) 0)], []⟩ : St))) := by
  refine Link.of fun K h => ?_
  simp only [spec_TreeOk_n5, wpO_bind, wpO_cond, wpO_map, wpO_some] at h
  exact Awp.of (by kernel_rfl) h

theorem spec_TreeOk_n6_l (x50 : List Int) (x64 : Int) (x160 : Int) (x132 : Int) (x177 : Int) (x178 : Int) : Link spec_TreeOk_ctx LL (Code.fst (Code.fst (Code.snd (Code.fst (Code.snd (Code.snd (Code.snd (Code.fst (Code.fst (Code.snd (Code.fst (Code.fst (Code.snd (Code.fst (Code.snd (Code.snd (Code.snd (Code.snd (bodyOf Tryd.f19))))))))))))))))))) (Ann.fst (Ann.fst (Ann.snd (Ann.fst (Ann.snd (Ann.snd (Ann.snd (Ann.fst (Ann.fst (Ann.snd (Ann.fst (Ann.fst (Ann.snd (Ann.fst (Ann.snd (Ann.snd (Ann.snd (Ann.snd spec_TreeOk_an)))))))))))))))))) (⟨mkE 65 0 [(0, .dat (.list (.int .i64)) x50), (3, .dat (.int .i64) x64), (4, .dat (.int .i64) x160), (5, .dat (.int .i64) x132), (6, .dat (.int .i64) x177), (7, .dat (.int .i64) x178)], []⟩ : St) (spec_TreeOk_n6 x50 x64 x177 x178) (Sum.elim (fun (t : Int × Int) => (Exit.normal, (⟨mkE 65 0 [(0, .dat (.list (.int .i64)) x50), (3, .dat (.int .i64) x64), (4, .dat (.int .i64) x160), (5, .dat (.int .i64) x132), (6, .dat (.int .i64) t.1), (7, .dat (.int .i64) t.2)], []⟩ : St))) (Sum.elim (fun (t : Bool) => (Exit.ret, (⟨mkE 65 0 [(2, .dat .bool t)], []⟩ : St))) (fun (t : Int) => ((Exit.exit 2), (⟨mkE 65 0 [(0, .dat (.list (.int .i64)) x50), (3, .dat (.int .i64) x64), (4, .dat (.int .i64) x160), (5, .dat (.int .i64) x132), (6, .dat (.int .i64) t)], []⟩ : St))))) := by
  refine Link.of fun K h => ?_
  simp only [spec_TreeOk_n6, wpO_bind, wpO_cond, wpO_map, wpO_some] at h
  exact Awp.of (by kernel_rfl) h

theorem spec_TreeOk_n7_l (x50 : List Int) (x64 : Int) (x160 : Int) (x132 : Int) (x161 : Int) : Link spec_TreeOk_ctx LL (Code.fst (Code.snd (Code.fst (Code.snd (Code.snd (Code.snd (Code.fst (Code.fst (Code.snd (Code.fst (Code.fst (Code.snd (Code.fst (Code.snd (Code.snd (Code.snd (Code.snd (bodyOf Tryd.f19)))))))))))))))))) (Ann.fst (Ann.snd (Ann.fst (Ann.snd (Ann.snd (Ann.snd (Ann.fst (Ann.fst (Ann.snd (Ann.fst (Ann.fst (Ann.snd (Ann.fst (Ann.snd (Ann.snd (Ann.snd (Ann.snd spec_TreeOk_an))))))))))))))))) (⟨mkE 65 0 [(0, .dat (.list (.int .i64)) x50), (3, .dat (.int .i64) x64), (4, .dat (.int .i64) x160), (5, .dat (.int .i64) x132), (6, .dat (.int .i64) x161), (7, .dat (.int .i64) 0)], []⟩ : St) (spec_TreeOk_n7 x50 x64 x161) (Sum.elim (fun (t : Bool) => (Exit.ret, (⟨mkE 65 0 [(2, .dat .bool t)], []⟩ : St))) (fun (t : Int) => ((Exit.exit 2), (⟨mkE 65 0 [(0, .dat (.list (.int .i64)) x50), (3, .dat (.int .i64) x64), (4, .dat (.int .i64) x160), (5, .dat (.int .i64) x132), (6, .dat (.int .i64) t)], []⟩ : St)))) := by
  unfold spec_TreeOk_n7
  exact Link.cast (by kernel_rfl) (by kernel_rfl) (link_loop (mk := fun (s : Int × Int) => (⟨mkE 65 0 [(0, .dat (.list (.int .i64)) x50), (3, .dat (.int .i64) x64), (4, .dat (.int .i64) x160), (5, .dat (.int .i64) x132), (6, .dat (.int .i64) s.1), (7, .dat (.int .i64) s.2)], []⟩ : St)) (fin := (Sum.elim (fun (t : Bool) => (Exit.ret, (⟨mkE 65 0 [(2, .dat .bool t)], []⟩ : St))) (fun (t : Int) => ((Exit.exit 2), (⟨mkE 65 0 [(0, .dat (.list (.int .i64)) x50), (3, .dat (.int .i64) x64), (4, .dat (.int .i64) x160), (5, .dat (.int .i64) x132), (6, .dat (.int .i64) t)], []⟩ : St))))) (by
  rintro (t | t) f K h
  · exact h
  · exact h) (fun s => link_map (spec_TreeOk_n6_l x50 x64 x160 x132 s.1 s.2) (Sum.elim (fun (t : Int × Int) => Sum.inl (t.1, t.2)) (Sum.elim (fun (t : Bool) => Sum.inr (Sum.inl t)) (fun (t : Int) => Sum.inr (Sum.inr t)))) (by
  rintro (t | t | t)
  · kernel_rfl
  · kernel_rfl
  · kernel_rfl)) (x161, 0))

theorem spec_TreeOk_n8_l (x50 : List Int) (x64 : Int) (x160 : Int) (x132 : Int) (x161 : Int) : Link spec_TreeOk_ctx LL (Code.snd (Code.fst (Code.snd (Code.snd (Code.snd (Code.fst (Code.fst (Code.snd (Code.fst (Code.fst (Code.snd (Code.fst (Code.snd (Code.snd (Code.snd (Code.snd (bodyOf Tryd.f19))))))))))))))))) (Ann.snd (Ann.fst (Ann.snd (Ann.snd (Ann.snd (Ann.fst (Ann.fst (Ann.snd (Ann.fst (Ann.fst (Ann.snd (Ann.fst (Ann.snd (Ann.snd (Ann.snd (Ann.snd spec_TreeOk_an)))))))))))))))) (⟨mkE 65 0 [(0, .dat (.list (.int .i64)) x50), (3, .dat (.int .i64) x64), (4, .dat (.int .i64) x160), (5, .dat (.int .i64) x132), (6, .dat (.int .i64) x161), (7, .dat (.int .i64) 0)], []⟩ : St) (spec_TreeOk_n8 x50 x64 x161) (Sum.elim (fun (t : Int) => (Exit.normal, (⟨mkE 65 0 [(0, .dat (.list (.int .i64)) x50), (3, .dat (.int .i64) x64), (4, .dat (.int .i64) x160), (5, .dat (.int .i64) x132), (6, .dat (.int .i64) t)], []⟩ : St))) (fun (t : Bool) => (Exit.ret, (⟨mkE 65 0 [(2, .dat .bool t)], []⟩ : St)))) := by
  unfold spec_TreeOk_n8
  exact Link.cast (by kernel_rfl) (by kernel_rfl) (link_block (id := 2) (spec_TreeOk_n7_l x50 x64 x160 x132 x161) (Sum.elim (fun (t : Bool) => (Sum.inr t)) (fun (t : Int) => (Sum.inl t))) (by
  rintro (t | t) K h
  · exact Eq.mp (by kernel_rfl) h
  · exact Eq.mp (by kernel_rfl) h))

theorem spec_TreeOk_n9_l (x50 : List Int) (x64 : Int) (x160 : Int) (x132 : Int) (x161 : Int) : Link spec_TreeOk_ctx LL (Code.fst (Code.snd (Code.snd (Code.snd (Code.fst (Code.fst (Code.snd (Code.fst (Code.fst (Code.snd (Code.fst (Code.snd (Code.snd (Code.snd (Code.snd (bodyOf Tryd.f19)))))))))))))))) (Ann.fst (Ann.snd (Ann.snd (Ann.snd (Ann.fst (Ann.fst (Ann.snd (Ann.fst (Ann.fst (Ann.snd (Ann.fst (Ann.snd (Ann.snd (Ann.snd (Ann.snd spec_TreeOk_an))))))))))))))) (⟨mkE 65 0 [(0, .dat (.list (.int .i64)) x50), (3, .dat (.int .i64) x64), (4, .dat (.int .i64) x160), (5, .dat (.int .i64) x132), (6, .dat (.int .i64) x161)], []⟩ : St) (spec_TreeOk_n9 x50 x64 x161) (Sum.elim (fun (t : Int) => (Exit.normal, (⟨mkE 65 0 [(0, .dat (.list (.int .i64)) x50), (3, .dat (.int .i64) x64), (4, .dat (.int .i64) x160), (5, .dat (.int .i64) x132), (6, .dat (.int .i64) t)], []⟩ : St))) (fun (t : Bool) => (Exit.ret, (⟨mkE 65 0 [(2, .dat .bool t)], []⟩ : St)))) := by
  unfold spec_TreeOk_n9
  exact Link.cast (by kernel_rfl) (by kernel_rfl) (link_seq (b := (Code.snd (Code.fst (Code.snd (Code.snd (Code.snd (Code.fst (Code.fst (Code.snd (Code.fst (Code.fst (Code.snd (Code.fst (Code.snd (Code.snd (Code.snd (Code.snd (bodyOf Tryd.f19)))))))))))))))))) (y := (Ann.snd (Ann.fst (Ann.snd (Ann.snd (Ann.snd (Ann.fst (Ann.fst (Ann.snd (Ann.fst (Ann.fst (Ann.snd (Ann.fst (Ann.snd (Ann.snd (Ann.snd (Ann.snd spec_TreeOk_an))))))))))))))))) (spec_TreeOk_n5_l x50 x64 x160 x132 x161) (fun (t : Unit) => (spec_TreeOk_n8_l x50 x64 x160 x132 x161)))

theorem spec_TreeOk_n10_l (x50 : List Int) (x64 : Int) (x160 : Int) (x132 : Int) (x177 : Int) : Link spec_TreeOk_ctx LL (Code.snd (Code.snd (Code.snd (Code.snd (Code.fst (Code.fst (Code.snd (Code.fst (Code.fst (Code.snd (Code.fst (Code.snd (Code.snd (Code.snd (Code.snd (bodyOf Tryd.f19)))))))))))))))) (Ann.snd (Ann.snd (Ann.snd (Ann.snd (Ann.fst (Ann.fst (Ann.snd (Ann.fst (Ann.fst (Ann.snd (Ann.fst (Ann.snd (Ann.snd (Ann.snd (Ann.snd spec_TreeOk_an))))))))))))))) (⟨mkE 65 0 [(0, .dat (.list (.int .i64)) x50), (3, .dat (.int .i64) x64), (4, .dat (.int .i64) x160), (5, .dat (.int .i64) x132), (6, .dat (.int .i64) x177)], []⟩ : St) (spec_TreeOk_n10 x177) (Sum.elim (fun (t : Unit) => (Exit.normal, (⟨mkE 65 0 [(0, .dat (.list (.int .i64)) x50), (3, .dat (.int .i64) x64), (4, .dat (.int .i64) x160), (5, .dat (.int .i64) x132)], []⟩ : St))) (fun (t : Bool) => (Exit.ret, (⟨mkE 65 0 [(2, .dat .bool t)], []⟩ : St)))) := by
  refine Link.of fun K h => ?_
  simp only [spec_TreeOk_n10, wpO_bind, wpO_cond, wpO_map, wpO_some] at h
  exact Awp.of (by kernel_rfl) h

theorem spec_TreeOk_n11_l (x50 : List Int) (x64 : Int) (x160 : Int) (x132 : Int) (x161 : Int) : Link spec_TreeOk_ctx LL (Code.snd (Code.snd (Code.snd (Code.fst (Code.fst (Code.snd (Code.fst (Code.fst (Code.snd (Code.fst (Code.snd (Code.snd (Code.snd (Code.snd (bodyOf Tryd.f19))))))))))))))) (Ann.snd (Ann.snd (Ann.snd (Ann.fst (Ann.fst (Ann.snd (Ann.fst (Ann.fst (Ann.snd (Ann.fst (Ann.snd (Ann.snd (Ann.snd (Ann.snd spec_TreeOk_an)))))))))))))) (⟨mkE 65 0 [(0, .dat (.list (.int .i64)) x50), (3, .dat (.int .i64) x64), (4, .dat (.int .i64) x160), (5, .dat (.int .i64) x132), (6, .dat (.int .i64) x161)], []⟩ : St) (spec_TreeOk_n11 x50 x64 x161) (Sum.elim (fun (t : Unit) => (Exit.normal, (⟨mkE 65 0 [(0, .dat (.list (.int .i64)) x50), (3, .dat (.int .i64) x64), (4, .dat (.int .i64) x160), (5, .dat (.int .i64) x132)], []⟩ : St))) (fun (t : Bool) => (Exit.ret, (⟨mkE 65 0 [(2, .dat .bool t)], []⟩ : St)))) := by
  unfold spec_TreeOk_n11
  exact Link.cast (by kernel_rfl) (by kernel_rfl) (link_seq2 (b := (Code.snd (Code.snd (Code.snd (Code.snd (Code.fst (Code.fst (Code.snd (Code.fst (Code.fst (Code.snd (Code.fst (Code.snd (Code.snd (Code.snd (Code.snd (bodyOf Tryd.f19))))))))))))))))) (y := (Ann.snd (Ann.snd (Ann.snd (Ann.snd (Ann.fst (Ann.fst (Ann.snd (Ann.fst (Ann.fst (Ann.snd (Ann.fst (Ann.snd (Ann.snd (Ann.snd (Ann.snd spec_TreeOk_an)))))))))))))))) (spec_TreeOk_n9_l x50 x64 x160 x132 x161) (fun (t : Int) => (spec_TreeOk_n10_l x50 x64 x160 x132 t)) (fun (t : Bool) => (Sum.inr t)) (by
  rintro t
  · kernel_rfl) (by
  rintro t f K h
  · exact h))

theorem spec_TreeOk_n12_l (x50 : List Int) (x64 : Int) (x131 : Int) (x132 : Int) : Link spec_TreeOk_ctx LL (Code.fst (Code.fst (Code.snd (Code.fst (Code.fst (Code.snd (Code.fst (Code.snd (Code.snd (Code.snd (Code.snd (bodyOf Tryd.f19)))))))))))) (Ann.fst (Ann.fst (Ann.snd (Ann.fst (Ann.fst (Ann.snd (Ann.fst (Ann.snd (Ann.snd (Ann.snd (Ann.snd spec_TreeOk_an))))))))))) (⟨mkE 65 0 [(0, .dat (.list (.int .i64)) x50), (3, .dat (.int .i64) x64), (4, .dat (.int .i64) x131), (5, .dat (.int .i64) x132)], []⟩ : St) (spec_TreeOk_n12 x50 x64 x131 x132) (Sum.elim (fun (t : Int) => (Exit.normal, (⟨mkE 65 0 [(0, .dat (.list (.int .i64)) x50), (3, .dat (.int .i64) x64), (4, .dat (.int .i64) t), (5, .dat (.int .i64) x132)], []⟩ : St))) (fun (t : Bool) => (Exit.ret, (⟨mkE 65 0 [(2, .dat .bool t)], []⟩ : St)))) := by
  unfold spec_TreeOk_n12
  exact Link.cast (by kernel_rfl) (by kernel_rfl) (link_group (c := (Code.fst (Code.snd (Code.snd (Code.fst (Code.fst (Code.snd (Code.fst (Code.fst (Code.snd (Code.fst (Code.snd (Code.snd (Code.snd (Code.snd (bodyOf Tryd.f19)))))))))))))))) (a := (Ann.fst (Ann.snd (Ann.snd (Ann.fst (Ann.fst (Ann.snd (Ann.fst (Ann.fst (Ann.snd (Ann.fst (Ann.snd (Ann.snd (Ann.snd (Ann.snd spec_TreeOk_an))))))))))))))) [(Code.fst (Code.fst (Code.fst (Code.snd (Code.fst (Code.fst (Code.snd (Code.fst (Code.snd (Code.snd (Code.snd (Code.snd (bodyOf Tryd.f19))))))))))))), (Code.fst (Code.snd (Code.fst (Code.fst (Code.snd (Code.fst (Code.fst (Code.snd (Code.fst (Code.snd (Code.snd (Code.snd (Code.snd (bodyOf Tryd.f19))))))))))))))] [(Ann.fst (Ann.fst (Ann.fst (Ann.snd (Ann.fst (Ann.fst (Ann.snd (Ann.fst (Ann.snd (Ann.snd (Ann.snd (Ann.snd spec_TreeOk_an)))))))))))), (Ann.fst (Ann.snd (Ann.fst (Ann.fst (Ann.snd (Ann.fst (Ann.fst (Ann.snd (Ann.fst (Ann.snd (Ann.snd (Ann.snd (Ann.snd spec_TreeOk_an)))))))))))))] rfl (link_seq2 (b := (Code.snd (Code.snd (Code.snd (Code.fst (Code.fst (Code.snd (Code.fst (Code.fst (Code.snd (Code.fst (Code.snd (Code.snd (Code.snd (Code.snd (bodyOf Tryd.f19)))))))))))))))) (y := (Ann.snd (Ann.snd (Ann.snd (Ann.fst (Ann.fst (Ann.snd (Ann.fst (Ann.fst (Ann.snd (Ann.fst (Ann.snd (Ann.snd (Ann.snd (Ann.snd spec_TreeOk_an))))))))))))))) (spec_TreeOk_n4_l x50 x64 x131 x132) (fun (t : Int × Int) => (link_map (spec_TreeOk_n11_l x50 x64 t.1 x132 t.2) (Sum.elim (fun (u : Unit) => (Sum.inl t.1)) (fun (u : Bool) => (Sum.inr u))) (by
  rintro (t | t)
  · kernel_rfl
  · kernel_rfl))) (fun (t : Bool) => (Sum.inr t)) (by
  rintro t
  · kernel_rfl) (by
  rintro t f K h
  · exact h)))

theorem spec_TreeOk_n13_l (x50 : List Int) (x64 : Int) (x131 : Int) (x132 : Int) : Link spec_TreeOk_ctx LL (Code.fst (Code.snd (Code.fst (Code.fst (Code.snd (Code.fst (Code.snd (Code.snd (Code.snd (Code.snd (bodyOf Tryd.f19))))))))))) (Ann.fst (Ann.snd (Ann.fst (Ann.fst (Ann.snd (Ann.fst (Ann.snd (Ann.snd (Ann.snd (Ann.snd spec_TreeOk_an)))))))))) (⟨mkE 65 0 [(0, .dat (.list (.int .i64)) x50), (3, .dat (.int .i64) x64), (4, .dat (.int .i64) x131), (5, .dat (.int .i64) x132)], []⟩ : St) (spec_TreeOk_n13 x50 x64 x131 x132) (Sum.elim (fun (t : Int) => (Exit.normal, (⟨mkE 65 0 [(0, .dat (.list (.int .i64)) x50), (3, .dat (.int .i64) x64), (4, .dat (.int .i64) t), (5, .dat (.int .i64) x132)], []⟩ : St))) (fun (t : Bool) => (Exit.ret, (⟨mkE 65 0 [(2, .dat .bool t)], []⟩ : St)))) := by
  unfold spec_TreeOk_n13
  exact Link.cast (by kernel_rfl) (by kernel_rfl) (link_block (id := 1) (spec_TreeOk_n12_l x50 x64 x131 x132) (Sum.elim (fun (t : Int) => (Sum.inl t)) (fun (t : Bool) => (Sum.inr t))) (by
  rintro (t | t) K h
  · exact Eq.mp (by kernel_rfl) h
  · exact Eq.mp (by kernel_rfl) h))

theorem spec_TreeOk_n14_l (x50 : List Int) (x64 : Int) (x160 : Int) (x132 : Int) : Link spec_TreeOk_ctx LL (Code.snd (Code.snd (Code.fst (Code.fst (Code.snd (Code.fst (Code.snd (Code.snd (Code.snd (Code.snd (bodyOf Tryd.f19))))))))))) (Ann.snd (Ann.snd (Ann.fst (Ann.fst (Ann.snd (Ann.fst (Ann.snd (Ann.snd (Ann.snd (Ann.snd spec_TreeOk_an)))))))))) (⟨mkE 65 0 [(0, .dat (.list (.int .i64)) x50), (3, .dat (.int .i64) x64), (4, .dat (.int .i64) x160), (5, .dat (.int .i64) x132)], []⟩ : St) (spec_TreeOk_n14 x132) (fun (t : Int) => (Exit.normal, (⟨mkE 65 0 [(0, .dat (.list (.int .i64)) x50), (3, .dat (.int .i64) x64), (4, .dat (.int .i64) x160), (5, .dat (.int .i64) t)], []⟩ : St))) := by
  refine Link.of fun K h => ?_
  simp only [spec_TreeOk_n14, wpO_bind, wpO_cond, wpO_map, wpO_some] at h
  exact Awp.of (by kernel_rfl) h

theorem spec_TreeOk_n15_l (x50 : List Int) (x64 : Int) (x131 : Int) (x132 : Int) : Link spec_TreeOk_ctx LL (Code.snd (Code.fst (Code.fst (Code.snd (Code.fst (Code.snd (Code.snd (Code.snd (Code.snd (bodyOf Tryd.f19)))))))))) (Ann.snd (Ann.fst (Ann.fst (Ann.snd (Ann.fst (Ann.snd (Ann.snd (Ann.snd (Ann.snd spec_TreeOk_an))))))))) (⟨mkE 65 0 [(0, .dat (.list (.int .i64)) x50), (3, .dat (.int .i64) x64), (4, .dat (.int .i64) x131), (5, .dat (.int .i64) x132)], []⟩ : St) (spec_TreeOk_n15 x50 x64 x131 x132) (Sum.elim (fun (t : Int × Int) => (Exit.normal, (⟨mkE 65 0 [(0, .dat (.list (.int .i64)) x50), (3, .dat (.int .i64) x64), (4, .dat (.int .i64) t.1), (5, .dat (.int .i64) t.2)], []⟩ : St))) (fun (t : Bool) => (Exit.ret, (⟨mkE 65 0 [(2, .dat .bool t)], []⟩ : St)))) := by
  unfold spec_TreeOk_n15
  exact Link.cast (by kernel_rfl) (by kernel_rfl) (link_seq2 (b := (Code.snd (Code.snd (Code.fst (Code.fst (Code.snd (Code.fst (Code.snd (Code.snd (Code.snd (Code.snd (bodyOf Tryd.f19)))))))))))) (y := (Ann.snd (Ann.snd (Ann.fst (Ann.fst (Ann.snd (Ann.fst (Ann.snd (Ann.snd (Ann.snd (Ann.snd spec_TreeOk_an))))))))))) (spec_TreeOk_n13_l x50 x64 x131 x132) (fun (t : Int) => (link_map (spec_TreeOk_n14_l x50 x64 t x132) (fun (u : Int) => (Sum.inl (t, u))) (by
  rintro t
  · kernel_rfl))) (fun (t : Bool) => (Sum.inr t)) (by
  rintro t
  · kernel_rfl) (by
  rintro t f K h
  · exact h))

theorem spec_TreeOk_n16_l (x50 : List Int) (x64 : Int) (x131 : Int) (x132 : Int) : Link spec_TreeOk_ctx LL (Code.fst (Code.fst (Code.snd (Code.fst (Code.snd (Code.snd (Code.snd (Code.snd (bodyOf Tryd.f19))))))))) (Ann.fst (Ann.fst (Ann.snd (Ann.fst (Ann.snd (Ann.snd (Ann.snd (Ann.snd spec_TreeOk_an)))))))) (⟨mkE 65 0 [(0, .dat (.list (.int .i64)) x50), (3, .dat (.int .i64) x64), (4, .dat (.int .i64) x131), (5, .dat (.int .i64) x132)], []⟩ : St) (spec_TreeOk_n16 x50 x64 x131 x132) (Sum.elim (fun (t : Int × Int) => (Exit.normal, (⟨mkE 65 0 [(0, .dat (.list (.int .i64)) x50), (3, .dat (.int .i64) x64), (4, .dat (.int .i64) t.1), (5, .dat (.int .i64) t.2)], []⟩ : St))) (Sum.elim (fun (t : Bool) => (Exit.ret, (⟨mkE 65 0 [(2, .dat .bool t)], []⟩ : St))) (fun (t : Int) => ((Exit.exit 0), (⟨mkE 65 0 [(4, .dat (.int .i64) t)], []⟩ : St))))) := by
  unfold spec_TreeOk_n16
  exact Link.cast (by kernel_rfl) (by kernel_rfl) (link_seq2 (b := (Code.snd (Code.fst (Code.fst (Code.snd (Code.fst (Code.snd (Code.snd (Code.snd (Code.snd (bodyOf Tryd.f19))))))))))) (y := (Ann.snd (Ann.fst (Ann.fst (Ann.snd (Ann.fst (Ann.snd (Ann.snd (Ann.snd (Ann.snd spec_TreeOk_an)))))))))) (spec_TreeOk_n3_l x50 x64 x131 x132) (fun (t : Unit) => (link_map (spec_TreeOk_n15_l x50 x64 x131 x132) (Sum.elim (fun (t : Int × Int) => (Sum.inl (t.1, t.2))) (fun (t : Bool) => (Sum.inr (Sum.inl t)))) (by
  rintro (t | t)
  · kernel_rfl
  · kernel_rfl))) (fun (t : Int) => (Sum.inr (Sum.inr t))) (by
  rintro t
  · kernel_rfl) (by
  rintro t f K h
  · exact h))

theorem spec_TreeOk_n17_l (x50 : List Int) (x64 : Int) : Link spec_TreeOk_ctx LL (Code.fst (Code.snd (Code.fst (Code.snd (Code.snd (Code.snd (Code.snd (bodyOf Tryd.f19)))))))) (Ann.fst (Ann.snd (Ann.fst (Ann.snd (Ann.snd (Ann.snd (Ann.snd spec_TreeOk_an))))))) (⟨mkE 65 0 [(0, .dat (.list (.int .i64)) x50), (3, .dat (.int .i64) x64), (4, .dat (.int .i64) 0), (5, .dat (.int .i64) 0)], []⟩ : St) (spec_TreeOk_n17 x50 x64) (Sum.elim (fun (t : Bool) => (Exit.ret, (⟨mkE 65 0 [(2, .dat .bool t)], []⟩ : St))) (fun (t : Int) => ((Exit.exit 0), (⟨mkE 65 0 [(4, .dat (.int .i64) t)], []⟩ : St)))) := by
  unfold spec_TreeOk_n17
  exact Link.cast (by kernel_rfl) (by kernel_rfl) (link_loop (mk := fun (s : Int × Int) => (⟨mkE 65 0 [(0, .dat (.list (.int .i64)) x50), (3, .dat (.int .i64) x64), (4, .dat (.int .i64) s.1), (5, .dat (.int .i64) s.2)], []⟩ : St)) (fin := (Sum.elim (fun (t : Bool) => (Exit.ret, (⟨mkE 65 0 [(2, .dat .bool t)], []⟩ : St))) (fun (t : Int) => ((Exit.exit 0), (⟨mkE 65 0 [(4, .dat (.int .i64) t)], []⟩ : St))))) (by
  rintro (t | t) f K h
  · exact h
  · exact h) (fun s => link_map (spec_TreeOk_n16_l x50 x64 s.1 s.2) (Sum.elim (fun (t : Int × Int) => Sum.inl (t.1, t.2)) (Sum.elim (fun (t : Bool) => Sum.inr (Sum.inl t)) (fun (t : Int) => Sum.inr (Sum.inr t)))) (by
  rintro (t | t | t)
  · kernel_rfl
  · kernel_rfl
  · kernel_rfl)) (0, 0))

theorem spec_TreeOk_n18_l (x50 : List Int) (x64 : Int) : Link spec_TreeOk_ctx LL (Code.snd (Code.fst (Code.snd (Code.snd (Code.snd (Code.snd (bodyOf Tryd.f19))))))) (Ann.snd (Ann.fst (Ann.snd (Ann.snd (Ann.snd (Ann.snd spec_TreeOk_an)))))) (⟨mkE 65 0 [(0, .dat (.list (.int .i64)) x50), (3, .dat (.int .i64) x64), (4, .dat (.int .i64) 0), (5, .dat (.int .i64) 0)], []⟩ : St) (spec_TreeOk_n18 x50 x64) (Sum.elim (fun (t : Int) => (Exit.normal, (⟨mkE 65 0 [(4, .dat (.int .i64) t)], []⟩ : St))) (fun (t : Bool) => (Exit.ret, (⟨mkE 65 0 [(2, .dat .bool t)], []⟩ : St)))) := by
  unfold spec_TreeOk_n18
  exact Link.cast (by kernel_rfl) (by kernel_rfl) (link_block (id := 0) (spec_TreeOk_n17_l x50 x64) (Sum.elim (fun (t : Bool) => (Sum.inr t)) (fun (t : Int) => (Sum.inl t))) (by
  rintro (t | t) K h
  · exact Eq.mp (by kernel_rfl) h
  · exact Eq.mp (by kernel_rfl) h))

theorem spec_TreeOk_n19_l (x50 : List Int) (x64 : Int) : Link spec_TreeOk_ctx LL (Code.fst (Code.snd (Code.snd (Code.snd (Code.snd (bodyOf Tryd.f19)))))) (Ann.fst (Ann.snd (Ann.snd (Ann.snd (Ann.snd spec_TreeOk_an))))) (⟨mkE 65 0 [(0, .dat (.list (.int .i64)) x50), (3, .dat (.int .i64) x64), (4, .dat (.int .i64) 0)], []⟩ : St) (spec_TreeOk_n19 x50 x64) (Sum.elim (fun (t : Int) => (Exit.normal, (⟨mkE 65 0 [(4, .dat (.int .i64) t)], []⟩ : St))) (fun (t : Bool) => (Exit.ret, (⟨mkE 65 0 [(2, .dat .bool t)], []⟩ : St)))) := by
  unfold spec_TreeOk_n19
  exact Link.cast (by kernel_rfl) (by kernel_rfl) (link_seq (b := (Code.snd (Code.fst (Code.snd (Code.snd (Code.snd (Code.snd (bodyOf Tryd.f19)))))))) (y := (Ann.snd (Ann.fst (Ann.snd (Ann.snd (Ann.snd (Ann.snd spec_TreeOk_an))))))) (spec_TreeOk_n2_l x50 x64) (fun (t : Unit) => (spec_TreeOk_n18_l x50 x64)))

theorem spec_TreeOk_n20_l (x131 : Int) : Link spec_TreeOk_ctx LL (Code.snd (Code.snd (Code.snd (Code.snd (Code.snd (bodyOf Tryd.f19)))))) (Ann.snd (Ann.snd (Ann.snd (Ann.snd (Ann.snd spec_TreeOk_an))))) (⟨mkE 65 0 [(4, .dat (.int .i64) x131)], []⟩ : St) (spec_TreeOk_n20 x131) (fun (t : Bool) => (Exit.ret, (⟨mkE 65 0 [(2, .dat .bool t)], []⟩ : St))) := by
  refine Link.of fun K h => ?_
  simp only [spec_TreeOk_n20, wpO_bind, wpO_cond, wpO_map, wpO_some] at h
  exact Awp.of (by kernel_rfl) h

theorem spec_TreeOk_n21_l (x50 : List Int) (x64 : Int) : Link spec_TreeOk_ctx LL (Code.snd (Code.snd (Code.snd (Code.snd (bodyOf Tryd.f19))))) (Ann.snd (Ann.snd (Ann.snd (Ann.snd spec_TreeOk_an)))) (⟨mkE 65 0 [(0, .dat (.list (.int .i64)) x50), (3, .dat (.int .i64) x64), (4, .dat (.int .i64) 0)], []⟩ : St) (spec_TreeOk_n21 x50 x64) (fun (t : Bool) => (Exit.ret, (⟨mkE 65 0 [(2, .dat .bool t)], []⟩ : St))) := by
  unfold spec_TreeOk_n21
  exact Link.cast (by kernel_rfl) (by kernel_rfl) (link_seq2 (b := (Code.snd (Code.snd (Code.snd (Code.snd (Code.snd (bodyOf Tryd.f19))))))) (y := (Ann.snd (Ann.snd (Ann.snd (Ann.snd (Ann.snd spec_TreeOk_an)))))) (spec_TreeOk_n19_l x50 x64) (fun (t : Int) => (spec_TreeOk_n20_l t)) (fun (t : Bool) => t) (by
  rintro t
  · kernel_rfl) (by
  rintro t f K h
  · exact h))

theorem spec_TreeOk_n22_l (x50 : List Int) : Link spec_TreeOk_ctx LL (bodyOf Tryd.f19) spec_TreeOk_an (⟨mkE 65 0 [(0, .dat (.list (.int .i64)) x50)], []⟩ : St) (spec_TreeOk_n22 x50) (fun (t : Bool) => (Exit.ret, (⟨mkE 65 0 [(2, .dat .bool t)], []⟩ : St))) := by
  unfold spec_TreeOk_n22
  exact Link.cast (by kernel_rfl) (by kernel_rfl) (link_group (c := (Code.fst (Code.snd (Code.snd (Code.snd (bodyOf Tryd.f19)))))) (a := (Ann.fst (Ann.snd (Ann.snd (Ann.snd spec_TreeOk_an))))) [(Code.fst (bodyOf Tryd.f19)), (Code.fst (Code.snd (bodyOf Tryd.f19))), (Code.fst (Code.snd (Code.snd (bodyOf Tryd.f19))))] [(Ann.fst spec_TreeOk_an), (Ann.fst (Ann.snd spec_TreeOk_an)), (Ann.fst (Ann.snd (Ann.snd spec_TreeOk_an)))] rfl (link_seq2 (b := (Code.snd (Code.snd (Code.snd (Code.snd (bodyOf Tryd.f19)))))) (y := (Ann.snd (Ann.snd (Ann.snd (Ann.snd spec_TreeOk_an))))) (spec_TreeOk_n1_l x50) (fun (t : Int) => (spec_TreeOk_n21_l x50 t)) (fun (t : Bool) => t) (by
  rintro t
  · kernel_rfl) (by
  rintro t f K h
  · exact h)))

theorem spec_TreeOk_e (x50 : List Int) {r : AV} {H' : Heap} (h : (Ans.mk _ (spec_TreeOk x50) (fun (t : Bool) => (.dat .bool t, []))).run = some (r, H')) : Awp spec_TreeOk_ctx LL (bodyOf Tryd.f19) spec_TreeOk_an (⟨mkE 65 0 [(0, .dat (.list (.int .i64)) x50)], []⟩ : St) (Ret (tlook tys) Tryd.f19.results.toList r H') :=
  ret_of' (spec_TreeOk_n22_l x50) (by unfold spec_TreeOk; kernel_rfl) (by
  intro t
  exact ret_mk [.dat .bool t] (by kernel_rfl) (by kernel_rfl) (by kernel_rfl) (by kernel_rfl)) h

def F_spec_TreeOk : Fun := fun avs H =>
  match avs, H with
  | [.dat (.list (.int .i64)) x50], [] => ⟨_, spec_TreeOk x50, fun (t : Bool) => (.dat .bool t, [])⟩
  | _, _ => Ans.no

theorem spec_TreeOk_sound : Sound Tryd.prog 19 F_spec_TreeOk := by
  refine fn_sound' (C := spec_TreeOk_ctx) (c := bodyOf Tryd.f19) (cok_of tys_ok (List.forall_mem_cons.2 ⟨spec_l1In_sound, by simp⟩) (List.forall_mem_cons.2 ⟨Tryd.call20, by simp⟩) (by kernel_rfl)) Tryd.func19 (by kernel_rfl) LL spec_TreeOk_an ?_
  intro avs H r H' h
  unfold F_spec_TreeOk at h
  split at h
  · refine Awp.cast ?_ ?_ ?_ (spec_TreeOk_e _ h) <;> kernel_rfl
  · simp [Ans.no, Ans.run] at h

/-! loop.example/headtrees/spec.l2Yield -/

def spec_l2Yield_an : Ann := (.seq (.leaf [0, 1]) (.seq (.leaf [0, 1, 5]) (.seq (.seq (.leaf [0, 1, 5, 6]) (.block (.loop (.seq (.seq (.leaf [0, 1, 5, 6, 13]) (.cond (.leaf [0, 1, 5, 6]) (.leaf [5]))) (.seq (.block (.seq (.leaf [0, 1, 5, 6, 21]) (.cond (.leaf [0, 1, 5, 6]) (.leaf [0, 1, 5, 6])))) (.leaf [0, 1, 5, 6])))))) (.seq (.leaf [4]) (.leaf [4])))))

def F_spec_l2Yield_fuel (n : Nat) : Fun := fun avs H =>
  match avs, H with
  | [.dat (.list (.int .i64)) x210, .dat (.int .i64) x211], [] => ⟨_, spec_l2Yield_fuel n x210 x211, fun (t : Int) => (.dat (.int .i64) t, [])⟩
  | _, _ => Ans.no

noncomputable def spec_l2Yield_ctx (n : Nat) : Ctx := ⟨tlook tys, olook [(22, F_spec_l2Yield_fuel n)], ioF, 0⟩

theorem spec_l2Yield_n1_l (n : Nat) (x210 : List Int) (x211 : Int) : Link (spec_l2Yield_ctx n) LL (Code.seq (Code.fst (bodyOf Tryd.f22)) (Code.fst (Code.snd (bodyOf Tryd.f22)))) (Ann.seq (Ann.fst spec_l2Yield_an) (Ann.fst (Ann.snd spec_l2Yield_an))) (⟨mkE 29 0 [(0, .dat (.list (.int .i64)) x210), (1, .dat (.int .i64) x211)], []⟩ : St) (spec_l2Yield_n1 (spec_l2Yield_fuel n) x211) (fun (t : Int) => (Exit.normal, (⟨mkE 29 0 [(0, .dat (.list (.int .i64)) x210), (1, .dat (.int .i64) x211), (5, .dat (.int .i64) t)], []⟩ : St))) := by
  refine Link.of fun K h => ?_
  simp only [spec_l2Yield_n1, wpO_bind, wpO_cond, wpO_map, wpO_some] at h
  exact Awp.of (by kernel_rfl) h

theorem spec_l2Yield_n2_l (n : Nat) (x210 : List Int) (x211 : Int) (x242 : Int) : Link (spec_l2Yield_ctx n) LL (Code.fst (Code.fst (Code.snd (Code.snd (bodyOf Tryd.f22))))) (Ann.fst (Ann.fst (Ann.snd (Ann.snd spec_l2Yield_an)))) (⟨mkE 29 0 [(0, .dat (.list (.int .i64)) x210), (1, .dat (.int .i64) x211), (5, .dat (.int .i64) x242)], []⟩ : St) (spec_l2Yield_n2 (spec_l2Yield_fuel n)) (fun (t : Unit) => (Exit.normal, (⟨mkE 29 0 [(0, .dat (.list (.int .i64)) x210), (1, .dat (.int .i64) x211), (5, .dat (.int .i64) x242), (6, .dat (.int .i64) 0)], []⟩ : St))) := by
  refine Link.of fun K h => ?_
  simp only [spec_l2Yield_n2, wpO_bind, wpO_cond, wpO_map, wpO_some] at h
  exact Awp.of (by kernel_rfl) h

theorem spec_l2Yield_n3_l (n : Nat) (x210 : List Int) (x211 : Int) (x263 : Int) (x264 : Int) : Link (spec_l2Yield_ctx n) LL (Code.fst (Code.fst (Code.snd (Code.fst (Code.snd (Code.snd (bodyOf Tryd.f22))))))) (Ann.fst (Ann.fst (Ann.snd (Ann.fst (Ann.snd (Ann.snd spec_l2Yield_an)))))) (⟨mkE 29 0 [(0, .dat (.list (.int .i64)) x210), (1, .dat (.int .i64) x211), (5, .dat (.int .i64) x263), (6, .dat (.int .i64) x264)], []⟩ : St) (spec_l2Yield_n3 (spec_l2Yield_fuel n) x210 x211 x263 x264) (Sum.elim (fun (t : Int × Int) => (Exit.normal, (⟨mkE 29 0 [(0, .dat (.list (.int .i64)) x210), (1, .dat (.int .i64) x211), (5, .dat (.int .i64) t.1), (6, .dat (.int .i64) t.2)], []⟩ : St))) (fun (t : Int) => ((Exit.exit 0), (⟨mkE 29 0 [(5, .dat (.int .i64) t)], []⟩ : St)))) := by
  refine Link.of fun K h => ?_
  simp only [spec_l2Yield_n3, wpO_bind, wpO_cond, wpO_map, wpO_some] at h
  exact Awp.of (by kernel_rfl) h

theorem spec_l2Yield_n4_l (n : Nat) (x210 : List Int) (x211 : Int) (x242 : Int) : Link (spec_l2Yield_ctx n) LL (Code.fst (Code.snd (Code.fst (Code.snd (Code.snd (bodyOf Tryd.f22)))))) (Ann.fst (Ann.snd (Ann.fst (Ann.snd (Ann.snd spec_l2Yield_an))))) (⟨mkE 29 0 [(0, .dat (.list (.int .i64)) x210), (1, .dat (.int .i64) x211), (5, .dat (.int .i64) x242), (6, .dat (.int .i64) 0)], []⟩ : St) (spec_l2Yield_n4 (spec_l2Yield_fuel n) x210 x211 x242) (fun (t : Int) => ((Exit.exit 0), (⟨mkE 29 0 [(5, .dat (.int .i64) t)], []⟩ : St))) := by
  unfold spec_l2Yield_n4
  exact Link.cast (by kernel_rfl) (by kernel_rfl) (link_loop (mk := fun (s : Int × Int) => (⟨mkE 29 0 [(0, .dat (.list (.int .i64)) x210), (1, .dat (.int .i64) x211), (5, .dat (.int .i64) s.1), (6, .dat (.int .i64) s.2)], []⟩ : St)) (fin := (fun (t : Int) => ((Exit.exit 0), (⟨mkE 29 0 [(5, .dat (.int .i64) t)], []⟩ : St)))) (by
  rintro t f K h
  · exact h) (fun s => link_map (spec_l2Yield_n3_l n x210 x211 s.1 s.2) (Sum.elim (fun (t : Int × Int) => Sum.inl (t.1, t.2)) (fun (t : Int) => Sum.inr t)) (by
  rintro (t | t)
  · kernel_rfl
  · kernel_rfl)) (x242, 0))

theorem spec_l2Yield_n5_l (n : Nat) (x210 : List Int) (x211 : Int) (x242 : Int) : Link (spec_l2Yield_ctx n) LL (Code.snd (Code.fst (Code.snd (Code.snd (bodyOf Tryd.f22))))) (Ann.snd (Ann.fst (Ann.snd (Ann.snd spec_l2Yield_an)))) (⟨mkE 29 0 [(0, .dat (.list (.int .i64)) x210), (1, .dat (.int .i64) x211), (5, .dat (.int .i64) x242), (6, .dat (.int .i64) 0)], []⟩ : St) (spec_l2Yield_n5 (spec_l2Yield_fuel n) x210 x211 x242) (fun (t : Int) => (Exit.normal, (⟨mkE 29 0 [(5, .dat (.int .i64) t)], []⟩ : St))) := by
  unfold spec_l2Yield_n5
  exact Link.cast (by kernel_rfl) (by kernel_rfl) (link_block (id := 0) (spec_l2Yield_n4_l n x210 x211 x242) (fun (t : Int) => t) (by
  rintro t K h
  · exact Eq.mp (by kernel_rfl) h))

theorem spec_l2Yield_n6_l (n : Nat) (x210 : List Int) (x211 : Int) (x242 : Int) : Link (spec_l2Yield_ctx n) LL (Code.fst (Code.snd (Code.snd (bodyOf Tryd.f22)))) (Ann.fst (Ann.snd (Ann.snd spec_l2Yield_an))) (⟨mkE 29 0 [(0, .dat (.list (.int .i64)) x210), (1, .dat (.int .i64) x211), (5, .dat (.int .i64) x242)], []⟩ : St) (spec_l2Yield_n6 (spec_l2Yield_fuel n) x210 x211 x242) (fun (t : Int) => (Exit.normal, (⟨mkE 29 0 [(5, .dat (.int .i64) t)], []⟩ : St))) := by
  unfold spec_l2Yield_n6
  exact Link.cast (by kernel_rfl) (by kernel_rfl) (link_seq (b := (Code.snd (Code.fst (Code.snd (Code.snd (bodyOf Tryd.f22)))))) (y := (Ann.snd (Ann.fst (Ann.snd (Ann.snd spec_l2Yield_an))))) (spec_l2Yield_n2_l n x210 x211 x242) (fun (t : Unit) => (spec_l2Yield_n5_l n x210 x211 x242)))

theorem spec_l2Yield_n7_l (n : Nat) (x263 : Int) : Link (spec_l2Yield_ctx n) LL (Code.snd (Code.snd (Code.snd (bodyOf Tryd.f22)))) (Ann.snd (Ann.snd (Ann.snd spec_l2Yield_an))) (⟨mkE 29 0 [(5, .dat (.int .i64) x263)], []⟩ : St) (spec_l2Yield_n7 (spec_l2Yield_fuel n) x263) (fun (t : Int) => (Exit.ret, (⟨mkE 29 0 [(4, .dat (.int .i64) t)], []⟩ : St))) := by
  refine Link.of fun K h => ?_
  simp only [spec_l2Yield_n7, wpO_bind, wpO_cond, wpO_map, wpO_some] at h
  exact Awp.of (by kernel_rfl) h

theorem spec_l2Yield_n8_l (n : Nat) (x210 : List Int) (x211 : Int) (x242 : Int) : Link (spec_l2Yield_ctx n) LL (Code.snd (Code.snd (bodyOf Tryd.f22))) (Ann.snd (Ann.snd spec_l2Yield_an)) (⟨mkE 29 0 [(0, .dat (.list (.int .i64)) x210), (1, .dat (.int .i64) x211), (5, .dat (.int .i64) x242)], []⟩ : St) (spec_l2Yield_n8 (spec_l2Yield_fuel n) x210 x211 x242) (fun (t : Int) => (Exit.ret, (⟨mkE 29 0 [(4, .dat (.int .i64) t)], []⟩ : St))) := by
  unfold spec_l2Yield_n8
  exact Link.cast (by kernel_rfl) (by kernel_rfl) (link_seq (b := (Code.snd (Code.snd (Code.snd (bodyOf Tryd.f22))))) (y := (Ann.snd (Ann.snd (Ann.snd spec_l2Yield_an)))) (spec_l2Yield_n6_l n x210 x211 x242) (fun (t : Int) => (spec_l2Yield_n7_l n t)))

theorem spec_l2Yield_n9_l (n : Nat) (x210 : List Int) (x211 : Int) : Link (spec_l2Yield_ctx n) LL (bodyOf Tryd.f22) spec_l2Yield_an (⟨mkE 29 0 [(0, .dat (.list (.int .i64)) x210), (1, .dat (.int .i64) x211)], []⟩ : St) (spec_l2Yield_n9 (spec_l2Yield_fuel n) x210 x211) (fun (t : Int) => (Exit.ret, (⟨mkE 29 0 [(4, .dat (.int .i64) t)], []⟩ : St))) := by
  unfold spec_l2Yield_n9
  exact Link.cast (by kernel_rfl) (by kernel_rfl) (link_group (c := (Code.fst (Code.snd (bodyOf Tryd.f22)))) (a := (Ann.fst (Ann.snd spec_l2Yield_an))) [(Code.fst (bodyOf Tryd.f22))] [(Ann.fst spec_l2Yield_an)] rfl (link_seq (b := (Code.snd (Code.snd (bodyOf Tryd.f22)))) (y := (Ann.snd (Ann.snd spec_l2Yield_an))) (spec_l2Yield_n1_l n x210 x211) (fun (t : Int) => (spec_l2Yield_n8_l n x210 x211 t))))

theorem spec_l2Yield_e (n : Nat) (x210 : List Int) (x211 : Int) {r : AV} {H' : Heap} (h : (Ans.mk _ (spec_l2Yield_fuel (n + 1) x210 x211) (fun (t : Int) => (.dat (.int .i64) t, []))).run = some (r, H')) : Awp (spec_l2Yield_ctx n) LL (bodyOf Tryd.f22) spec_l2Yield_an (⟨mkE 29 0 [(0, .dat (.list (.int .i64)) x210), (1, .dat (.int .i64) x211)], []⟩ : St) (Ret (tlook tys) Tryd.f22.results.toList r H') :=
  ret_of' (spec_l2Yield_n9_l n x210 x211) (by (show _ = _); kernel_rfl) (by
  intro t
  exact ret_mk [.dat (.int .i64) t] (by kernel_rfl) (by kernel_rfl) (by kernel_rfl) (by kernel_rfl)) h

theorem spec_l2Yield_step (n : Nat) (h22 : Sound Tryd.prog 22 (F_spec_l2Yield_fuel n)) : Sound Tryd.prog 22 (F_spec_l2Yield_fuel (n + 1)) := by
  refine fn_sound' (C := spec_l2Yield_ctx n) (c := bodyOf Tryd.f22) (cok_of tys_ok (List.forall_mem_cons.2 ⟨h22, by simp⟩) (List.forall_mem_cons.2 ⟨Tryd.call22, by simp⟩) (by kernel_rfl)) Tryd.func22 (by kernel_rfl) LL spec_l2Yield_an ?_
  intro avs H r H' h
  unfold F_spec_l2Yield_fuel at h
  split at h
  · refine Awp.cast ?_ ?_ ?_ (spec_l2Yield_e n _ _ h) <;> kernel_rfl
  · simp [Ans.no, Ans.run] at h

theorem spec_l2Yield_null : Sound Tryd.prog 22 (F_spec_l2Yield_fuel 0) := by
  intro avs H r H' h
  unfold F_spec_l2Yield_fuel at h
  split at h
  · simp [spec_l2Yield_fuel, spec_l2Yield_knot, Ans.run] at h
  · simp [Ans.no, Ans.run] at h

theorem spec_l2Yield_knot_all : ∀ n, Sound Tryd.prog 22 (F_spec_l2Yield_fuel n)
  | 0 => spec_l2Yield_null
  | n + 1 => by
    have h22 := spec_l2Yield_knot_all n
    exact spec_l2Yield_step n h22

def F_spec_l2Yield : Fun := fun avs H =>
  match avs, H with
  | [.dat (.list (.int .i64)) x210, .dat (.int .i64) x211], [] => ⟨_, spec_l2Yield x210 x211, fun (t : Int) => (.dat (.int .i64) t, [])⟩
  | _, _ => Ans.no

theorem spec_l2Yield_sound : Sound Tryd.prog 22 F_spec_l2Yield := by
  have e : F_spec_l2Yield = F_spec_l2Yield_fuel RR := by
    funext avs H
    unfold F_spec_l2Yield F_spec_l2Yield_fuel
    split <;> first | rfl | (simp only [spec_l2Yield])
  rw [e]
  exact (spec_l2Yield_knot_all RR)

/-! loop.example/headtrees/spec.l2Words -/

def spec_l2Words_an : Ann := (.seq (.leaf [0]) (.seq (.leaf [0, 3]) (.seq (.seq (.leaf [0, 3, 4]) (.block (.loop (.seq (.seq (.leaf [0, 3, 4, 9]) (.cond (.leaf [0, 3, 4]) (.leaf [3]))) (.seq (.block (.seq (.leaf [0, 3, 4, 16]) (.cond (.leaf [0, 3, 4]) (.leaf [0, 3, 4])))) (.leaf [0, 3, 4])))))) (.seq (.leaf [2]) (.leaf [2])))))

noncomputable def spec_l2Words_ctx : Ctx := ⟨tlook tys, olook [], ioF, 0⟩

theorem spec_l2Words_n1_l (x286 : Int) : Link spec_l2Words_ctx LL (Code.seq (Code.fst (bodyOf Tryd.f21)) (Code.fst (Code.snd (bodyOf Tryd.f21)))) (Ann.seq (Ann.fst spec_l2Words_an) (Ann.fst (Ann.snd spec_l2Words_an))) (⟨mkE 23 0 [(0, .dat (.int .i64) x286)], []⟩ : St) (spec_l2Words_n1) (fun (t : Unit) => (Exit.normal, (⟨mkE 23 0 [(0, .dat (.int .i64) x286), (3, .slc 0)], [some (.seq (.int .i64) ([] : List Int))]⟩ : St))) := by
  refine Link.of fun K h => ?_
  simp only [spec_l2Words_n1, wpO_bind, wpO_cond, wpO_map, wpO_some] at h
  exact Awp.of (by kernel_rfl) h

theorem spec_l2Words_n2_l (x286 : Int) : Link spec_l2Words_ctx LL (Code.fst (Code.fst (Code.snd (Code.snd (bodyOf Tryd.f21))))) (Ann.fst (Ann.fst (Ann.snd (Ann.snd spec_l2Words_an)))) (⟨mkE 23 0 [(0, .dat (.int .i64) x286), (3, .slc 0)], [some (.seq (.int .i64) ([] : List Int))]⟩ : St) (spec_l2Words_n2) (fun (t : Unit) => (Exit.normal, (⟨mkE 23 0 [(0, .dat (.int .i64) x286), (3, .slc 0), (4, .dat (.int .i64) 0)], [some (.seq (.int .i64) ([] : List Int))]⟩ : St))) := by
  refine Link.of fun K h => ?_
  simp only [spec_l2Words_n2, wpO_bind, wpO_cond, wpO_map, wpO_some] at h
  exact Awp.of (by kernel_rfl) h

theorem spec_l2Words_n3_l (x286 : Int) (x314 : Int) (x315 : List Int) : Link spec_l2Words_ctx LL (Code.fst (Code.fst (Code.snd (Code.fst (Code.snd (Code.snd (bodyOf Tryd.f21))))))) (Ann.fst (Ann.fst (Ann.snd (Ann.fst (Ann.snd (Ann.snd spec_l2Words_an)))))) (⟨mkE 23 0 [(0, .dat (.int .i64) x286), (3, .slc 0), (4, .dat (.int .i64) x314)], [some (.seq (.int .i64) x315)]⟩ : St) (spec_l2Words_n3 x286 x314 x315) (Sum.elim (fun (t : Int × (List Int)) => (Exit.normal, (⟨mkE 23 0 [(0, .dat (.int .i64) x286), (3, .slc 0), (4, .dat (.int .i64) t.1)], [some (.seq (.int .i64) t.2)]⟩ : St))) (fun (t : (List Int)) => ((Exit.exit 0), (⟨mkE 23 0 [(3, .slc 0)], [some (.seq (.int .i64) t)]⟩ : St)))) := by
  refine Link.of fun K h => ?_
  simp only [spec_l2Words_n3, wpO_bind, wpO_cond, wpO_map, wpO_some] at h
  exact Awp.of (by kernel_rfl) h

theorem spec_l2Words_n4_l (x286 : Int) : Link spec_l2Words_ctx LL (Code.fst (Code.snd (Code.fst (Code.snd (Code.snd (bodyOf Tryd.f21)))))) (Ann.fst (Ann.snd (Ann.fst (Ann.snd (Ann.snd spec_l2Words_an))))) (⟨mkE 23 0 [(0, .dat (.int .i64) x286), (3, .slc 0), (4, .dat (.int .i64) 0)], [some (.seq (.int .i64) ([] : List Int))]⟩ : St) (spec_l2Words_n4 x286) (fun (t : (List Int)) => ((Exit.exit 0), (⟨mkE 23 0 [(3, .slc 0)], [some (.seq (.int .i64) t)]⟩ : St))) := by
  unfold spec_l2Words_n4
  exact Link.cast (by kernel_rfl) (by kernel_rfl) (link_loop (mk := fun (s : Int × (List Int)) => (⟨mkE 23 0 [(0, .dat (.int .i64) x286), (3, .slc 0), (4, .dat (.int .i64) s.1)], [some (.seq (.int .i64) s.2)]⟩ : St)) (fin := (fun (t : (List Int)) => ((Exit.exit 0), (⟨mkE 23 0 [(3, .slc 0)], [some (.seq (.int .i64) t)]⟩ : St)))) (by
  rintro t f K h
  · exact h) (fun s => link_map (spec_l2Words_n3_l x286 s.1 s.2) (Sum.elim (fun (t : Int × (List Int)) => Sum.inl (t.1, t.2)) (fun (t : (List Int)) => Sum.inr t)) (by
  rintro (t | t)
  · kernel_rfl
  · kernel_rfl)) (0, ([] : List Int)))

theorem spec_l2Words_n5_l (x286 : Int) : Link spec_l2Words_ctx LL (Code.snd (Code.fst (Code.snd (Code.snd (bodyOf Tryd.f21))))) (Ann.snd (Ann.fst (Ann.snd (Ann.snd spec_l2Words_an)))) (⟨mkE 23 0 [(0, .dat (.int .i64) x286), (3, .slc 0), (4, .dat (.int .i64) 0)], [some (.seq (.int .i64) ([] : List Int))]⟩ : St) (spec_l2Words_n5 x286) (fun (t : (List Int)) => (Exit.normal, (⟨mkE 23 0 [(3, .slc 0)], [some (.seq (.int .i64) t)]⟩ : St))) := by
  unfold spec_l2Words_n5
  exact Link.cast (by kernel_rfl) (by kernel_rfl) (link_block (id := 0) (spec_l2Words_n4_l x286) (fun (t : (List Int)) => t) (by
  rintro t K h
  · exact Eq.mp (by kernel_rfl) h))

theorem spec_l2Words_n6_l (x286 : Int) : Link spec_l2Words_ctx LL (Code.fst (Code.snd (Code.snd (bodyOf Tryd.f21)))) (Ann.fst (Ann.snd (Ann.snd spec_l2Words_an))) (⟨mkE 23 0 [(0, .dat (.int .i64) x286), (3, .slc 0)], [some (.seq (.int .i64) ([] : List Int))]⟩ : St) (spec_l2Words_n6 x286) (fun (t : (List Int)) => (Exit.normal, (⟨mkE 23 0 [(3, .slc 0)], [some (.seq (.int .i64) t)]⟩ : St))) := by
  unfold spec_l2Words_n6
  exact Link.cast (by kernel_rfl) (by kernel_rfl) (link_seq (b := (Code.snd (Code.fst (Code.snd (Code.snd (bodyOf Tryd.f21)))))) (y := (Ann.snd (Ann.fst (Ann.snd (Ann.snd spec_l2Words_an))))) (spec_l2Words_n2_l x286) (fun (t : Unit) => (spec_l2Words_n5_l x286)))

theorem spec_l2Words_n7_l (x315 : List Int) : Link spec_l2Words_ctx LL (Code.snd (Code.snd (Code.snd (bodyOf Tryd.f21)))) (Ann.snd (Ann.snd (Ann.snd spec_l2Words_an))) (⟨mkE 23 0 [(3, .slc 0)], [some (.seq (.int .i64) x315)]⟩ : St) (spec_l2Words_n7 x315) (fun (t : (List Int)) => (Exit.ret, (⟨mkE 23 0 [(2, .slc 0)], [some (.seq (.int .i64) t)]⟩ : St))) := by
  refine Link.of fun K h => ?_
  simp only [spec_l2Words_n7, wpO_bind, wpO_cond, wpO_map, wpO_some] at h
  exact Awp.of (by kernel_rfl) h

theorem spec_l2Words_n8_l (x286 : Int) : Link spec_l2Words_ctx LL (Code.snd (Code.snd (bodyOf Tryd.f21))) (Ann.snd (Ann.snd spec_l2Words_an)) (⟨mkE 23 0 [(0, .dat (.int .i64) x286), (3, .slc 0)], [some (.seq (.int .i64) ([] : List Int))]⟩ : St) (spec_l2Words_n8 x286) (fun (t : (List Int)) => (Exit.ret, (⟨mkE 23 0 [(2, .slc 0)], [some (.seq (.int .i64) t)]⟩ : St))) := by
  unfold spec_l2Words_n8
  exact Link.cast (by kernel_rfl) (by kernel_rfl) (link_seq (b := (Code.snd (Code.snd (Code.snd (bodyOf Tryd.f21))))) (y := (Ann.snd (Ann.snd (Ann.snd spec_l2Words_an)))) (spec_l2Words_n6_l x286) (fun (t : (List Int)) => (spec_l2Words_n7_l t)))

theorem spec_l2Words_n9_l (x286 : Int) : Link spec_l2Words_ctx LL (bodyOf Tryd.f21) spec_l2Words_an (⟨mkE 23 0 [(0, .dat (.int .i64) x286)], []⟩ : St) (spec_l2Words_n9 x286) (fun (t : (List Int)) => (Exit.ret, (⟨mkE 23 0 [(2, .slc 0)], [some (.seq (.int .i64) t)]⟩ : St))) := by
  unfold spec_l2Words_n9
  exact Link.cast (by kernel_rfl) (by kernel_rfl) (link_group (c := (Code.fst (Code.snd (bodyOf Tryd.f21)))) (a := (Ann.fst (Ann.snd spec_l2Words_an))) [(Code.fst (bodyOf Tryd.f21))] [(Ann.fst spec_l2Words_an)] rfl (link_seq (b := (Code.snd (Code.snd (bodyOf Tryd.f21)))) (y := (Ann.snd (Ann.snd spec_l2Words_an))) (spec_l2Words_n1_l x286) (fun (t : Unit) => (spec_l2Words_n8_l x286))))

theorem spec_l2Words_e (x286 : Int) {r : AV} {H' : Heap} (h : (Ans.mk _ (spec_l2Words x286) (fun (t : (List Int)) => (.slc 0, [some (.seq (.int .i64) t)]))).run = some (r, H')) : Awp spec_l2Words_ctx LL (bodyOf Tryd.f21) spec_l2Words_an (⟨mkE 23 0 [(0, .dat (.int .i64) x286)], []⟩ : St) (Ret (tlook tys) Tryd.f21.results.toList r H') :=
  ret_of' (spec_l2Words_n9_l x286) (by unfold spec_l2Words; kernel_rfl) (by
  intro t
  exact ret_mk [.slc 0] (by kernel_rfl) (by kernel_rfl) (by kernel_rfl) (by kernel_rfl)) h

def F_spec_l2Words : Fun := fun avs H =>
  match avs, H with
  | [.dat (.int .i64) x286], [] => ⟨_, spec_l2Words x286, fun (t : (List Int)) => (.slc 0, [some (.seq (.int .i64) t)])⟩
  | _, _ => Ans.no

theorem spec_l2Words_sound : Sound Tryd.prog 21 F_spec_l2Words := by
  refine fn_sound' (C := spec_l2Words_ctx) (c := bodyOf Tryd.f21) (cok_of tys_ok (by simp) (by simp) (by kernel_rfl)) Tryd.func21 (by kernel_rfl) LL spec_l2Words_an ?_
  intro avs H r H' h
  unfold F_spec_l2Words at h
  split at h
  · refine Awp.cast ?_ ?_ ?_ (spec_l2Words_e _ h) <;> kernel_rfl
  · simp [Ans.no, Ans.run] at h

/-! loop.example/headtrees/spec.YieldOf -/

def spec_YieldOf_an : Ann := (.seq (.leaf [0, 1]) (.seq (.seq (.leaf [0, 1, 14]) (.cond (.seq (.leaf [4]) (.leaf [4])) (.leaf [0, 1]))) (.seq (.leaf [4]) (.leaf [4]))))

noncomputable def spec_YieldOf_ctx : Ctx := ⟨tlook tys, olook [(19, F_spec_TreeOk), (20, F_spec_l1In), (22, F_spec_l2Yield), (21, F_spec_l2Words)], ioF, 0⟩

theorem spec_YieldOf_n1_l (x48 : List Int) (x49 : Int) : Link spec_YieldOf_ctx LL (bodyOf Tryd.f7) spec_YieldOf_an (⟨mkE 20 0 [(0, .dat (.list (.int .i64)) x48), (1, .dat (.int .i64) x49)], []⟩ : St) (spec_YieldOf_n1 x48 x49) (fun (t : (List Int)) => (Exit.ret, (⟨mkE 20 0 [(4, .slc 0)], [some (.seq (.int .i64) t)]⟩ : St))) := by
  refine Link.of fun K h => ?_
  simp only [spec_YieldOf_n1, wpO_bind, wpO_cond, wpO_map, wpO_some] at h
  exact Awp.of (by kernel_rfl) h

theorem spec_YieldOf_e (x48 : List Int) (x49 : Int) {r : AV} {H' : Heap} (h : (Ans.mk _ (spec_YieldOf x48 x49) (fun (t : (List Int)) => (.slc 0, [some (.seq (.int .i64) t)]))).run = some (r, H')) : Awp spec_YieldOf_ctx LL (bodyOf Tryd.f7) spec_YieldOf_an (⟨mkE 20 0 [(0, .dat (.list (.int .i64)) x48), (1, .dat (.int .i64) x49)], []⟩ : St) (Ret (tlook tys) Tryd.f7.results.toList r H') :=
  ret_of' (spec_YieldOf_n1_l x48 x49) (by unfold spec_YieldOf; kernel_rfl) (by
  intro t
  exact ret_mk [.slc 0] (by kernel_rfl) (by kernel_rfl) (by kernel_rfl) (by kernel_rfl)) h

def F_spec_YieldOf : Fun := fun avs H =>
  match avs, H with
  | [.dat (.list (.int .i64)) x48, .dat (.int .i64) x49], [] => ⟨_, spec_YieldOf x48 x49, fun (t : (List Int)) => (.slc 0, [some (.seq (.int .i64) t)])⟩
  | _, _ => Ans.no

theorem spec_YieldOf_sound : Sound Tryd.prog 7 F_spec_YieldOf := by
  refine fn_sound' (C := spec_YieldOf_ctx) (c := bodyOf Tryd.f7) (cok_of tys_ok (List.forall_mem_cons.2 ⟨spec_TreeOk_sound, List.forall_mem_cons.2 ⟨spec_l1In_sound, List.forall_mem_cons.2 ⟨spec_l2Yield_sound, List.forall_mem_cons.2 ⟨spec_l2Words_sound, by simp⟩⟩⟩⟩) (List.forall_mem_cons.2 ⟨Tryd.call19, List.forall_mem_cons.2 ⟨Tryd.call20, List.forall_mem_cons.2 ⟨Tryd.call22, List.forall_mem_cons.2 ⟨Tryd.call21, by simp⟩⟩⟩⟩) (by kernel_rfl)) Tryd.func7 (by kernel_rfl) LL spec_YieldOf_an ?_
  intro avs H r H' h
  unfold F_spec_YieldOf at h
  split at h
  · refine Awp.cast ?_ ?_ ?_ (spec_YieldOf_e _ _ h) <;> kernel_rfl
  · simp [Ans.no, Ans.run] at h

/-! loop.example/headtrees/impl.oneRoot -/

def impl_oneRoot_an : Ann := (.seq (.leaf [0]) (.seq (.leaf [0, 3]) (.seq (.seq (.leaf [0, 3, 6, 7, 8]) (.block (.loop (.seq (.leaf [0, 3, 6, 7, 8, 9]) (.seq (.cond (.leaf [0, 3, 6, 7, 8]) (.leaf [3])) (.seq (.block (.seq (.leaf [0, 3, 5, 6, 7, 8]) (.seq (.seq (.leaf [0, 3, 5, 6, 7, 8, 19]) (.cond (.seq (.leaf [2]) (.leaf [2])) (.leaf [0, 3, 5, 6, 7, 8]))) (.seq (.leaf [0, 3, 6, 7, 8, 21]) (.cond (.leaf [0, 3, 6, 7, 8]) (.leaf [0, 3, 6, 7, 8])))))) (.leaf [0, 3, 6, 7, 8]))))))) (.seq (.leaf [2]) (.leaf [2])))))

noncomputable def impl_oneRoot_ctx : Ctx := ⟨tlook tys, olook [], ioF, 0⟩

theorem impl_oneRoot_n1_l (x371 : List Int) : Link impl_oneRoot_ctx LL (Code.seq (Code.fst (bodyOf Tryd.f35)) (Code.fst (Code.snd (bodyOf Tryd.f35)))) (Ann.seq (Ann.fst impl_oneRoot_an) (Ann.fst (Ann.snd impl_oneRoot_an))) (⟨mkE 27 0 [(0, .dat (.list (.int .i64)) x371)], []⟩ : St) (impl_oneRoot_n1) (fun (t : Unit) => (Exit.normal, (⟨mkE 27 0 [(0, .dat (.list (.int .i64)) x371), (3, .dat (.int .i64) 0)], []⟩ : St))) := by
  refine Link.of fun K h => ?_
  simp only [impl_oneRoot_n1, wpO_bind, wpO_cond, wpO_map, wpO_some] at h
  exact Awp.of (by kernel_rfl) h

theorem impl_oneRoot_n2_l (x371 : List Int) : Link impl_oneRoot_ctx LL (Code.fst (Code.fst (Code.snd (Code.snd (bodyOf Tryd.f35))))) (Ann.fst (Ann.fst (Ann.snd (Ann.snd impl_oneRoot_an)))) (⟨mkE 27 0 [(0, .dat (.list (.int .i64)) x371), (3, .dat (.int .i64) 0)], []⟩ : St) (impl_oneRoot_n2 x371) (fun (t : Int) => (Exit.normal, (⟨mkE 27 0 [(0, .dat (.list (.int .i64)) x371), (3, .dat (.int .i64) 0), (6, .dat (.list (.int .i64)) x371), (7, .dat (.int .i64) t), (8, .dat (.int .i64) 0)], []⟩ : St))) := by
  refine Link.of fun K h => ?_
  simp only [impl_oneRoot_n2, wpO_bind, wpO_cond, wpO_map, wpO_some] at h
  exact Awp.of (by kernel_rfl) h

theorem impl_oneRoot_n3_l (x371 : List Int) (x393 : Int) (x372 : Int) (x394 : Int) : Link impl_oneRoot_ctx LL (Code.fst (Code.fst (Code.snd (Code.fst (Code.snd (Code.snd (bodyOf Tryd.f35))))))) (Ann.fst (Ann.fst (Ann.snd (Ann.fst (Ann.snd (Ann.snd impl_oneRoot_an)))))) (⟨mkE 27 0 [(0, .dat (.list (.int .i64)) x371), (3, .dat (.int .i64) x393), (6, .dat (.list (.int .i64)) x371), (7, .dat (.int .i64) x372), (8, .dat (.int .i64) x394)], []⟩ : St) (impl_oneRoot_n3 x371 x393 x372 x394) (Sum.elim (fun (t : Int × Int) => (Exit.normal, (⟨mkE 27 0 [(0, .dat (.list (.int .i64)) x371), (3, .dat (.int .i64) t.1), (6, .dat (.list (.int .i64)) x371), (7, .dat (.int .i64) x372), (8, .dat (.int .i64) t.2)], []⟩ : St))) (Sum.elim (fun (t : Bool) => (Exit.ret, (⟨mkE 27 0 [(2, .dat .bool t)], []⟩ : St))) (fun (t : Int) => ((Exit.exit 0), (⟨mkE 27 0 [(3, .dat (.int .i64) t)], []⟩ : St))))) := by
  refine Link.of fun K h => ?_
  simp only [impl_oneRoot_n3, wpO_bind, wpO_cond, wpO_map, wpO_some] at h
  exact Awp.of (by kernel_rfl) h

theorem impl_oneRoot_n4_l (x371 : List Int) (x372 : Int) : Link impl_oneRoot_ctx LL (Code.fst (Code.snd (Code.fst (Code.snd (Code.snd (bodyOf Tryd.f35)))))) (Ann.fst (Ann.snd (Ann.fst (Ann.snd (Ann.snd impl_oneRoot_an))))) (⟨mkE 27 0 [(0, .dat (.list (.int .i64)) x371), (3, .dat (.int .i64) 0), (6, .dat (.list (.int .i64)) x371), (7, .dat (.int .i64) x372), (8, .dat (.int .i64) 0)], []⟩ : St) (impl_oneRoot_n4 x371 x372) (Sum.elim (fun (t : Bool) => (Exit.ret, (⟨mkE 27 0 [(2, .dat .bool t)], []⟩ : St))) (fun (t : Int) => ((Exit.exit 0), (⟨mkE 27 0 [(3, .dat (.int .i64) t)], []⟩ : St)))) := by
  unfold impl_oneRoot_n4
  exact Link.cast (by kernel_rfl) (by kernel_rfl) (link_loop (mk := fun (s : Int × Int) => (⟨mkE 27 0 [(0, .dat (.list (.int .i64)) x371), (3, .dat (.int .i64) s.1), (6, .dat (.list (.int .i64)) x371), (7, .dat (.int .i64) x372), (8, .dat (.int .i64) s.2)], []⟩ : St)) (fin := (Sum.elim (fun (t : Bool) => (Exit.ret, (⟨mkE 27 0 [(2, .dat .bool t)], []⟩ : St))) (fun (t : Int) => ((Exit.exit 0), (⟨mkE 27 0 [(3, .dat (.int .i64) t)], []⟩ : St))))) (by
  rintro (t | t) f K h
  · exact h
  · exact h) (fun s => link_map (impl_oneRoot_n3_l x371 s.1 x372 s.2) (Sum.elim (fun (t : Int × Int) => Sum.inl (t.1, t.2)) (Sum.elim (fun (t : Bool) => Sum.inr (Sum.inl t)) (fun (t : Int) => Sum.inr (Sum.inr t)))) (by
  rintro (t | t | t)
  · kernel_rfl
  · kernel_rfl
  · kernel_rfl)) (0, 0))

theorem impl_oneRoot_n5_l (x371 : List Int) (x372 : Int) : Link impl_oneRoot_ctx LL (Code.snd (Code.fst (Code.snd (Code.snd (bodyOf Tryd.f35))))) (Ann.snd (Ann.fst (Ann.snd (Ann.snd impl_oneRoot_an)))) (⟨mkE 27 0 [(0, .dat (.list (.int .i64)) x371), (3, .dat (.int .i64) 0), (6, .dat (.list (.int .i64)) x371), (7, .dat (.int .i64) x372), (8, .dat (.int .i64) 0)], []⟩ : St) (impl_oneRoot_n5 x371 x372) (Sum.elim (fun (t : Int) => (Exit.normal, (⟨mkE 27 0 [(3, .dat (.int .i64) t)], []⟩ : St))) (fun (t : Bool) => (Exit.ret, (⟨mkE 27 0 [(2, .dat .bool t)], []⟩ : St)))) := by
  unfold impl_oneRoot_n5
  exact Link.cast (by kernel_rfl) (by kernel_rfl) (link_block (id := 0) (impl_oneRoot_n4_l x371 x372) (Sum.elim (fun (t : Bool) => (Sum.inr t)) (fun (t : Int) => (Sum.inl t))) (by
  rintro (t | t) K h
  · exact Eq.mp (by kernel_rfl) h
  · exact Eq.mp (by kernel_rfl) h))

theorem impl_oneRoot_n6_l (x371 : List Int) : Link impl_oneRoot_ctx LL (Code.fst (Code.snd (Code.snd (bodyOf Tryd.f35)))) (Ann.fst (Ann.snd (Ann.snd impl_oneRoot_an))) (⟨mkE 27 0 [(0, .dat (.list (.int .i64)) x371), (3, .dat (.int .i64) 0)], []⟩ : St) (impl_oneRoot_n6 x371) (Sum.elim (fun (t : Int) => (Exit.normal, (⟨mkE 27 0 [(3, .dat (.int .i64) t)], []⟩ : St))) (fun (t : Bool) => (Exit.ret, (⟨mkE 27 0 [(2, .dat .bool t)], []⟩ : St)))) := by
  unfold impl_oneRoot_n6
  exact Link.cast (by kernel_rfl) (by kernel_rfl) (link_seq (b := (Code.snd (Code.fst (Code.snd (Code.snd (bodyOf Tryd.f35)))))) (y := (Ann.snd (Ann.fst (Ann.snd (Ann.snd impl_oneRoot_an))))) (impl_oneRoot_n2_l x371) (fun (t : Int) => (impl_oneRoot_n5_l x371 t)))

theorem impl_oneRoot_n7_l (x393 : Int) : Link impl_oneRoot_ctx LL (Code.snd (Code.snd (Code.snd (bodyOf Tryd.f35)))) (Ann.snd (Ann.snd (Ann.snd impl_oneRoot_an))) (⟨mkE 27 0 [(3, .dat (.int .i64) x393)], []⟩ : St) (impl_oneRoot_n7 x393) (fun (t : Bool) => (Exit.ret, (⟨mkE 27 0 [(2, .dat .bool t)], []⟩ : St))) := by
  refine Link.of fun K h => ?_
  simp only [impl_oneRoot_n7, wpO_bind, wpO_cond, wpO_map, wpO_some] at h
  exact Awp.of (by kernel_rfl) h

theorem impl_oneRoot_n8_l (x371 : List Int) : Link impl_oneRoot_ctx LL (Code.snd (Code.snd (bodyOf Tryd.f35))) (Ann.snd (Ann.snd impl_oneRoot_an)) (⟨mkE 27 0 [(0, .dat (.list (.int .i64)) x371), (3, .dat (.int .i64) 0)], []⟩ : St) (impl_oneRoot_n8 x371) (fun (t : Bool) => (Exit.ret, (⟨mkE 27 0 [(2, .dat .bool t)], []⟩ : St))) := by
  unfold impl_oneRoot_n8
  exact Link.cast (by kernel_rfl) (by kernel_rfl) (link_seq2 (b := (Code.snd (Code.snd (Code.snd (bodyOf Tryd.f35))))) (y := (Ann.snd (Ann.snd (Ann.snd impl_oneRoot_an)))) (impl_oneRoot_n6_l x371) (fun (t : Int) => (impl_oneRoot_n7_l t)) (fun (t : Bool) => t) (by
  rintro t
  · kernel_rfl) (by
  rintro t f K h
  · exact h))

theorem impl_oneRoot_n9_l (x371 : List Int) : Link impl_oneRoot_ctx LL (bodyOf Tryd.f35) impl_oneRoot_an (⟨mkE 27 0 [(0, .dat (.list (.int .i64)) x371)], []⟩ : St) (impl_oneRoot_n9 x371) (fun (t : Bool) => (Exit.ret, (⟨mkE 27 0 [(2, .dat .bool t)], []⟩ : St))) := by
  unfold impl_oneRoot_n9
  exact Link.cast (by kernel_rfl) (by kernel_rfl) (link_group (c := (Code.fst (Code.snd (bodyOf Tryd.f35)))) (a := (Ann.fst (Ann.snd impl_oneRoot_an))) [(Code.fst (bodyOf Tryd.f35))] [(Ann.fst impl_oneRoot_an)] rfl (link_seq (b := (Code.snd (Code.snd (bodyOf Tryd.f35)))) (y := (Ann.snd (Ann.snd impl_oneRoot_an))) (impl_oneRoot_n1_l x371) (fun (t : Unit) => (impl_oneRoot_n8_l x371))))

theorem impl_oneRoot_e (x371 : List Int) {r : AV} {H' : Heap} (h : (Ans.mk _ (impl_oneRoot x371) (fun (t : Bool) => (.dat .bool t, []))).run = some (r, H')) : Awp impl_oneRoot_ctx LL (bodyOf Tryd.f35) impl_oneRoot_an (⟨mkE 27 0 [(0, .dat (.list (.int .i64)) x371)], []⟩ : St) (Ret (tlook tys) Tryd.f35.results.toList r H') :=
  ret_of' (impl_oneRoot_n9_l x371) (by unfold impl_oneRoot; kernel_rfl) (by
  intro t
  exact ret_mk [.dat .bool t] (by kernel_rfl) (by kernel_rfl) (by kernel_rfl) (by kernel_rfl)) h

def F_impl_oneRoot : Fun := fun avs H =>
  match avs, H with
  | [.dat (.list (.int .i64)) x371], [] => ⟨_, impl_oneRoot x371, fun (t : Bool) => (.dat .bool t, [])⟩
  | _, _ => Ans.no

theorem impl_oneRoot_sound : Sound Tryd.prog 35 F_impl_oneRoot := by
  refine fn_sound' (C := impl_oneRoot_ctx) (c := bodyOf Tryd.f35) (cok_of tys_ok (by simp) (by simp) (by kernel_rfl)) Tryd.func35 (by kernel_rfl) LL impl_oneRoot_an ?_
  intro avs H r H' h
  unfold F_impl_oneRoot at h
  split at h
  · refine Awp.cast ?_ ?_ ?_ (impl_oneRoot_e _ h) <;> kernel_rfl
  · simp [Ans.no, Ans.run] at h

/-! (*loop.example/headtrees/impl.walker).up -/

def impl_walker_up_an : Ann := (.seq (.leaf [0]) (.seq (.draw [] [0, 1, 2, 3, 4, 5, 6, 7, 8, 9, 10, 11] [] [0, 3]) (.seq (.seq (.leaf [0, 3, 16]) (.cond (.seq (.leaf [2]) (.leaf [2])) (.leaf [0, 3]))) (.seq (.leaf [0]) (.seq (.leaf []) (.seq (.leaf [2]) (.leaf [2])))))))

noncomputable def impl_walker_up_ctx : Ctx := ⟨tlook tys, olook [], ioF, 1⟩

theorem impl_walker_up_n1_l (x427 : List Int) (x428 : Int) (x429 : Int) : Link impl_walker_up_ctx LL (bodyOf Tryd.f37) impl_walker_up_an (⟨mkE 28 0 [(0, .ptr 0 0)], [some (.box [.dat (.list (.int .i64)) x427, .dat (.int .i64) x428, .dat (.int .i64) x429])]⟩ : St) (impl_walker_up_n1 x427 x428 x429) (fun (t : Bool × Int × Int) => (Exit.ret, (⟨mkE 28 0 [(2, .dat .bool t.1)], [some (.box [.dat (.list (.int .i64)) x427, .dat (.int .i64) t.2.1, .dat (.int .i64) t.2.2])]⟩ : St))) := by
  refine Link.of fun K h => ?_
  simp only [impl_walker_up_n1, wpO_bind, wpO_cond, wpO_map, wpO_some] at h
  exact Awp.of (by kernel_rfl) h

theorem impl_walker_up_e (x427 : List Int) (x428 : Int) (x429 : Int) {r : AV} {H' : Heap} (h : (Ans.mk _ (impl_walker_up x427 x428 x429) (fun (t : Bool × Int × Int) => (.dat .bool t.1, [some (.box [.dat (.list (.int .i64)) x427, .dat (.int .i64) t.2.1, .dat (.int .i64) t.2.2])]))).run = some (r, H')) : Awp impl_walker_up_ctx LL (bodyOf Tryd.f37) impl_walker_up_an (⟨mkE 28 0 [(0, .ptr 0 0)], [some (.box [.dat (.list (.int .i64)) x427, .dat (.int .i64) x428, .dat (.int .i64) x429])]⟩ : St) (Ret (tlook tys) Tryd.f37.results.toList r H') :=
  ret_of' (impl_walker_up_n1_l x427 x428 x429) (by unfold impl_walker_up; kernel_rfl) (by
  intro t
  exact ret_mk [.dat .bool t.1] (by kernel_rfl) (by kernel_rfl) (by kernel_rfl) (by kernel_rfl)) h

def F_impl_walker_up : Fun := fun avs H =>
  match avs, H with
  | [.ptr 0 0], [some (.box [.dat (.list (.int .i64)) x427, .dat (.int .i64) x428, .dat (.int .i64) x429])] => ⟨_, impl_walker_up x427 x428 x429, fun (t : Bool × Int × Int) => (.dat .bool t.1, [some (.box [.dat (.list (.int .i64)) x427, .dat (.int .i64) t.2.1, .dat (.int .i64) t.2.2])])⟩
  | _, _ => Ans.no

theorem impl_walker_up_sound : Sound Tryd.prog 37 F_impl_walker_up := by
  refine fn_sound' (C := impl_walker_up_ctx) (c := bodyOf Tryd.f37) (cok_of tys_ok (by simp) (by simp) (by kernel_rfl)) Tryd.func37 (by kernel_rfl) LL impl_walker_up_an ?_
  intro avs H r H' h
  unfold F_impl_walker_up at h
  split at h
  · refine Awp.cast ?_ ?_ ?_ (impl_walker_up_e _ _ _ h) <;> kernel_rfl
  · simp [Ans.no, Ans.run] at h

/-! loop.example/headtrees/impl.stepsToRoot -/

def impl_stepsToRoot_an : Ann := (.seq (.leaf [0, 1]) (.seq (.leaf [0, 6]) (.seq (.block (.loop (.seq (.seq (.leaf [0, 6, 10]) (.cond (.leaf [0, 6]) (.leaf [6]))) (.block (.seq (.leaf [0, 6, 15]) (.cond (.seq (.leaf [4, 5]) (.leaf [4, 5])) (.leaf [0, 6]))))))) (.seq (.leaf [4, 5]) (.leaf [4, 5])))))

noncomputable def impl_stepsToRoot_ctx : Ctx := ⟨tlook tys, olook [(37, F_impl_walker_up)], ioF, 0⟩

theorem impl_stepsToRoot_n1_l (x425 : List Int) (x426 : Int) : Link impl_stepsToRoot_ctx LL (Code.seq (Code.fst (bodyOf Tryd.f36)) (Code.fst (Code.snd (bodyOf Tryd.f36)))) (Ann.seq (Ann.fst impl_stepsToRoot_an) (Ann.fst (Ann.snd impl_stepsToRoot_an))) (⟨mkE 18 0 [(0, .dat (.list (.int .i64)) x425), (1, .dat (.int .i64) x426)], []⟩ : St) (impl_stepsToRoot_n1) (fun (t : Unit) => (Exit.normal, (⟨mkE 18 0 [(0, .dat (.list (.int .i64)) x425), (6, .ptr 0 0)], [some (.box [.dat (.list (.int .i64)) x425, .dat (.int .i64) x426, .dat (.int .i64) 0])]⟩ : St))) := by
  refine Link.of fun K h => ?_
  simp only [impl_stepsToRoot_n1, wpO_bind, wpO_cond, wpO_map, wpO_some] at h
  exact Awp.of (by kernel_rfl) h

theorem impl_stepsToRoot_n2_l (x425 : List Int) (x463 : Int) (x464 : Int) : Link impl_stepsToRoot_ctx LL (Code.fst (Code.fst (Code.fst (Code.snd (Code.snd (bodyOf Tryd.f36)))))) (Ann.fst (Ann.fst (Ann.fst (Ann.snd (Ann.snd impl_stepsToRoot_an))))) (⟨mkE 18 0 [(0, .dat (.list (.int .i64)) x425), (6, .ptr 0 0)], [some (.box [.dat (.list (.int .i64)) x425, .dat (.int .i64) x463, .dat (.int .i64) x464])]⟩ : St) (impl_stepsToRoot_n2 x425 x463 x464) (Sum.elim (fun (t : Int × Int) => (Exit.normal, (⟨mkE 18 0 [(0, .dat (.list (.int .i64)) x425), (6, .ptr 0 0)], [some (.box [.dat (.list (.int .i64)) x425, .dat (.int .i64) t.1, .dat (.int .i64) t.2])]⟩ : St))) (Sum.elim (fun (t : Int × Bool) => (Exit.ret, (⟨mkE 18 0 [(4, .dat (.int .i64) t.1), (5, .dat .bool t.2)], []⟩ : St))) (fun (t : Int × Int) => ((Exit.exit 0), (⟨mkE 18 0 [(6, .ptr 0 0)], [some (.box [.dat (.list (.int .i64)) x425, .dat (.int .i64) t.1, .dat (.int .i64) t.2])]⟩ : St))))) := by
  refine Link.of fun K h => ?_
  simp only [impl_stepsToRoot_n2, wpO_bind, wpO_cond, wpO_map, wpO_some] at h
  exact Awp.of (by kernel_rfl) h

theorem impl_stepsToRoot_n3_l (x425 : List Int) (x426 : Int) : Link impl_stepsToRoot_ctx LL (Code.fst (Code.fst (Code.snd (Code.snd (bodyOf Tryd.f36))))) (Ann.fst (Ann.fst (Ann.snd (Ann.snd impl_stepsToRoot_an)))) (⟨mkE 18 0 [(0, .dat (.list (.int .i64)) x425), (6, .ptr 0 0)], [some (.box [.dat (.list (.int .i64)) x425, .dat (.int .i64) x426, .dat (.int .i64) 0])]⟩ : St) (impl_stepsToRoot_n3 x425 x426) (Sum.elim (fun (t : Int × Bool) => (Exit.ret, (⟨mkE 18 0 [(4, .dat (.int .i64) t.1), (5, .dat .bool t.2)], []⟩ : St))) (fun (t : Int × Int) => ((Exit.exit 0), (⟨mkE 18 0 [(6, .ptr 0 0)], [some (.box [.dat (.list (.int .i64)) x425, .dat (.int .i64) t.1, .dat (.int .i64) t.2])]⟩ : St)))) := by
  unfold impl_stepsToRoot_n3
  exact Link.cast (by kernel_rfl) (by kernel_rfl) (link_loop (mk := fun (s : Int × Int) => (⟨mkE 18 0 [(0, .dat (.list (.int .i64)) x425), (6, .ptr 0 0)], [some (.box [.dat (.list (.int .i64)) x425, .dat (.int .i64) s.1, .dat (.int .i64) s.2])]⟩ : St)) (fin := (Sum.elim (fun (t : Int × Bool) => (Exit.ret, (⟨mkE 18 0 [(4, .dat (.int .i64) t.1), (5, .dat .bool t.2)], []⟩ : St))) (fun (t : Int × Int) => ((Exit.exit 0), (⟨mkE 18 0 [(6, .ptr 0 0)], [some (.box [.dat (.list (.int .i64)) x425, .dat (.int .i64) t.1, .dat (.int .i64) t.2])]⟩ : St))))) (by
  rintro (t | t) f K h
  · exact h
  · exact h) (fun s => link_map (impl_stepsToRoot_n2_l x425 s.1 s.2) (Sum.elim (fun (t : Int × Int) => Sum.inl (t.1, t.2)) (Sum.elim (fun (t : Int × Bool) => Sum.inr (Sum.inl t)) (fun (t : Int × Int) => Sum.inr (Sum.inr t)))) (by
  rintro (t | t | t)
  · kernel_rfl
  · kernel_rfl
  · kernel_rfl)) (x426, 0))

theorem impl_stepsToRoot_n4_l (x425 : List Int) (x426 : Int) : Link impl_stepsToRoot_ctx LL (Code.fst (Code.snd (Code.snd (bodyOf Tryd.f36)))) (Ann.fst (Ann.snd (Ann.snd impl_stepsToRoot_an))) (⟨mkE 18 0 [(0, .dat (.list (.int .i64)) x425), (6, .ptr 0 0)], [some (.box [.dat (.list (.int .i64)) x425, .dat (.int .i64) x426, .dat (.int .i64) 0])]⟩ : St) (impl_stepsToRoot_n4 x425 x426) (Sum.elim (fun (t : Int × Int) => (Exit.normal, (⟨mkE 18 0 [(6, .ptr 0 0)], [some (.box [.dat (.list (.int .i64)) x425, .dat (.int .i64) t.1, .dat (.int .i64) t.2])]⟩ : St))) (fun (t : Int × Bool) => (Exit.ret, (⟨mkE 18 0 [(4, .dat (.int .i64) t.1), (5, .dat .bool t.2)], []⟩ : St)))) := by
  unfold impl_stepsToRoot_n4
  exact Link.cast (by kernel_rfl) (by kernel_rfl) (link_block (id := 0) (impl_stepsToRoot_n3_l x425 x426) (Sum.elim (fun (t : Int × Bool) => (Sum.inr t)) (fun (t : Int × Int) => (Sum.inl (t.1, t.2)))) (by
  rintro (t | t) K h
  · exact Eq.mp (by kernel_rfl) h
  · exact Eq.mp (by kernel_rfl) h))

theorem impl_stepsToRoot_n5_l (x425 : List Int) (x471 : Int) (x472 : Int) : Link impl_stepsToRoot_ctx LL (Code.snd (Code.snd (Code.snd (bodyOf Tryd.f36)))) (Ann.snd (Ann.snd (Ann.snd impl_stepsToRoot_an))) (⟨mkE 18 0 [(6, .ptr 0 0)], [some (.box [.dat (.list (.int .i64)) x425, .dat (.int .i64) x471, .dat (.int .i64) x472])]⟩ : St) (impl_stepsToRoot_n5 x472) (fun (t : Int × Bool) => (Exit.ret, (⟨mkE 18 0 [(4, .dat (.int .i64) t.1), (5, .dat .bool t.2)], []⟩ : St))) := by
  refine Link.of fun K h => ?_
  simp only [impl_stepsToRoot_n5, wpO_bind, wpO_cond, wpO_map, wpO_some] at h
  exact Awp.of (by kernel_rfl) h

theorem impl_stepsToRoot_n6_l (x425 : List Int) (x426 : Int) : Link impl_stepsToRoot_ctx LL (Code.snd (Code.snd (bodyOf Tryd.f36))) (Ann.snd (Ann.snd impl_stepsToRoot_an)) (⟨mkE 18 0 [(0, .dat (.list (.int .i64)) x425), (6, .ptr 0 0)], [some (.box [.dat (.list (.int .i64)) x425, .dat (.int .i64) x426, .dat (.int .i64) 0])]⟩ : St) (impl_stepsToRoot_n6 x425 x426) (fun (t : Int × Bool) => (Exit.ret, (⟨mkE 18 0 [(4, .dat (.int .i64) t.1), (5, .dat .bool t.2)], []⟩ : St))) := by
  unfold impl_stepsToRoot_n6
  exact Link.cast (by kernel_rfl) (by kernel_rfl) (link_seq2 (b := (Code.snd (Code.snd (Code.snd (bodyOf Tryd.f36))))) (y := (Ann.snd (Ann.snd (Ann.snd impl_stepsToRoot_an)))) (impl_stepsToRoot_n4_l x425 x426) (fun (t : Int × Int) => (impl_stepsToRoot_n5_l x425 t.1 t.2)) (fun (t : Int × Bool) => t) (by
  rintro t
  · kernel_rfl) (by
  rintro t f K h
  · exact h))

theorem impl_stepsToRoot_n7_l (x425 : List Int) (x426 : Int) : Link impl_stepsToRoot_ctx LL (bodyOf Tryd.f36) impl_stepsToRoot_an (⟨mkE 18 0 [(0, .dat (.list (.int .i64)) x425), (1, .dat (.int .i64) x426)], []⟩ : St) (impl_stepsToRoot_n7 x425 x426) (fun (t : Int × Bool) => (Exit.ret, (⟨mkE 18 0 [(4, .dat (.int .i64) t.1), (5, .dat .bool t.2)], []⟩ : St))) := by
  unfold impl_stepsToRoot_n7
  exact Link.cast (by kernel_rfl) (by kernel_rfl) (link_group (c := (Code.fst (Code.snd (bodyOf Tryd.f36)))) (a := (Ann.fst (Ann.snd impl_stepsToRoot_an))) [(Code.fst (bodyOf Tryd.f36))] [(Ann.fst impl_stepsToRoot_an)] rfl (link_seq (b := (Code.snd (Code.snd (bodyOf Tryd.f36)))) (y := (Ann.snd (Ann.snd impl_stepsToRoot_an))) (impl_stepsToRoot_n1_l x425 x426) (fun (t : Unit) => (impl_stepsToRoot_n6_l x425 x426))))

theorem impl_stepsToRoot_e (x425 : List Int) (x426 : Int) {r : AV} {H' : Heap} (h : (Ans.mk _ (impl_stepsToRoot x425 x426) (fun (t : Int × Bool) => (.tup [.dat (.int .i64) t.1, .dat .bool t.2], []))).run = some (r, H')) : Awp impl_stepsToRoot_ctx LL (bodyOf Tryd.f36) impl_stepsToRoot_an (⟨mkE 18 0 [(0, .dat (.list (.int .i64)) x425), (1, .dat (.int .i64) x426)], []⟩ : St) (Ret (tlook tys) Tryd.f36.results.toList r H') :=
  ret_of' (impl_stepsToRoot_n7_l x425 x426) (by unfold impl_stepsToRoot; kernel_rfl) (by
  intro t
  exact ret_mk [.dat (.int .i64) t.1, .dat .bool t.2] (by kernel_rfl) (by kernel_rfl) (by kernel_rfl) (by kernel_rfl)) h

def F_impl_stepsToRoot : Fun := fun avs H =>
  match avs, H with
  | [.dat (.list (.int .i64)) x425, .dat (.int .i64) x426], [] => ⟨_, impl_stepsToRoot x425 x426, fun (t : Int × Bool) => (.tup [.dat (.int .i64) t.1, .dat .bool t.2], [])⟩
  | _, _ => Ans.no

theorem impl_stepsToRoot_sound : Sound Tryd.prog 36 F_impl_stepsToRoot := by
  refine fn_sound' (C := impl_stepsToRoot_ctx) (c := bodyOf Tryd.f36) (cok_of tys_ok (List.forall_mem_cons.2 ⟨impl_walker_up_sound, by simp⟩) (List.forall_mem_cons.2 ⟨Tryd.call37, by simp⟩) (by kernel_rfl)) Tryd.func36 (by kernel_rfl) LL impl_stepsToRoot_an ?_
  intro avs H r H' h
  unfold F_impl_stepsToRoot at h
  split at h
  · refine Awp.cast ?_ ?_ ?_ (impl_stepsToRoot_e _ _ h) <;> kernel_rfl
  · simp [Ans.no, Ans.run] at h

/-! loop.example/headtrees/impl.TreeOk -/

def impl_TreeOk_an : Ann := (.seq (.leaf [0]) (.seq (.seq (.leaf [0, 18]) (.cond (.seq (.leaf [2]) (.leaf [2])) (.leaf [0]))) (.seq (.seq (.leaf [0, 20, 21]) (.block (.loop (.seq (.leaf [0, 20, 21, 22]) (.seq (.cond (.leaf [0, 20, 21]) (.leaf [])) (.seq (.block (.seq (.leaf [0, 3, 20, 21]) (.seq (.leaf [0, 5, 20, 21]) (.seq (.leaf [0, 20, 21, 32]) (.cond (.seq (.leaf [2]) (.leaf [2])) (.leaf [0, 20, 21])))))) (.leaf [0, 20, 21]))))))) (.seq (.leaf [2]) (.leaf [2])))))

noncomputable def impl_TreeOk_ctx : Ctx := ⟨tlook tys, olook [(35, F_impl_oneRoot), (36, F_impl_stepsToRoot)], ioF, 0⟩

theorem impl_TreeOk_n1_l (x366 : List Int) : Link impl_TreeOk_ctx LL (Code.seq (Code.fst (bodyOf Tryd.f26)) (Code.fst (Code.snd (bodyOf Tryd.f26)))) (Ann.seq (Ann.fst impl_TreeOk_an) (Ann.fst (Ann.snd impl_TreeOk_an))) (⟨mkE 34 0 [(0, .dat (.list (.int .i64)) x366)], []⟩ : St) (impl_TreeOk_n1 x366) (Sum.elim (fun (t : Unit) => (Exit.normal, (⟨mkE 34 0 [(0, .dat (.list (.int .i64)) x366)], []⟩ : St))) (fun (t : Bool) => (Exit.ret, (⟨mkE 34 0 [(2, .dat .bool t)], []⟩ : St)))) := by
  refine Link.of fun K h => ?_
  simp only [impl_TreeOk_n1, wpO_bind, wpO_cond, wpO_map, wpO_some] at h
  exact Awp.of (by kernel_rfl) h

theorem impl_TreeOk_n2_l (x366 : List Int) : Link impl_TreeOk_ctx LL (Code.fst (Code.fst (Code.snd (Code.snd (bodyOf Tryd.f26))))) (Ann.fst (Ann.fst (Ann.snd (Ann.snd impl_TreeOk_an)))) (⟨mkE 34 0 [(0, .dat (.list (.int .i64)) x366)], []⟩ : St) (impl_TreeOk_n2 x366) (fun (t : Int) => (Exit.normal, (⟨mkE 34 0 [(0, .dat (.list (.int .i64)) x366), (20, .dat (.int .i64) t), (21, .dat (.int .i64) 0)], []⟩ : St))) := by
  refine Link.of fun K h => ?_
  simp only [impl_TreeOk_n2, wpO_bind, wpO_cond, wpO_map, wpO_some] at h
  exact Awp.of (by kernel_rfl) h

theorem impl_TreeOk_n3_l (x366 : List Int) (x420 : Int) (x488 : Int) : Link impl_TreeOk_ctx LL (Code.fst (Code.fst (Code.snd (Code.fst (Code.snd (Code.snd (bodyOf Tryd.f26))))))) (Ann.fst (Ann.fst (Ann.snd (Ann.fst (Ann.snd (Ann.snd impl_TreeOk_an)))))) (⟨mkE 34 0 [(0, .dat (.list (.int .i64)) x366), (20, .dat (.int .i64) x420), (21, .dat (.int .i64) x488)], []⟩ : St) (impl_TreeOk_n3 x366 x420 x488) (Sum.elim (fun (t : Int) => (Exit.normal, (⟨mkE 34 0 [(0, .dat (.list (.int .i64)) x366), (20, .dat (.int .i64) x420), (21, .dat (.int .i64) t)], []⟩ : St))) (Sum.elim (fun (t : Bool) => (Exit.ret, (⟨mkE 34 0 [(2, .dat .bool t)], []⟩ : St))) (fun (t : Unit) => ((Exit.exit 0), (⟨mkE 34 0 [], []⟩ : St))))) := by
  refine Link.of fun K h => ?_
  simp only [impl_TreeOk_n3, wpO_bind, wpO_cond, wpO_map, wpO_some] at h
  exact Awp.of (by kernel_rfl) h

theorem impl_TreeOk_n4_l (x366 : List Int) (x420 : Int) : Link impl_TreeOk_ctx LL (Code.fst (Code.snd (Code.fst (Code.snd (Code.snd (bodyOf Tryd.f26)))))) (Ann.fst (Ann.snd (Ann.fst (Ann.snd (Ann.snd impl_TreeOk_an))))) (⟨mkE 34 0 [(0, .dat (.list (.int .i64)) x366), (20, .dat (.int .i64) x420), (21, .dat (.int .i64) 0)], []⟩ : St) (impl_TreeOk_n4 x366 x420) (Sum.elim (fun (t : Bool) => (Exit.ret, (⟨mkE 34 0 [(2, .dat .bool t)], []⟩ : St))) (fun (t : Unit) => ((Exit.exit 0), (⟨mkE 34 0 [], []⟩ : St)))) := by
  unfold impl_TreeOk_n4
  exact Link.cast (by kernel_rfl) (by kernel_rfl) (link_loop (mk := fun (s : Int) => (⟨mkE 34 0 [(0, .dat (.list (.int .i64)) x366), (20, .dat (.int .i64) x420), (21, .dat (.int .i64) s)], []⟩ : St)) (fin := (Sum.elim (fun (t : Bool) => (Exit.ret, (⟨mkE 34 0 [(2, .dat .bool t)], []⟩ : St))) (fun (t : Unit) => ((Exit.exit 0), (⟨mkE 34 0 [], []⟩ : St))))) (by
  rintro (t | t) f K h
  · exact h
  · exact h) (fun s => link_map (impl_TreeOk_n3_l x366 x420 s) (Sum.elim (fun (t : Int) => Sum.inl t) (Sum.elim (fun (t : Bool) => Sum.inr (Sum.inl t)) (fun (t : Unit) => Sum.inr (Sum.inr t)))) (by
  rintro (t | t | t)
  · kernel_rfl
  · kernel_rfl
  · kernel_rfl)) 0)

theorem impl_TreeOk_n5_l (x366 : List Int) (x420 : Int) : Link impl_TreeOk_ctx LL (Code.snd (Code.fst (Code.snd (Code.snd (bodyOf Tryd.f26))))) (Ann.snd (Ann.fst (Ann.snd (Ann.snd impl_TreeOk_an)))) (⟨mkE 34 0 [(0, .dat (.list (.int .i64)) x366), (20, .dat (.int .i64) x420), (21, .dat (.int .i64) 0)], []⟩ : St) (impl_TreeOk_n5 x366 x420) (Sum.elim (fun (t : Unit) => (Exit.normal, (⟨mkE 34 0 [], []⟩ : St))) (fun (t : Bool) => (Exit.ret, (⟨mkE 34 0 [(2, .dat .bool t)], []⟩ : St)))) := by
  unfold impl_TreeOk_n5
  exact Link.cast (by kernel_rfl) (by kernel_rfl) (link_block (id := 0) (impl_TreeOk_n4_l x366 x420) (Sum.elim (fun (t : Bool) => (Sum.inr t)) (fun (t : Unit) => (Sum.inl ()))) (by
  rintro (t | t) K h
  · exact Eq.mp (by kernel_rfl) h
  · exact Eq.mp (by kernel_rfl) h))

theorem impl_TreeOk_n6_l (x366 : List Int) : Link impl_TreeOk_ctx LL (Code.fst (Code.snd (Code.snd (bodyOf Tryd.f26)))) (Ann.fst (Ann.snd (Ann.snd impl_TreeOk_an))) (⟨mkE 34 0 [(0, .dat (.list (.int .i64)) x366)], []⟩ : St) (impl_TreeOk_n6 x366) (Sum.elim (fun (t : Unit) => (Exit.normal, (⟨mkE 34 0 [], []⟩ : St))) (fun (t : Bool) => (Exit.ret, (⟨mkE 34 0 [(2, .dat .bool t)], []⟩ : St)))) := by
  unfold impl_TreeOk_n6
  exact Link.cast (by kernel_rfl) (by kernel_rfl) (link_seq (b := (Code.snd (Code.fst (Code.snd (Code.snd (bodyOf Tryd.f26)))))) (y := (Ann.snd (Ann.fst (Ann.snd (Ann.snd impl_TreeOk_an))))) (impl_TreeOk_n2_l x366) (fun (t : Int) => (impl_TreeOk_n5_l x366 t)))

theorem impl_TreeOk_n7_l : Link impl_TreeOk_ctx LL (Code.snd (Code.snd (Code.snd (bodyOf Tryd.f26)))) (Ann.snd (Ann.snd (Ann.snd impl_TreeOk_an))) (⟨mkE 34 0 [], []⟩ : St) (impl_TreeOk_n7) (fun (t : Bool) => (Exit.ret, (⟨mkE 34 0 [(2, .dat .bool t)], []⟩ : St))) := by
  refine Link.of fun K h => ?_
  simp only [impl_TreeOk_n7, wpO_bind, wpO_cond, wpO_map, wpO_some] at h
  exact Awp.of (by kernel_rfl) h

theorem impl_TreeOk_n8_l (x366 : List Int) : Link impl_TreeOk_ctx LL (Code.snd (Code.snd (bodyOf Tryd.f26))) (Ann.snd (Ann.snd impl_TreeOk_an)) (⟨mkE 34 0 [(0, .dat (.list (.int .i64)) x366)], []⟩ : St) (impl_TreeOk_n8 x366) (fun (t : Bool) => (Exit.ret, (⟨mkE 34 0 [(2, .dat .bool t)], []⟩ : St))) := by
  unfold impl_TreeOk_n8
  exact Link.cast (by kernel_rfl) (by kernel_rfl) (link_seq2 (b := (Code.snd (Code.snd (Code.snd (bodyOf Tryd.f26))))) (y := (Ann.snd (Ann.snd (Ann.snd impl_TreeOk_an)))) (impl_TreeOk_n6_l x366) (fun (t : Unit) => (impl_TreeOk_n7_l)) (fun (t : Bool) => t) (by
  rintro t
  · kernel_rfl) (by
  rintro t f K h
  · exact h))

theorem impl_TreeOk_n9_l (x366 : List Int) : Link impl_TreeOk_ctx LL (bodyOf Tryd.f26) impl_TreeOk_an (⟨mkE 34 0 [(0, .dat (.list (.int .i64)) x366)], []⟩ : St) (impl_TreeOk_n9 x366) (fun (t : Bool) => (Exit.ret, (⟨mkE 34 0 [(2, .dat .bool t)], []⟩ : St))) := by
  unfold impl_TreeOk_n9
  exact Link.cast (by kernel_rfl) (by kernel_rfl) (link_group (c := (Code.fst (Code.snd (bodyOf Tryd.f26)))) (a := (Ann.fst (Ann.snd impl_TreeOk_an))) [(Code.fst (bodyOf Tryd.f26))] [(Ann.fst impl_TreeOk_an)] rfl (link_seq2 (b := (Code.snd (Code.snd (bodyOf Tryd.f26)))) (y := (Ann.snd (Ann.snd impl_TreeOk_an))) (impl_TreeOk_n1_l x366) (fun (t : Unit) => (impl_TreeOk_n8_l x366)) (fun (t : Bool) => t) (by
  rintro t
  · kernel_rfl) (by
  rintro t f K h
  · exact h)))

theorem impl_TreeOk_e (x366 : List Int) {r : AV} {H' : Heap} (h : (Ans.mk _ (impl_TreeOk x366) (fun (t : Bool) => (.dat .bool t, []))).run = some (r, H')) : Awp impl_TreeOk_ctx LL (bodyOf Tryd.f26) impl_TreeOk_an (⟨mkE 34 0 [(0, .dat (.list (.int .i64)) x366)], []⟩ : St) (Ret (tlook tys) Tryd.f26.results.toList r H') :=
  ret_of' (impl_TreeOk_n9_l x366) (by unfold impl_TreeOk; kernel_rfl) (by
  intro t
  exact ret_mk [.dat .bool t] (by kernel_rfl) (by kernel_rfl) (by kernel_rfl) (by kernel_rfl)) h

def F_impl_TreeOk : Fun := fun avs H =>
  match avs, H with
  | [.dat (.list (.int .i64)) x366], [] => ⟨_, impl_TreeOk x366, fun (t : Bool) => (.dat .bool t, [])⟩
  | _, _ => Ans.no

theorem impl_TreeOk_sound : Sound Tryd.prog 26 F_impl_TreeOk := by
  refine fn_sound' (C := impl_TreeOk_ctx) (c := bodyOf Tryd.f26) (cok_of tys_ok (List.forall_mem_cons.2 ⟨impl_oneRoot_sound, List.forall_mem_cons.2 ⟨impl_stepsToRoot_sound, by simp⟩⟩) (List.forall_mem_cons.2 ⟨Tryd.call35, List.forall_mem_cons.2 ⟨Tryd.call36, by simp⟩⟩) (by kernel_rfl)) Tryd.func26 (by kernel_rfl) LL impl_TreeOk_an ?_
  intro avs H r H' h
  unfold F_impl_TreeOk at h
  split at h
  · refine Awp.cast ?_ ?_ ?_ (impl_TreeOk_e _ h) <;> kernel_rfl
  · simp [Ans.no, Ans.run] at h

/-! loop.example/headtrees/impl.wordOk -/

def impl_wordOk_an : Ann := (.seq (.leaf [0, 1]) (.seq (.leaf [4]) (.leaf [4])))

noncomputable def impl_wordOk_ctx : Ctx := ⟨tlook tys, olook [(26, F_impl_TreeOk)], ioF, 0⟩

theorem impl_wordOk_n1_l (x364 : List Int) (x365 : Int) : Link impl_wordOk_ctx LL (bodyOf Tryd.f23) impl_wordOk_an (⟨mkE 17 0 [(0, .dat (.list (.int .i64)) x364), (1, .dat (.int .i64) x365)], []⟩ : St) (impl_wordOk_n1 x364 x365) (fun (t : Bool) => (Exit.ret, (⟨mkE 17 0 [(4, .dat .bool t)], []⟩ : St))) := by
  refine Link.of fun K h => ?_
  simp only [impl_wordOk_n1, wpO_bind, wpO_cond, wpO_map, wpO_some] at h
  exact Awp.of (by kernel_rfl) h

theorem impl_wordOk_e (x364 : List Int) (x365 : Int) {r : AV} {H' : Heap} (h : (Ans.mk _ (impl_wordOk x364 x365) (fun (t : Bool) => (.dat .bool t, []))).run = some (r, H')) : Awp impl_wordOk_ctx LL (bodyOf Tryd.f23) impl_wordOk_an (⟨mkE 17 0 [(0, .dat (.list (.int .i64)) x364), (1, .dat (.int .i64) x365)], []⟩ : St) (Ret (tlook tys) Tryd.f23.results.toList r H') :=
  ret_of' (impl_wordOk_n1_l x364 x365) (by unfold impl_wordOk; kernel_rfl) (by
  intro t
  exact ret_mk [.dat .bool t] (by kernel_rfl) (by kernel_rfl) (by kernel_rfl) (by kernel_rfl)) h

def F_impl_wordOk : Fun := fun avs H =>
  match avs, H with
  | [.dat (.list (.int .i64)) x364, .dat (.int .i64) x365], [] => ⟨_, impl_wordOk x364 x365, fun (t : Bool) => (.dat .bool t, [])⟩
  | _, _ => Ans.no

theorem impl_wordOk_sound : Sound Tryd.prog 23 F_impl_wordOk := by
  refine fn_sound' (C := impl_wordOk_ctx) (c := bodyOf Tryd.f23) (cok_of tys_ok (List.forall_mem_cons.2 ⟨impl_TreeOk_sound, by simp⟩) (List.forall_mem_cons.2 ⟨Tryd.call26, by simp⟩) (by kernel_rfl)) Tryd.func23 (by kernel_rfl) LL impl_wordOk_an ?_
  intro avs H r H' h
  unfold F_impl_wordOk at h
  split at h
  · refine Awp.cast ?_ ?_ ?_ (impl_wordOk_e _ _ h) <;> kernel_rfl
  · simp [Ans.no, Ans.run] at h

/-! loop.example/headtrees/impl.RootOf -/

def impl_RootOf_an : Ann := (.seq (.leaf [0]) (.seq (.seq (.leaf [0, 6]) (.cond (.seq (.leaf [2]) (.leaf [2])) (.leaf [0]))) (.seq (.leaf [3]) (.seq (.block (.loop (.seq (.seq (.leaf [3, 9]) (.cond (.leaf [3]) (.leaf [3]))) (.block (.leaf [3]))))) (.seq (.leaf [2]) (.leaf [2]))))))

noncomputable def impl_RootOf_ctx : Ctx := ⟨tlook tys, olook [(26, F_impl_TreeOk), (37, F_impl_walker_up)], ioF, 0⟩

theorem impl_RootOf_n1_l (x525 : List Int) : Link impl_RootOf_ctx LL (Code.seq (Code.fst (bodyOf Tryd.f30)) (Code.seq (Code.fst (Code.snd (bodyOf Tryd.f30))) (Code.fst (Code.snd (Code.snd (bodyOf Tryd.f30)))))) (Ann.seq (Ann.fst impl_RootOf_an) (Ann.seq (Ann.fst (Ann.snd impl_RootOf_an)) (Ann.fst (Ann.snd (Ann.snd impl_RootOf_an))))) (⟨mkE 12 0 [(0, .dat (.list (.int .i64)) x525)], []⟩ : St) (impl_RootOf_n1 x525) (Sum.elim (fun (t : Unit) => (Exit.normal, (⟨mkE 12 0 [(3, .ptr 0 0)], [some (.box [.dat (.list (.int .i64)) x525, .dat (.int .i64) 1, .dat (.int .i64) 0])]⟩ : St))) (fun (t : Int) => (Exit.ret, (⟨mkE 12 0 [(2, .dat (.int .i64) t)], []⟩ : St)))) := by
  refine Link.of fun K h => ?_
  simp only [impl_RootOf_n1, wpO_bind, wpO_cond, wpO_map, wpO_some] at h
  exact Awp.of (by kernel_rfl) h

theorem impl_RootOf_n2_l (x525 : List Int) (x539 : Int) (x540 : Int) : Link impl_RootOf_ctx LL (Code.fst (Code.fst (Code.fst (Code.snd (Code.snd (Code.snd (bodyOf Tryd.f30))))))) (Ann.fst (Ann.fst (Ann.fst (Ann.snd (Ann.snd (Ann.snd impl_RootOf_an)))))) (⟨mkE 12 0 [(3, .ptr 0 0)], [some (.box [.dat (.list (.int .i64)) x525, .dat (.int .i64) x539, .dat (.int .i64) x540])]⟩ : St) (impl_RootOf_n2 x525 x539 x540) (Sum.elim (fun (t : Int × Int) => (Exit.normal, (⟨mkE 12 0 [(3, .ptr 0 0)], [some (.box [.dat (.list (.int .i64)) x525, .dat (.int .i64) t.1, .dat (.int .i64) t.2])]⟩ : St))) (fun (t : Int × Int) => ((Exit.exit 0), (⟨mkE 12 0 [(3, .ptr 0 0)], [some (.box [.dat (.list (.int .i64)) x525, .dat (.int .i64) t.1, .dat (.int .i64) t.2])]⟩ : St)))) := by
  refine Link.of fun K h => ?_
  simp only [impl_RootOf_n2, wpO_bind, wpO_cond, wpO_map, wpO_some] at h
  exact Awp.of (by kernel_rfl) h

theorem impl_RootOf_n3_l (x525 : List Int) : Link impl_RootOf_ctx LL (Code.fst (Code.fst (Code.snd (Code.snd (Code.snd (bodyOf Tryd.f30)))))) (Ann.fst (Ann.fst (Ann.snd (Ann.snd (Ann.snd impl_RootOf_an))))) (⟨mkE 12 0 [(3, .ptr 0 0)], [some (.box [.dat (.list (.int .i64)) x525, .dat (.int .i64) 1, .dat (.int .i64) 0])]⟩ : St) (impl_RootOf_n3 x525) (fun (t : Int × Int) => ((Exit.exit 0), (⟨mkE 12 0 [(3, .ptr 0 0)], [some (.box [.dat (.list (.int .i64)) x525, .dat (.int .i64) t.1, .dat (.int .i64) t.2])]⟩ : St))) := by
  unfold impl_RootOf_n3
  exact Link.cast (by kernel_rfl) (by kernel_rfl) (link_loop (mk := fun (s : Int × Int) => (⟨mkE 12 0 [(3, .ptr 0 0)], [some (.box [.dat (.list (.int .i64)) x525, .dat (.int .i64) s.1, .dat (.int .i64) s.2])]⟩ : St)) (fin := (fun (t : Int × Int) => ((Exit.exit 0), (⟨mkE 12 0 [(3, .ptr 0 0)], [some (.box [.dat (.list (.int .i64)) x525, .dat (.int .i64) t.1, .dat (.int .i64) t.2])]⟩ : St)))) (by
  rintro t f K h
  · exact h) (fun s => link_map (impl_RootOf_n2_l x525 s.1 s.2) (Sum.elim (fun (t : Int × Int) => Sum.inl (t.1, t.2)) (fun (t : Int × Int) => Sum.inr t)) (by
  rintro (t | t)
  · kernel_rfl
  · kernel_rfl)) (1, 0))

theorem impl_RootOf_n4_l (x525 : List Int) : Link impl_RootOf_ctx LL (Code.fst (Code.snd (Code.snd (Code.snd (bodyOf Tryd.f30))))) (Ann.fst (Ann.snd (Ann.snd (Ann.snd impl_RootOf_an)))) (⟨mkE 12 0 [(3, .ptr 0 0)], [some (.box [.dat (.list (.int .i64)) x525, .dat (.int .i64) 1, .dat (.int .i64) 0])]⟩ : St) (impl_RootOf_n4 x525) (fun (t : Int × Int) => (Exit.normal, (⟨mkE 12 0 [(3, .ptr 0 0)], [some (.box [.dat (.list (.int .i64)) x525, .dat (.int .i64) t.1, .dat (.int .i64) t.2])]⟩ : St))) := by
  unfold impl_RootOf_n4
  exact Link.cast (by kernel_rfl) (by kernel_rfl) (link_block (id := 0) (impl_RootOf_n3_l x525) (fun (t : Int × Int) => (t.1, t.2)) (by
  rintro t K h
  · exact Eq.mp (by kernel_rfl) h))

theorem impl_RootOf_n5_l (x525 : List Int) (x547 : Int) (x548 : Int) : Link impl_RootOf_ctx LL (Code.snd (Code.snd (Code.snd (Code.snd (bodyOf Tryd.f30))))) (Ann.snd (Ann.snd (Ann.snd (Ann.snd impl_RootOf_an)))) (⟨mkE 12 0 [(3, .ptr 0 0)], [some (.box [.dat (.list (.int .i64)) x525, .dat (.int .i64) x547, .dat (.int .i64) x548])]⟩ : St) (impl_RootOf_n5 x547) (fun (t : Int) => (Exit.ret, (⟨mkE 12 0 [(2, .dat (.int .i64) t)], []⟩ : St))) := by
  refine Link.of fun K h => ?_
  simp only [impl_RootOf_n5, wpO_bind, wpO_cond, wpO_map, wpO_some] at h
  exact Awp.of (by kernel_rfl) h

theorem impl_RootOf_n6_l (x525 : List Int) : Link impl_RootOf_ctx LL (Code.snd (Code.snd (Code.snd (bodyOf Tryd.f30)))) (Ann.snd (Ann.snd (Ann.snd impl_RootOf_an))) (⟨mkE 12 0 [(3, .ptr 0 0)], [some (.box [.dat (.list (.int .i64)) x525, .dat (.int .i64) 1, .dat (.int .i64) 0])]⟩ : St) (impl_RootOf_n6 x525) (fun (t : Int) => (Exit.ret, (⟨mkE 12 0 [(2, .dat (.int .i64) t)], []⟩ : St))) := by
  unfold impl_RootOf_n6
  exact Link.cast (by kernel_rfl) (by kernel_rfl) (link_seq (b := (Code.snd (Code.snd (Code.snd (Code.snd (bodyOf Tryd.f30)))))) (y := (Ann.snd (Ann.snd (Ann.snd (Ann.snd impl_RootOf_an))))) (impl_RootOf_n4_l x525) (fun (t : Int × Int) => (impl_RootOf_n5_l x525 t.1 t.2)))

theorem impl_RootOf_n7_l (x525 : List Int) : Link impl_RootOf_ctx LL (bodyOf Tryd.f30) impl_RootOf_an (⟨mkE 12 0 [(0, .dat (.list (.int .i64)) x525)], []⟩ : St) (impl_RootOf_n7 x525) (fun (t : Int) => (Exit.ret, (⟨mkE 12 0 [(2, .dat (.int .i64) t)], []⟩ : St))) := by
  unfold impl_RootOf_n7
  exact Link.cast (by kernel_rfl) (by kernel_rfl) (link_group (c := (Code.fst (Code.snd (Code.snd (bodyOf Tryd.f30))))) (a := (Ann.fst (Ann.snd (Ann.snd impl_RootOf_an)))) [(Code.fst (bodyOf Tryd.f30)), (Code.fst (Code.snd (bodyOf Tryd.f30)))] [(Ann.fst impl_RootOf_an), (Ann.fst (Ann.snd impl_RootOf_an))] rfl (link_seq2 (b := (Code.snd (Code.snd (Code.snd (bodyOf Tryd.f30))))) (y := (Ann.snd (Ann.snd (Ann.snd impl_RootOf_an)))) (impl_RootOf_n1_l x525) (fun (t : Unit) => (impl_RootOf_n6_l x525)) (fun (t : Int) => t) (by
  rintro t
  · kernel_rfl) (by
  rintro t f K h
  · exact h)))

theorem impl_RootOf_e (x525 : List Int) {r : AV} {H' : Heap} (h : (Ans.mk _ (impl_RootOf x525) (fun (t : Int) => (.dat (.int .i64) t, []))).run = some (r, H')) : Awp impl_RootOf_ctx LL (bodyOf Tryd.f30) impl_RootOf_an (⟨mkE 12 0 [(0, .dat (.list (.int .i64)) x525)], []⟩ : St) (Ret (tlook tys) Tryd.f30.results.toList r H') :=
  ret_of' (impl_RootOf_n7_l x525) (by unfold impl_RootOf; kernel_rfl) (by
  intro t
  exact ret_mk [.dat (.int .i64) t] (by kernel_rfl) (by kernel_rfl) (by kernel_rfl) (by kernel_rfl)) h

def F_impl_RootOf : Fun := fun avs H =>
  match avs, H with
  | [.dat (.list (.int .i64)) x525], [] => ⟨_, impl_RootOf x525, fun (t : Int) => (.dat (.int .i64) t, [])⟩
  | _, _ => Ans.no

theorem impl_RootOf_sound : Sound Tryd.prog 30 F_impl_RootOf := by
  refine fn_sound' (C := impl_RootOf_ctx) (c := bodyOf Tryd.f30) (cok_of tys_ok (List.forall_mem_cons.2 ⟨impl_TreeOk_sound, List.forall_mem_cons.2 ⟨impl_walker_up_sound, by simp⟩⟩) (List.forall_mem_cons.2 ⟨Tryd.call26, List.forall_mem_cons.2 ⟨Tryd.call37, by simp⟩⟩) (by kernel_rfl)) Tryd.func30 (by kernel_rfl) LL impl_RootOf_an ?_
  intro avs H r H' h
  unfold F_impl_RootOf at h
  split at h
  · refine Awp.cast ?_ ?_ ?_ (impl_RootOf_e _ h) <;> kernel_rfl
  · simp [Ans.no, Ans.run] at h

/-! loop.example/headtrees/impl.only -/

def impl_only_an : Ann := (.seq (.leaf [0]) (.seq (.leaf [2]) (.leaf [2])))

noncomputable def impl_only_ctx : Ctx := ⟨tlook tys, olook [], ioF, 0⟩

theorem impl_only_n1_l (x554 : Int) : Link impl_only_ctx LL (bodyOf Tryd.f29) impl_only_an (⟨mkE 6 0 [(0, .dat (.int .i64) x554)], []⟩ : St) (impl_only_n1 x554) (fun (t : Int) => (Exit.ret, (⟨mkE 6 0 [(2, .dat (.int .u64) t)], []⟩ : St))) := by
  refine Link.of fun K h => ?_
  simp only [impl_only_n1, wpO_bind, wpO_cond, wpO_map, wpO_some] at h
  exact Awp.of (by kernel_rfl) h

theorem impl_only_e (x554 : Int) {r : AV} {H' : Heap} (h : (Ans.mk _ (impl_only x554) (fun (t : Int) => (.dat (.int .u64) t, []))).run = some (r, H')) : Awp impl_only_ctx LL (bodyOf Tryd.f29) impl_only_an (⟨mkE 6 0 [(0, .dat (.int .i64) x554)], []⟩ : St) (Ret (tlook tys) Tryd.f29.results.toList r H') :=
  ret_of' (impl_only_n1_l x554) (by unfold impl_only; kernel_rfl) (by
  intro t
  exact ret_mk [.dat (.int .u64) t] (by kernel_rfl) (by kernel_rfl) (by kernel_rfl) (by kernel_rfl)) h

def F_impl_only : Fun := fun avs H =>
  match avs, H with
  | [.dat (.int .i64) x554], [] => ⟨_, impl_only x554, fun (t : Int) => (.dat (.int .u64) t, [])⟩
  | _, _ => Ans.no

theorem impl_only_sound : Sound Tryd.prog 29 F_impl_only := by
  refine fn_sound' (C := impl_only_ctx) (c := bodyOf Tryd.f29) (cok_of tys_ok (by simp) (by simp) (by kernel_rfl)) Tryd.func29 (by kernel_rfl) LL impl_only_an ?_
  intro avs H r H' h
  unfold F_impl_only at h
  split at h
  · refine Awp.cast ?_ ?_ ?_ (impl_only_e _ h) <;> kernel_rfl
  · simp [Ans.no, Ans.run] at h

/-! loop.example/headtrees/impl.dependents -/

def impl_dependents_an : Ann := (.seq (.leaf [0, 1]) (.seq (.leaf [0, 1, 5]) (.seq (.seq (.leaf [0, 1, 5, 8, 9]) (.block (.loop (.seq (.leaf [0, 1, 5, 8, 9, 10]) (.seq (.cond (.leaf [0, 1, 5, 8, 9]) (.leaf [5])) (.seq (.block (.seq (.leaf [0, 1, 5, 6, 8, 9]) (.seq (.leaf [0, 1, 5, 6, 8, 9, 17]) (.cond (.leaf [0, 1, 5, 8, 9]) (.leaf [0, 1, 5, 8, 9]))))) (.leaf [0, 1, 5, 8, 9]))))))) (.seq (.leaf [4]) (.leaf [4])))))

noncomputable def impl_dependents_ctx : Ctx := ⟨tlook tys, olook [(29, F_impl_only)], ioF, 0⟩

theorem impl_dependents_n1_l (x560 : List Int) (x561 : Int) : Link impl_dependents_ctx LL (Code.seq (Code.fst (bodyOf Tryd.f27)) (Code.fst (Code.snd (bodyOf Tryd.f27)))) (Ann.seq (Ann.fst impl_dependents_an) (Ann.fst (Ann.snd impl_dependents_an))) (⟨mkE 25 0 [(0, .dat (.list (.int .i64)) x560), (1, .dat (.int .i64) x561)], []⟩ : St) (impl_dependents_n1) (fun (t : Unit) => (Exit.normal, (⟨mkE 25 0 [(0, .dat (.list (.int .i64)) x560), (1, .dat (.int .i64) x561), (5, .dat (.int .u64) 0)], []⟩ : St))) := by
  refine Link.of fun K h => ?_
  simp only [impl_dependents_n1, wpO_bind, wpO_cond, wpO_map, wpO_some] at h
  exact Awp.of (by kernel_rfl) h

theorem impl_dependents_n2_l (x560 : List Int) (x561 : Int) : Link impl_dependents_ctx LL (Code.fst (Code.fst (Code.snd (Code.snd (bodyOf Tryd.f27))))) (Ann.fst (Ann.fst (Ann.snd (Ann.snd impl_dependents_an)))) (⟨mkE 25 0 [(0, .dat (.list (.int .i64)) x560), (1, .dat (.int .i64) x561), (5, .dat (.int .u64) 0)], []⟩ : St) (impl_dependents_n2 x560) (fun (t : Int) => (Exit.normal, (⟨mkE 25 0 [(0, .dat (.list (.int .i64)) x560), (1, .dat (.int .i64) x561), (5, .dat (.int .u64) 0), (8, .dat (.int .i64) t), (9, .dat (.int .i64) 0)], []⟩ : St))) := by
  refine Link.of fun K h => ?_
  simp only [impl_dependents_n2, wpO_bind, wpO_cond, wpO_map, wpO_some] at h
  exact Awp.of (by kernel_rfl) h

theorem impl_dependents_n3_l (x560 : List Int) (x561 : Int) (x581 : Int) (x562 : Int) (x582 : Int) : Link impl_dependents_ctx LL (Code.fst (Code.fst (Code.snd (Code.fst (Code.snd (Code.snd (bodyOf Tryd.f27))))))) (Ann.fst (Ann.fst (Ann.snd (Ann.fst (Ann.snd (Ann.snd impl_dependents_an)))))) (⟨mkE 25 0 [(0, .dat (.list (.int .i64)) x560), (1, .dat (.int .i64) x561), (5, .dat (.int .u64) x581), (8, .dat (.int .i64) x562), (9, .dat (.int .i64) x582)], []⟩ : St) (impl_dependents_n3 x560 x561 x581 x562 x582) (Sum.elim (fun (t : Int × Int) => (Exit.normal, (⟨mkE 25 0 [(0, .dat (.list (.int .i64)) x560), (1, .dat (.int .i64) x561), (5, .dat (.int .u64) t.1), (8, .dat (.int .i64) x562), (9, .dat (.int .i64) t.2)], []⟩ : St))) (fun (t : Int) => ((Exit.exit 0), (⟨mkE 25 0 [(5, .dat (.int .u64) t)], []⟩ : St)))) := by
  refine Link.of fun K h => ?_
  simp only [impl_dependents_n3, wpO_bind, wpO_cond, wpO_map, wpO_some] at h
  exact Awp.of (by kernel_rfl) h

theorem impl_dependents_n4_l (x560 : List Int) (x561 : Int) (x562 : Int) : Link impl_dependents_ctx LL (Code.fst (Code.snd (Code.fst (Code.snd (Code.snd (bodyOf Tryd.f27)))))) (Ann.fst (Ann.snd (Ann.fst (Ann.snd (Ann.snd impl_dependents_an))))) (⟨mkE 25 0 [(0, .dat (.list (.int .i64)) x560), (1, .dat (.int .i64) x561), (5, .dat (.int .u64) 0), (8, .dat (.int .i64) x562), (9, .dat (.int .i64) 0)], []⟩ : St) (impl_dependents_n4 x560 x561 x562) (fun (t : Int) => ((Exit.exit 0), (⟨mkE 25 0 [(5, .dat (.int .u64) t)], []⟩ : St))) := by
  unfold impl_dependents_n4
  exact Link.cast (by kernel_rfl) (by kernel_rfl) (link_loop (mk := fun (s : Int × Int) => (⟨mkE 25 0 [(0, .dat (.list (.int .i64)) x560), (1, .dat (.int .i64) x561), (5, .dat (.int .u64) s.1), (8, .dat (.int .i64) x562), (9, .dat (.int .i64) s.2)], []⟩ : St)) (fin := (fun (t : Int) => ((Exit.exit 0), (⟨mkE 25 0 [(5, .dat (.int .u64) t)], []⟩ : St)))) (by
  rintro t f K h
  · exact h) (fun s => link_map (impl_dependents_n3_l x560 x561 s.1 x562 s.2) (Sum.elim (fun (t : Int × Int) => Sum.inl (t.1, t.2)) (fun (t : Int) => Sum.inr t)) (by
  rintro (t | t)
  · kernel_rfl
  · kernel_rfl)) (0, 0))

theorem impl_dependents_n5_l (x560 : List Int) (x561 : Int) (x562 : Int) : Link impl_dependents_ctx LL (Code.snd (Code.fst (Code.snd (Code.snd (bodyOf Tryd.f27))))) (Ann.snd (Ann.fst (Ann.snd (Ann.snd impl_dependents_an)))) (⟨mkE 25 0 [(0, .dat (.list (.int .i64)) x560), (1, .dat (.int .i64) x561), (5, .dat (.int .u64) 0), (8, .dat (.int .i64) x562), (9, .dat (.int .i64) 0)], []⟩ : St) (impl_dependents_n5 x560 x561 x562) (fun (t : Int) => (Exit.normal, (⟨mkE 25 0 [(5, .dat (.int .u64) t)], []⟩ : St))) := by
  unfold impl_dependents_n5
  exact Link.cast (by kernel_rfl) (by kernel_rfl) (link_block (id := 0) (impl_dependents_n4_l x560 x561 x562) (fun (t : Int) => t) (by
  rintro t K h
  · exact Eq.mp (by kernel_rfl) h))

theorem impl_dependents_n6_l (x560 : List Int) (x561 : Int) : Link impl_dependents_ctx LL (Code.fst (Code.snd (Code.snd (bodyOf Tryd.f27)))) (Ann.fst (Ann.snd (Ann.snd impl_dependents_an))) (⟨mkE 25 0 [(0, .dat (.list (.int .i64)) x560), (1, .dat (.int .i64) x561), (5, .dat (.int .u64) 0)], []⟩ : St) (impl_dependents_n6 x560 x561) (fun (t : Int) => (Exit.normal, (⟨mkE 25 0 [(5, .dat (.int .u64) t)], []⟩ : St))) := by
  unfold impl_dependents_n6
  exact Link.cast (by kernel_rfl) (by kernel_rfl) (link_seq (b := (Code.snd (Code.fst (Code.snd (Code.snd (bodyOf Tryd.f27)))))) (y := (Ann.snd (Ann.fst (Ann.snd (Ann.snd impl_dependents_an))))) (impl_dependents_n2_l x560 x561) (fun (t : Int) => (impl_dependents_n5_l x560 x561 t)))

theorem impl_dependents_n7_l (x581 : Int) : Link impl_dependents_ctx LL (Code.snd (Code.snd (Code.snd (bodyOf Tryd.f27)))) (Ann.snd (Ann.snd (Ann.snd impl_dependents_an))) (⟨mkE 25 0 [(5, .dat (.int .u64) x581)], []⟩ : St) (impl_dependents_n7 x581) (fun (t : Int) => (Exit.ret, (⟨mkE 25 0 [(4, .dat (.int .u64) t)], []⟩ : St))) := by
  refine Link.of fun K h => ?_
  simp only [impl_dependents_n7, wpO_bind, wpO_cond, wpO_map, wpO_some] at h
  exact Awp.of (by kernel_rfl) h

theorem impl_dependents_n8_l (x560 : List Int) (x561 : Int) : Link impl_dependents_ctx LL (Code.snd (Code.snd (bodyOf Tryd.f27))) (Ann.snd (Ann.snd impl_dependents_an)) (⟨mkE 25 0 [(0, .dat (.list (.int .i64)) x560), (1, .dat (.int .i64) x561), (5, .dat (.int .u64) 0)], []⟩ : St) (impl_dependents_n8 x560 x561) (fun (t : Int) => (Exit.ret, (⟨mkE 25 0 [(4, .dat (.int .u64) t)], []⟩ : St))) := by
  unfold impl_dependents_n8
  exact Link.cast (by kernel_rfl) (by kernel_rfl) (link_seq (b := (Code.snd (Code.snd (Code.snd (bodyOf Tryd.f27))))) (y := (Ann.snd (Ann.snd (Ann.snd impl_dependents_an)))) (impl_dependents_n6_l x560 x561) (fun (t : Int) => (impl_dependents_n7_l t)))

theorem impl_dependents_n9_l (x560 : List Int) (x561 : Int) : Link impl_dependents_ctx LL (bodyOf Tryd.f27) impl_dependents_an (⟨mkE 25 0 [(0, .dat (.list (.int .i64)) x560), (1, .dat (.int .i64) x561)], []⟩ : St) (impl_dependents_n9 x560 x561) (fun (t : Int) => (Exit.ret, (⟨mkE 25 0 [(4, .dat (.int .u64) t)], []⟩ : St))) := by
  unfold impl_dependents_n9
  exact Link.cast (by kernel_rfl) (by kernel_rfl) (link_group (c := (Code.fst (Code.snd (bodyOf Tryd.f27)))) (a := (Ann.fst (Ann.snd impl_dependents_an))) [(Code.fst (bodyOf Tryd.f27))] [(Ann.fst impl_dependents_an)] rfl (link_seq (b := (Code.snd (Code.snd (bodyOf Tryd.f27)))) (y := (Ann.snd (Ann.snd impl_dependents_an))) (impl_dependents_n1_l x560 x561) (fun (t : Unit) => (impl_dependents_n8_l x560 x561))))

theorem impl_dependents_e (x560 : List Int) (x561 : Int) {r : AV} {H' : Heap} (h : (Ans.mk _ (impl_dependents x560 x561) (fun (t : Int) => (.dat (.int .u64) t, []))).run = some (r, H')) : Awp impl_dependents_ctx LL (bodyOf Tryd.f27) impl_dependents_an (⟨mkE 25 0 [(0, .dat (.list (.int .i64)) x560), (1, .dat (.int .i64) x561)], []⟩ : St) (Ret (tlook tys) Tryd.f27.results.toList r H') :=
  ret_of' (impl_dependents_n9_l x560 x561) (by unfold impl_dependents; kernel_rfl) (by
  intro t
  exact ret_mk [.dat (.int .u64) t] (by kernel_rfl) (by kernel_rfl) (by kernel_rfl) (by kernel_rfl)) h

def F_impl_dependents : Fun := fun avs H =>
  match avs, H with
  | [.dat (.list (.int .i64)) x560, .dat (.int .i64) x561], [] => ⟨_, impl_dependents x560 x561, fun (t : Int) => (.dat (.int .u64) t, [])⟩
  | _, _ => Ans.no

theorem impl_dependents_sound : Sound Tryd.prog 27 F_impl_dependents := by
  refine fn_sound' (C := impl_dependents_ctx) (c := bodyOf Tryd.f27) (cok_of tys_ok (List.forall_mem_cons.2 ⟨impl_only_sound, by simp⟩) (List.forall_mem_cons.2 ⟨Tryd.call29, by simp⟩) (by kernel_rfl)) Tryd.func27 (by kernel_rfl) LL impl_dependents_an ?_
  intro avs H r H' h
  unfold F_impl_dependents at h
  split at h
  · refine Awp.cast ?_ ?_ ?_ (impl_dependents_e _ _ h) <;> kernel_rfl
  · simp [Ans.no, Ans.run] at h

/-! math/bits.OnesCount64 -/

def math_bits_OnesCount64_an : Ann := (.seq (.leaf [0]) (.seq (.leaf [0]) (.seq (.leaf [0]) (.seq (.leaf [0]) (.seq (.leaf [0]) (.seq (.leaf [0]) (.seq (.leaf [0]) (.seq (.leaf [2]) (.leaf [2])))))))))

noncomputable def math_bits_OnesCount64_ctx : Ctx := ⟨tlook tys, olook [], ioF, 0⟩

theorem math_bits_OnesCount64_n1_l (x605 : Int) : Link math_bits_OnesCount64_ctx LL (Code.seq (Code.fst (bodyOf Tryd.f42)) (Code.fst (Code.snd (bodyOf Tryd.f42)))) (Ann.seq (Ann.fst math_bits_OnesCount64_an) (Ann.fst (Ann.snd math_bits_OnesCount64_an))) (⟨mkE 35 0 [(0, .dat (.int .u64) x605)], []⟩ : St) (math_bits_OnesCount64_n1 x605) (fun (t : Int) => (Exit.normal, (⟨mkE 35 0 [(0, .dat (.int .u64) t)], []⟩ : St))) := by
  refine Link.of fun K h => ?_
  simp only [math_bits_OnesCount64_n1, wpO_bind, wpO_cond, wpO_map, wpO_some] at h
  exact Awp.of (by kernel_rfl) h

theorem math_bits_OnesCount64_n2_l (x610 : Int) : Link math_bits_OnesCount64_ctx LL (Code.fst (Code.snd (Code.snd (bodyOf Tryd.f42)))) (Ann.fst (Ann.snd (Ann.snd math_bits_OnesCount64_an))) (⟨mkE 35 0 [(0, .dat (.int .u64) x610)], []⟩ : St) (math_bits_OnesCount64_n2 x610) (fun (t : Int) => (Exit.normal, (⟨mkE 35 0 [(0, .dat (.int .u64) t)], []⟩ : St))) := by
  refine Link.of fun K h => ?_
  simp only [math_bits_OnesCount64_n2, wpO_bind, wpO_cond, wpO_map, wpO_some] at h
  exact Awp.of (by kernel_rfl) h

theorem math_bits_OnesCount64_n3_l (x627 : Int) : Link math_bits_OnesCount64_ctx LL (Code.fst (Code.snd (Code.snd (Code.snd (bodyOf Tryd.f42))))) (Ann.fst (Ann.snd (Ann.snd (Ann.snd math_bits_OnesCount64_an)))) (⟨mkE 35 0 [(0, .dat (.int .u64) x627)], []⟩ : St) (math_bits_OnesCount64_n3 x627) (fun (t : Int) => (Exit.normal, (⟨mkE 35 0 [(0, .dat (.int .u64) t)], []⟩ : St))) := by
  refine Link.of fun K h => ?_
  simp only [math_bits_OnesCount64_n3, wpO_bind, wpO_cond, wpO_map, wpO_some] at h
  exact Awp.of (by kernel_rfl) h

theorem math_bits_OnesCount64_n4_l (x635 : Int) : Link math_bits_OnesCount64_ctx LL (Code.fst (Code.snd (Code.snd (Code.snd (Code.snd (bodyOf Tryd.f42)))))) (Ann.fst (Ann.snd (Ann.snd (Ann.snd (Ann.snd math_bits_OnesCount64_an))))) (⟨mkE 35 0 [(0, .dat (.int .u64) x635)], []⟩ : St) (math_bits_OnesCount64_n4 x635) (fun (t : Int) => (Exit.normal, (⟨mkE 35 0 [(0, .dat (.int .u64) t)], []⟩ : St))) := by
  refine Link.of fun K h => ?_
  simp only [math_bits_OnesCount64_n4, wpO_bind, wpO_cond, wpO_map, wpO_some] at h
  exact Awp.of (by kernel_rfl) h

theorem math_bits_OnesCount64_n5_l (x639 : Int) : Link math_bits_OnesCount64_ctx LL (Code.fst (Code.snd (Code.snd (Code.snd (Code.snd (Code.snd (bodyOf Tryd.f42))))))) (Ann.fst (Ann.snd (Ann.snd (Ann.snd (Ann.snd (Ann.snd math_bits_OnesCount64_an)))))) (⟨mkE 35 0 [(0, .dat (.int .u64) x639)], []⟩ : St) (math_bits_OnesCount64_n5 x639) (fun (t : Int) => (Exit.normal, (⟨mkE 35 0 [(0, .dat (.int .u64) t)], []⟩ : St))) := by
  refine Link.of fun K h => ?_
  simp only [math_bits_OnesCount64_n5, wpO_bind, wpO_cond, wpO_map, wpO_some] at h
  exact Awp.of (by kernel_rfl) h

theorem math_bits_OnesCount64_n6_l (x644 : Int) : Link math_bits_OnesCount64_ctx LL (Code.fst (Code.snd (Code.snd (Code.snd (Code.snd (Code.snd (Code.snd (bodyOf Tryd.f42)))))))) (Ann.fst (Ann.snd (Ann.snd (Ann.snd (Ann.snd (Ann.snd (Ann.snd math_bits_OnesCount64_an))))))) (⟨mkE 35 0 [(0, .dat (.int .u64) x644)], []⟩ : St) (math_bits_OnesCount64_n6 x644) (fun (t : Int) => (Exit.normal, (⟨mkE 35 0 [(0, .dat (.int .u64) t)], []⟩ : St))) := by
  refine Link.of fun K h => ?_
  simp only [math_bits_OnesCount64_n6, wpO_bind, wpO_cond, wpO_map, wpO_some] at h
  exact Awp.of (by kernel_rfl) h

theorem math_bits_OnesCount64_n7_l (x649 : Int) : Link math_bits_OnesCount64_ctx LL (Code.fst (Code.snd (Code.snd (Code.snd (Code.snd (Code.snd (Code.snd (Code.snd (bodyOf Tryd.f42))))))))) (Ann.fst (Ann.snd (Ann.snd (Ann.snd (Ann.snd (Ann.snd (Ann.snd (Ann.snd math_bits_OnesCount64_an)))))))) (⟨mkE 35 0 [(0, .dat (.int .u64) x649)], []⟩ : St) (math_bits_OnesCount64_n7 x649) (fun (t : Int) => (Exit.normal, (⟨mkE 35 0 [(2, .dat (.int .i64) t)], []⟩ : St))) := by
  refine Link.of fun K h => ?_
  simp only [math_bits_OnesCount64_n7, wpO_bind, wpO_cond, wpO_map, wpO_some] at h
  exact Awp.of (by kernel_rfl) h

theorem math_bits_OnesCount64_n8_l (x654 : Int) : Link math_bits_OnesCount64_ctx LL (Code.snd (Code.snd (Code.snd (Code.snd (Code.snd (Code.snd (Code.snd (Code.snd (bodyOf Tryd.f42))))))))) (Ann.snd (Ann.snd (Ann.snd (Ann.snd (Ann.snd (Ann.snd (Ann.snd (Ann.snd math_bits_OnesCount64_an)))))))) (⟨mkE 35 0 [(2, .dat (.int .i64) x654)], []⟩ : St) (math_bits_OnesCount64_n8 x654) (fun (t : Int) => (Exit.ret, (⟨mkE 35 0 [(2, .dat (.int .i64) t)], []⟩ : St))) := by
  refine Link.of fun K h => ?_
  simp only [math_bits_OnesCount64_n8, wpO_bind, wpO_cond, wpO_map, wpO_some] at h
  exact Awp.of (by kernel_rfl) h

theorem math_bits_OnesCount64_n9_l (x649 : Int) : Link math_bits_OnesCount64_ctx LL (Code.snd (Code.snd (Code.snd (Code.snd (Code.snd (Code.snd (Code.snd (bodyOf Tryd.f42)))))))) (Ann.snd (Ann.snd (Ann.snd (Ann.snd (Ann.snd (Ann.snd (Ann.snd math_bits_OnesCount64_an))))))) (⟨mkE 35 0 [(0, .dat (.int .u64) x649)], []⟩ : St) (math_bits_OnesCount64_n9 x649) (fun (t : Int) => (Exit.ret, (⟨mkE 35 0 [(2, .dat (.int .i64) t)], []⟩ : St))) := by
  unfold math_bits_OnesCount64_n9
  exact Link.cast (by kernel_rfl) (by kernel_rfl) (link_seq (b := (Code.snd (Code.snd (Code.snd (Code.snd (Code.snd (Code.snd (Code.snd (Code.snd (bodyOf Tryd.f42)))))))))) (y := (Ann.snd (Ann.snd (Ann.snd (Ann.snd (Ann.snd (Ann.snd (Ann.snd (Ann.snd math_bits_OnesCount64_an))))))))) (math_bits_OnesCount64_n7_l x649) (fun (t : Int) => (math_bits_OnesCount64_n8_l t)))

theorem math_bits_OnesCount64_n10_l (x644 : Int) : Link math_bits_OnesCount64_ctx LL (Code.snd (Code.snd (Code.snd (Code.snd (Code.snd (Code.snd (bodyOf Tryd.f42))))))) (Ann.snd (Ann.snd (Ann.snd (Ann.snd (Ann.snd (Ann.snd math_bits_OnesCount64_an)))))) (⟨mkE 35 0 [(0, .dat (.int .u64) x644)], []⟩ : St) (math_bits_OnesCount64_n10 x644) (fun (t : Int) => (Exit.ret, (⟨mkE 35 0 [(2, .dat (.int .i64) t)], []⟩ : St))) := by
  unfold math_bits_OnesCount64_n10
  exact Link.cast (by kernel_rfl) (by kernel_rfl) (link_seq (b := (Code.snd (Code.snd (Code.snd (Code.snd (Code.snd (Code.snd (Code.snd (bodyOf Tryd.f42))))))))) (y := (Ann.snd (Ann.snd (Ann.snd (Ann.snd (Ann.snd (Ann.snd (Ann.snd math_bits_OnesCount64_an)))))))) (math_bits_OnesCount64_n6_l x644) (fun (t : Int) => (math_bits_OnesCount64_n9_l t)))

theorem math_bits_OnesCount64_n11_l (x639 : Int) : Link math_bits_OnesCount64_ctx LL (Code.snd (Code.snd (Code.snd (Code.snd (Code.snd (bodyOf Tryd.f42)))))) (Ann.snd (Ann.snd (Ann.snd (Ann.snd (Ann.snd math_bits_OnesCount64_an))))) (⟨mkE 35 0 [(0, .dat (.int .u64) x639)], []⟩ : St) (math_bits_OnesCount64_n11 x639) (fun (t : Int) => (Exit.ret, (⟨mkE 35 0 [(2, .dat (.int .i64) t)], []⟩ : St))) := by
  unfold math_bits_OnesCount64_n11
  exact Link.cast (by kernel_rfl) (by kernel_rfl) (link_seq (b := (Code.snd (Code.snd (Code.snd (Code.snd (Code.snd (Code.snd (bodyOf Tryd.f42)))))))) (y := (Ann.snd (Ann.snd (Ann.snd (Ann.snd (Ann.snd (Ann.snd math_bits_OnesCount64_an))))))) (math_bits_OnesCount64_n5_l x639) (fun (t : Int) => (math_bits_OnesCount64_n10_l t)))

theorem math_bits_OnesCount64_n12_l (x635 : Int) : Link math_bits_OnesCount64_ctx LL (Code.snd (Code.snd (Code.snd (Code.snd (bodyOf Tryd.f42))))) (Ann.snd (Ann.snd (Ann.snd (Ann.snd math_bits_OnesCount64_an)))) (⟨mkE 35 0 [(0, .dat (.int .u64) x635)], []⟩ : St) (math_bits_OnesCount64_n12 x635) (fun (t : Int) => (Exit.ret, (⟨mkE 35 0 [(2, .dat (.int .i64) t)], []⟩ : St))) := by
  unfold math_bits_OnesCount64_n12
  exact Link.cast (by kernel_rfl) (by kernel_rfl) (link_seq (b := (Code.snd (Code.snd (Code.snd (Code.snd (Code.snd (bodyOf Tryd.f42))))))) (y := (Ann.snd (Ann.snd (Ann.snd (Ann.snd (Ann.snd math_bits_OnesCount64_an)))))) (math_bits_OnesCount64_n4_l x635) (fun (t : Int) => (math_bits_OnesCount64_n11_l t)))

theorem math_bits_OnesCount64_n13_l (x627 : Int) : Link math_bits_OnesCount64_ctx LL (Code.snd (Code.snd (Code.snd (bodyOf Tryd.f42)))) (Ann.snd (Ann.snd (Ann.snd math_bits_OnesCount64_an))) (⟨mkE 35 0 [(0, .dat (.int .u64) x627)], []⟩ : St) (math_bits_OnesCount64_n13 x627) (fun (t : Int) => (Exit.ret, (⟨mkE 35 0 [(2, .dat (.int .i64) t)], []⟩ : St))) := by
  unfold math_bits_OnesCount64_n13
  exact Link.cast (by kernel_rfl) (by kernel_rfl) (link_seq (b := (Code.snd (Code.snd (Code.snd (Code.snd (bodyOf Tryd.f42)))))) (y := (Ann.snd (Ann.snd (Ann.snd (Ann.snd math_bits_OnesCount64_an))))) (math_bits_OnesCount64_n3_l x627) (fun (t : Int) => (math_bits_OnesCount64_n12_l t)))

theorem math_bits_OnesCount64_n14_l (x610 : Int) : Link math_bits_OnesCount64_ctx LL (Code.snd (Code.snd (bodyOf Tryd.f42))) (Ann.snd (Ann.snd math_bits_OnesCount64_an)) (⟨mkE 35 0 [(0, .dat (.int .u64) x610)], []⟩ : St) (math_bits_OnesCount64_n14 x610) (fun (t : Int) => (Exit.ret, (⟨mkE 35 0 [(2, .dat (.int .i64) t)], []⟩ : St))) := by
  unfold math_bits_OnesCount64_n14
  exact Link.cast (by kernel_rfl) (by kernel_rfl) (link_seq (b := (Code.snd (Code.snd (Code.snd (bodyOf Tryd.f42))))) (y := (Ann.snd (Ann.snd (Ann.snd math_bits_OnesCount64_an)))) (math_bits_OnesCount64_n2_l x610) (fun (t : Int) => (math_bits_OnesCount64_n13_l t)))

theorem math_bits_OnesCount64_n15_l (x605 : Int) : Link math_bits_OnesCount64_ctx LL (bodyOf Tryd.f42) math_bits_OnesCount64_an (⟨mkE 35 0 [(0, .dat (.int .u64) x605)], []⟩ : St) (math_bits_OnesCount64_n15 x605) (fun (t : Int) => (Exit.ret, (⟨mkE 35 0 [(2, .dat (.int .i64) t)], []⟩ : St))) := by
  unfold math_bits_OnesCount64_n15
  exact Link.cast (by kernel_rfl) (by kernel_rfl) (link_group (c := (Code.fst (Code.snd (bodyOf Tryd.f42)))) (a := (Ann.fst (Ann.snd math_bits_OnesCount64_an))) [(Code.fst (bodyOf Tryd.f42))] [(Ann.fst math_bits_OnesCount64_an)] rfl (link_seq (b := (Code.snd (Code.snd (bodyOf Tryd.f42)))) (y := (Ann.snd (Ann.snd math_bits_OnesCount64_an))) (math_bits_OnesCount64_n1_l x605) (fun (t : Int) => (math_bits_OnesCount64_n14_l t))))

theorem math_bits_OnesCount64_e (x605 : Int) {r : AV} {H' : Heap} (h : (Ans.mk _ (math_bits_OnesCount64 x605) (fun (t : Int) => (.dat (.int .i64) t, []))).run = some (r, H')) : Awp math_bits_OnesCount64_ctx LL (bodyOf Tryd.f42) math_bits_OnesCount64_an (⟨mkE 35 0 [(0, .dat (.int .u64) x605)], []⟩ : St) (Ret (tlook tys) Tryd.f42.results.toList r H') :=
  ret_of' (math_bits_OnesCount64_n15_l x605) (by unfold math_bits_OnesCount64; kernel_rfl) (by
  intro t
  exact ret_mk [.dat (.int .i64) t] (by kernel_rfl) (by kernel_rfl) (by kernel_rfl) (by kernel_rfl)) h

def F_math_bits_OnesCount64 : Fun := fun avs H =>
  match avs, H with
  | [.dat (.int .u64) x605], [] => ⟨_, math_bits_OnesCount64 x605, fun (t : Int) => (.dat (.int .i64) t, [])⟩
  | _, _ => Ans.no

theorem math_bits_OnesCount64_sound : Sound Tryd.prog 42 F_math_bits_OnesCount64 := by
  refine fn_sound' (C := math_bits_OnesCount64_ctx) (c := bodyOf Tryd.f42) (cok_of tys_ok (by simp) (by simp) (by kernel_rfl)) Tryd.func42 (by kernel_rfl) LL math_bits_OnesCount64_an ?_
  intro avs H r H' h
  unfold F_math_bits_OnesCount64 at h
  split at h
  · refine Awp.cast ?_ ?_ ?_ (math_bits_OnesCount64_e _ h) <;> kernel_rfl
  · simp [Ans.no, Ans.run] at h

/-! math/bits.OnesCount -/

def math_bits_OnesCount_an : Ann := (.seq (.leaf [0]) (.seq (.cond (.seq (.leaf [2]) (.leaf [2])) (.leaf [0])) (.seq (.leaf [2]) (.leaf [2]))))

noncomputable def math_bits_OnesCount_ctx : Ctx := ⟨tlook tys, olook [(42, F_math_bits_OnesCount64)], ioF, 0⟩

theorem math_bits_OnesCount_n1_l (x604 : Int) : Link math_bits_OnesCount_ctx LL (bodyOf Tryd.f38) math_bits_OnesCount_an (⟨mkE 8 0 [(0, .dat (.int .u64) x604)], []⟩ : St) (math_bits_OnesCount_n1 x604) (fun (t : Int) => (Exit.ret, (⟨mkE 8 0 [(2, .dat (.int .i64) t)], []⟩ : St))) := by
  refine Link.of fun K h => ?_
  simp only [math_bits_OnesCount_n1, wpO_bind, wpO_cond, wpO_map, wpO_some] at h
  exact Awp.of (by kernel_rfl) h

theorem math_bits_OnesCount_e (x604 : Int) {r : AV} {H' : Heap} (h : (Ans.mk _ (math_bits_OnesCount x604) (fun (t : Int) => (.dat (.int .i64) t, []))).run = some (r, H')) : Awp math_bits_OnesCount_ctx LL (bodyOf Tryd.f38) math_bits_OnesCount_an (⟨mkE 8 0 [(0, .dat (.int .u64) x604)], []⟩ : St) (Ret (tlook tys) Tryd.f38.results.toList r H') :=
  ret_of' (math_bits_OnesCount_n1_l x604) (by unfold math_bits_OnesCount; kernel_rfl) (by
  intro t
  exact ret_mk [.dat (.int .i64) t] (by kernel_rfl) (by kernel_rfl) (by kernel_rfl) (by kernel_rfl)) h

def F_math_bits_OnesCount : Fun := fun avs H =>
  match avs, H with
  | [.dat (.int .u64) x604], [] => ⟨_, math_bits_OnesCount x604, fun (t : Int) => (.dat (.int .i64) t, [])⟩
  | _, _ => Ans.no

theorem math_bits_OnesCount_sound : Sound Tryd.prog 38 F_math_bits_OnesCount := by
  refine fn_sound' (C := math_bits_OnesCount_ctx) (c := bodyOf Tryd.f38) (cok_of tys_ok (List.forall_mem_cons.2 ⟨math_bits_OnesCount64_sound, by simp⟩) (List.forall_mem_cons.2 ⟨Tryd.call42, by simp⟩) (by kernel_rfl)) Tryd.func38 (by kernel_rfl) LL math_bits_OnesCount_an ?_
  intro avs H r H' h
  unfold F_math_bits_OnesCount at h
  split at h
  · refine Awp.cast ?_ ?_ ?_ (math_bits_OnesCount_e _ h) <;> kernel_rfl
  · simp [Ans.no, Ans.run] at h

/-! (loop.example/headtrees/impl.wordSet).count -/

def impl_wordSet_count_an : Ann := (.seq (.leaf [0]) (.seq (.leaf [2]) (.leaf [2])))

noncomputable def impl_wordSet_count_ctx : Ctx := ⟨tlook tys, olook [(38, F_math_bits_OnesCount)], ioF, 0⟩

theorem impl_wordSet_count_n1_l (x603 : Int) : Link impl_wordSet_count_ctx LL (bodyOf Tryd.f33) impl_wordSet_count_an (⟨mkE 5 0 [(0, .dat (.int .u64) x603)], []⟩ : St) (impl_wordSet_count_n1 x603) (fun (t : Int) => (Exit.ret, (⟨mkE 5 0 [(2, .dat (.int .i64) t)], []⟩ : St))) := by
  refine Link.of fun K h => ?_
  simp only [impl_wordSet_count_n1, wpO_bind, wpO_cond, wpO_map, wpO_some] at h
  exact Awp.of (by kernel_rfl) h

theorem impl_wordSet_count_e (x603 : Int) {r : AV} {H' : Heap} (h : (Ans.mk _ (impl_wordSet_count x603) (fun (t : Int) => (.dat (.int .i64) t, []))).run = some (r, H')) : Awp impl_wordSet_count_ctx LL (bodyOf Tryd.f33) impl_wordSet_count_an (⟨mkE 5 0 [(0, .dat (.int .u64) x603)], []⟩ : St) (Ret (tlook tys) Tryd.f33.results.toList r H') :=
  ret_of' (impl_wordSet_count_n1_l x603) (by unfold impl_wordSet_count; kernel_rfl) (by
  intro t
  exact ret_mk [.dat (.int .i64) t] (by kernel_rfl) (by kernel_rfl) (by kernel_rfl) (by kernel_rfl)) h

def F_impl_wordSet_count : Fun := fun avs H =>
  match avs, H with
  | [.dat (.int .u64) x603], [] => ⟨_, impl_wordSet_count x603, fun (t : Int) => (.dat (.int .i64) t, [])⟩
  | _, _ => Ans.no

theorem impl_wordSet_count_sound : Sound Tryd.prog 33 F_impl_wordSet_count := by
  refine fn_sound' (C := impl_wordSet_count_ctx) (c := bodyOf Tryd.f33) (cok_of tys_ok (List.forall_mem_cons.2 ⟨math_bits_OnesCount_sound, by simp⟩) (List.forall_mem_cons.2 ⟨Tryd.call38, by simp⟩) (by kernel_rfl)) Tryd.func33 (by kernel_rfl) LL impl_wordSet_count_an ?_
  intro avs H r H' h
  unfold F_impl_wordSet_count at h
  split at h
  · refine Awp.cast ?_ ?_ ?_ (impl_wordSet_count_e _ h) <;> kernel_rfl
  · simp [Ans.no, Ans.run] at h

/-! math/bits.TrailingZeros64 -/

def math_bits_TrailingZeros64_an : Ann := (.seq (.leaf [0]) (.seq (.seq (.leaf [0, 4]) (.cond (.seq (.leaf [2]) (.leaf [2])) (.leaf [0]))) (.seq (.leaf [2]) (.leaf [2]))))

noncomputable def math_bits_TrailingZeros64_ctx : Ctx := ⟨tlook tys, olook [], ioF, 0⟩

theorem math_bits_TrailingZeros64_n1_l (x665 : Int) : Link math_bits_TrailingZeros64_ctx LL (bodyOf Tryd.f40) math_bits_TrailingZeros64_an (⟨mkE 14 0 [(0, .dat (.int .u64) x665)], []⟩ : St) (math_bits_TrailingZeros64_n1 x665) (fun (t : Int) => (Exit.ret, (⟨mkE 14 0 [(2, .dat (.int .i64) t)], []⟩ : St))) := by
  refine Link.of fun K h => ?_
  simp only [math_bits_TrailingZeros64_n1, wpO_bind, wpO_cond, wpO_map, wpO_some] at h
  exact Awp.of (by kernel_rfl) h

theorem math_bits_TrailingZeros64_e (x665 : Int) {r : AV} {H' : Heap} (h : (Ans.mk _ (math_bits_TrailingZeros64 x665) (fun (t : Int) => (.dat (.int .i64) t, []))).run = some (r, H')) : Awp math_bits_TrailingZeros64_ctx LL (bodyOf Tryd.f40) math_bits_TrailingZeros64_an (⟨mkE 14 0 [(0, .dat (.int .u64) x665)], []⟩ : St) (Ret (tlook tys) Tryd.f40.results.toList r H') :=
  ret_of' (math_bits_TrailingZeros64_n1_l x665) (by unfold math_bits_TrailingZeros64; kernel_rfl) (by
  intro t
  exact ret_mk [.dat (.int .i64) t] (by kernel_rfl) (by kernel_rfl) (by kernel_rfl) (by kernel_rfl)) h

def F_math_bits_TrailingZeros64 : Fun := fun avs H =>
  match avs, H with
  | [.dat (.int .u64) x665], [] => ⟨_, math_bits_TrailingZeros64 x665, fun (t : Int) => (.dat (.int .i64) t, [])⟩
  | _, _ => Ans.no

theorem math_bits_TrailingZeros64_sound : Sound Tryd.prog 40 F_math_bits_TrailingZeros64 := by
  refine fn_sound' (C := math_bits_TrailingZeros64_ctx) (c := bodyOf Tryd.f40) (cok_of tys_ok (by simp) (by simp) (by kernel_rfl)) Tryd.func40 (by kernel_rfl) LL math_bits_TrailingZeros64_an ?_
  intro avs H r H' h
  unfold F_math_bits_TrailingZeros64 at h
  split at h
  · refine Awp.cast ?_ ?_ ?_ (math_bits_TrailingZeros64_e _ h) <;> kernel_rfl
  · simp [Ans.no, Ans.run] at h

/-! math/bits.TrailingZeros -/

def math_bits_TrailingZeros_an : Ann := (.seq (.leaf [0]) (.seq (.cond (.seq (.leaf [2]) (.leaf [2])) (.leaf [0])) (.seq (.leaf [2]) (.leaf [2]))))

noncomputable def math_bits_TrailingZeros_ctx : Ctx := ⟨tlook tys, olook [(40, F_math_bits_TrailingZeros64)], ioF, 0⟩

theorem math_bits_TrailingZeros_n1_l (x664 : Int) : Link math_bits_TrailingZeros_ctx LL (bodyOf Tryd.f34) math_bits_TrailingZeros_an (⟨mkE 8 0 [(0, .dat (.int .u64) x664)], []⟩ : St) (math_bits_TrailingZeros_n1 x664) (fun (t : Int) => (Exit.ret, (⟨mkE 8 0 [(2, .dat (.int .i64) t)], []⟩ : St))) := by
  refine Link.of fun K h => ?_
  simp only [math_bits_TrailingZeros_n1, wpO_bind, wpO_cond, wpO_map, wpO_some] at h
  exact Awp.of (by kernel_rfl) h

theorem math_bits_TrailingZeros_e (x664 : Int) {r : AV} {H' : Heap} (h : (Ans.mk _ (math_bits_TrailingZeros x664) (fun (t : Int) => (.dat (.int .i64) t, []))).run = some (r, H')) : Awp math_bits_TrailingZeros_ctx LL (bodyOf Tryd.f34) math_bits_TrailingZeros_an (⟨mkE 8 0 [(0, .dat (.int .u64) x664)], []⟩ : St) (Ret (tlook tys) Tryd.f34.results.toList r H') :=
  ret_of' (math_bits_TrailingZeros_n1_l x664) (by unfold math_bits_TrailingZeros; kernel_rfl) (by
  intro t
  exact ret_mk [.dat (.int .i64) t] (by kernel_rfl) (by kernel_rfl) (by kernel_rfl) (by kernel_rfl)) h

def F_math_bits_TrailingZeros : Fun := fun avs H =>
  match avs, H with
  | [.dat (.int .u64) x664], [] => ⟨_, math_bits_TrailingZeros x664, fun (t : Int) => (.dat (.int .i64) t, [])⟩
  | _, _ => Ans.no

theorem math_bits_TrailingZeros_sound : Sound Tryd.prog 34 F_math_bits_TrailingZeros := by
  refine fn_sound' (C := math_bits_TrailingZeros_ctx) (c := bodyOf Tryd.f34) (cok_of tys_ok (List.forall_mem_cons.2 ⟨math_bits_TrailingZeros64_sound, by simp⟩) (List.forall_mem_cons.2 ⟨Tryd.call40, by simp⟩) (by kernel_rfl)) Tryd.func34 (by kernel_rfl) LL math_bits_TrailingZeros_an ?_
  intro avs H r H' h
  unfold F_math_bits_TrailingZeros at h
  split at h
  · refine Awp.cast ?_ ?_ ?_ (math_bits_TrailingZeros_e _ h) <;> kernel_rfl
  · simp [Ans.no, Ans.run] at h

/-! (loop.example/headtrees/impl.wordSet).list -/

def impl_wordSet_list_an : Ann := (.seq (.leaf [0]) (.seq (.leaf [0, 3]) (.seq (.seq (.leaf [3, 4]) (.block (.loop (.seq (.seq (.leaf [3, 4, 10]) (.cond (.leaf [3, 4]) (.leaf [3]))) (.seq (.block (.leaf [3, 4])) (.leaf [3, 4])))))) (.seq (.leaf [2]) (.leaf [2])))))

noncomputable def impl_wordSet_list_ctx : Ctx := ⟨tlook tys, olook [(33, F_impl_wordSet_count), (34, F_math_bits_TrailingZeros)], ioF, 0⟩

theorem impl_wordSet_list_n1_l (x602 : Int) : Link impl_wordSet_list_ctx LL (Code.seq (Code.fst (bodyOf Tryd.f25)) (Code.fst (Code.snd (bodyOf Tryd.f25)))) (Ann.seq (Ann.fst impl_wordSet_list_an) (Ann.fst (Ann.snd impl_wordSet_list_an))) (⟨mkE 22 0 [(0, .dat (.int .u64) x602)], []⟩ : St) (impl_wordSet_list_n1 x602) (fun (t : (List Int)) => (Exit.normal, (⟨mkE 22 0 [(0, .dat (.int .u64) x602), (3, .slc 0)], [some (.seq (.int .i64) t)]⟩ : St))) := by
  refine Link.of fun K h => ?_
  simp only [impl_wordSet_list_n1, wpO_bind, wpO_cond, wpO_map, wpO_some] at h
  exact Awp.of (by kernel_rfl) h

theorem impl_wordSet_list_n2_l (x602 : Int) (x661 : List Int) : Link impl_wordSet_list_ctx LL (Code.fst (Code.fst (Code.snd (Code.snd (bodyOf Tryd.f25))))) (Ann.fst (Ann.fst (Ann.snd (Ann.snd impl_wordSet_list_an)))) (⟨mkE 22 0 [(0, .dat (.int .u64) x602), (3, .slc 0)], [some (.seq (.int .i64) x661)]⟩ : St) (impl_wordSet_list_n2) (fun (t : Unit) => (Exit.normal, (⟨mkE 22 0 [(3, .slc 0), (4, .dat (.int .u64) x602)], [some (.seq (.int .i64) x661)]⟩ : St))) := by
  refine Link.of fun K h => ?_
  simp only [impl_wordSet_list_n2, wpO_bind, wpO_cond, wpO_map, wpO_some] at h
  exact Awp.of (by kernel_rfl) h

theorem impl_wordSet_list_n3_l (x705 : Int) (x706 : List Int) : Link impl_wordSet_list_ctx LL (Code.fst (Code.fst (Code.snd (Code.fst (Code.snd (Code.snd (bodyOf Tryd.f25))))))) (Ann.fst (Ann.fst (Ann.snd (Ann.fst (Ann.snd (Ann.snd impl_wordSet_list_an)))))) (⟨mkE 22 0 [(3, .slc 0), (4, .dat (.int .u64) x705)], [some (.seq (.int .i64) x706)]⟩ : St) (impl_wordSet_list_n3 x705 x706) (Sum.elim (fun (t : Int × (List Int)) => (Exit.normal, (⟨mkE 22 0 [(3, .slc 0), (4, .dat (.int .u64) t.1)], [some (.seq (.int .i64) t.2)]⟩ : St))) (fun (t : (List Int)) => ((Exit.exit 0), (⟨mkE 22 0 [(3, .slc 0)], [some (.seq (.int .i64) t)]⟩ : St)))) := by
  refine Link.of fun K h => ?_
  simp only [impl_wordSet_list_n3, wpO_bind, wpO_cond, wpO_map, wpO_some] at h
  exact Awp.of (by kernel_rfl) h

theorem impl_wordSet_list_n4_l (x602 : Int) (x661 : List Int) : Link impl_wordSet_list_ctx LL (Code.fst (Code.snd (Code.fst (Code.snd (Code.snd (bodyOf Tryd.f25)))))) (Ann.fst (Ann.snd (Ann.fst (Ann.snd (Ann.snd impl_wordSet_list_an))))) (⟨mkE 22 0 [(3, .slc 0), (4, .dat (.int .u64) x602)], [some (.seq (.int .i64) x661)]⟩ : St) (impl_wordSet_list_n4 x602 x661) (fun (t : (List Int)) => ((Exit.exit 0), (⟨mkE 22 0 [(3, .slc 0)], [some (.seq (.int .i64) t)]⟩ : St))) := by
  unfold impl_wordSet_list_n4
  exact Link.cast (by kernel_rfl) (by kernel_rfl) (link_loop (mk := fun (s : Int × (List Int)) => (⟨mkE 22 0 [(3, .slc 0), (4, .dat (.int .u64) s.1)], [some (.seq (.int .i64) s.2)]⟩ : St)) (fin := (fun (t : (List Int)) => ((Exit.exit 0), (⟨mkE 22 0 [(3, .slc 0)], [some (.seq (.int .i64) t)]⟩ : St)))) (by
  rintro t f K h
  · exact h) (fun s => link_map (impl_wordSet_list_n3_l s.1 s.2) (Sum.elim (fun (t : Int × (List Int)) => Sum.inl (t.1, t.2)) (fun (t : (List Int)) => Sum.inr t)) (by
  rintro (t | t)
  · kernel_rfl
  · kernel_rfl)) (x602, x661))

theorem impl_wordSet_list_n5_l (x602 : Int) (x661 : List Int) : Link impl_wordSet_list_ctx LL (Code.snd (Code.fst (Code.snd (Code.snd (bodyOf Tryd.f25))))) (Ann.snd (Ann.fst (Ann.snd (Ann.snd impl_wordSet_list_an)))) (⟨mkE 22 0 [(3, .slc 0), (4, .dat (.int .u64) x602)], [some (.seq (.int .i64) x661)]⟩ : St) (impl_wordSet_list_n5 x602 x661) (fun (t : (List Int)) => (Exit.normal, (⟨mkE 22 0 [(3, .slc 0)], [some (.seq (.int .i64) t)]⟩ : St))) := by
  unfold impl_wordSet_list_n5
  exact Link.cast (by kernel_rfl) (by kernel_rfl) (link_block (id := 0) (impl_wordSet_list_n4_l x602 x661) (fun (t : (List Int)) => t) (by
  rintro t K h
  · exact Eq.mp (by kernel_rfl) h))

theorem impl_wordSet_list_n6_l (x602 : Int) (x661 : List Int) : Link impl_wordSet_list_ctx LL (Code.fst (Code.snd (Code.snd (bodyOf Tryd.f25)))) (Ann.fst (Ann.snd (Ann.snd impl_wordSet_list_an))) (⟨mkE 22 0 [(0, .dat (.int .u64) x602), (3, .slc 0)], [some (.seq (.int .i64) x661)]⟩ : St) (impl_wordSet_list_n6 x602 x661) (fun (t : (List Int)) => (Exit.normal, (⟨mkE 22 0 [(3, .slc 0)], [some (.seq (.int .i64) t)]⟩ : St))) := by
  unfold impl_wordSet_list_n6
  exact Link.cast (by kernel_rfl) (by kernel_rfl) (link_seq (b := (Code.snd (Code.fst (Code.snd (Code.snd (bodyOf Tryd.f25)))))) (y := (Ann.snd (Ann.fst (Ann.snd (Ann.snd impl_wordSet_list_an))))) (impl_wordSet_list_n2_l x602 x661) (fun (t : Unit) => (impl_wordSet_list_n5_l x602 x661)))

theorem impl_wordSet_list_n7_l (x706 : List Int) : Link impl_wordSet_list_ctx LL (Code.snd (Code.snd (Code.snd (bodyOf Tryd.f25)))) (Ann.snd (Ann.snd (Ann.snd impl_wordSet_list_an))) (⟨mkE 22 0 [(3, .slc 0)], [some (.seq (.int .i64) x706)]⟩ : St) (impl_wordSet_list_n7 x706) (fun (t : (List Int)) => (Exit.ret, (⟨mkE 22 0 [(2, .slc 0)], [some (.seq (.int .i64) t)]⟩ : St))) := by
  refine Link.of fun K h => ?_
  simp only [impl_wordSet_list_n7, wpO_bind, wpO_cond, wpO_map, wpO_some] at h
  exact Awp.of (by kernel_rfl) h

theorem impl_wordSet_list_n8_l (x602 : Int) (x661 : List Int) : Link impl_wordSet_list_ctx LL (Code.snd (Code.snd (bodyOf Tryd.f25))) (Ann.snd (Ann.snd impl_wordSet_list_an)) (⟨mkE 22 0 [(0, .dat (.int .u64) x602), (3, .slc 0)], [some (.seq (.int .i64) x661)]⟩ : St) (impl_wordSet_list_n8 x602 x661) (fun (t : (List Int)) => (Exit.ret, (⟨mkE 22 0 [(2, .slc 0)], [some (.seq (.int .i64) t)]⟩ : St))) := by
  unfold impl_wordSet_list_n8
  exact Link.cast (by kernel_rfl) (by kernel_rfl) (link_seq (b := (Code.snd (Code.snd (Code.snd (bodyOf Tryd.f25))))) (y := (Ann.snd (Ann.snd (Ann.snd impl_wordSet_list_an)))) (impl_wordSet_list_n6_l x602 x661) (fun (t : (List Int)) => (impl_wordSet_list_n7_l t)))

theorem impl_wordSet_list_n9_l (x602 : Int) : Link impl_wordSet_list_ctx LL (bodyOf Tryd.f25) impl_wordSet_list_an (⟨mkE 22 0 [(0, .dat (.int .u64) x602)], []⟩ : St) (impl_wordSet_list_n9 x602) (fun (t : (List Int)) => (Exit.ret, (⟨mkE 22 0 [(2, .slc 0)], [some (.seq (.int .i64) t)]⟩ : St))) := by
  unfold impl_wordSet_list_n9
  exact Link.cast (by kernel_rfl) (by kernel_rfl) (link_group (c := (Code.fst (Code.snd (bodyOf Tryd.f25)))) (a := (Ann.fst (Ann.snd impl_wordSet_list_an))) [(Code.fst (bodyOf Tryd.f25))] [(Ann.fst impl_wordSet_list_an)] rfl (link_seq (b := (Code.snd (Code.snd (bodyOf Tryd.f25)))) (y := (Ann.snd (Ann.snd impl_wordSet_list_an))) (impl_wordSet_list_n1_l x602) (fun (t : (List Int)) => (impl_wordSet_list_n8_l x602 t))))

theorem impl_wordSet_list_e (x602 : Int) {r : AV} {H' : Heap} (h : (Ans.mk _ (impl_wordSet_list x602) (fun (t : (List Int)) => (.slc 0, [some (.seq (.int .i64) t)]))).run = some (r, H')) : Awp impl_wordSet_list_ctx LL (bodyOf Tryd.f25) impl_wordSet_list_an (⟨mkE 22 0 [(0, .dat (.int .u64) x602)], []⟩ : St) (Ret (tlook tys) Tryd.f25.results.toList r H') :=
  ret_of' (impl_wordSet_list_n9_l x602) (by unfold impl_wordSet_list; kernel_rfl) (by
  intro t
  exact ret_mk [.slc 0] (by kernel_rfl) (by kernel_rfl) (by kernel_rfl) (by kernel_rfl)) h

def F_impl_wordSet_list : Fun := fun avs H =>
  match avs, H with
  | [.dat (.int .u64) x602], [] => ⟨_, impl_wordSet_list x602, fun (t : (List Int)) => (.slc 0, [some (.seq (.int .i64) t)])⟩
  | _, _ => Ans.no

theorem impl_wordSet_list_sound : Sound Tryd.prog 25 F_impl_wordSet_list := by
  refine fn_sound' (C := impl_wordSet_list_ctx) (c := bodyOf Tryd.f25) (cok_of tys_ok (List.forall_mem_cons.2 ⟨impl_wordSet_count_sound, List.forall_mem_cons.2 ⟨math_bits_TrailingZeros_sound, by simp⟩⟩) (List.forall_mem_cons.2 ⟨Tryd.call33, List.forall_mem_cons.2 ⟨Tryd.call34, by simp⟩⟩) (by kernel_rfl)) Tryd.func25 (by kernel_rfl) LL impl_wordSet_list_an ?_
  intro avs H r H' h
  unfold F_impl_wordSet_list at h
  split at h
  · refine Awp.cast ?_ ?_ ?_ (impl_wordSet_list_e _ h) <;> kernel_rfl
  · simp [Ans.no, Ans.run] at h

/-! loop.example/headtrees/impl.fillYields -/

def impl_fillYields_an : Ann := (.seq (.leaf [0, 1, 2]) (.seq (.leaf [0, 1, 2, 7]) (.seq (.seq (.leaf [0, 1, 2, 7, 15, 16, 17]) (.block (.loop (.seq (.leaf [0, 1, 2, 7, 15, 16, 17, 18]) (.seq (.cond (.leaf [0, 1, 2, 7, 15, 16, 17]) (.leaf [0, 2, 7])) (.seq (.block (.seq (.leaf [0, 1, 2, 7, 9, 15, 16, 17]) (.leaf [0, 1, 2, 7, 15, 16, 17]))) (.leaf [0, 1, 2, 7, 15, 16, 17]))))))) (.seq (.leaf [7]) (.seq (.leaf [6]) (.leaf [6]))))))

def F_impl_fillYields_fuel (n : Nat) : Fun := fun avs H =>
  match avs, H with
  | [.slc 0, .dat (.list (.int .i64)) x551, .dat (.int .i64) x552], [some (.seq (.int .u64) x553)] => ⟨_, impl_fillYields_fuel n x551 x552 x553, fun (t : Int × (List Int)) => (.dat (.int .u64) t.1, [some (.seq (.int .u64) t.2)])⟩
  | _, _ => Ans.no

noncomputable def impl_fillYields_ctx (n : Nat) : Ctx := ⟨tlook tys, olook [(29, F_impl_only), (27, F_impl_dependents), (25, F_impl_wordSet_list), (32, F_impl_fillYields_fuel n)], ioF, 1⟩

theorem impl_fillYields_n1_l (n : Nat) (x551 : List Int) (x552 : Int) (x553 : List Int) : Link (impl_fillYields_ctx n) LL (Code.seq (Code.fst (bodyOf Tryd.f32)) (Code.fst (Code.snd (bodyOf Tryd.f32)))) (Ann.seq (Ann.fst impl_fillYields_an) (Ann.fst (Ann.snd impl_fillYields_an))) (⟨mkE 34 0 [(0, .slc 0), (1, .dat (.list (.int .i64)) x551), (2, .dat (.int .i64) x552)], [some (.seq (.int .u64) x553)]⟩ : St) (impl_fillYields_n1 (impl_fillYields_fuel n) x552) (fun (t : Int) => (Exit.normal, (⟨mkE 34 0 [(0, .slc 0), (1, .dat (.list (.int .i64)) x551), (2, .dat (.int .i64) x552), (7, .dat (.int .u64) t)], [some (.seq (.int .u64) x553)]⟩ : St))) := by
  refine Link.of fun K h => ?_
  simp only [impl_fillYields_n1, wpO_bind, wpO_cond, wpO_map, wpO_some] at h
  exact Awp.of (by kernel_rfl) h

theorem impl_fillYields_n2_l (n : Nat) (x551 : List Int) (x552 : Int) (x740 : Int) (x553 : List Int) : Link (impl_fillYields_ctx n) LL (Code.fst (Code.fst (Code.snd (Code.snd (bodyOf Tryd.f32))))) (Ann.fst (Ann.fst (Ann.snd (Ann.snd impl_fillYields_an)))) (⟨mkE 34 0 [(0, .slc 0), (1, .dat (.list (.int .i64)) x551), (2, .dat (.int .i64) x552), (7, .dat (.int .u64) x740)], [some (.seq (.int .u64) x553)]⟩ : St) (impl_fillYields_n2 (impl_fillYields_fuel n) x551 x552) (fun (t : Int × (List Int)) => (Exit.normal, (⟨mkE 34 0 [(0, .slc 0), (1, .dat (.list (.int .i64)) x551), (2, .dat (.int .i64) x552), (7, .dat (.int .u64) x740), (15, .slc 1), (16, .dat (.int .i64) t.1), (17, .dat (.int .i64) 0)], [some (.seq (.int .u64) x553), some (.seq (.int .i64) t.2)]⟩ : St))) := by
  refine Link.of fun K h => ?_
  simp only [impl_fillYields_n2, wpO_bind, wpO_cond, wpO_map, wpO_some] at h
  exact Awp.of (by kernel_rfl) h

theorem impl_fillYields_n3_l (n : Nat) (x551 : List Int) (x552 : Int) (x761 : Int) (x743 : Int) (x762 : Int) (x763 : List Int) (x742 : List Int) : Link (impl_fillYields_ctx n) LL (Code.fst (Code.fst (Code.snd (Code.fst (Code.snd (Code.snd (bodyOf Tryd.f32))))))) (Ann.fst (Ann.fst (Ann.snd (Ann.fst (Ann.snd (Ann.snd impl_fillYields_an)))))) (⟨mkE 34 0 [(0, .slc 0), (1, .dat (.list (.int .i64)) x551), (2, .dat (.int .i64) x552), (7, .dat (.int .u64) x761), (15, .slc 1), (16, .dat (.int .i64) x743), (17, .dat (.int .i64) x762)], [some (.seq (.int .u64) x763), some (.seq (.int .i64) x742)]⟩ : St) (impl_fillYields_n3 (impl_fillYields_fuel n) x551 x761 x743 x762 x763 x742) (Sum.elim (fun (t : Int × Int × (List Int)) => (Exit.normal, (⟨mkE 34 0 [(0, .slc 0), (1, .dat (.list (.int .i64)) x551), (2, .dat (.int .i64) x552), (7, .dat (.int .u64) t.1), (15, .slc 1), (16, .dat (.int .i64) x743), (17, .dat (.int .i64) t.2.1)], [some (.seq (.int .u64) t.2.2), some (.seq (.int .i64) x742)]⟩ : St))) (fun (t : Int × (List Int)) => ((Exit.exit 0), (⟨mkE 34 0 [(0, .slc 0), (2, .dat (.int .i64) x552), (7, .dat (.int .u64) t.1)], [some (.seq (.int .u64) t.2)]⟩ : St)))) := by
  refine Link.of fun K h => ?_
  simp only [impl_fillYields_n3, wpO_bind, wpO_cond, wpO_map, wpO_some] at h
  exact Awp.of (by kernel_rfl) h

theorem impl_fillYields_n4_l (n : Nat) (x551 : List Int) (x552 : Int) (x740 : Int) (x743 : Int) (x553 : List Int) (x742 : List Int) : Link (impl_fillYields_ctx n) LL (Code.fst (Code.snd (Code.fst (Code.snd (Code.snd (bodyOf Tryd.f32)))))) (Ann.fst (Ann.snd (Ann.fst (Ann.snd (Ann.snd impl_fillYields_an))))) (⟨mkE 34 0 [(0, .slc 0), (1, .dat (.list (.int .i64)) x551), (2, .dat (.int .i64) x552), (7, .dat (.int .u64) x740), (15, .slc 1), (16, .dat (.int .i64) x743), (17, .dat (.int .i64) 0)], [some (.seq (.int .u64) x553), some (.seq (.int .i64) x742)]⟩ : St) (impl_fillYields_n4 (impl_fillYields_fuel n) x551 x740 x743 x553 x742) (fun (t : Int × (List Int)) => ((Exit.exit 0), (⟨mkE 34 0 [(0, .slc 0), (2, .dat (.int .i64) x552), (7, .dat (.int .u64) t.1)], [some (.seq (.int .u64) t.2)]⟩ : St))) := by
  unfold impl_fillYields_n4
  exact Link.cast (by kernel_rfl) (by kernel_rfl) (link_loop (mk := fun (s : Int × Int × (List Int)) => (⟨mkE 34 0 [(0, .slc 0), (1, .dat (.list (.int .i64)) x551), (2, .dat (.int .i64) x552), (7, .dat (.int .u64) s.1), (15, .slc 1), (16, .dat (.int .i64) x743), (17, .dat (.int .i64) s.2.1)], [some (.seq (.int .u64) s.2.2), some (.seq (.int .i64) x742)]⟩ : St)) (fin := (fun (t : Int × (List Int)) => ((Exit.exit 0), (⟨mkE 34 0 [(0, .slc 0), (2, .dat (.int .i64) x552), (7, .dat (.int .u64) t.1)], [some (.seq (.int .u64) t.2)]⟩ : St)))) (by
  rintro t f K h
  · exact h) (fun s => link_map (impl_fillYields_n3_l n x551 x552 s.1 x743 s.2.1 s.2.2 x742) (Sum.elim (fun (t : Int × Int × (List Int)) => Sum.inl (t.1, t.2.1, t.2.2)) (fun (t : Int × (List Int)) => Sum.inr t)) (by
  rintro (t | t)
  · kernel_rfl
  · kernel_rfl)) (x740, 0, x553))

theorem impl_fillYields_n5_l (n : Nat) (x551 : List Int) (x552 : Int) (x740 : Int) (x743 : Int) (x553 : List Int) (x742 : List Int) : Link (impl_fillYields_ctx n) LL (Code.snd (Code.fst (Code.snd (Code.snd (bodyOf Tryd.f32))))) (Ann.snd (Ann.fst (Ann.snd (Ann.snd impl_fillYields_an)))) (⟨mkE 34 0 [(0, .slc 0), (1, .dat (.list (.int .i64)) x551), (2, .dat (.int .i64) x552), (7, .dat (.int .u64) x740), (15, .slc 1), (16, .dat (.int .i64) x743), (17, .dat (.int .i64) 0)], [some (.seq (.int .u64) x553), some (.seq (.int .i64) x742)]⟩ : St) (impl_fillYields_n5 (impl_fillYields_fuel n) x551 x740 x743 x553 x742) (fun (t : Int × (List Int)) => (Exit.normal, (⟨mkE 34 0 [(0, .slc 0), (2, .dat (.int .i64) x552), (7, .dat (.int .u64) t.1)], [some (.seq (.int .u64) t.2)]⟩ : St))) := by
  unfold impl_fillYields_n5
  exact Link.cast (by kernel_rfl) (by kernel_rfl) (link_block (id := 0) (impl_fillYields_n4_l n x551 x552 x740 x743 x553 x742) (fun (t : Int × (List Int)) => (t.1, t.2)) (by
  rintro t K h
  · exact Eq.mp (by kernel_rfl) h))

theorem impl_fillYields_n6_l (n : Nat) (x551 : List Int) (x552 : Int) (x740 : Int) (x553 : List Int) : Link (impl_fillYields_ctx n) LL (Code.fst (Code.snd (Code.snd (bodyOf Tryd.f32)))) (Ann.fst (Ann.snd (Ann.snd impl_fillYields_an))) (⟨mkE 34 0 [(0, .slc 0), (1, .dat (.list (.int .i64)) x551), (2, .dat (.int .i64) x552), (7, .dat (.int .u64) x740)], [some (.seq (.int .u64) x553)]⟩ : St) (impl_fillYields_n6 (impl_fillYields_fuel n) x551 x552 x740 x553) (fun (t : Int × (List Int)) => (Exit.normal, (⟨mkE 34 0 [(0, .slc 0), (2, .dat (.int .i64) x552), (7, .dat (.int .u64) t.1)], [some (.seq (.int .u64) t.2)]⟩ : St))) := by
  unfold impl_fillYields_n6
  exact Link.cast (by kernel_rfl) (by kernel_rfl) (link_seq (b := (Code.snd (Code.fst (Code.snd (Code.snd (bodyOf Tryd.f32)))))) (y := (Ann.snd (Ann.fst (Ann.snd (Ann.snd impl_fillYields_an))))) (impl_fillYields_n2_l n x551 x552 x740 x553) (fun (t : Int × (List Int)) => (impl_fillYields_n5_l n x551 x552 x740 t.1 x553 t.2)))

theorem impl_fillYields_n7_l (n : Nat) (x552 : Int) (x761 : Int) (x763 : List Int) : Link (impl_fillYields_ctx n) LL (Code.snd (Code.snd (Code.snd (bodyOf Tryd.f32)))) (Ann.snd (Ann.snd (Ann.snd impl_fillYields_an))) (⟨mkE 34 0 [(0, .slc 0), (2, .dat (.int .i64) x552), (7, .dat (.int .u64) x761)], [some (.seq (.int .u64) x763)]⟩ : St) (impl_fillYields_n7 (impl_fillYields_fuel n) x552 x761 x763) (fun (t : Int × (List Int)) => (Exit.ret, (⟨mkE 34 0 [(6, .dat (.int .u64) t.1)], [some (.seq (.int .u64) t.2)]⟩ : St))) := by
  refine Link.of fun K h => ?_
  simp only [impl_fillYields_n7, wpO_bind, wpO_cond, wpO_map, wpO_some] at h
  exact Awp.of (by kernel_rfl) h

theorem impl_fillYields_n8_l (n : Nat) (x551 : List Int) (x552 : Int) (x740 : Int) (x553 : List Int) : Link (impl_fillYields_ctx n) LL (Code.snd (Code.snd (bodyOf Tryd.f32))) (Ann.snd (Ann.snd impl_fillYields_an)) (⟨mkE 34 0 [(0, .slc 0), (1, .dat (.list (.int .i64)) x551), (2, .dat (.int .i64) x552), (7, .dat (.int .u64) x740)], [some (.seq (.int .u64) x553)]⟩ : St) (impl_fillYields_n8 (impl_fillYields_fuel n) x551 x552 x740 x553) (fun (t : Int × (List Int)) => (Exit.ret, (⟨mkE 34 0 [(6, .dat (.int .u64) t.1)], [some (.seq (.int .u64) t.2)]⟩ : St))) := by
  unfold impl_fillYields_n8
  exact Link.cast (by kernel_rfl) (by kernel_rfl) (link_seq (b := (Code.snd (Code.snd (Code.snd (bodyOf Tryd.f32))))) (y := (Ann.snd (Ann.snd (Ann.snd impl_fillYields_an)))) (impl_fillYields_n6_l n x551 x552 x740 x553) (fun (t : Int × (List Int)) => (impl_fillYields_n7_l n x552 t.1 t.2)))

theorem impl_fillYields_n9_l (n : Nat) (x551 : List Int) (x552 : Int) (x553 : List Int) : Link (impl_fillYields_ctx n) LL (bodyOf Tryd.f32) impl_fillYields_an (⟨mkE 34 0 [(0, .slc 0), (1, .dat (.list (.int .i64)) x551), (2, .dat (.int .i64) x552)], [some (.seq (.int .u64) x553)]⟩ : St) (impl_fillYields_n9 (impl_fillYields_fuel n) x551 x552 x553) (fun (t : Int × (List Int)) => (Exit.ret, (⟨mkE 34 0 [(6, .dat (.int .u64) t.1)], [some (.seq (.int .u64) t.2)]⟩ : St))) := by
  unfold impl_fillYields_n9
  exact Link.cast (by kernel_rfl) (by kernel_rfl) (link_group (c := (Code.fst (Code.snd (bodyOf Tryd.f32)))) (a := (Ann.fst (Ann.snd impl_fillYields_an))) [(Code.fst (bodyOf Tryd.f32))] [(Ann.fst impl_fillYields_an)] rfl (link_seq (b := (Code.snd (Code.snd (bodyOf Tryd.f32)))) (y := (Ann.snd (Ann.snd impl_fillYields_an))) (impl_fillYields_n1_l n x551 x552 x553) (fun (t : Int) => (impl_fillYields_n8_l n x551 x552 t x553))))

theorem impl_fillYields_e (n : Nat) (x551 : List Int) (x552 : Int) (x553 : List Int) {r : AV} {H' : Heap} (h : (Ans.mk _ (impl_fillYields_fuel (n + 1) x551 x552 x553) (fun (t : Int × (List Int)) => (.dat (.int .u64) t.1, [some (.seq (.int .u64) t.2)]))).run = some (r, H')) : Awp (impl_fillYields_ctx n) LL (bodyOf Tryd.f32) impl_fillYields_an (⟨mkE 34 0 [(0, .slc 0), (1, .dat (.list (.int .i64)) x551), (2, .dat (.int .i64) x552)], [some (.seq (.int .u64) x553)]⟩ : St) (Ret (tlook tys) Tryd.f32.results.toList r H') :=
  ret_of' (impl_fillYields_n9_l n x551 x552 x553) (by (show _ = _); kernel_rfl) (by
  intro t
  exact ret_mk [.dat (.int .u64) t.1] (by kernel_rfl) (by kernel_rfl) (by kernel_rfl) (by kernel_rfl)) h

theorem impl_fillYields_step (n : Nat) (h32 : Sound Tryd.prog 32 (F_impl_fillYields_fuel n)) : Sound Tryd.prog 32 (F_impl_fillYields_fuel (n + 1)) := by
  refine fn_sound' (C := impl_fillYields_ctx n) (c := bodyOf Tryd.f32) (cok_of tys_ok (List.forall_mem_cons.2 ⟨impl_only_sound, List.forall_mem_cons.2 ⟨impl_dependents_sound, List.forall_mem_cons.2 ⟨impl_wordSet_list_sound, List.forall_mem_cons.2 ⟨h32, by simp⟩⟩⟩⟩) (List.forall_mem_cons.2 ⟨Tryd.call29, List.forall_mem_cons.2 ⟨Tryd.call27, List.forall_mem_cons.2 ⟨Tryd.call25, List.forall_mem_cons.2 ⟨Tryd.call32, by simp⟩⟩⟩⟩) (by kernel_rfl)) Tryd.func32 (by kernel_rfl) LL impl_fillYields_an ?_
  intro avs H r H' h
  unfold F_impl_fillYields_fuel at h
  split at h
  · refine Awp.cast ?_ ?_ ?_ (impl_fillYields_e n _ _ _ h) <;> kernel_rfl
  · simp [Ans.no, Ans.run] at h

theorem impl_fillYields_null : Sound Tryd.prog 32 (F_impl_fillYields_fuel 0) := by
  intro avs H r H' h
  unfold F_impl_fillYields_fuel at h
  split at h
  · simp [impl_fillYields_fuel, impl_fillYields_knot, Ans.run] at h
  · simp [Ans.no, Ans.run] at h

theorem impl_fillYields_knot_all : ∀ n, Sound Tryd.prog 32 (F_impl_fillYields_fuel n)
  | 0 => impl_fillYields_null
  | n + 1 => by
    have h32 := impl_fillYields_knot_all n
    exact impl_fillYields_step n h32

def F_impl_fillYields : Fun := fun avs H =>
  match avs, H with
  | [.slc 0, .dat (.list (.int .i64)) x551, .dat (.int .i64) x552], [some (.seq (.int .u64) x553)] => ⟨_, impl_fillYields x551 x552 x553, fun (t : Int × (List Int)) => (.dat (.int .u64) t.1, [some (.seq (.int .u64) t.2)])⟩
  | _, _ => Ans.no

theorem impl_fillYields_sound : Sound Tryd.prog 32 F_impl_fillYields := by
  have e : F_impl_fillYields = F_impl_fillYields_fuel RR := by
    funext avs H
    unfold F_impl_fillYields F_impl_fillYields_fuel
    split <;> first | rfl | (simp only [impl_fillYields])
  rw [e]
  exact (impl_fillYields_knot_all RR)

/-! loop.example/headtrees/impl.yieldsOf -/

def impl_yieldsOf_an : Ann := (.seq (.leaf [0]) (.seq (.leaf [0, 3]) (.seq (.leaf [3]) (.seq (.leaf [2]) (.leaf [2])))))

noncomputable def impl_yieldsOf_ctx : Ctx := ⟨tlook tys, olook [(30, F_impl_RootOf), (32, F_impl_fillYields)], ioF, 0⟩

theorem impl_yieldsOf_n1_l (x518 : List Int) : Link impl_yieldsOf_ctx LL (bodyOf Tryd.f24) impl_yieldsOf_an (⟨mkE 13 0 [(0, .dat (.list (.int .i64)) x518)], []⟩ : St) (impl_yieldsOf_n1 x518) (fun (t : (List Int)) => (Exit.ret, (⟨mkE 13 0 [(2, .slc 0)], [some (.seq (.int .u64) t)]⟩ : St))) := by
  refine Link.of fun K h => ?_
  simp only [impl_yieldsOf_n1, wpO_bind, wpO_cond, wpO_map, wpO_some] at h
  exact Awp.of (by kernel_rfl) h

theorem impl_yieldsOf_e (x518 : List Int) {r : AV} {H' : Heap} (h : (Ans.mk _ (impl_yieldsOf x518) (fun (t : (List Int)) => (.slc 0, [some (.seq (.int .u64) t)]))).run = some (r, H')) : Awp impl_yieldsOf_ctx LL (bodyOf Tryd.f24) impl_yieldsOf_an (⟨mkE 13 0 [(0, .dat (.list (.int .i64)) x518)], []⟩ : St) (Ret (tlook tys) Tryd.f24.results.toList r H') :=
  ret_of' (impl_yieldsOf_n1_l x518) (by unfold impl_yieldsOf; kernel_rfl) (by
  intro t
  exact ret_mk [.slc 0] (by kernel_rfl) (by kernel_rfl) (by kernel_rfl) (by kernel_rfl)) h

def F_impl_yieldsOf : Fun := fun avs H =>
  match avs, H with
  | [.dat (.list (.int .i64)) x518], [] => ⟨_, impl_yieldsOf x518, fun (t : (List Int)) => (.slc 0, [some (.seq (.int .u64) t)])⟩
  | _, _ => Ans.no

theorem impl_yieldsOf_sound : Sound Tryd.prog 24 F_impl_yieldsOf := by
  refine fn_sound' (C := impl_yieldsOf_ctx) (c := bodyOf Tryd.f24) (cok_of tys_ok (List.forall_mem_cons.2 ⟨impl_RootOf_sound, List.forall_mem_cons.2 ⟨impl_fillYields_sound, by simp⟩⟩) (List.forall_mem_cons.2 ⟨Tryd.call30, List.forall_mem_cons.2 ⟨Tryd.call32, by simp⟩⟩) (by kernel_rfl)) Tryd.func24 (by kernel_rfl) LL impl_yieldsOf_an ?_
  intro avs H r H' h
  unfold F_impl_yieldsOf at h
  split at h
  · refine Awp.cast ?_ ?_ ?_ (impl_yieldsOf_e _ h) <;> kernel_rfl
  · simp [Ans.no, Ans.run] at h

/-! loop.example/headtrees/impl.YieldOf -/

def impl_YieldOf_an : Ann := (.seq (.leaf [0, 1]) (.seq (.seq (.leaf [0, 1, 8]) (.cond (.seq (.leaf [4]) (.leaf [4])) (.leaf [0, 1]))) (.seq (.leaf [4]) (.leaf [4]))))

noncomputable def impl_YieldOf_ctx : Ctx := ⟨tlook tys, olook [(23, F_impl_wordOk), (24, F_impl_yieldsOf), (25, F_impl_wordSet_list)], ioF, 0⟩

theorem impl_YieldOf_n1_l (x362 : List Int) (x363 : Int) : Link impl_YieldOf_ctx LL (bodyOf Tryd.f9) impl_YieldOf_an (⟨mkE 16 0 [(0, .dat (.list (.int .i64)) x362), (1, .dat (.int .i64) x363)], []⟩ : St) (impl_YieldOf_n1 x362 x363) (fun (t : (List Int)) => (Exit.ret, (⟨mkE 16 0 [(4, .slc 0)], [some (.seq (.int .i64) t)]⟩ : St))) := by
  refine Link.of fun K h => ?_
  simp only [impl_YieldOf_n1, wpO_bind, wpO_cond, wpO_map, wpO_some] at h
  exact Awp.of (by kernel_rfl) h

theorem impl_YieldOf_e (x362 : List Int) (x363 : Int) {r : AV} {H' : Heap} (h : (Ans.mk _ (impl_YieldOf x362 x363) (fun (t : (List Int)) => (.slc 0, [some (.seq (.int .i64) t)]))).run = some (r, H')) : Awp impl_YieldOf_ctx LL (bodyOf Tryd.f9) impl_YieldOf_an (⟨mkE 16 0 [(0, .dat (.list (.int .i64)) x362), (1, .dat (.int .i64) x363)], []⟩ : St) (Ret (tlook tys) Tryd.f9.results.toList r H') :=
  ret_of' (impl_YieldOf_n1_l x362 x363) (by unfold impl_YieldOf; kernel_rfl) (by
  intro t
  exact ret_mk [.slc 0] (by kernel_rfl) (by kernel_rfl) (by kernel_rfl) (by kernel_rfl)) h

def F_impl_YieldOf : Fun := fun avs H =>
  match avs, H with
  | [.dat (.list (.int .i64)) x362, .dat (.int .i64) x363], [] => ⟨_, impl_YieldOf x362 x363, fun (t : (List Int)) => (.slc 0, [some (.seq (.int .i64) t)])⟩
  | _, _ => Ans.no

theorem impl_YieldOf_sound : Sound Tryd.prog 9 F_impl_YieldOf := by
  refine fn_sound' (C := impl_YieldOf_ctx) (c := bodyOf Tryd.f9) (cok_of tys_ok (List.forall_mem_cons.2 ⟨impl_wordOk_sound, List.forall_mem_cons.2 ⟨impl_yieldsOf_sound, List.forall_mem_cons.2 ⟨impl_wordSet_list_sound, by simp⟩⟩⟩) (List.forall_mem_cons.2 ⟨Tryd.call23, List.forall_mem_cons.2 ⟨Tryd.call24, List.forall_mem_cons.2 ⟨Tryd.call25, by simp⟩⟩⟩) (by kernel_rfl)) Tryd.func9 (by kernel_rfl) LL impl_YieldOf_an ?_
  intro avs H r H' h
  unfold F_impl_YieldOf at h
  split at h
  · refine Awp.cast ?_ ?_ ?_ (impl_YieldOf_e _ _ h) <;> kernel_rfl
  · simp [Ans.no, Ans.run] at h

/-! loop.example/headtrees/laws.eqIntS -/

def laws_eqIntS_an : Ann := (.seq (.leaf [0, 1]) (.seq (.seq (.leaf [0, 1, 10]) (.cond (.seq (.leaf [4]) (.leaf [4])) (.leaf [0, 1]))) (.seq (.seq (.leaf [0, 1, 5]) (.block (.loop (.seq (.seq (.leaf [0, 1, 5, 14]) (.cond (.leaf [0, 1, 5]) (.leaf []))) (.seq (.block (.seq (.draw [] [0, 1, 2, 3, 4, 5, 6, 7, 8] [] [0, 1, 5, 25]) (.cond (.seq (.leaf [4]) (.leaf [4])) (.leaf [0, 1, 5])))) (.leaf [0, 1, 5])))))) (.seq (.leaf [4]) (.leaf [4])))))

noncomputable def laws_eqIntS_ctx : Ctx := ⟨tlook tys, olook [], ioF, 0⟩

theorem laws_eqIntS_n1_l (x827 : List Int) (x828 : List Int) : Link laws_eqIntS_ctx LL (Code.seq (Code.fst (bodyOf Tryd.f10)) (Code.fst (Code.snd (bodyOf Tryd.f10)))) (Ann.seq (Ann.fst laws_eqIntS_an) (Ann.fst (Ann.snd laws_eqIntS_an))) (⟨mkE 26 0 [(0, .dat (.list (.int .i64)) x827), (1, .dat (.list (.int .i64)) x828)], []⟩ : St) (laws_eqIntS_n1 x827 x828) (Sum.elim (fun (t : Unit) => (Exit.normal, (⟨mkE 26 0 [(0, .dat (.list (.int .i64)) x827), (1, .dat (.list (.int .i64)) x828)], []⟩ : St))) (fun (t : Bool) => (Exit.ret, (⟨mkE 26 0 [(4, .dat .bool t)], []⟩ : St)))) := by
  refine Link.of fun K h => ?_
  simp only [laws_eqIntS_n1, wpO_bind, wpO_cond, wpO_map, wpO_some] at h
  exact Awp.of (by kernel_rfl) h

theorem laws_eqIntS_n2_l (x827 : List Int) (x828 : List Int) : Link laws_eqIntS_ctx LL (Code.fst (Code.fst (Code.snd (Code.snd (bodyOf Tryd.f10))))) (Ann.fst (Ann.fst (Ann.snd (Ann.snd laws_eqIntS_an)))) (⟨mkE 26 0 [(0, .dat (.list (.int .i64)) x827), (1, .dat (.list (.int .i64)) x828)], []⟩ : St) (laws_eqIntS_n2) (fun (t : Unit) => (Exit.normal, (⟨mkE 26 0 [(0, .dat (.list (.int .i64)) x827), (1, .dat (.list (.int .i64)) x828), (5, .dat (.int .i64) 0)], []⟩ : St))) := by
  refine Link.of fun K h => ?_
  simp only [laws_eqIntS_n2, wpO_bind, wpO_cond, wpO_map, wpO_some] at h
  exact Awp.of (by kernel_rfl) h

theorem laws_eqIntS_n3_l (x827 : List Int) (x828 : List Int) (x845 : Int) : Link laws_eqIntS_ctx LL (Code.fst (Code.fst (Code.snd (Code.fst (Code.snd (Code.snd (bodyOf Tryd.f10))))))) (Ann.fst (Ann.fst (Ann.snd (Ann.fst (Ann.snd (Ann.snd laws_eqIntS_an)))))) (⟨mkE 26 0 [(0, .dat (.list (.int .i64)) x827), (1, .dat (.list (.int .i64)) x828), (5, .dat (.int .i64) x845)], []⟩ : St) (laws_eqIntS_n3 x827 x828 x845) (Sum.elim (fun (t : Int) => (Exit.normal, (⟨mkE 26 0 [(0, .dat (.list (.int .i64)) x827), (1, .dat (.list (.int .i64)) x828), (5, .dat (.int .i64) t)], []⟩ : St))) (Sum.elim (fun (t : Bool) => (Exit.ret, (⟨mkE 26 0 [(4, .dat .bool t)], []⟩ : St))) (fun (t : Unit) => ((Exit.exit 0), (⟨mkE 26 0 [], []⟩ : St))))) := by
  refine Link.of fun K h => ?_
  simp only [laws_eqIntS_n3, wpO_bind, wpO_cond, wpO_map, wpO_some] at h
  exact Awp.of (by kernel_rfl) h

theorem laws_eqIntS_n4_l (x827 : List Int) (x828 : List Int) : Link laws_eqIntS_ctx LL (Code.fst (Code.snd (Code.fst (Code.snd (Code.snd (bodyOf Tryd.f10)))))) (Ann.fst (Ann.snd (Ann.fst (Ann.snd (Ann.snd laws_eqIntS_an))))) (⟨mkE 26 0 [(0, .dat (.list (.int .i64)) x827), (1, .dat (.list (.int .i64)) x828), (5, .dat (.int .i64) 0)], []⟩ : St) (laws_eqIntS_n4 x827 x828) (Sum.elim (fun (t : Bool) => (Exit.ret, (⟨mkE 26 0 [(4, .dat .bool t)], []⟩ : St))) (fun (t : Unit) => ((Exit.exit 0), (⟨mkE 26 0 [], []⟩ : St)))) := by
  unfold laws_eqIntS_n4
  exact Link.cast (by kernel_rfl) (by kernel_rfl) (link_loop (mk := fun (s : Int) => (⟨mkE 26 0 [(0, .dat (.list (.int .i64)) x827), (1, .dat (.list (.int .i64)) x828), (5, .dat (.int .i64) s)], []⟩ : St)) (fin := (Sum.elim (fun (t : Bool) => (Exit.ret, (⟨mkE 26 0 [(4, .dat .bool t)], []⟩ : St))) (fun (t : Unit) => ((Exit.exit 0), (⟨mkE 26 0 [], []⟩ : St))))) (by
  rintro (t | t) f K h
  · exact h
  · exact h) (fun s => link_map (laws_eqIntS_n3_l x827 x828 s) (Sum.elim (fun (t : Int) => Sum.inl t) (Sum.elim (fun (t : Bool) => Sum.inr (Sum.inl t)) (fun (t : Unit) => Sum.inr (Sum.inr t)))) (by
  rintro (t | t | t)
  · kernel_rfl
  · kernel_rfl
  · kernel_rfl)) 0)

theorem laws_eqIntS_n5_l (x827 : List Int) (x828 : List Int) : Link laws_eqIntS_ctx LL (Code.snd (Code.fst (Code.snd (Code.snd (bodyOf Tryd.f10))))) (Ann.snd (Ann.fst (Ann.snd (Ann.snd laws_eqIntS_an)))) (⟨mkE 26 0 [(0, .dat (.list (.int .i64)) x827), (1, .dat (.list (.int .i64)) x828), (5, .dat (.int .i64) 0)], []⟩ : St) (laws_eqIntS_n5 x827 x828) (Sum.elim (fun (t : Unit) => (Exit.normal, (⟨mkE 26 0 [], []⟩ : St))) (fun (t : Bool) => (Exit.ret, (⟨mkE 26 0 [(4, .dat .bool t)], []⟩ : St)))) := by
  unfold laws_eqIntS_n5
  exact Link.cast (by kernel_rfl) (by kernel_rfl) (link_block (id := 0) (laws_eqIntS_n4_l x827 x828) (Sum.elim (fun (t : Bool) => (Sum.inr t)) (fun (t : Unit) => (Sum.inl ()))) (by
  rintro (t | t) K h
  · exact Eq.mp (by kernel_rfl) h
  · exact Eq.mp (by kernel_rfl) h))

theorem laws_eqIntS_n6_l (x827 : List Int) (x828 : List Int) : Link laws_eqIntS_ctx LL (Code.fst (Code.snd (Code.snd (bodyOf Tryd.f10)))) (Ann.fst (Ann.snd (Ann.snd laws_eqIntS_an))) (⟨mkE 26 0 [(0, .dat (.list (.int .i64)) x827), (1, .dat (.list (.int .i64)) x828)], []⟩ : St) (laws_eqIntS_n6 x827 x828) (Sum.elim (fun (t : Unit) => (Exit.normal, (⟨mkE 26 0 [], []⟩ : St))) (fun (t : Bool) => (Exit.ret, (⟨mkE 26 0 [(4, .dat .bool t)], []⟩ : St)))) := by
  unfold laws_eqIntS_n6
  exact Link.cast (by kernel_rfl) (by kernel_rfl) (link_seq (b := (Code.snd (Code.fst (Code.snd (Code.snd (bodyOf Tryd.f10)))))) (y := (Ann.snd (Ann.fst (Ann.snd (Ann.snd laws_eqIntS_an))))) (laws_eqIntS_n2_l x827 x828) (fun (t : Unit) => (laws_eqIntS_n5_l x827 x828)))

theorem laws_eqIntS_n7_l : Link laws_eqIntS_ctx LL (Code.snd (Code.snd (Code.snd (bodyOf Tryd.f10)))) (Ann.snd (Ann.snd (Ann.snd laws_eqIntS_an))) (⟨mkE 26 0 [], []⟩ : St) (laws_eqIntS_n7) (fun (t : Bool) => (Exit.ret, (⟨mkE 26 0 [(4, .dat .bool t)], []⟩ : St))) := by
  refine Link.of fun K h => ?_
  simp only [laws_eqIntS_n7, wpO_bind, wpO_cond, wpO_map, wpO_some] at h
  exact Awp.of (by kernel_rfl) h

theorem laws_eqIntS_n8_l (x827 : List Int) (x828 : List Int) : Link laws_eqIntS_ctx LL (Code.snd (Code.snd (bodyOf Tryd.f10))) (Ann.snd (Ann.snd laws_eqIntS_an)) (⟨mkE 26 0 [(0, .dat (.list (.int .i64)) x827), (1, .dat (.list (.int .i64)) x828)], []⟩ : St) (laws_eqIntS_n8 x827 x828) (fun (t : Bool) => (Exit.ret, (⟨mkE 26 0 [(4, .dat .bool t)], []⟩ : St))) := by
  unfold laws_eqIntS_n8
  exact Link.cast (by kernel_rfl) (by kernel_rfl) (link_seq2 (b := (Code.snd (Code.snd (Code.snd (bodyOf Tryd.f10))))) (y := (Ann.snd (Ann.snd (Ann.snd laws_eqIntS_an)))) (laws_eqIntS_n6_l x827 x828) (fun (t : Unit) => (laws_eqIntS_n7_l)) (fun (t : Bool) => t) (by
  rintro t
  · kernel_rfl) (by
  rintro t f K h
  · exact h))

theorem laws_eqIntS_n9_l (x827 : List Int) (x828 : List Int) : Link laws_eqIntS_ctx LL (bodyOf Tryd.f10) laws_eqIntS_an (⟨mkE 26 0 [(0, .dat (.list (.int .i64)) x827), (1, .dat (.list (.int .i64)) x828)], []⟩ : St) (laws_eqIntS_n9 x827 x828) (fun (t : Bool) => (Exit.ret, (⟨mkE 26 0 [(4, .dat .bool t)], []⟩ : St))) := by
  unfold laws_eqIntS_n9
  exact Link.cast (by kernel_rfl) (by kernel_rfl) (link_group (c := (Code.fst (Code.snd (bodyOf Tryd.f10)))) (a := (Ann.fst (Ann.snd laws_eqIntS_an))) [(Code.fst (bodyOf Tryd.f10))] [(Ann.fst laws_eqIntS_an)] rfl (link_seq2 (b := (Code.snd (Code.snd (bodyOf Tryd.f10)))) (y := (Ann.snd (Ann.snd laws_eqIntS_an))) (laws_eqIntS_n1_l x827 x828) (fun (t : Unit) => (laws_eqIntS_n8_l x827 x828)) (fun (t : Bool) => t) (by
  rintro t
  · kernel_rfl) (by
  rintro t f K h
  · exact h)))

theorem laws_eqIntS_e (x827 : List Int) (x828 : List Int) {r : AV} {H' : Heap} (h : (Ans.mk _ (laws_eqIntS x827 x828) (fun (t : Bool) => (.dat .bool t, []))).run = some (r, H')) : Awp laws_eqIntS_ctx LL (bodyOf Tryd.f10) laws_eqIntS_an (⟨mkE 26 0 [(0, .dat (.list (.int .i64)) x827), (1, .dat (.list (.int .i64)) x828)], []⟩ : St) (Ret (tlook tys) Tryd.f10.results.toList r H') :=
  ret_of' (laws_eqIntS_n9_l x827 x828) (by unfold laws_eqIntS; kernel_rfl) (by
  intro t
  exact ret_mk [.dat .bool t] (by kernel_rfl) (by kernel_rfl) (by kernel_rfl) (by kernel_rfl)) h

def F_laws_eqIntS : Fun := fun avs H =>
  match avs, H with
  | [.dat (.list (.int .i64)) x827, .dat (.list (.int .i64)) x828], [] => ⟨_, laws_eqIntS x827 x828, fun (t : Bool) => (.dat .bool t, [])⟩
  | _, _ => Ans.no

theorem laws_eqIntS_sound : Sound Tryd.prog 10 F_laws_eqIntS := by
  refine fn_sound' (C := laws_eqIntS_ctx) (c := bodyOf Tryd.f10) (cok_of tys_ok (by simp) (by simp) (by kernel_rfl)) Tryd.func10 (by kernel_rfl) LL laws_eqIntS_an ?_
  intro avs H r H' h
  unfold F_laws_eqIntS at h
  split at h
  · refine Awp.cast ?_ ?_ ?_ (laws_eqIntS_e _ _ h) <;> kernel_rfl
  · simp [Ans.no, Ans.run] at h

/-! loop.example/headtrees/laws.markIntS -/

def laws_markIntS_an : Ann := (.seq (.leaf [0, 1]) (.seq (.seq (.leaf [0, 1, 5]) (.block (.loop (.seq (.seq (.leaf [0, 1, 5, 9]) (.cond (.leaf [0, 1, 5]) (.leaf [1]))) (.seq (.block (.seq (.leaf [0, 1, 5]) (.leaf [0, 1, 5]))) (.leaf [0, 1, 5])))))) (.seq (.leaf [4]) (.leaf [4]))))

noncomputable def laws_markIntS_ctx : Ctx := ⟨tlook tys, olook [], ioF, 1⟩

theorem laws_markIntS_n1_l (x895 : Int) (x896 : List Int) : Link laws_markIntS_ctx LL (Code.fst (bodyOf Tryd.f11)) (Ann.fst laws_markIntS_an) (⟨mkE 19 0 [(0, .slc 0), (1, .dat (.int .i64) x895)], [some (.seq (.int .i64) x896)]⟩ : St) (laws_markIntS_n1) (fun (t : Unit) => (Exit.normal, (⟨mkE 19 0 [(0, .slc 0), (1, .dat (.int .i64) x895)], [some (.seq (.int .i64) x896)]⟩ : St))) := by
  refine Link.of fun K h => ?_
  simp only [laws_markIntS_n1, wpO_bind, wpO_cond, wpO_map, wpO_some] at h
  exact Awp.of (by kernel_rfl) h

end Go.Rv
