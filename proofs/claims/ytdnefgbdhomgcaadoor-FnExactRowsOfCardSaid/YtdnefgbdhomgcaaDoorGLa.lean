/-
  The checked code answers as the plain functions do; written by program. Conditions: none.
-/
import Derived.Test.YtdnefgbdhomgcaaDoorGN
import Derived.Test.YtdnefgbdhomgcaaDoorProg
set_option linter.unusedVariables false
set_option linter.unusedSimpArgs false
set_option maxRecDepth 100000
namespace Go.Rv
open Go.Proofs
theorem ty3 : TIOk Tryd.prog 3 ⟨.int .i64, 1, 8, some (.int .i64), [.int .i64 0]⟩ := ⟨⟨infoOf (Tryd.prog.info? 3), by kernel_rfl, by kernel_rfl, by kernel_rfl, .int .i64 0, by kernel_rfl, by kernel_rfl⟩, (by kernel_rfl : Tryd.prog.underlying 3 = some (.int .i64))⟩
theorem ty5 : TIOk Tryd.prog 5 ⟨.int .u8, 1, 1, some (.int .u8), [.int .u8 0]⟩ := ⟨⟨infoOf (Tryd.prog.info? 5), by kernel_rfl, by kernel_rfl, by kernel_rfl, .int .u8 0, by kernel_rfl, by kernel_rfl⟩, (by kernel_rfl : Tryd.prog.underlying 5 = some (.int .u8))⟩
theorem ty22 : TIOk Tryd.prog 22 ⟨.slice 3, 1, 24, some (.list (.int .i64)), [.slice none 0 0]⟩ := ⟨⟨infoOf (Tryd.prog.info? 22), by kernel_rfl, by kernel_rfl, by kernel_rfl, .slice none 0 0, by kernel_rfl, by kernel_rfl⟩, (by kernel_rfl : Tryd.prog.underlying 22 = some (.slice 3))⟩
theorem ty23 : TIOk Tryd.prog 23 ⟨.slice 22, 1, 24, some (.list (.list (.int .i64))), [.slice none 0 0]⟩ := ⟨⟨infoOf (Tryd.prog.info? 23), by kernel_rfl, by kernel_rfl, by kernel_rfl, .slice none 0 0, by kernel_rfl, by kernel_rfl⟩, (by kernel_rfl : Tryd.prog.underlying 23 = some (.slice 22))⟩
theorem ty33 : TIOk Tryd.prog 33 ⟨.int .u64, 1, 8, some (.int .u64), [.int .u64 0]⟩ := ⟨⟨infoOf (Tryd.prog.info? 33), by kernel_rfl, by kernel_rfl, by kernel_rfl, .int .u64 0, by kernel_rfl, by kernel_rfl⟩, (by kernel_rfl : Tryd.prog.underlying 33 = some (.int .u64))⟩
theorem ty34 : TIOk Tryd.prog 34 ⟨.slice 33, 1, 24, some (.list (.int .u64)), [.slice none 0 0]⟩ := ⟨⟨infoOf (Tryd.prog.info? 34), by kernel_rfl, by kernel_rfl, by kernel_rfl, .slice none 0 0, by kernel_rfl, by kernel_rfl⟩, (by kernel_rfl : Tryd.prog.underlying 34 = some (.slice 33))⟩
theorem ty50 : TIOk Tryd.prog 50 ⟨.strct [(0, 22), (1, 3), (2, 3)], 3, 40, some (.pair (.list (.int .i64)) (.pair (.int .i64) (.pair (.int .i64) .unit))), [.slice none 0 0, .int .i64 0, .int .i64 0]⟩ := ⟨⟨infoOf (Tryd.prog.info? 50), by kernel_rfl, by kernel_rfl, by kernel_rfl, .agg #[.slice none 0 0, .int .i64 0, .int .i64 0], by kernel_rfl, by kernel_rfl⟩, ⟨fieldsOf (Tryd.prog.underlying 50), by kernel_rfl, by kernel_rfl⟩⟩
theorem ty55 : TIOk Tryd.prog 55 ⟨.int .u64, 1, 8, some (.int .u64), [.int .u64 0]⟩ := ⟨⟨infoOf (Tryd.prog.info? 55), by kernel_rfl, by kernel_rfl, by kernel_rfl, .int .u64 0, by kernel_rfl, by kernel_rfl⟩, (by kernel_rfl : Tryd.prog.underlying 55 = some (.int .u64))⟩
theorem ty58 : TIOk Tryd.prog 58 ⟨.arr 64 5, 64, 64, none, [.int .u8 0, .int .u8 0, .int .u8 0, .int .u8 0, .int .u8 0, .int .u8 0, .int .u8 0, .int .u8 0, .int .u8 0, .int .u8 0, .int .u8 0, .int .u8 0, .int .u8 0, .int .u8 0, .int .u8 0, .int .u8 0, .int .u8 0, .int .u8 0, .int .u8 0, .int .u8 0, .int .u8 0, .int .u8 0, .int .u8 0, .int .u8 0, .int .u8 0, .int .u8 0, .int .u8 0, .int .u8 0, .int .u8 0, .int .u8 0, .int .u8 0, .int .u8 0, .int .u8 0, .int .u8 0, .int .u8 0, .int .u8 0, .int .u8 0, .int .u8 0, .int .u8 0, .int .u8 0, .int .u8 0, .int .u8 0, .int .u8 0, .int .u8 0, .int .u8 0, .int .u8 0, .int .u8 0, .int .u8 0, .int .u8 0, .int .u8 0, .int .u8 0, .int .u8 0, .int .u8 0, .int .u8 0, .int .u8 0, .int .u8 0, .int .u8 0, .int .u8 0, .int .u8 0, .int .u8 0, .int .u8 0, .int .u8 0, .int .u8 0, .int .u8 0]⟩ := ⟨⟨infoOf (Tryd.prog.info? 58), by kernel_rfl, by kernel_rfl, by kernel_rfl, .agg #[.int .u8 0, .int .u8 0, .int .u8 0, .int .u8 0, .int .u8 0, .int .u8 0, .int .u8 0, .int .u8 0, .int .u8 0, .int .u8 0, .int .u8 0, .int .u8 0, .int .u8 0, .int .u8 0, .int .u8 0, .int .u8 0, .int .u8 0, .int .u8 0, .int .u8 0, .int .u8 0, .int .u8 0, .int .u8 0, .int .u8 0, .int .u8 0, .int .u8 0, .int .u8 0, .int .u8 0, .int .u8 0, .int .u8 0, .int .u8 0, .int .u8 0, .int .u8 0, .int .u8 0, .int .u8 0, .int .u8 0, .int .u8 0, .int .u8 0, .int .u8 0, .int .u8 0, .int .u8 0, .int .u8 0, .int .u8 0, .int .u8 0, .int .u8 0, .int .u8 0, .int .u8 0, .int .u8 0, .int .u8 0, .int .u8 0, .int .u8 0, .int .u8 0, .int .u8 0, .int .u8 0, .int .u8 0, .int .u8 0, .int .u8 0, .int .u8 0, .int .u8 0, .int .u8 0, .int .u8 0, .int .u8 0, .int .u8 0, .int .u8 0, .int .u8 0], by kernel_rfl, by kernel_rfl⟩, (by kernel_rfl : Tryd.prog.underlying 58 = some (.array 64 5))⟩
def tys : List (TypeId × TI) := [(3, ⟨.int .i64, 1, 8, some (.int .i64), [.int .i64 0]⟩), (5, ⟨.int .u8, 1, 1, some (.int .u8), [.int .u8 0]⟩), (22, ⟨.slice 3, 1, 24, some (.list (.int .i64)), [.slice none 0 0]⟩), (23, ⟨.slice 22, 1, 24, some (.list (.list (.int .i64))), [.slice none 0 0]⟩), (33, ⟨.int .u64, 1, 8, some (.int .u64), [.int .u64 0]⟩), (34, ⟨.slice 33, 1, 24, some (.list (.int .u64)), [.slice none 0 0]⟩), (50, ⟨.strct [(0, 22), (1, 3), (2, 3)], 3, 40, some (.pair (.list (.int .i64)) (.pair (.int .i64) (.pair (.int .i64) .unit))), [.slice none 0 0, .int .i64 0, .int .i64 0]⟩), (55, ⟨.int .u64, 1, 8, some (.int .u64), [.int .u64 0]⟩), (58, ⟨.arr 64 5, 64, 64, none, [.int .u8 0, .int .u8 0, .int .u8 0, .int .u8 0, .int .u8 0, .int .u8 0, .int .u8 0, .int .u8 0, .int .u8 0, .int .u8 0, .int .u8 0, .int .u8 0, .int .u8 0, .int .u8 0, .int .u8 0, .int .u8 0, .int .u8 0, .int .u8 0, .int .u8 0, .int .u8 0, .int .u8 0, .int .u8 0, .int .u8 0, .int .u8 0, .int .u8 0, .int .u8 0, .int .u8 0, .int .u8 0, .int .u8 0, .int .u8 0, .int .u8 0, .int .u8 0, .int .u8 0, .int .u8 0, .int .u8 0, .int .u8 0, .int .u8 0, .int .u8 0, .int .u8 0, .int .u8 0, .int .u8 0, .int .u8 0, .int .u8 0, .int .u8 0, .int .u8 0, .int .u8 0, .int .u8 0, .int .u8 0, .int .u8 0, .int .u8 0, .int .u8 0, .int .u8 0, .int .u8 0, .int .u8 0, .int .u8 0, .int .u8 0, .int .u8 0, .int .u8 0, .int .u8 0, .int .u8 0, .int .u8 0, .int .u8 0, .int .u8 0, .int .u8 0]⟩)]
theorem tys_ok : TOk Tryd.prog (tlook tys) := tok_of (List.forall_mem_cons.2 ⟨ty3, List.forall_mem_cons.2 ⟨ty5, List.forall_mem_cons.2 ⟨ty22, List.forall_mem_cons.2 ⟨ty23, List.forall_mem_cons.2 ⟨ty33, List.forall_mem_cons.2 ⟨ty34, List.forall_mem_cons.2 ⟨ty50, List.forall_mem_cons.2 ⟨ty55, List.forall_mem_cons.2 ⟨ty58, by simp⟩⟩⟩⟩⟩⟩⟩⟩⟩)
def ioF (f : FuncId) (i : Nat) : Bool := [(9, 0), (10, 0), (24, 0)].any fun (p : Nat × Nat) => Nat.beq p.1 f && Nat.beq p.2 i

/-! loop.example/headtrees/laws.toIntS -/

def laws_toIntS_an : Ann := (.seq (.leaf [0]) (.seq (.leaf [0, 3]) (.seq (.seq (.leaf [0, 3, 4]) (.block (.loop (.seq (.seq (.leaf [0, 3, 4, 11]) (.cond (.leaf [0, 3, 4]) (.leaf [3]))) (.seq (.block (.leaf [0, 3, 4])) (.leaf [0, 3, 4])))))) (.seq (.leaf [2]) (.leaf [2])))))

noncomputable def laws_toIntS_ctx : Ctx := ⟨tlook tys, olook [], ioF, 0, false⟩

theorem laws_toIntS_n1_l (x1305 : List Int) : Link laws_toIntS_ctx LL (Code.seq (Code.fst (bodyOf Tryd.f5)) (Code.fst (Code.snd (bodyOf Tryd.f5)))) (Ann.seq (Ann.fst laws_toIntS_an) (Ann.fst (Ann.snd laws_toIntS_an))) (⟨mkE 22 0 [(0, .dat (.list (.int .i64)) x1305)], []⟩ : St) (laws_toIntS_n1 x1305) (fun (t : (List Int)) => (Exit.normal, (⟨mkE 22 0 [(0, .dat (.list (.int .i64)) x1305), (3, .slc 0)], [some (.seq (.int .i64) t)]⟩ : St))) := by
  refine Link.of fun K h => ?_
  simp only [laws_toIntS_n1, wpO_bind, wpO_cond, wpO_map, wpO_some] at h
  exact Awp.of (by kernel_rfl) h

theorem laws_toIntS_n2_l (x1305 : List Int) (x1308 : List Int) : Link laws_toIntS_ctx LL (Code.fst (Code.fst (Code.snd (Code.snd (bodyOf Tryd.f5))))) (Ann.fst (Ann.fst (Ann.snd (Ann.snd laws_toIntS_an)))) (⟨mkE 22 0 [(0, .dat (.list (.int .i64)) x1305), (3, .slc 0)], [some (.seq (.int .i64) x1308)]⟩ : St) (laws_toIntS_n2) (fun (t : Unit) => (Exit.normal, (⟨mkE 22 0 [(0, .dat (.list (.int .i64)) x1305), (3, .slc 0), (4, .dat (.int .i64) 0)], [some (.seq (.int .i64) x1308)]⟩ : St))) := by
  refine Link.of fun K h => ?_
  simp only [laws_toIntS_n2, wpO_bind, wpO_cond, wpO_map, wpO_some] at h
  exact Awp.of (by kernel_rfl) h

theorem laws_toIntS_n3_l (x1305 : List Int) (x1322 : Int) (x1323 : List Int) : Link laws_toIntS_ctx LL (Code.fst (Code.fst (Code.snd (Code.fst (Code.snd (Code.snd (bodyOf Tryd.f5))))))) (Ann.fst (Ann.fst (Ann.snd (Ann.fst (Ann.snd (Ann.snd laws_toIntS_an)))))) (⟨mkE 22 0 [(0, .dat (.list (.int .i64)) x1305), (3, .slc 0), (4, .dat (.int .i64) x1322)], [some (.seq (.int .i64) x1323)]⟩ : St) (laws_toIntS_n3 x1305 x1322 x1323) (Sum.elim (fun (t : Int × (List Int)) => (Exit.normal, (⟨mkE 22 0 [(0, .dat (.list (.int .i64)) x1305), (3, .slc 0), (4, .dat (.int .i64) t.1)], [some (.seq (.int .i64) t.2)]⟩ : St))) (fun (t : (List Int)) => ((Exit.exit 0), (⟨mkE 22 0 [(3, .slc 0)], [some (.seq (.int .i64) t)]⟩ : St)))) := by
  refine Link.of fun K h => ?_
  simp only [laws_toIntS_n3, wpO_bind, wpO_cond, wpO_map, wpO_some] at h
  exact Awp.of (by kernel_rfl) h

theorem laws_toIntS_n4_l (x1305 : List Int) (x1308 : List Int) : Link laws_toIntS_ctx LL (Code.fst (Code.snd (Code.fst (Code.snd (Code.snd (bodyOf Tryd.f5)))))) (Ann.fst (Ann.snd (Ann.fst (Ann.snd (Ann.snd laws_toIntS_an))))) (⟨mkE 22 0 [(0, .dat (.list (.int .i64)) x1305), (3, .slc 0), (4, .dat (.int .i64) 0)], [some (.seq (.int .i64) x1308)]⟩ : St) (laws_toIntS_n4 x1305 x1308) (fun (t : (List Int)) => ((Exit.exit 0), (⟨mkE 22 0 [(3, .slc 0)], [some (.seq (.int .i64) t)]⟩ : St))) := by
  unfold laws_toIntS_n4
  exact Link.cast (by kernel_rfl) (by kernel_rfl) (link_loop (mk := fun (s : Int × (List Int)) => (⟨mkE 22 0 [(0, .dat (.list (.int .i64)) x1305), (3, .slc 0), (4, .dat (.int .i64) s.1)], [some (.seq (.int .i64) s.2)]⟩ : St)) (fin := (fun (t : (List Int)) => ((Exit.exit 0), (⟨mkE 22 0 [(3, .slc 0)], [some (.seq (.int .i64) t)]⟩ : St)))) (by
  rintro t f K h
  · exact h) (fun s => link_map (laws_toIntS_n3_l x1305 s.1 s.2) (Sum.elim (fun (t : Int × (List Int)) => Sum.inl (t.1, t.2)) (fun (t : (List Int)) => Sum.inr t)) (by
  rintro (t | t)
  · kernel_rfl
  · kernel_rfl)) (0, x1308))

theorem laws_toIntS_n5_l (x1305 : List Int) (x1308 : List Int) : Link laws_toIntS_ctx LL (Code.snd (Code.fst (Code.snd (Code.snd (bodyOf Tryd.f5))))) (Ann.snd (Ann.fst (Ann.snd (Ann.snd laws_toIntS_an)))) (⟨mkE 22 0 [(0, .dat (.list (.int .i64)) x1305), (3, .slc 0), (4, .dat (.int .i64) 0)], [some (.seq (.int .i64) x1308)]⟩ : St) (laws_toIntS_n5 x1305 x1308) (fun (t : (List Int)) => (Exit.normal, (⟨mkE 22 0 [(3, .slc 0)], [some (.seq (.int .i64) t)]⟩ : St))) := by
  unfold laws_toIntS_n5
  exact Link.cast (by kernel_rfl) (by kernel_rfl) (link_block (id := 0) (laws_toIntS_n4_l x1305 x1308) (fun (t : (List Int)) => t) (by
  rintro t K h
  · exact Eq.mp (by kernel_rfl) h))

theorem laws_toIntS_n6_l (x1305 : List Int) (x1308 : List Int) : Link laws_toIntS_ctx LL (Code.fst (Code.snd (Code.snd (bodyOf Tryd.f5)))) (Ann.fst (Ann.snd (Ann.snd laws_toIntS_an))) (⟨mkE 22 0 [(0, .dat (.list (.int .i64)) x1305), (3, .slc 0)], [some (.seq (.int .i64) x1308)]⟩ : St) (laws_toIntS_n6 x1305 x1308) (fun (t : (List Int)) => (Exit.normal, (⟨mkE 22 0 [(3, .slc 0)], [some (.seq (.int .i64) t)]⟩ : St))) := by
  unfold laws_toIntS_n6
  exact Link.cast (by kernel_rfl) (by kernel_rfl) (link_seq (b := (Code.snd (Code.fst (Code.snd (Code.snd (bodyOf Tryd.f5)))))) (y := (Ann.snd (Ann.fst (Ann.snd (Ann.snd laws_toIntS_an))))) (laws_toIntS_n2_l x1305 x1308) (fun (t : Unit) => (laws_toIntS_n5_l x1305 x1308)))

theorem laws_toIntS_n7_l (x1323 : List Int) : Link laws_toIntS_ctx LL (Code.snd (Code.snd (Code.snd (bodyOf Tryd.f5)))) (Ann.snd (Ann.snd (Ann.snd laws_toIntS_an))) (⟨mkE 22 0 [(3, .slc 0)], [some (.seq (.int .i64) x1323)]⟩ : St) (laws_toIntS_n7 x1323) (fun (t : (List Int)) => (Exit.ret, (⟨mkE 22 0 [(2, .slc 0)], [some (.seq (.int .i64) t)]⟩ : St))) := by
  refine Link.of fun K h => ?_
  simp only [laws_toIntS_n7, wpO_bind, wpO_cond, wpO_map, wpO_some] at h
  exact Awp.of (by kernel_rfl) h

theorem laws_toIntS_n8_l (x1305 : List Int) (x1308 : List Int) : Link laws_toIntS_ctx LL (Code.snd (Code.snd (bodyOf Tryd.f5))) (Ann.snd (Ann.snd laws_toIntS_an)) (⟨mkE 22 0 [(0, .dat (.list (.int .i64)) x1305), (3, .slc 0)], [some (.seq (.int .i64) x1308)]⟩ : St) (laws_toIntS_n8 x1305 x1308) (fun (t : (List Int)) => (Exit.ret, (⟨mkE 22 0 [(2, .slc 0)], [some (.seq (.int .i64) t)]⟩ : St))) := by
  unfold laws_toIntS_n8
  exact Link.cast (by kernel_rfl) (by kernel_rfl) (link_seq (b := (Code.snd (Code.snd (Code.snd (bodyOf Tryd.f5))))) (y := (Ann.snd (Ann.snd (Ann.snd laws_toIntS_an)))) (laws_toIntS_n6_l x1305 x1308) (fun (t : (List Int)) => (laws_toIntS_n7_l t)))

theorem laws_toIntS_n9_l (x1305 : List Int) : Link laws_toIntS_ctx LL (bodyOf Tryd.f5) laws_toIntS_an (⟨mkE 22 0 [(0, .dat (.list (.int .i64)) x1305)], []⟩ : St) (laws_toIntS_n9 x1305) (fun (t : (List Int)) => (Exit.ret, (⟨mkE 22 0 [(2, .slc 0)], [some (.seq (.int .i64) t)]⟩ : St))) := by
  unfold laws_toIntS_n9
  exact Link.cast (by kernel_rfl) (by kernel_rfl) (link_group (c := (Code.fst (Code.snd (bodyOf Tryd.f5)))) (a := (Ann.fst (Ann.snd laws_toIntS_an))) [(Code.fst (bodyOf Tryd.f5))] [(Ann.fst laws_toIntS_an)] rfl (link_seq (b := (Code.snd (Code.snd (bodyOf Tryd.f5)))) (y := (Ann.snd (Ann.snd laws_toIntS_an))) (laws_toIntS_n1_l x1305) (fun (t : (List Int)) => (laws_toIntS_n8_l x1305 t))))

theorem laws_toIntS_e (x1305 : List Int) {r : AV} {H' : Heap} (h : (Ans.mk _ (laws_toIntS x1305) (fun (t : (List Int)) => (.slc 0, [some (.seq (.int .i64) t)]))).run = some (r, H')) : Awp laws_toIntS_ctx LL (bodyOf Tryd.f5) laws_toIntS_an (⟨mkE 22 0 [(0, .dat (.list (.int .i64)) x1305)], []⟩ : St) (Ret (tlook tys) Tryd.f5.results.toList r H') :=
  ret_of' (laws_toIntS_n9_l x1305) (by unfold laws_toIntS; kernel_rfl) (by
  intro t
  exact ret_mk [.slc 0] (by kernel_rfl) (by kernel_rfl) (by kernel_rfl) (by kernel_rfl)) h

def F_laws_toIntS : Fun := fun avs H =>
  match avs, H with
  | [.dat (.list (.int .i64)) x1305], [] => ⟨_, laws_toIntS x1305, fun (t : (List Int)) => (.slc 0, [some (.seq (.int .i64) t)])⟩
  | _, _ => Ans.no

theorem laws_toIntS_sound : Sound Tryd.prog 5 F_laws_toIntS := by
  refine fn_sound' (C := laws_toIntS_ctx) (c := bodyOf Tryd.f5) (cok_of tys_ok (by simp) (by simp) (by kernel_rfl)) Tryd.func5 (by kernel_rfl) LL laws_toIntS_an ?_
  intro avs H r H' h
  unfold F_laws_toIntS at h
  split at h
  · refine Awp.cast ?_ ?_ ?_ (laws_toIntS_e _ h) <;> kernel_rfl
  · simp [Ans.no, Ans.run] at h

/-! loop.example/headtrees/spec.l1In -/

def spec_l1In_an : Ann := (.seq (.leaf [0, 1, 2]) (.seq (.leaf [6]) (.leaf [6])))

noncomputable def spec_l1In_ctx : Ctx := ⟨tlook tys, olook [], ioF, 0, false⟩

theorem spec_l1In_n1_l (x1345 : Int) (x1346 : Int) (x1347 : Int) : Link spec_l1In_ctx LL (bodyOf Tryd.f20) spec_l1In_an (⟨mkE 15 0 [(0, .dat (.int .i64) x1345), (1, .dat (.int .i64) x1346), (2, .dat (.int .i64) x1347)], []⟩ : St) (spec_l1In_n1 x1345 x1346 x1347) (fun (t : Bool) => (Exit.ret, (⟨mkE 15 0 [(6, .dat .bool t)], []⟩ : St))) := by
  refine Link.of fun K h => ?_
  simp only [spec_l1In_n1, wpO_bind, wpO_cond, wpO_map, wpO_some] at h
  exact Awp.of (by kernel_rfl) h

theorem spec_l1In_e (x1345 : Int) (x1346 : Int) (x1347 : Int) {r : AV} {H' : Heap} (h : (Ans.mk _ (spec_l1In x1345 x1346 x1347) (fun (t : Bool) => (.dat .bool t, []))).run = some (r, H')) : Awp spec_l1In_ctx LL (bodyOf Tryd.f20) spec_l1In_an (⟨mkE 15 0 [(0, .dat (.int .i64) x1345), (1, .dat (.int .i64) x1346), (2, .dat (.int .i64) x1347)], []⟩ : St) (Ret (tlook tys) Tryd.f20.results.toList r H') :=
  ret_of' (spec_l1In_n1_l x1345 x1346 x1347) (by unfold spec_l1In; kernel_rfl) (by
  intro t
  exact ret_mk [.dat .bool t] (by kernel_rfl) (by kernel_rfl) (by kernel_rfl) (by kernel_rfl)) h

def F_spec_l1In : Fun := fun avs H =>
  match avs, H with
  | [.dat (.int .i64) x1345, .dat (.int .i64) x1346, .dat (.int .i64) x1347], [] => ⟨_, spec_l1In x1345 x1346 x1347, fun (t : Bool) => (.dat .bool t, [])⟩
  | _, _ => Ans.no

theorem spec_l1In_sound : Sound Tryd.prog 20 F_spec_l1In := by
  refine fn_sound' (C := spec_l1In_ctx) (c := bodyOf Tryd.f20) (cok_of tys_ok (by simp) (by simp) (by kernel_rfl)) Tryd.func20 (by kernel_rfl) LL spec_l1In_an ?_
  intro avs H r H' h
  unfold F_spec_l1In at h
  split at h
  · refine Awp.cast ?_ ?_ ?_ (spec_l1In_e _ _ _ h) <;> kernel_rfl
  · simp [Ans.no, Ans.run] at h

/-! loop.example/headtrees/spec.TreeOk -/

def spec_TreeOk_an : Ann := (.seq (.leaf [0]) (.seq (.leaf [0, 3]) (.seq (.seq (.leaf [0, 3, 12]) (.cond (.seq (.leaf [2]) (.leaf [2])) (.leaf [0, 3]))) (.seq (.leaf [0, 3, 4]) (.seq (.seq (.leaf [0, 3, 4, 5]) (.block (.loop (.seq (.seq (.leaf [0, 3, 4, 5, 15]) (.cond (.leaf [0, 3, 4, 5]) (.leaf [4]))) (.seq (.block (.seq (.seq (.leaf [0, 3, 4, 5, 33]) (.cond (.seq (.leaf [2]) (.leaf [2])) (.leaf [0, 3, 4, 5]))) (.seq (.seq (.leaf [0, 3, 4, 5, 38]) (.cond (.leaf [0, 3, 4, 5]) (.leaf [0, 3, 4, 5]))) (.seq (.leaf [0, 3, 4, 5, 6]) (.seq (.seq (.leaf [0, 3, 4, 5, 6, 7]) (.block (.loop (.seq (.seq (.leaf [0, 3, 4, 5, 6, 7, 49]) (.cond (.leaf [0, 3, 4, 5, 6, 7]) (.leaf [0, 3, 4, 5, 6]))) (.seq (.block (.seq (.leaf [0, 3, 4, 5, 6, 7]) (.seq (.leaf [0, 3, 4, 5, 6, 7, 60]) (.cond (.seq (.leaf [2]) (.leaf [2])) (.leaf [0, 3, 4, 5, 6, 7]))))) (.leaf [0, 3, 4, 5, 6, 7])))))) (.seq (.leaf [0, 3, 4, 5, 62]) (.cond (.seq (.leaf [2]) (.leaf [2])) (.leaf [0, 3, 4, 5])))))))) (.leaf [0, 3, 4, 5])))))) (.seq (.leaf [2]) (.leaf [2])))))))

noncomputable def spec_TreeOk_ctx : Ctx := ⟨tlook tys, olook [(20, F_spec_l1In)], ioF, 0, false⟩

theorem spec_TreeOk_n1_l (x1342 : List Int) : Link spec_TreeOk_ctx LL (Code.seq (Code.fst (bodyOf Tryd.f19)) (Code.seq (Code.fst (Code.snd (bodyOf Tryd.f19))) (Code.seq (Code.fst (Code.snd (Code.snd (bodyOf Tryd.f19)))) (Code.fst (Code.snd (Code.snd (Code.snd (bodyOf Tryd.f19)))))))) (Ann.seq (Ann.fst spec_TreeOk_an) (Ann.seq (Ann.fst (Ann.snd spec_TreeOk_an)) (Ann.seq (Ann.fst (Ann.snd (Ann.snd spec_TreeOk_an))) (Ann.fst (Ann.snd (Ann.snd (Ann.snd spec_TreeOk_an))))))) (⟨mkE 65 0 [(0, .dat (.list (.int .i64)) x1342)], []⟩ : St) (spec_TreeOk_n1 x1342) (Sum.elim (fun (t : Int) => (Exit.normal, (⟨mkE 65 0 [(0, .dat (.list (.int .i64)) x1342), (3, .dat (.int .i64) t), (4, .dat (.int .i64) 0)], []⟩ : St))) (fun (t : Bool) => (Exit.ret, (⟨mkE 65 0 [(2, .dat .bool t)], []⟩ : St)))) := by
  refine Link.of fun K h => ?_
  simp only [spec_TreeOk_n1, wpO_bind, wpO_cond, wpO_map, wpO_some] at h
  exact Awp.of (by kernel_rfl) h

theorem spec_TreeOk_n2_l (x1342 : List Int) (x1355 : Int) : Link spec_TreeOk_ctx LL (Code.fst (Code.fst (Code.snd (Code.snd (Code.snd (Code.snd (bodyOf Tryd.f19))))))) (Ann.fst (Ann.fst (Ann.snd (Ann.snd (Ann.snd (Ann.snd spec_TreeOk_an)))))) (⟨mkE 65 0 [(0, .dat (.list (.int .i64)) x1342), (3, .dat (.int .i64) x1355), (4, .dat (.int .i64) 0)], []⟩ : St) (spec_TreeOk_n2) (fun (t : Unit) => (Exit.normal, (⟨mkE 65 0 [(0, .dat (.list (.int .i64)) x1342), (3, .dat (.int .i64) x1355), (4, .dat (.int .i64) 0), (5, .dat (.int .i64) 0)], []⟩ : St))) := by
  refine Link.of fun K h => ?_
  simp only [spec_TreeOk_n2, wpO_bind, wpO_cond, wpO_map, wpO_some] at h
  exact Awp.of (by kernel_rfl) h

theorem spec_TreeOk_n3_l (x1342 : List Int) (x1355 : Int) (x1422 : Int) (x1423 : Int) : Link spec_TreeOk_ctx LL (Code.fst (Code.fst (Code.fst (Code.snd (Code.fst (Code.snd (Code.snd (Code.snd (Code.snd (bodyOf Tryd.f19)))))))))) (Ann.fst (Ann.fst (Ann.fst (Ann.snd (Ann.fst (Ann.snd (Ann.snd (Ann.snd (Ann.snd spec_TreeOk_an))))))))) (⟨mkE 65 0 [(0, .dat (.list (.int .i64)) x1342), (3, .dat (.int .i64) x1355), (4, .dat (.int .i64) x1422), (5, .dat (.int .i64) x1423)], []⟩ : St) (spec_TreeOk_n3 x1355 x1422 x1423) (Sum.elim (fun (t : Unit) => (Exit.normal, (⟨mkE 65 0 [(0, .dat (.list (.int .i64)) x1342), (3, .dat (.int .i64) x1355), (4, .dat (.int .i64) x1422), (5, .dat (.int .i64) x1423)], []⟩ : St))) (fun (t : Int) => ((Exit.exit 0), (⟨mkE 65 0 [(4, .dat (.int .i64) t)], []⟩ : St)))) := by
  refine Link.of fun K h => ?_
  simp only [spec_TreeOk_n3, wpO_bind, wpO_cond, wpO_map, wpO_some] at h
  exact Awp.of (by kernel_rfl) h

theorem spec_TreeOk_n4_l (x1342 : List Int) (x1355 : Int) (x1422 : Int) (x1423 : Int) : Link spec_TreeOk_ctx LL (Code.seq (Code.fst (Code.fst (Code.fst (Code.snd (Code.fst (Code.fst (Code.snd (Code.fst (Code.snd (Code.snd (Code.snd (Code.snd (bodyOf Tryd.f19))))))))))))) (Code.seq (Code.fst (Code.snd (Code.fst (Code.fst (Code.snd (Code.fst (Code.fst (Code.snd (Code.fst (Code.snd (Code.snd (Code.snd (Code.snd (bodyOf Tryd.f19)))))))))))))) (Code.fst (Code.snd (Code.snd (Code.fst (Code.fst (Code.snd (Code.fst (Code.fst (Code.snd (Code.fst (Code.snd (Code.snd (Code.snd (Code.snd (bodyOf Tryd.f19))))))))))))))))) (Ann.seq (Ann.fst (Ann.fst (Ann.fst (Ann.snd (Ann.fst (Ann.fst (Ann.snd (Ann.fst (Ann.snd (Ann.snd (Ann.snd (Ann.snd spec_TreeOk_an)))))))))))) (Ann.seq (Ann.fst (Ann.snd (Ann.fst (Ann.fst (Ann.snd (Ann.fst (Ann.fst (Ann.snd (Ann.fst (Ann.snd (Ann.snd (Ann.snd (Ann.snd spec_TreeOk_an))))))))))))) (Ann.fst (Ann.snd (Ann.snd (Ann.fst (Ann.fst (Ann.snd (Ann.fst (Ann.fst (Ann.snd (Ann.fst (Ann.snd (Ann.snd (Ann.snd (Ann.snd spec_TreeOk_an)))))))))))))))) (⟨mkE 65 0 [(0, .dat (.list (.int .i64)) x1342), (3, .dat (.int .i64) x1355), (4, .dat (.int .i64) x1422), (5, .dat (.int .i64) x1423)], []⟩ : St) (spec_TreeOk_n4 x1342 x1355 x1422 x1423) (Sum.elim (fun (t : Int × Int) => (Exit.normal, (⟨mkE 65 0 [(0, .dat (.list (.int .i64)) x1342), (3, .dat (.int .i64) x1355), (4, .dat (.int .i64) t.1), (5, .dat (.int .i64) x1423), (6, .dat (.int .i64) t.2)], []⟩ : St))) (fun (t : Bool) => (Exit.ret, (⟨mkE 65 0 [(2, .dat .bool t)], []⟩ : St)))) := by
  refine Link.of fun K h => ?_
  simp only [spec_TreeOk_n4, wpO_bind, wpO_cond, wpO_map, wpO_some] at h
  exact Awp.of (by kernel_rfl) h

theorem spec_TreeOk_n5_l (x1342 : List Int) (x1355 : Int) (x1451 : Int) (x1423 : Int) (x1452 : Int) : Link spec_TreeOk_ctx LL (Code.fst (Code.fst (Code.snd (Code.snd (Code.snd (Code.fst (Code.fst (Code.snd (Code.fst (Code.fst (Code.snd (Code.fst (Code.snd (Code.snd (Code.snd (Code.snd (bodyOf Tryd.f19))))))))))))))))) (Ann.fst (Ann.fst (Ann.snd (Ann.snd (Ann.snd (Ann.fst (Ann.fst (Ann.snd (Ann.fst (Ann.fst (Ann.snd (Ann.fst (Ann.snd (Ann.snd (Ann.snd (Ann.snd spec_TreeOk_an)))))))))))))))) (⟨mkE 65 0 [(0, .dat (.list (.int .i64)) x1342), (3, .dat (.int .i64) x1355), (4, .dat (.int .i64) x1451), (5, .dat (.int .i64) x1423), (6, .dat (.int .i64) x1452)], []⟩ : St) (spec_TreeOk_n5) (fun (t : Unit) => (Exit.normal, (⟨mkE 65 0 [(0, .dat (.list (.int .i64)) x1342), (3, .dat (.int .i64) x1355), (4, .dat (.int .i64) x1451), (5, .dat (.int .i64) x1423), (6, .dat (.int .i64) x1452), (7, .dat (.int .i64) 0)], []⟩ : St))) := by
  refine Link.of fun K h => ?_
  simp only [spec_TreeOk_n5, wpO_bind, wpO_cond, wpO_map, wpO_some] at h
  exact Awp.of (by kernel_rfl) h

theorem spec_TreeOk_n6_l (x1342 : List Int) (x1355 : Int) (x1451 : Int) (x1423 : Int) (x1468 : Int) (x1469 : Int) : Link spec_TreeOk_ctx LL (Code.fst (Code.fst (Code.snd (Code.fst (Code.snd (Code.snd (Code.snd (Code.fst (Code.fst (Code.snd (Code.fst (Code.fst (Code.snd (Code.fst (Code.snd (Code.snd (Code.snd (Code.snd (bodyOf Tryd.f19))))))))))))))))))) (Ann.fst (Ann.fst (Ann.snd (Ann.fst (Ann.snd (Ann.snd (Ann.snd (Ann.fst (Ann.fst (Ann.snd (Ann.fst (Ann.fst (Ann.snd (Ann.fst (Ann.snd (Ann.snd (Ann.snd (Ann.snd spec_TreeOk_an)))))))))))))))))) (⟨mkE 65 0 [(0, .dat (.list (.int .i64)) x1342), (3, .dat (.int .i64) x1355), (4, .dat (.int .i64) x1451), (5, .dat (.int .i64) x1423), (6, .dat (.int .i64) x1468), (7, .dat (.int .i64) x1469)], []⟩ : St) (spec_TreeOk_n6 x1342 x1355 x1468 x1469) (Sum.elim (fun (t : Int × Int) => (Exit.normal, (⟨mkE 65 0 [(0, .dat (.list (.int .i64)) x1342), (3, .dat (.int .i64) x1355), (4, .dat (.int .i64) x1451), (5, .dat (.int .i64) x1423), (6, .dat (.int .i64) t.1), (7, .dat (.int .i64) t.2)], []⟩ : St))) (Sum.elim (fun (t : Bool) => (Exit.ret, (⟨mkE 65 0 [(2, .dat .bool t)], []⟩ : St))) (fun (t : Int) => ((Exit.exit 2), (⟨mkE 65 0 [(0, .dat (.list (.int .i64)) x1342), (3, .dat (.int .i64) x1355), (4, .dat (.int .i64) x1451), (5, .dat (.int .i64) x1423), (6, .dat (.int .i64) t)], []⟩ : St))))) := by
  refine Link.of fun K h => ?_
  simp only [spec_TreeOk_n6, wpO_bind, wpO_cond, wpO_map, wpO_some] at h
  exact Awp.of (by kernel_rfl) h

theorem spec_TreeOk_n7_l (x1342 : List Int) (x1355 : Int) (x1451 : Int) (x1423 : Int) (x1452 : Int) : Link spec_TreeOk_ctx LL (Code.fst (Code.snd (Code.fst (Code.snd (Code.snd (Code.snd (Code.fst (Code.fst (Code.snd (Code.fst (Code.fst (Code.snd (Code.fst (Code.snd (Code.snd (Code.snd (Code.snd (bodyOf Tryd.f19)))))))))))))))))) (Ann.fst (Ann.snd (Ann.fst (Ann.snd (Ann.snd (Ann.snd (Ann.fst (Ann.fst (Ann.snd (Ann.fst (Ann.fst (Ann.snd (Ann.fst (Ann.snd (Ann.snd (Ann.snd (Ann.snd spec_TreeOk_an))))))))))))))))) (⟨mkE 65 0 [(0, .dat (.list (.int .i64)) x1342), (3, .dat (.int .i64) x1355), (4, .dat (.int .i64) x1451), (5, .dat (.int .i64) x1423), (6, .dat (.int .i64) x1452), (7, .dat (.int .i64) 0)], []⟩ : St) (spec_TreeOk_n7 x1342 x1355 x1452) (Sum.elim (fun (t : Bool) => (Exit.ret, (⟨mkE 65 0 [(2, .dat .bool t)], []⟩ : St))) (fun (t : Int) => ((Exit.exit 2), (⟨mkE 65 0 [(0, .dat (.list (.int .i64)) x1342), (3, .dat (.int .i64) x1355), (4, .dat (.int .i64) x1451), (5, .dat (.int .i64) x1423), (6, .dat (.int .i64) t)], []⟩ : St)))) := by
  unfold spec_TreeOk_n7
  exact Link.cast (by kernel_rfl) (by kernel_rfl) (link_loop (mk := fun (s : Int × Int) => (⟨mkE 65 0 [(0, .dat (.list (.int .i64)) x1342), (3, .dat (.int .i64) x1355), (4, .dat (.int .i64) x1451), (5, .dat (.int .i64) x1423), (6, .dat (.int .i64) s.1), (7, .dat (.int .i64) s.2)], []⟩ : St)) (fin := (Sum.elim (fun (t : Bool) => (Exit.ret, (⟨mkE 65 0 [(2, .dat .bool t)], []⟩ : St))) (fun (t : Int) => ((Exit.exit 2), (⟨mkE 65 0 [(0, .dat (.list (.int .i64)) x1342), (3, .dat (.int .i64) x1355), (4, .dat (.int .i64) x1451), (5, .dat (.int .i64) x1423), (6, .dat (.int .i64) t)], []⟩ : St))))) (by
  rintro (t | t) f K h
  · exact h
  · exact h) (fun s => link_map (spec_TreeOk_n6_l x1342 x1355 x1451 x1423 s.1 s.2) (Sum.elim (fun (t : Int × Int) => Sum.inl (t.1, t.2)) (Sum.elim (fun (t : Bool) => Sum.inr (Sum.inl t)) (fun (t : Int) => Sum.inr (Sum.inr t)))) (by
  rintro (t | t | t)
  · kernel_rfl
  · kernel_rfl
  · kernel_rfl)) (x1452, 0))

theorem spec_TreeOk_n8_l (x1342 : List Int) (x1355 : Int) (x1451 : Int) (x1423 : Int) (x1452 : Int) : Link spec_TreeOk_ctx LL (Code.snd (Code.fst (Code.snd (Code.snd (Code.snd (Code.fst (Code.fst (Code.snd (Code.fst (Code.fst (Code.snd (Code.fst (Code.snd (Code.snd (Code.snd (Code.snd (bodyOf Tryd.f19))))))))))))))))) (Ann.snd (Ann.fst (Ann.snd (Ann.snd (Ann.snd (Ann.fst (Ann.fst (Ann.snd (Ann.fst (Ann.fst (Ann.snd (Ann.fst (Ann.snd (Ann.snd (Ann.snd (Ann.snd spec_TreeOk_an)))))))))))))))) (⟨mkE 65 0 [(0, .dat (.list (.int .i64)) x1342), (3, .dat (.int .i64) x1355), (4, .dat (.int .i64) x1451), (5, .dat (.int .i64) x1423), (6, .dat (.int .i64) x1452), (7, .dat (.int .i64) 0)], []⟩ : St) (spec_TreeOk_n8 x1342 x1355 x1452) (Sum.elim (fun (t : Int) => (Exit.normal, (⟨mkE 65 0 [(0, .dat (.list (.int .i64)) x1342), (3, .dat (.int .i64) x1355), (4, .dat (.int .i64) x1451), (5, .dat (.int .i64) x1423), (6, .dat (.int .i64) t)], []⟩ : St))) (fun (t : Bool) => (Exit.ret, (⟨mkE 65 0 [(2, .dat .bool t)], []⟩ : St)))) := by
  unfold spec_TreeOk_n8
  exact Link.cast (by kernel_rfl) (by kernel_rfl) (link_block (id := 2) (spec_TreeOk_n7_l x1342 x1355 x1451 x1423 x1452) (Sum.elim (fun (t : Bool) => (Sum.inr t)) (fun (t : Int) => (Sum.inl t))) (by
  rintro (t | t) K h
  · exact Eq.mp (by kernel_rfl) h
  · exact Eq.mp (by kernel_rfl) h))

theorem spec_TreeOk_n9_l (x1342 : List Int) (x1355 : Int) (x1451 : Int) (x1423 : Int) (x1452 : Int) : Link spec_TreeOk_ctx LL (Code.fst (Code.snd (Code.snd (Code.snd (Code.fst (Code.fst (Code.snd (Code.fst (Code.fst (Code.snd (Code.fst (Code.snd (Code.snd (Code.snd (Code.snd (bodyOf Tryd.f19)))))))))))))))) (Ann.fst (Ann.snd (Ann.snd (Ann.snd (Ann.fst (Ann.fst (Ann.snd (Ann.fst (Ann.fst (Ann.snd (Ann.fst (Ann.snd (Ann.snd (Ann.snd (Ann.snd spec_TreeOk_an))))))))))))))) (⟨mkE 65 0 [(0, .dat (.list (.int .i64)) x1342), (3, .dat (.int .i64) x1355), (4, .dat (.int .i64) x1451), (5, .dat (.int .i64) x1423), (6, .dat (.int .i64) x1452)], []⟩ : St) (spec_TreeOk_n9 x1342 x1355 x1452) (Sum.elim (fun (t : Int) => (Exit.normal, (⟨mkE 65 0 [(0, .dat (.list (.int .i64)) x1342), (3, .dat (.int .i64) x1355), (4, .dat (.int .i64) x1451), (5, .dat (.int .i64) x1423), (6, .dat (.int .i64) t)], []⟩ : St))) (fun (t : Bool) => (Exit.ret, (⟨mkE 65 0 [(2, .dat .bool t)], []⟩ : St)))) := by
  unfold spec_TreeOk_n9
  exact Link.cast (by kernel_rfl) (by kernel_rfl) (link_seq (b := (Code.snd (Code.fst (Code.snd (Code.snd (Code.snd (Code.fst (Code.fst (Code.snd (Code.fst (Code.fst (Code.snd (Code.fst (Code.snd (Code.snd (Code.snd (Code.snd (bodyOf Tryd.f19)))))))))))))))))) (y := (Ann.snd (Ann.fst (Ann.snd (Ann.snd (Ann.snd (Ann.fst (Ann.fst (Ann.snd (Ann.fst (Ann.fst (Ann.snd (Ann.fst (Ann.snd (Ann.snd (Ann.snd (Ann.snd spec_TreeOk_an))))))))))))))))) (spec_TreeOk_n5_l x1342 x1355 x1451 x1423 x1452) (fun (t : Unit) => (spec_TreeOk_n8_l x1342 x1355 x1451 x1423 x1452)))

theorem spec_TreeOk_n10_l (x1342 : List Int) (x1355 : Int) (x1451 : Int) (x1423 : Int) (x1468 : Int) : Link spec_TreeOk_ctx LL (Code.snd (Code.snd (Code.snd (Code.snd (Code.fst (Code.fst (Code.snd (Code.fst (Code.fst (Code.snd (Code.fst (Code.snd (Code.snd (Code.snd (Code.snd (bodyOf Tryd.f19)))))))))))))))) (Ann.snd (Ann.snd (Ann.snd (Ann.snd (Ann.fst (Ann.fst (Ann.snd (Ann.fst (Ann.fst (Ann.snd (Ann.fst (Ann.snd (Ann.snd (Ann.snd (Ann.snd spec_TreeOk_an))))))))))))))) (⟨mkE 65 0 [(0, .dat (.list (.int .i64)) x1342), (3, .dat (.int .i64) x1355), (4, .dat (.int .i64) x1451), (5, .dat (.int .i64) x1423), (6, .dat (.int .i64) x1468)], []⟩ : St) (spec_TreeOk_n10 x1468) (Sum.elim (fun (t : Unit) => (Exit.normal, (⟨mkE 65 0 [(0, .dat (.list (.int .i64)) x1342), (3, .dat (.int .i64) x1355), (4, .dat (.int .i64) x1451), (5, .dat (.int .i64) x1423)], []⟩ : St))) (fun (t : Bool) => (Exit.ret, (⟨mkE 65 0 [(2, .dat .bool t)], []⟩ : St)))) := by
  refine Link.of fun K h => ?_
  simp only [spec_TreeOk_n10, wpO_bind, wpO_cond, wpO_map, wpO_some] at h
  exact Awp.of (by kernel_rfl) h

theorem spec_TreeOk_n11_l (x1342 : List Int) (x1355 : Int) (x1451 : Int) (x1423 : Int) (x1452 : Int) : Link spec_TreeOk_ctx LL (Code.snd (Code.snd (Code.snd (Code.fst (Code.fst (Code.snd (Code.fst (Code.fst (Code.snd (Code.fst (Code.snd (Code.snd (Code.snd (Code.snd (bodyOf Tryd.f19))))))))))))))) (Ann.snd (Ann.snd (Ann.snd (Ann.fst (Ann.fst (Ann.snd (Ann.fst (Ann.fst (Ann.snd (Ann.fst (Ann.snd (Ann.snd (Ann.snd (Ann.snd spec_TreeOk_an)))))))))))))) (⟨mkE 65 0 [(0, .dat (.list (.int .i64)) x1342), (3, .dat (.int .i64) x1355), (4, .dat (.int .i64) x1451), (5, .dat (.int .i64) x1423), (6, .dat (.int .i64) x1452)], []⟩ : St) (spec_TreeOk_n11 x1342 x1355 x1452) (Sum.elim (fun (t : Unit) => (Exit.normal, (⟨mkE 65 0 [(0, .dat (.list (.int .i64)) x1342), (3, .dat (.int .i64) x1355), (4, .dat (.int .i64) x1451), (5, .dat (.int .i64) x1423)], []⟩ : St))) (fun (t : Bool) => (Exit.ret, (⟨mkE 65 0 [(2, .dat .bool t)], []⟩ : St)))) := by
  unfold spec_TreeOk_n11
  exact Link.cast (by kernel_rfl) (by kernel_rfl) (link_seq2 (b := (Code.snd (Code.snd (Code.snd (Code.snd (Code.fst (Code.fst (Code.snd (Code.fst (Code.fst (Code.snd (Code.fst (Code.snd (Code.snd (Code.snd (Code.snd (bodyOf Tryd.f19))))))))))))))))) (y := (Ann.snd (Ann.snd (Ann.snd (Ann.snd (Ann.fst (Ann.fst (Ann.snd (Ann.fst (Ann.fst (Ann.snd (Ann.fst (Ann.snd (Ann.snd (Ann.snd (Ann.snd spec_TreeOk_an)))))))))))))))) (spec_TreeOk_n9_l x1342 x1355 x1451 x1423 x1452) (fun (t : Int) => (spec_TreeOk_n10_l x1342 x1355 x1451 x1423 t)) (fun (t : Bool) => (Sum.inr t)) (by
  rintro t
  · kernel_rfl) (by
  rintro t f K h
  · exact h))

theorem spec_TreeOk_n12_l (x1342 : List Int) (x1355 : Int) (x1422 : Int) (x1423 : Int) : Link spec_TreeOk_ctx LL (Code.fst (Code.fst (Code.snd (Code.fst (Code.fst (Code.snd (Code.fst (Code.snd (Code.snd (Code.snd (Code.snd (bodyOf Tryd.f19)))))))))))) (Ann.fst (Ann.fst (Ann.snd (Ann.fst (Ann.fst (Ann.snd (Ann.fst (Ann.snd (Ann.snd (Ann.snd (Ann.snd spec_TreeOk_an))))))))))) (⟨mkE 65 0 [(0, .dat (.list (.int .i64)) x1342), (3, .dat (.int .i64) x1355), (4, .dat (.int .i64) x1422), (5, .dat (.int .i64) x1423)], []⟩ : St) (spec_TreeOk_n12 x1342 x1355 x1422 x1423) (Sum.elim (fun (t : Int) => (Exit.normal, (⟨mkE 65 0 [(0, .dat (.list (.int .i64)) x1342), (3, .dat (.int .i64) x1355), (4, .dat (.int .i64) t), (5, .dat (.int .i64) x1423)], []⟩ : St))) (fun (t : Bool) => (Exit.ret, (⟨mkE 65 0 [(2, .dat .bool t)], []⟩ : St)))) := by
  unfold spec_TreeOk_n12
  exact Link.cast (by kernel_rfl) (by kernel_rfl) (link_group (c := (Code.fst (Code.snd (Code.snd (Code.fst (Code.fst (Code.snd (Code.fst (Code.fst (Code.snd (Code.fst (Code.snd (Code.snd (Code.snd (Code.snd (bodyOf Tryd.f19)))))))))))))))) (a := (Ann.fst (Ann.snd (Ann.snd (Ann.fst (Ann.fst (Ann.snd (Ann.fst (Ann.fst (Ann.snd (Ann.fst (Ann.snd (Ann.snd (Ann.snd (Ann.snd spec_TreeOk_an))))))))))))))) [(Code.fst (Code.fst (Code.fst (Code.snd (Code.fst (Code.fst (Code.snd (Code.fst (Code.snd (Code.snd (Code.snd (Code.snd (bodyOf Tryd.f19))))))))))))), (Code.fst (Code.snd (Code.fst (Code.fst (Code.snd (Code.fst (Code.fst (Code.snd (Code.fst (Code.snd (Code.snd (Code.snd (Code.snd (bodyOf Tryd.f19))))))))))))))] [(Ann.fst (Ann.fst (Ann.fst (Ann.snd (Ann.fst (Ann.fst (Ann.snd (Ann.fst (Ann.snd (Ann.snd (Ann.snd (Ann.snd spec_TreeOk_an)))))))))))), (Ann.fst (Ann.snd (Ann.fst (Ann.fst (Ann.snd (Ann.fst (Ann.fst (Ann.snd (Ann.fst (Ann.snd (Ann.snd (Ann.snd (Ann.snd spec_TreeOk_an)))))))))))))] rfl (link_seq2 (b := (Code.snd (Code.snd (Code.snd (Code.fst (Code.fst (Code.snd (Code.fst (Code.fst (Code.snd (Code.fst (Code.snd (Code.snd (Code.snd (Code.snd (bodyOf Tryd.f19)))))))))))))))) (y := (Ann.snd (Ann.snd (Ann.snd (Ann.fst (Ann.fst (Ann.snd (Ann.fst (Ann.fst (Ann.snd (Ann.fst (Ann.snd (Ann.snd (Ann.snd (Ann.snd spec_TreeOk_an))))))))))))))) (spec_TreeOk_n4_l x1342 x1355 x1422 x1423) (fun (t : Int × Int) => (link_map (spec_TreeOk_n11_l x1342 x1355 t.1 x1423 t.2) (Sum.elim (fun (u : Unit) => (Sum.inl t.1)) (fun (u : Bool) => (Sum.inr u))) (by
  rintro (t | t)
  · kernel_rfl
  · kernel_rfl))) (fun (t : Bool) => (Sum.inr t)) (by
  rintro t
  · kernel_rfl) (by
  rintro t f K h
  · exact h)))

theorem spec_TreeOk_n13_l (x1342 : List Int) (x1355 : Int) (x1422 : Int) (x1423 : Int) : Link spec_TreeOk_ctx LL (Code.fst (Code.snd (Code.fst (Code.fst (Code.snd (Code.fst (Code.snd (Code.snd (Code.snd (Code.snd (bodyOf Tryd.f19))))))))))) (Ann.fst (Ann.snd (Ann.fst (Ann.fst (Ann.snd (Ann.fst (Ann.snd (Ann.snd (Ann.snd (Ann.snd spec_TreeOk_an)))))))))) (⟨mkE 65 0 [(0, .dat (.list (.int .i64)) x1342), (3, .dat (.int .i64) x1355), (4, .dat (.int .i64) x1422), (5, .dat (.int .i64) x1423)], []⟩ : St) (spec_TreeOk_n13 x1342 x1355 x1422 x1423) (Sum.elim (fun (t : Int) => (Exit.normal, (⟨mkE 65 0 [(0, .dat (.list (.int .i64)) x1342), (3, .dat (.int .i64) x1355), (4, .dat (.int .i64) t), (5, .dat (.int .i64) x1423)], []⟩ : St))) (fun (t : Bool) => (Exit.ret, (⟨mkE 65 0 [(2, .dat .bool t)], []⟩ : St)))) := by
  unfold spec_TreeOk_n13
  exact Link.cast (by kernel_rfl) (by kernel_rfl) (link_block (id := 1) (spec_TreeOk_n12_l x1342 x1355 x1422 x1423) (Sum.elim (fun (t : Int) => (Sum.inl t)) (fun (t : Bool) => (Sum.inr t))) (by
  rintro (t | t) K h
  · exact Eq.mp (by kernel_rfl) h
  · exact Eq.mp (by kernel_rfl) h))

theorem spec_TreeOk_n14_l (x1342 : List Int) (x1355 : Int) (x1451 : Int) (x1423 : Int) : Link spec_TreeOk_ctx LL (Code.snd (Code.snd (Code.fst (Code.fst (Code.snd (Code.fst (Code.snd (Code.snd (Code.snd (Code.snd (bodyOf Tryd.f19))))))))))) (Ann.snd (Ann.snd (Ann.fst (Ann.fst (Ann.snd (Ann.fst (Ann.snd (Ann.snd (Ann.snd (Ann.snd spec_TreeOk_an)))))))))) (⟨mkE 65 0 [(0, .dat (.list (.int .i64)) x1342), (3, .dat (.int .i64) x1355), (4, .dat (.int .i64) x1451), (5, .dat (.int .i64) x1423)], []⟩ : St) (spec_TreeOk_n14 x1423) (fun (t : Int) => (Exit.normal, (⟨mkE 65 0 [(0, .dat (.list (.int .i64)) x1342), (3, .dat (.int .i64) x1355), (4, .dat (.int .i64) x1451), (5, .dat (.int .i64) t)], []⟩ : St))) := by
  refine Link.of fun K h => ?_
  simp only [spec_TreeOk_n14, wpO_bind, wpO_cond, wpO_map, wpO_some] at h
  exact Awp.of (by kernel_rfl) h

theorem spec_TreeOk_n15_l (x1342 : List Int) (x1355 : Int) (x1422 : Int) (x1423 : Int) : Link spec_TreeOk_ctx LL (Code.snd (Code.fst (Code.fst (Code.snd (Code.fst (Code.snd (Code.snd (Code.snd (Code.snd (bodyOf Tryd.f19)))))))))) (Ann.snd (Ann.fst (Ann.fst (Ann.snd (Ann.fst (Ann.snd (Ann.snd (Ann.snd (Ann.snd spec_TreeOk_an))))))))) (⟨mkE 65 0 [(0, .dat (.list (.int .i64)) x1342), (3, .dat (.int .i64) x1355), (4, .dat (.int .i64) x1422), (5, .dat (.int .i64) x1423)], []⟩ : St) (spec_TreeOk_n15 x1342 x1355 x1422 x1423) (Sum.elim (fun (t : Int × Int) => (Exit.normal, (⟨mkE 65 0 [(0, .dat (.list (.int .i64)) x1342), (3, .dat (.int .i64) x1355), (4, .dat (.int .i64) t.1), (5, .dat (.int .i64) t.2)], []⟩ : St))) (fun (t : Bool) => (Exit.ret, (⟨mkE 65 0 [(2, .dat .bool t)], []⟩ : St)))) := by
  unfold spec_TreeOk_n15
  exact Link.cast (by kernel_rfl) (by kernel_rfl) (link_seq2 (b := (Code.snd (Code.snd (Code.fst (Code.fst (Code.snd (Code.fst (Code.snd (Code.snd (Code.snd (Code.snd (bodyOf Tryd.f19)))))))))))) (y := (Ann.snd (Ann.snd (Ann.fst (Ann.fst (Ann.snd (Ann.fst (Ann.snd (Ann.snd (Ann.snd (Ann.snd spec_TreeOk_an))))))))))) (spec_TreeOk_n13_l x1342 x1355 x1422 x1423) (fun (t : Int) => (link_map (spec_TreeOk_n14_l x1342 x1355 t x1423) (fun (u : Int) => (Sum.inl (t, u))) (by
  rintro t
  · kernel_rfl))) (fun (t : Bool) => (Sum.inr t)) (by
  rintro t
  · kernel_rfl) (by
  rintro t f K h
  · exact h))

theorem spec_TreeOk_n16_l (x1342 : List Int) (x1355 : Int) (x1422 : Int) (x1423 : Int) : Link spec_TreeOk_ctx LL (Code.fst (Code.fst (Code.snd (Code.fst (Code.snd (Code.snd (Code.snd (Code.snd (bodyOf Tryd.f19))))))))) (Ann.fst (Ann.fst (Ann.snd (Ann.fst (Ann.snd (Ann.snd (Ann.snd (Ann.snd spec_TreeOk_an)))))))) (⟨mkE 65 0 [(0, .dat (.list (.int .i64)) x1342), (3, .dat (.int .i64) x1355), (4, .dat (.int .i64) x1422), (5, .dat (.int .i64) x1423)], []⟩ : St) (spec_TreeOk_n16 x1342 x1355 x1422 x1423) (Sum.elim (fun (t : Int × Int) => (Exit.normal, (⟨mkE 65 0 [(0, .dat (.list (.int .i64)) x1342), (3, .dat (.int .i64) x1355), (4, .dat (.int .i64) t.1), (5, .dat (.int .i64) t.2)], []⟩ : St))) (Sum.elim (fun (t : Bool) => (Exit.ret, (⟨mkE 65 0 [(2, .dat .bool t)], []⟩ : St))) (fun (t : Int) => ((Exit.exit 0), (⟨mkE 65 0 [(4, .dat (.int .i64) t)], []⟩ : St))))) := by
  unfold spec_TreeOk_n16
  exact Link.cast (by kernel_rfl) (by kernel_rfl) (link_seq2 (b := (Code.snd (Code.fst (Code.fst (Code.snd (Code.fst (Code.snd (Code.snd (Code.snd (Code.snd (bodyOf Tryd.f19))))))))))) (y := (Ann.snd (Ann.fst (Ann.fst (Ann.snd (Ann.fst (Ann.snd (Ann.snd (Ann.snd (Ann.snd spec_TreeOk_an)))))))))) (spec_TreeOk_n3_l x1342 x1355 x1422 x1423) (fun (t : Unit) => (link_map (spec_TreeOk_n15_l x1342 x1355 x1422 x1423) (Sum.elim (fun (t : Int × Int) => (Sum.inl (t.1, t.2))) (fun (t : Bool) => (Sum.inr (Sum.inl t)))) (by
  rintro (t | t)
  · kernel_rfl
  · kernel_rfl))) (fun (t : Int) => (Sum.inr (Sum.inr t))) (by
  rintro t
  · kernel_rfl) (by
  rintro t f K h
  · exact h))

theorem spec_TreeOk_n17_l (x1342 : List Int) (x1355 : Int) : Link spec_TreeOk_ctx LL (Code.fst (Code.snd (Code.fst (Code.snd (Code.snd (Code.snd (Code.snd (bodyOf Tryd.f19)))))))) (Ann.fst (Ann.snd (Ann.fst (Ann.snd (Ann.snd (Ann.snd (Ann.snd spec_TreeOk_an))))))) (⟨mkE 65 0 [(0, .dat (.list (.int .i64)) x1342), (3, .dat (.int .i64) x1355), (4, .dat (.int .i64) 0), (5, .dat (.int .i64) 0)], []⟩ : St) (spec_TreeOk_n17 x1342 x1355) (Sum.elim (fun (t : Bool) => (Exit.ret, (⟨mkE 65 0 [(2, .dat .bool t)], []⟩ : St))) (fun (t : Int) => ((Exit.exit 0), (⟨mkE 65 0 [(4, .dat (.int .i64) t)], []⟩ : St)))) := by
  unfold spec_TreeOk_n17
  exact Link.cast (by kernel_rfl) (by kernel_rfl) (link_loop (mk := fun (s : Int × Int) => (⟨mkE 65 0 [(0, .dat (.list (.int .i64)) x1342), (3, .dat (.int .i64) x1355), (4, .dat (.int .i64) s.1), (5, .dat (.int .i64) s.2)], []⟩ : St)) (fin := (Sum.elim (fun (t : Bool) => (Exit.ret, (⟨mkE 65 0 [(2, .dat .bool t)], []⟩ : St))) (fun (t : Int) => ((Exit.exit 0), (⟨mkE 65 0 [(4, .dat (.int .i64) t)], []⟩ : St))))) (by
  rintro (t | t) f K h
  · exact h
  · exact h) (fun s => link_map (spec_TreeOk_n16_l x1342 x1355 s.1 s.2) (Sum.elim (fun (t : Int × Int) => Sum.inl (t.1, t.2)) (Sum.elim (fun (t : Bool) => Sum.inr (Sum.inl t)) (fun (t : Int) => Sum.inr (Sum.inr t)))) (by
  rintro (t | t | t)
  · kernel_rfl
  · kernel_rfl
  · kernel_rfl)) (0, 0))

theorem spec_TreeOk_n18_l (x1342 : List Int) (x1355 : Int) : Link spec_TreeOk_ctx LL (Code.snd (Code.fst (Code.snd (Code.snd (Code.snd (Code.snd (bodyOf Tryd.f19))))))) (Ann.snd (Ann.fst (Ann.snd (Ann.snd (Ann.snd (Ann.snd spec_TreeOk_an)))))) (⟨mkE 65 0 [(0, .dat (.list (.int .i64)) x1342), (3, .dat (.int .i64) x1355), (4, .dat (.int .i64) 0), (5, .dat (.int .i64) 0)], []⟩ : St) (spec_TreeOk_n18 x1342 x1355) (Sum.elim (fun (t : Int) => (Exit.normal, (⟨mkE 65 0 [(4, .dat (.int .i64) t)], []⟩ : St))) (fun (t : Bool) => (Exit.ret, (⟨mkE 65 0 [(2, .dat .bool t)], []⟩ : St)))) := by
  unfold spec_TreeOk_n18
  exact Link.cast (by kernel_rfl) (by kernel_rfl) (link_block (id := 0) (spec_TreeOk_n17_l x1342 x1355) (Sum.elim (fun (t : Bool) => (Sum.inr t)) (fun (t : Int) => (Sum.inl t))) (by
  rintro (t | t) K h
  · exact Eq.mp (by kernel_rfl) h
  · exact Eq.mp (by kernel_rfl) h))

theorem spec_TreeOk_n19_l (x1342 : List Int) (x1355 : Int) : Link spec_TreeOk_ctx LL (Code.fst (Code.snd (Code.snd (Code.snd (Code.snd (bodyOf Tryd.f19)))))) (Ann.fst (Ann.snd (Ann.snd (Ann.snd (Ann.snd spec_TreeOk_an))))) (⟨mkE 65 0 [(0, .dat (.list (.int .i64)) x1342), (3, .dat (.int .i64) x1355), (4, .dat (.int .i64) 0)], []⟩ : St) (spec_TreeOk_n19 x1342 x1355) (Sum.elim (fun (t : Int) => (Exit.normal, (⟨mkE 65 0 [(4, .dat (.int .i64) t)], []⟩ : St))) (fun (t : Bool) => (Exit.ret, (⟨mkE 65 0 [(2, .dat .bool t)], []⟩ : St)))) := by
  unfold spec_TreeOk_n19
  exact Link.cast (by kernel_rfl) (by kernel_rfl) (link_seq (b := (Code.snd (Code.fst (Code.snd (Code.snd (Code.snd (Code.snd (bodyOf Tryd.f19)))))))) (y := (Ann.snd (Ann.fst (Ann.snd (Ann.snd (Ann.snd (Ann.snd spec_TreeOk_an))))))) (spec_TreeOk_n2_l x1342 x1355) (fun (t : Unit) => (spec_TreeOk_n18_l x1342 x1355)))

theorem spec_TreeOk_n20_l (x1422 : Int) : Link spec_TreeOk_ctx LL (Code.snd (Code.snd (Code.snd (Code.snd (Code.snd (bodyOf Tryd.f19)))))) (Ann.snd (Ann.snd (Ann.snd (Ann.snd (Ann.snd spec_TreeOk_an))))) (⟨mkE 65 0 [(4, .dat (.int .i64) x1422)], []⟩ : St) (spec_TreeOk_n20 x1422) (fun (t : Bool) => (Exit.ret, (⟨mkE 65 0 [(2, .dat .bool t)], []⟩ : St))) := by
  refine Link.of fun K h => ?_
  simp only [spec_TreeOk_n20, wpO_bind, wpO_cond, wpO_map, wpO_some] at h
  exact Awp.of (by kernel_rfl) h

theorem spec_TreeOk_n21_l (x1342 : List Int) (x1355 : Int) : Link spec_TreeOk_ctx LL (Code.snd (Code.snd (Code.snd (Code.snd (bodyOf Tryd.f19))))) (Ann.snd (Ann.snd (Ann.snd (Ann.snd spec_TreeOk_an)))) (⟨mkE 65 0 [(0, .dat (.list (.int .i64)) x1342), (3, .dat (.int .i64) x1355), (4, .dat (.int .i64) 0)], []⟩ : St) (spec_TreeOk_n21 x1342 x1355) (fun (t : Bool) => (Exit.ret, (⟨mkE 65 0 [(2, .dat .bool t)], []⟩ : St))) := by
  unfold spec_TreeOk_n21
  exact Link.cast (by kernel_rfl) (by kernel_rfl) (link_seq2 (b := (Code.snd (Code.snd (Code.snd (Code.snd (Code.snd (bodyOf Tryd.f19))))))) (y := (Ann.snd (Ann.snd (Ann.snd (Ann.snd (Ann.snd spec_TreeOk_an)))))) (spec_TreeOk_n19_l x1342 x1355) (fun (t : Int) => (spec_TreeOk_n20_l t)) (fun (t : Bool) => t) (by
  rintro t
  · kernel_rfl) (by
  rintro t f K h
  · exact h))

theorem spec_TreeOk_n22_l (x1342 : List Int) : Link spec_TreeOk_ctx LL (bodyOf Tryd.f19) spec_TreeOk_an (⟨mkE 65 0 [(0, .dat (.list (.int .i64)) x1342)], []⟩ : St) (spec_TreeOk_n22 x1342) (fun (t : Bool) => (Exit.ret, (⟨mkE 65 0 [(2, .dat .bool t)], []⟩ : St))) := by
  unfold spec_TreeOk_n22
  exact Link.cast (by kernel_rfl) (by kernel_rfl) (link_group (c := (Code.fst (Code.snd (Code.snd (Code.snd (bodyOf Tryd.f19)))))) (a := (Ann.fst (Ann.snd (Ann.snd (Ann.snd spec_TreeOk_an))))) [(Code.fst (bodyOf Tryd.f19)), (Code.fst (Code.snd (bodyOf Tryd.f19))), (Code.fst (Code.snd (Code.snd (bodyOf Tryd.f19))))] [(Ann.fst spec_TreeOk_an), (Ann.fst (Ann.snd spec_TreeOk_an)), (Ann.fst (Ann.snd (Ann.snd spec_TreeOk_an)))] rfl (link_seq2 (b := (Code.snd (Code.snd (Code.snd (Code.snd (bodyOf Tryd.f19)))))) (y := (Ann.snd (Ann.snd (Ann.snd (Ann.snd spec_TreeOk_an))))) (spec_TreeOk_n1_l x1342) (fun (t : Int) => (spec_TreeOk_n21_l x1342 t)) (fun (t : Bool) => t) (by
  rintro t
  · kernel_rfl) (by
  rintro t f K h
  · exact h)))

theorem spec_TreeOk_e (x1342 : List Int) {r : AV} {H' : Heap} (h : (Ans.mk _ (spec_TreeOk x1342) (fun (t : Bool) => (.dat .bool t, []))).run = some (r, H')) : Awp spec_TreeOk_ctx LL (bodyOf Tryd.f19) spec_TreeOk_an (⟨mkE 65 0 [(0, .dat (.list (.int .i64)) x1342)], []⟩ : St) (Ret (tlook tys) Tryd.f19.results.toList r H') :=
  ret_of' (spec_TreeOk_n22_l x1342) (by unfold spec_TreeOk; kernel_rfl) (by
  intro t
  exact ret_mk [.dat .bool t] (by kernel_rfl) (by kernel_rfl) (by kernel_rfl) (by kernel_rfl)) h

def F_spec_TreeOk : Fun := fun avs H =>
  match avs, H with
  | [.dat (.list (.int .i64)) x1342], [] => ⟨_, spec_TreeOk x1342, fun (t : Bool) => (.dat .bool t, [])⟩
  | _, _ => Ans.no

theorem spec_TreeOk_sound : Sound Tryd.prog 19 F_spec_TreeOk := by
  refine fn_sound' (C := spec_TreeOk_ctx) (c := bodyOf Tryd.f19) (cok_of tys_ok (List.forall_mem_cons.2 ⟨spec_l1In_sound, by simp⟩) (List.forall_mem_cons.2 ⟨Tryd.call20, by simp⟩) (by kernel_rfl)) Tryd.func19 (by kernel_rfl) LL spec_TreeOk_an ?_
  intro avs H r H' h
  unfold F_spec_TreeOk at h
  split at h
  · refine Awp.cast ?_ ?_ ?_ (spec_TreeOk_e _ h) <;> kernel_rfl
  · simp [Ans.no, Ans.run] at h

/-! loop.example/headtrees/spec.l2Yield -/

def spec_l2Yield_an : Ann := (.seq (.leaf [0, 1]) (.seq (.leaf [0, 1, 5]) (.seq (.seq (.leaf [0, 1, 5, 6]) (.block (.loop (.seq (.seq (.leaf [0, 1, 5, 6, 13]) (.cond (.leaf [0, 1, 5, 6]) (.leaf [5]))) (.seq (.block (.seq (.leaf [0, 1, 5, 6, 21]) (.cond (.leaf [0, 1, 5, 6]) (.leaf [0, 1, 5, 6])))) (.leaf [0, 1, 5, 6])))))) (.seq (.leaf [4]) (.leaf [4])))))

def F_spec_l2Yield_fuel (n : Nat) : Fun := fun avs H =>
  match avs, H with
  | [.dat (.list (.int .i64)) x1501, .dat (.int .i64) x1502], [] => ⟨_, spec_l2Yield_fuel n x1501 x1502, fun (t : Int) => (.dat (.int .i64) t, [])⟩
  | _, _ => Ans.no

noncomputable def spec_l2Yield_ctx (n : Nat) : Ctx := ⟨tlook tys, olook [(22, F_spec_l2Yield_fuel n)], ioF, 0, false⟩

theorem spec_l2Yield_n1_l (n : Nat) (x1501 : List Int) (x1502 : Int) : Link (spec_l2Yield_ctx n) LL (Code.seq (Code.fst (bodyOf Tryd.f22)) (Code.fst (Code.snd (bodyOf Tryd.f22)))) (Ann.seq (Ann.fst spec_l2Yield_an) (Ann.fst (Ann.snd spec_l2Yield_an))) (⟨mkE 29 0 [(0, .dat (.list (.int .i64)) x1501), (1, .dat (.int .i64) x1502)], []⟩ : St) (spec_l2Yield_n1 (spec_l2Yield_fuel n) x1502) (fun (t : Int) => (Exit.normal, (⟨mkE 29 0 [(0, .dat (.list (.int .i64)) x1501), (1, .dat (.int .i64) x1502), (5, .dat (.int .i64) t)], []⟩ : St))) := by
  refine Link.of fun K h => ?_
  simp only [spec_l2Yield_n1, wpO_bind, wpO_cond, wpO_map, wpO_some] at h
  exact Awp.of (by kernel_rfl) h

theorem spec_l2Yield_n2_l (n : Nat) (x1501 : List Int) (x1502 : Int) (x1533 : Int) : Link (spec_l2Yield_ctx n) LL (Code.fst (Code.fst (Code.snd (Code.snd (bodyOf Tryd.f22))))) (Ann.fst (Ann.fst (Ann.snd (Ann.snd spec_l2Yield_an)))) (⟨mkE 29 0 [(0, .dat (.list (.int .i64)) x1501), (1, .dat (.int .i64) x1502), (5, .dat (.int .i64) x1533)], []⟩ : St) (spec_l2Yield_n2 (spec_l2Yield_fuel n)) (fun (t : Unit) => (Exit.normal, (⟨mkE 29 0 [(0, .dat (.list (.int .i64)) x1501), (1, .dat (.int .i64) x1502), (5, .dat (.int .i64) x1533), (6, .dat (.int .i64) 0)], []⟩ : St))) := by
  refine Link.of fun K h => ?_
  simp only [spec_l2Yield_n2, wpO_bind, wpO_cond, wpO_map, wpO_some] at h
  exact Awp.of (by kernel_rfl) h

theorem spec_l2Yield_n3_l (n : Nat) (x1501 : List Int) (x1502 : Int) (x1554 : Int) (x1555 : Int) : Link (spec_l2Yield_ctx n) LL (Code.fst (Code.fst (Code.snd (Code.fst (Code.snd (Code.snd (bodyOf Tryd.f22))))))) (Ann.fst (Ann.fst (Ann.snd (Ann.fst (Ann.snd (Ann.snd spec_l2Yield_an)))))) (⟨mkE 29 0 [(0, .dat (.list (.int .i64)) x1501), (1, .dat (.int .i64) x1502), (5, .dat (.int .i64) x1554), (6, .dat (.int .i64) x1555)], []⟩ : St) (spec_l2Yield_n3 (spec_l2Yield_fuel n) x1501 x1502 x1554 x1555) (Sum.elim (fun (t : Int × Int) => (Exit.normal, (⟨mkE 29 0 [(0, .dat (.list (.int .i64)) x1501), (1, .dat (.int .i64) x1502), (5, .dat (.int .i64) t.1), (6, .dat (.int .i64) t.2)], []⟩ : St))) (fun (t : Int) => ((Exit.exit 0), (⟨mkE 29 0 [(5, .dat (.int .i64) t)], []⟩ : St)))) := by
  refine Link.of fun K h => ?_
  simp only [spec_l2Yield_n3, wpO_bind, wpO_cond, wpO_map, wpO_some] at h
  exact Awp.of (by kernel_rfl) h

theorem spec_l2Yield_n4_l (n : Nat) (x1501 : List Int) (x1502 : Int) (x1533 : Int) : Link (spec_l2Yield_ctx n) LL (Code.fst (Code.snd (Code.fst (Code.snd (Code.snd (bodyOf Tryd.f22)))))) (Ann.fst (Ann.snd (Ann.fst (Ann.snd (Ann.snd spec_l2Yield_an))))) (⟨mkE 29 0 [(0, .dat (.list (.int .i64)) x1501), (1, .dat (.int .i64) x1502), (5, .dat (.int .i64) x1533), (6, .dat (.int .i64) 0)], []⟩ : St) (spec_l2Yield_n4 (spec_l2Yield_fuel n) x1501 x1502 x1533) (fun (t : Int) => ((Exit.exit 0), (⟨mkE 29 0 [(5, .dat (.int .i64) t)], []⟩ : St))) := by
  unfold spec_l2Yield_n4
  exact Link.cast (by kernel_rfl) (by kernel_rfl) (link_loop (mk := fun (s : Int × Int) => (⟨mkE 29 0 [(0, .dat (.list (.int .i64)) x1501), (1, .dat (.int .i64) x1502), (5, .dat (.int .i64) s.1), (6, .dat (.int .i64) s.2)], []⟩ : St)) (fin := (fun (t : Int) => ((Exit.exit 0), (⟨mkE 29 0 [(5, .dat (.int .i64) t)], []⟩ : St)))) (by
  rintro t f K h
  · exact h) (fun s => link_map (spec_l2Yield_n3_l n x1501 x1502 s.1 s.2) (Sum.elim (fun (t : Int × Int) => Sum.inl (t.1, t.2)) (fun (t : Int) => Sum.inr t)) (by
  rintro (t | t)
  · kernel_rfl
  · kernel_rfl)) (x1533, 0))

theorem spec_l2Yield_n5_l (n : Nat) (x1501 : List Int) (x1502 : Int) (x1533 : Int) : Link (spec_l2Yield_ctx n) LL (Code.snd (Code.fst (Code.snd (Code.snd (bodyOf Tryd.f22))))) (Ann.snd (Ann.fst (Ann.snd (Ann.snd spec_l2Yield_an)))) (⟨mkE 29 0 [(0, .dat (.list (.int .i64)) x1501), (1, .dat (.int .i64) x1502), (5, .dat (.int .i64) x1533), (6, .dat (.int .i64) 0)], []⟩ : St) (spec_l2Yield_n5 (spec_l2Yield_fuel n) x1501 x1502 x1533) (fun (t : Int) => (Exit.normal, (⟨mkE 29 0 [(5, .dat (.int .i64) t)], []⟩ : St))) := by
  unfold spec_l2Yield_n5
  exact Link.cast (by kernel_rfl) (by kernel_rfl) (link_block (id := 0) (spec_l2Yield_n4_l n x1501 x1502 x1533) (fun (t : Int) => t) (by
  rintro t K h
  · exact Eq.mp (by kernel_rfl) h))

theorem spec_l2Yield_n6_l (n : Nat) (x1501 : List Int) (x1502 : Int) (x1533 : Int) : Link (spec_l2Yield_ctx n) LL (Code.fst (Code.snd (Code.snd (bodyOf Tryd.f22)))) (Ann.fst (Ann.snd (Ann.snd spec_l2Yield_an))) (⟨mkE 29 0 [(0, .dat (.list (.int .i64)) x1501), (1, .dat (.int .i64) x1502), (5, .dat (.int .i64) x1533)], []⟩ : St) (spec_l2Yield_n6 (spec_l2Yield_fuel n) x1501 x1502 x1533) (fun (t : Int) => (Exit.normal, (⟨mkE 29 0 [(5, .dat (.int .i64) t)], []⟩ : St))) := by
  unfold spec_l2Yield_n6
  exact Link.cast (by kernel_rfl) (by kernel_rfl) (link_seq (b := (Code.snd (Code.fst (Code.snd (Code.snd (bodyOf Tryd.f22)))))) (y := (Ann.snd (Ann.fst (Ann.snd (Ann.snd spec_l2Yield_an))))) (spec_l2Yield_n2_l n x1501 x1502 x1533) (fun (t : Unit) => (spec_l2Yield_n5_l n x1501 x1502 x1533)))

theorem spec_l2Yield_n7_l (n : Nat) (x1554 : Int) : Link (spec_l2Yield_ctx n) LL (Code.snd (Code.snd (Code.snd (bodyOf Tryd.f22)))) (Ann.snd (Ann.snd (Ann.snd spec_l2Yield_an))) (⟨mkE 29 0 [(5, .dat (.int .i64) x1554)], []⟩ : St) (spec_l2Yield_n7 (spec_l2Yield_fuel n) x1554) (fun (t : Int) => (Exit.ret, (⟨mkE 29 0 [(4, .dat (.int .i64) t)], []⟩ : St))) := by
  refine Link.of fun K h => ?_
  simp only [spec_l2Yield_n7, wpO_bind, wpO_cond, wpO_map, wpO_some] at h
  exact Awp.of (by kernel_rfl) h

theorem spec_l2Yield_n8_l (n : Nat) (x1501 : List Int) (x1502 : Int) (x1533 : Int) : Link (spec_l2Yield_ctx n) LL (Code.snd (Code.snd (bodyOf Tryd.f22))) (Ann.snd (Ann.snd spec_l2Yield_an)) (⟨mkE 29 0 [(0, .dat (.list (.int .i64)) x1501), (1, .dat (.int .i64) x1502), (5, .dat (.int .i64) x1533)], []⟩ : St) (spec_l2Yield_n8 (spec_l2Yield_fuel n) x1501 x1502 x1533) (fun (t : Int) => (Exit.ret, (⟨mkE 29 0 [(4, .dat (.int .i64) t)], []⟩ : St))) := by
  unfold spec_l2Yield_n8
  exact Link.cast (by kernel_rfl) (by kernel_rfl) (link_seq (b := (Code.snd (Code.snd (Code.snd (bodyOf Tryd.f22))))) (y := (Ann.snd (Ann.snd (Ann.snd spec_l2Yield_an)))) (spec_l2Yield_n6_l n x1501 x1502 x1533) (fun (t : Int) => (spec_l2Yield_n7_l n t)))

theorem spec_l2Yield_n9_l (n : Nat) (x1501 : List Int) (x1502 : Int) : Link (spec_l2Yield_ctx n) LL (bodyOf Tryd.f22) spec_l2Yield_an (⟨mkE 29 0 [(0, .dat (.list (.int .i64)) x1501), (1, .dat (.int .i64) x1502)], []⟩ : St) (spec_l2Yield_n9 (spec_l2Yield_fuel n) x1501 x1502) (fun (t : Int) => (Exit.ret, (⟨mkE 29 0 [(4, .dat (.int .i64) t)], []⟩ : St))) := by
  unfold spec_l2Yield_n9
  exact Link.cast (by kernel_rfl) (by kernel_rfl) (link_group (c := (Code.fst (Code.snd (bodyOf Tryd.f22)))) (a := (Ann.fst (Ann.snd spec_l2Yield_an))) [(Code.fst (bodyOf Tryd.f22))] [(Ann.fst spec_l2Yield_an)] rfl (link_seq (b := (Code.snd (Code.snd (bodyOf Tryd.f22)))) (y := (Ann.snd (Ann.snd spec_l2Yield_an))) (spec_l2Yield_n1_l n x1501 x1502) (fun (t : Int) => (spec_l2Yield_n8_l n x1501 x1502 t))))

theorem spec_l2Yield_e (n : Nat) (x1501 : List Int) (x1502 : Int) {r : AV} {H' : Heap} (h : (Ans.mk _ (spec_l2Yield_fuel (n + 1) x1501 x1502) (fun (t : Int) => (.dat (.int .i64) t, []))).run = some (r, H')) : Awp (spec_l2Yield_ctx n) LL (bodyOf Tryd.f22) spec_l2Yield_an (⟨mkE 29 0 [(0, .dat (.list (.int .i64)) x1501), (1, .dat (.int .i64) x1502)], []⟩ : St) (Ret (tlook tys) Tryd.f22.results.toList r H') :=
  ret_of' (spec_l2Yield_n9_l n x1501 x1502) (by (show _ = _); kernel_rfl) (by
  intro t
  exact ret_mk [.dat (.int .i64) t] (by kernel_rfl) (by kernel_rfl) (by kernel_rfl) (by kernel_rfl)) h

theorem spec_l2Yield_step (n : Nat) (h22 : Sound Tryd.prog 22 (F_spec_l2Yield_fuel n)) : Sound Tryd.prog 22 (F_spec_l2Yield_fuel (n + 1)) := by
  refine fn_sound' (C := spec_l2Yield_ctx n) (c := bodyOf Tryd.f22) (cok_of tys_ok (List.forall_mem_cons.2 ⟨h22, by simp⟩) (List.forall_mem_cons.2 ⟨Tryd.call22, by simp⟩) (by kernel_rfl)) Tryd.func22 (by kernel_rfl) LL spec_l2Yield_an ?_
  intro avs H r H' h
  unfold F_spec_l2Yield_fuel at h
  split at h
  · refine Awp.cast ?_ ?_ ?_ (spec_l2Yield_e n _ _ h) <;> kernel_rfl
  · simp [Ans.no, Ans.run] at h

theorem spec_l2Yield_null : Sound Tryd.prog 22 (F_spec_l2Yield_fuel 0) := by
  intro avs H r H' h
  unfold F_spec_l2Yield_fuel at h
  split at h
  · simp [spec_l2Yield_fuel, spec_l2Yield_knot, Ans.run] at h
  · simp [Ans.no, Ans.run] at h

theorem spec_l2Yield_knot_all : ∀ n, Sound Tryd.prog 22 (F_spec_l2Yield_fuel n)
  | 0 => spec_l2Yield_null
  | n + 1 => by
    have h22 := spec_l2Yield_knot_all n
    exact spec_l2Yield_step n h22

def F_spec_l2Yield : Fun := fun avs H =>
  match avs, H with
  | [.dat (.list (.int .i64)) x1501, .dat (.int .i64) x1502], [] => ⟨_, spec_l2Yield x1501 x1502, fun (t : Int) => (.dat (.int .i64) t, [])⟩
  | _, _ => Ans.no

theorem spec_l2Yield_sound : Sound Tryd.prog 22 F_spec_l2Yield := by
  have e : F_spec_l2Yield = F_spec_l2Yield_fuel RR := by
    funext avs H
    unfold F_spec_l2Yield F_spec_l2Yield_fuel
    split <;> first | rfl | (simp only [spec_l2Yield])
  rw [e]
  exact (spec_l2Yield_knot_all RR)

/-! loop.example/headtrees/spec.l2Words -/

def spec_l2Words_an : Ann := (.seq (.leaf [0]) (.seq (.leaf [0, 3]) (.seq (.seq (.leaf [0, 3, 4]) (.block (.loop (.seq (.seq (.leaf [0, 3, 4, 9]) (.cond (.leaf [0, 3, 4]) (.leaf [3]))) (.seq (.block (.seq (.leaf [0, 3, 4, 16]) (.cond (.leaf [0, 3, 4]) (.leaf [0, 3, 4])))) (.leaf [0, 3, 4])))))) (.seq (.leaf [2]) (.leaf [2])))))

noncomputable def spec_l2Words_ctx : Ctx := ⟨tlook tys, olook [], ioF, 0, false⟩

theorem spec_l2Words_n1_l (x1577 : Int) : Link spec_l2Words_ctx LL (Code.seq (Code.fst (bodyOf Tryd.f21)) (Code.fst (Code.snd (bodyOf Tryd.f21)))) (Ann.seq (Ann.fst spec_l2Words_an) (Ann.fst (Ann.snd spec_l2Words_an))) (⟨mkE 23 0 [(0, .dat (.int .i64) x1577)], []⟩ : St) (spec_l2Words_n1) (fun (t : Unit) => (Exit.normal, (⟨mkE 23 0 [(0, .dat (.int .i64) x1577), (3, .slc 0)], [some (.seq (.int .i64) ([] : List Int))]⟩ : St))) := by
  refine Link.of fun K h => ?_
  simp only [spec_l2Words_n1, wpO_bind, wpO_cond, wpO_map, wpO_some] at h
  exact Awp.of (by kernel_rfl) h

theorem spec_l2Words_n2_l (x1577 : Int) : Link spec_l2Words_ctx LL (Code.fst (Code.fst (Code.snd (Code.snd (bodyOf Tryd.f21))))) (Ann.fst (Ann.fst (Ann.snd (Ann.snd spec_l2Words_an)))) (⟨mkE 23 0 [(0, .dat (.int .i64) x1577), (3, .slc 0)], [some (.seq (.int .i64) ([] : List Int))]⟩ : St) (spec_l2Words_n2) (fun (t : Unit) => (Exit.normal, (⟨mkE 23 0 [(0, .dat (.int .i64) x1577), (3, .slc 0), (4, .dat (.int .i64) 0)], [some (.seq (.int .i64) ([] : List Int))]⟩ : St))) := by
  refine Link.of fun K h => ?_
  simp only [spec_l2Words_n2, wpO_bind, wpO_cond, wpO_map, wpO_some] at h
  exact Awp.of (by kernel_rfl) h

theorem spec_l2Words_n3_l (x1577 : Int) (x1604 : Int) (x1605 : List Int) : Link spec_l2Words_ctx LL (Code.fst (Code.fst (Code.snd (Code.fst (Code.snd (Code.snd (bodyOf Tryd.f21))))))) (Ann.fst (Ann.fst (Ann.snd (Ann.fst (Ann.snd (Ann.snd spec_l2Words_an)))))) (⟨mkE 23 0 [(0, .dat (.int .i64) x1577), (3, .slc 0), (4, .dat (.int .i64) x1604)], [some (.seq (.int .i64) x1605)]⟩ : St) (spec_l2Words_n3 x1577 x1604 x1605) (Sum.elim (fun (t : Int × (List Int)) => (Exit.normal, (⟨mkE 23 0 [(0, .dat (.int .i64) x1577), (3, .slc 0), (4, .dat (.int .i64) t.1)], [some (.seq (.int .i64) t.2)]⟩ : St))) (fun (t : (List Int)) => ((Exit.exit 0), (⟨mkE 23 0 [(3, .slc 0)], [some (.seq (.int .i64) t)]⟩ : St)))) := by
  refine Link.of fun K h => ?_
  simp only [spec_l2Words_n3, wpO_bind, wpO_cond, wpO_map, wpO_some] at h
  exact Awp.of (by kernel_rfl) h

theorem spec_l2Words_n4_l (x1577 : Int) : Link spec_l2Words_ctx LL (Code.fst (Code.snd (Code.fst (Code.snd (Code.snd (bodyOf Tryd.f21)))))) (Ann.fst (Ann.snd (Ann.fst (Ann.snd (Ann.snd spec_l2Words_an))))) (⟨mkE 23 0 [(0, .dat (.int .i64) x1577), (3, .slc 0), (4, .dat (.int .i64) 0)], [some (.seq (.int .i64) ([] : List Int))]⟩ : St) (spec_l2Words_n4 x1577) (fun (t : (List Int)) => ((Exit.exit 0), (⟨mkE 23 0 [(3, .slc 0)], [some (.seq (.int .i64) t)]⟩ : St))) := by
  unfold spec_l2Words_n4
  exact Link.cast (by kernel_rfl) (by kernel_rfl) (link_loop (mk := fun (s : Int × (List Int)) => (⟨mkE 23 0 [(0, .dat (.int .i64) x1577), (3, .slc 0), (4, .dat (.int .i64) s.1)], [some (.seq (.int .i64) s.2)]⟩ : St)) (fin := (fun (t : (List Int)) => ((Exit.exit 0), (⟨mkE 23 0 [(3, .slc 0)], [some (.seq (.int .i64) t)]⟩ : St)))) (by
  rintro t f K h
  · exact h) (fun s => link_map (spec_l2Words_n3_l x1577 s.1 s.2) (Sum.elim (fun (t : Int × (List Int)) => Sum.inl (t.1, t.2)) (fun (t : (List Int)) => Sum.inr t)) (by
  rintro (t | t)
  · kernel_rfl
  · kernel_rfl)) (0, ([] : List Int)))

theorem spec_l2Words_n5_l (x1577 : Int) : Link spec_l2Words_ctx LL (Code.snd (Code.fst (Code.snd (Code.snd (bodyOf Tryd.f21))))) (Ann.snd (Ann.fst (Ann.snd (Ann.snd spec_l2Words_an)))) (⟨mkE 23 0 [(0, .dat (.int .i64) x1577), (3, .slc 0), (4, .dat (.int .i64) 0)], [some (.seq (.int .i64) ([] : List Int))]⟩ : St) (spec_l2Words_n5 x1577) (fun (t : (List Int)) => (Exit.normal, (⟨mkE 23 0 [(3, .slc 0)], [some (.seq (.int .i64) t)]⟩ : St))) := by
  unfold spec_l2Words_n5
  exact Link.cast (by kernel_rfl) (by kernel_rfl) (link_block (id := 0) (spec_l2Words_n4_l x1577) (fun (t : (List Int)) => t) (by
  rintro t K h
  · exact Eq.mp (by kernel_rfl) h))

theorem spec_l2Words_n6_l (x1577 : Int) : Link spec_l2Words_ctx LL (Code.fst (Code.snd (Code.snd (bodyOf Tryd.f21)))) (Ann.fst (Ann.snd (Ann.snd spec_l2Words_an))) (⟨mkE 23 0 [(0, .dat (.int .i64) x1577), (3, .slc 0)], [some (.seq (.int .i64) ([] : List Int))]⟩ : St) (spec_l2Words_n6 x1577) (fun (t : (List Int)) => (Exit.normal, (⟨mkE 23 0 [(3, .slc 0)], [some (.seq (.int .i64) t)]⟩ : St))) := by
  unfold spec_l2Words_n6
  exact Link.cast (by kernel_rfl) (by kernel_rfl) (link_seq (b := (Code.snd (Code.fst (Code.snd (Code.snd (bodyOf Tryd.f21)))))) (y := (Ann.snd (Ann.fst (Ann.snd (Ann.snd spec_l2Words_an))))) (spec_l2Words_n2_l x1577) (fun (t : Unit) => (spec_l2Words_n5_l x1577)))

theorem spec_l2Words_n7_l (x1605 : List Int) : Link spec_l2Words_ctx LL (Code.snd (Code.snd (Code.snd (bodyOf Tryd.f21)))) (Ann.snd (Ann.snd (Ann.snd spec_l2Words_an))) (⟨mkE 23 0 [(3, .slc 0)], [some (.seq (.int .i64) x1605)]⟩ : St) (spec_l2Words_n7 x1605) (fun (t : (List Int)) => (Exit.ret, (⟨mkE 23 0 [(2, .slc 0)], [some (.seq (.int .i64) t)]⟩ : St))) := by
  refine Link.of fun K h => ?_
  simp only [spec_l2Words_n7, wpO_bind, wpO_cond, wpO_map, wpO_some] at h
  exact Awp.of (by kernel_rfl) h

theorem spec_l2Words_n8_l (x1577 : Int) : Link spec_l2Words_ctx LL (Code.snd (Code.snd (bodyOf Tryd.f21))) (Ann.snd (Ann.snd spec_l2Words_an)) (⟨mkE 23 0 [(0, .dat (.int .i64) x1577), (3, .slc 0)], [some (.seq (.int .i64) ([] : List Int))]⟩ : St) (spec_l2Words_n8 x1577) (fun (t : (List Int)) => (Exit.ret, (⟨mkE 23 0 [(2, .slc 0)], [some (.seq (.int .i64) t)]⟩ : St))) := by
  unfold spec_l2Words_n8
  exact Link.cast (by kernel_rfl) (by kernel_rfl) (link_seq (b := (Code.snd (Code.snd (Code.snd (bodyOf Tryd.f21))))) (y := (Ann.snd (Ann.snd (Ann.snd spec_l2Words_an)))) (spec_l2Words_n6_l x1577) (fun (t : (List Int)) => (spec_l2Words_n7_l t)))

theorem spec_l2Words_n9_l (x1577 : Int) : Link spec_l2Words_ctx LL (bodyOf Tryd.f21) spec_l2Words_an (⟨mkE 23 0 [(0, .dat (.int .i64) x1577)], []⟩ : St) (spec_l2Words_n9 x1577) (fun (t : (List Int)) => (Exit.ret, (⟨mkE 23 0 [(2, .slc 0)], [some (.seq (.int .i64) t)]⟩ : St))) := by
  unfold spec_l2Words_n9
  exact Link.cast (by kernel_rfl) (by kernel_rfl) (link_group (c := (Code.fst (Code.snd (bodyOf Tryd.f21)))) (a := (Ann.fst (Ann.snd spec_l2Words_an))) [(Code.fst (bodyOf Tryd.f21))] [(Ann.fst spec_l2Words_an)] rfl (link_seq (b := (Code.snd (Code.snd (bodyOf Tryd.f21)))) (y := (Ann.snd (Ann.snd spec_l2Words_an))) (spec_l2Words_n1_l x1577) (fun (t : Unit) => (spec_l2Words_n8_l x1577))))

theorem spec_l2Words_e (x1577 : Int) {r : AV} {H' : Heap} (h : (Ans.mk _ (spec_l2Words x1577) (fun (t : (List Int)) => (.slc 0, [some (.seq (.int .i64) t)]))).run = some (r, H')) : Awp spec_l2Words_ctx LL (bodyOf Tryd.f21) spec_l2Words_an (⟨mkE 23 0 [(0, .dat (.int .i64) x1577)], []⟩ : St) (Ret (tlook tys) Tryd.f21.results.toList r H') :=
  ret_of' (spec_l2Words_n9_l x1577) (by unfold spec_l2Words; kernel_rfl) (by
  intro t
  exact ret_mk [.slc 0] (by kernel_rfl) (by kernel_rfl) (by kernel_rfl) (by kernel_rfl)) h

def F_spec_l2Words : Fun := fun avs H =>
  match avs, H with
  | [.dat (.int .i64) x1577], [] => ⟨_, spec_l2Words x1577, fun (t : (List Int)) => (.slc 0, [some (.seq (.int .i64) t)])⟩
  | _, _ => Ans.no

theorem spec_l2Words_sound : Sound Tryd.prog 21 F_spec_l2Words := by
  refine fn_sound' (C := spec_l2Words_ctx) (c := bodyOf Tryd.f21) (cok_of tys_ok (by simp) (by simp) (by kernel_rfl)) Tryd.func21 (by kernel_rfl) LL spec_l2Words_an ?_
  intro avs H r H' h
  unfold F_spec_l2Words at h
  split at h
  · refine Awp.cast ?_ ?_ ?_ (spec_l2Words_e _ h) <;> kernel_rfl
  · simp [Ans.no, Ans.run] at h

/-! loop.example/headtrees/spec.YieldOf -/

def spec_YieldOf_an : Ann := (.seq (.leaf [0, 1]) (.seq (.seq (.leaf [0, 1, 14]) (.cond (.seq (.leaf [4]) (.leaf [4])) (.leaf [0, 1]))) (.seq (.leaf [4]) (.leaf [4]))))

noncomputable def spec_YieldOf_ctx : Ctx := ⟨tlook tys, olook [(19, F_spec_TreeOk), (20, F_spec_l1In), (22, F_spec_l2Yield), (21, F_spec_l2Words)], ioF, 0, false⟩

theorem spec_YieldOf_n1_l (x1340 : List Int) (x1341 : Int) : Link spec_YieldOf_ctx LL (bodyOf Tryd.f12) spec_YieldOf_an (⟨mkE 20 0 [(0, .dat (.list (.int .i64)) x1340), (1, .dat (.int .i64) x1341)], []⟩ : St) (spec_YieldOf_n1 x1340 x1341) (fun (t : (List Int)) => (Exit.ret, (⟨mkE 20 0 [(4, .slc 0)], [some (.seq (.int .i64) t)]⟩ : St))) := by
  refine Link.of fun K h => ?_
  simp only [spec_YieldOf_n1, wpO_bind, wpO_cond, wpO_map, wpO_some] at h
  exact Awp.of (by kernel_rfl) h

theorem spec_YieldOf_e (x1340 : List Int) (x1341 : Int) {r : AV} {H' : Heap} (h : (Ans.mk _ (spec_YieldOf x1340 x1341) (fun (t : (List Int)) => (.slc 0, [some (.seq (.int .i64) t)]))).run = some (r, H')) : Awp spec_YieldOf_ctx LL (bodyOf Tryd.f12) spec_YieldOf_an (⟨mkE 20 0 [(0, .dat (.list (.int .i64)) x1340), (1, .dat (.int .i64) x1341)], []⟩ : St) (Ret (tlook tys) Tryd.f12.results.toList r H') :=
  ret_of' (spec_YieldOf_n1_l x1340 x1341) (by unfold spec_YieldOf; kernel_rfl) (by
  intro t
  exact ret_mk [.slc 0] (by kernel_rfl) (by kernel_rfl) (by kernel_rfl) (by kernel_rfl)) h

def F_spec_YieldOf : Fun := fun avs H =>
  match avs, H with
  | [.dat (.list (.int .i64)) x1340, .dat (.int .i64) x1341], [] => ⟨_, spec_YieldOf x1340 x1341, fun (t : (List Int)) => (.slc 0, [some (.seq (.int .i64) t)])⟩
  | _, _ => Ans.no

theorem spec_YieldOf_sound : Sound Tryd.prog 12 F_spec_YieldOf := by
  refine fn_sound' (C := spec_YieldOf_ctx) (c := bodyOf Tryd.f12) (cok_of tys_ok (List.forall_mem_cons.2 ⟨spec_TreeOk_sound, List.forall_mem_cons.2 ⟨spec_l1In_sound, List.forall_mem_cons.2 ⟨spec_l2Yield_sound, List.forall_mem_cons.2 ⟨spec_l2Words_sound, by simp⟩⟩⟩⟩) (List.forall_mem_cons.2 ⟨Tryd.call19, List.forall_mem_cons.2 ⟨Tryd.call20, List.forall_mem_cons.2 ⟨Tryd.call22, List.forall_mem_cons.2 ⟨Tryd.call21, by simp⟩⟩⟩⟩) (by kernel_rfl)) Tryd.func12 (by kernel_rfl) LL spec_YieldOf_an ?_
  intro avs H r H' h
  unfold F_spec_YieldOf at h
  split at h
  · refine Awp.cast ?_ ?_ ?_ (spec_YieldOf_e _ _ h) <;> kernel_rfl
  · simp [Ans.no, Ans.run] at h

/-! loop.example/headtrees/spec.RowsOf -/

def spec_RowsOf_an : Ann := (.seq (.leaf [0, 1]) (.seq (.leaf [0, 1, 5]) (.seq (.leaf [5, 6]) (.seq (.seq (.leaf [5, 6, 7]) (.block (.loop (.seq (.seq (.leaf [5, 6, 7, 15]) (.cond (.leaf [5, 6, 7]) (.leaf [5]))) (.seq (.block (.seq (.draw [] [0, 1, 2, 3, 4, 5, 6, 7, 8, 9, 10, 11, 12, 13, 14] [] [5, 6, 7, 32]) (.cond (.draw [16] [0, 1, 2, 3, 4, 5, 6, 7, 8, 9, 10, 11, 12, 13, 14, 15, 16, 17, 18] [] [5, 6, 7]) (.draw [9] [0, 1, 2, 3, 4, 5, 6, 7, 8, 9, 10, 11, 12] [] [5, 6, 7])))) (.leaf [5, 6, 7])))))) (.seq (.leaf [4]) (.leaf [4]))))))

noncomputable def spec_RowsOf_ctx : Ctx := ⟨tlook tys, olook [(12, F_spec_YieldOf)], ioF, 0, false⟩

theorem spec_RowsOf_n1_l (x1338 : List Int) (x1339 : Int) : Link spec_RowsOf_ctx LL (Code.seq (Code.fst (bodyOf Tryd.f4)) (Code.seq (Code.fst (Code.snd (bodyOf Tryd.f4))) (Code.fst (Code.snd (Code.snd (bodyOf Tryd.f4)))))) (Ann.seq (Ann.fst spec_RowsOf_an) (Ann.seq (Ann.fst (Ann.snd spec_RowsOf_an)) (Ann.fst (Ann.snd (Ann.snd spec_RowsOf_an))))) (⟨mkE 64 0 [(0, .dat (.list (.int .i64)) x1338), (1, .dat (.int .i64) x1339)], []⟩ : St) (spec_RowsOf_n1 x1338 x1339) (fun (t : (List Int)) => (Exit.normal, (⟨mkE 64 0 [(5, .slc 0), (6, .slc 1)], [some (.seq (.list (.int .i64)) ([] : List (List Int))), some (.seq (.int .i64) t)]⟩ : St))) := by
  refine Link.of fun K h => ?_
  simp only [spec_RowsOf_n1, wpO_bind, wpO_cond, wpO_map, wpO_some] at h
  exact Awp.of (by kernel_rfl) h

theorem spec_RowsOf_n2_l (x1721 : List Int) : Link spec_RowsOf_ctx LL (Code.fst (Code.fst (Code.snd (Code.snd (Code.snd (bodyOf Tryd.f4)))))) (Ann.fst (Ann.fst (Ann.snd (Ann.snd (Ann.snd spec_RowsOf_an))))) (⟨mkE 64 0 [(5, .slc 0), (6, .slc 1)], [some (.seq (.list (.int .i64)) ([] : List (List Int))), some (.seq (.int .i64) x1721)]⟩ : St) (spec_RowsOf_n2) (fun (t : Unit) => (Exit.normal, (⟨mkE 64 0 [(5, .slc 0), (6, .slc 1), (7, .dat (.int .i64) 0)], [some (.seq (.list (.int .i64)) ([] : List (List Int))), some (.seq (.int .i64) x1721)]⟩ : St))) := by
  refine Link.of fun K h => ?_
  simp only [spec_RowsOf_n2, wpO_bind, wpO_cond, wpO_map, wpO_some] at h
  exact Awp.of (by kernel_rfl) h

theorem spec_RowsOf_n3_l (x1809 : Int) (x1810 : List (List Int)) (x1721 : List Int) : Link spec_RowsOf_ctx LL (Code.fst (Code.fst (Code.snd (Code.fst (Code.snd (Code.snd (Code.snd (bodyOf Tryd.f4)))))))) (Ann.fst (Ann.fst (Ann.snd (Ann.fst (Ann.snd (Ann.snd (Ann.snd spec_RowsOf_an))))))) (⟨mkE 64 0 [(5, .slc 0), (6, .slc 1), (7, .dat (.int .i64) x1809)], [some (.seq (.list (.int .i64)) x1810), some (.seq (.int .i64) x1721)]⟩ : St) (spec_RowsOf_n3 x1809 x1810 x1721) (Sum.elim (fun (t : Int × (List (List Int))) => (Exit.normal, (⟨mkE 64 0 [(5, .slc 0), (6, .slc 1), (7, .dat (.int .i64) t.1)], [some (.seq (.list (.int .i64)) t.2), some (.seq (.int .i64) x1721)]⟩ : St))) (fun (t : (List (List Int))) => ((Exit.exit 0), (⟨mkE 64 0 [(5, .slc 0)], [some (.seq (.list (.int .i64)) t)]⟩ : St)))) := by
  refine Link.of fun K h => ?_
  simp only [spec_RowsOf_n3, wpO_bind, wpO_cond, wpO_map, wpO_some] at h
  exact Awp.of (by kernel_rfl) h

theorem spec_RowsOf_n4_l (x1721 : List Int) : Link spec_RowsOf_ctx LL (Code.fst (Code.snd (Code.fst (Code.snd (Code.snd (Code.snd (bodyOf Tryd.f4))))))) (Ann.fst (Ann.snd (Ann.fst (Ann.snd (Ann.snd (Ann.snd spec_RowsOf_an)))))) (⟨mkE 64 0 [(5, .slc 0), (6, .slc 1), (7, .dat (.int .i64) 0)], [some (.seq (.list (.int .i64)) ([] : List (List Int))), some (.seq (.int .i64) x1721)]⟩ : St) (spec_RowsOf_n4 x1721) (fun (t : (List (List Int))) => ((Exit.exit 0), (⟨mkE 64 0 [(5, .slc 0)], [some (.seq (.list (.int .i64)) t)]⟩ : St))) := by
  unfold spec_RowsOf_n4
  exact Link.cast (by kernel_rfl) (by kernel_rfl) (link_loop (mk := fun (s : Int × (List (List Int))) => (⟨mkE 64 0 [(5, .slc 0), (6, .slc 1), (7, .dat (.int .i64) s.1)], [some (.seq (.list (.int .i64)) s.2), some (.seq (.int .i64) x1721)]⟩ : St)) (fin := (fun (t : (List (List Int))) => ((Exit.exit 0), (⟨mkE 64 0 [(5, .slc 0)], [some (.seq (.list (.int .i64)) t)]⟩ : St)))) (by
  rintro t f K h
  · exact h) (fun s => link_map (spec_RowsOf_n3_l s.1 s.2 x1721) (Sum.elim (fun (t : Int × (List (List Int))) => Sum.inl (t.1, t.2)) (fun (t : (List (List Int))) => Sum.inr t)) (by
  rintro (t | t)
  · kernel_rfl
  · kernel_rfl)) (0, ([] : List (List Int))))

theorem spec_RowsOf_n5_l (x1721 : List Int) : Link spec_RowsOf_ctx LL (Code.snd (Code.fst (Code.snd (Code.snd (Code.snd (bodyOf Tryd.f4)))))) (Ann.snd (Ann.fst (Ann.snd (Ann.snd (Ann.snd spec_RowsOf_an))))) (⟨mkE 64 0 [(5, .slc 0), (6, .slc 1), (7, .dat (.int .i64) 0)], [some (.seq (.list (.int .i64)) ([] : List (List Int))), some (.seq (.int .i64) x1721)]⟩ : St) (spec_RowsOf_n5 x1721) (fun (t : (List (List Int))) => (Exit.normal, (⟨mkE 64 0 [(5, .slc 0)], [some (.seq (.list (.int .i64)) t)]⟩ : St))) := by
  unfold spec_RowsOf_n5
  exact Link.cast (by kernel_rfl) (by kernel_rfl) (link_block (id := 0) (spec_RowsOf_n4_l x1721) (fun (t : (List (List Int))) => t) (by
  rintro t K h
  · exact Eq.mp (by kernel_rfl) h))

theorem spec_RowsOf_n6_l (x1721 : List Int) : Link spec_RowsOf_ctx LL (Code.fst (Code.snd (Code.snd (Code.snd (bodyOf Tryd.f4))))) (Ann.fst (Ann.snd (Ann.snd (Ann.snd spec_RowsOf_an)))) (⟨mkE 64 0 [(5, .slc 0), (6, .slc 1)], [some (.seq (.list (.int .i64)) ([] : List (List Int))), some (.seq (.int .i64) x1721)]⟩ : St) (spec_RowsOf_n6 x1721) (fun (t : (List (List Int))) => (Exit.normal, (⟨mkE 64 0 [(5, .slc 0)], [some (.seq (.list (.int .i64)) t)]⟩ : St))) := by
  unfold spec_RowsOf_n6
  exact Link.cast (by kernel_rfl) (by kernel_rfl) (link_seq (b := (Code.snd (Code.fst (Code.snd (Code.snd (Code.snd (bodyOf Tryd.f4))))))) (y := (Ann.snd (Ann.fst (Ann.snd (Ann.snd (Ann.snd spec_RowsOf_an)))))) (spec_RowsOf_n2_l x1721) (fun (t : Unit) => (spec_RowsOf_n5_l x1721)))

theorem spec_RowsOf_n7_l (x1810 : List (List Int)) : Link spec_RowsOf_ctx LL (Code.snd (Code.snd (Code.snd (Code.snd (bodyOf Tryd.f4))))) (Ann.snd (Ann.snd (Ann.snd (Ann.snd spec_RowsOf_an)))) (⟨mkE 64 0 [(5, .slc 0)], [some (.seq (.list (.int .i64)) x1810)]⟩ : St) (spec_RowsOf_n7 x1810) (fun (t : (List (List Int))) => (Exit.ret, (⟨mkE 64 0 [(4, .slc 0)], [some (.seq (.list (.int .i64)) t)]⟩ : St))) := by
  refine Link.of fun K h => ?_
  simp only [spec_RowsOf_n7, wpO_bind, wpO_cond, wpO_map, wpO_some] at h
  exact Awp.of (by kernel_rfl) h

theorem spec_RowsOf_n8_l (x1721 : List Int) : Link spec_RowsOf_ctx LL (Code.snd (Code.snd (Code.snd (bodyOf Tryd.f4)))) (Ann.snd (Ann.snd (Ann.snd spec_RowsOf_an))) (⟨mkE 64 0 [(5, .slc 0), (6, .slc 1)], [some (.seq (.list (.int .i64)) ([] : List (List Int))), some (.seq (.int .i64) x1721)]⟩ : St) (spec_RowsOf_n8 x1721) (fun (t : (List (List Int))) => (Exit.ret, (⟨mkE 64 0 [(4, .slc 0)], [some (.seq (.list (.int .i64)) t)]⟩ : St))) := by
  unfold spec_RowsOf_n8
  exact Link.cast (by kernel_rfl) (by kernel_rfl) (link_seq (b := (Code.snd (Code.snd (Code.snd (Code.snd (bodyOf Tryd.f4)))))) (y := (Ann.snd (Ann.snd (Ann.snd (Ann.snd spec_RowsOf_an))))) (spec_RowsOf_n6_l x1721) (fun (t : (List (List Int))) => (spec_RowsOf_n7_l t)))

theorem spec_RowsOf_n9_l (x1338 : List Int) (x1339 : Int) : Link spec_RowsOf_ctx LL (bodyOf Tryd.f4) spec_RowsOf_an (⟨mkE 64 0 [(0, .dat (.list (.int .i64)) x1338), (1, .dat (.int .i64) x1339)], []⟩ : St) (spec_RowsOf_n9 x1338 x1339) (fun (t : (List (List Int))) => (Exit.ret, (⟨mkE 64 0 [(4, .slc 0)], [some (.seq (.list (.int .i64)) t)]⟩ : St))) := by
  unfold spec_RowsOf_n9
  exact Link.cast (by kernel_rfl) (by kernel_rfl) (link_group (c := (Code.fst (Code.snd (Code.snd (bodyOf Tryd.f4))))) (a := (Ann.fst (Ann.snd (Ann.snd spec_RowsOf_an)))) [(Code.fst (bodyOf Tryd.f4)), (Code.fst (Code.snd (bodyOf Tryd.f4)))] [(Ann.fst spec_RowsOf_an), (Ann.fst (Ann.snd spec_RowsOf_an))] rfl (link_seq (b := (Code.snd (Code.snd (Code.snd (bodyOf Tryd.f4))))) (y := (Ann.snd (Ann.snd (Ann.snd spec_RowsOf_an)))) (spec_RowsOf_n1_l x1338 x1339) (fun (t : (List Int)) => (spec_RowsOf_n8_l t))))

theorem spec_RowsOf_e (x1338 : List Int) (x1339 : Int) {r : AV} {H' : Heap} (h : (Ans.mk _ (spec_RowsOf x1338 x1339) (fun (t : (List (List Int))) => (.slc 0, [some (.seq (.list (.int .i64)) t)]))).run = some (r, H')) : Awp spec_RowsOf_ctx LL (bodyOf Tryd.f4) spec_RowsOf_an (⟨mkE 64 0 [(0, .dat (.list (.int .i64)) x1338), (1, .dat (.int .i64) x1339)], []⟩ : St) (Ret (tlook tys) Tryd.f4.results.toList r H') :=
  ret_of' (spec_RowsOf_n9_l x1338 x1339) (by unfold spec_RowsOf; kernel_rfl) (by
  intro t
  exact ret_mk [.slc 0] (by kernel_rfl) (by kernel_rfl) (by kernel_rfl) (by kernel_rfl)) h

def F_spec_RowsOf : Fun := fun avs H =>
  match avs, H with
  | [.dat (.list (.int .i64)) x1338, .dat (.int .i64) x1339], [] => ⟨_, spec_RowsOf x1338 x1339, fun (t : (List (List Int))) => (.slc 0, [some (.seq (.list (.int .i64)) t)])⟩
  | _, _ => Ans.no

theorem spec_RowsOf_sound : Sound Tryd.prog 4 F_spec_RowsOf := by
  refine fn_sound' (C := spec_RowsOf_ctx) (c := bodyOf Tryd.f4) (cok_of tys_ok (List.forall_mem_cons.2 ⟨spec_YieldOf_sound, by simp⟩) (List.forall_mem_cons.2 ⟨Tryd.call12, by simp⟩) (by kernel_rfl)) Tryd.func4 (by kernel_rfl) LL spec_RowsOf_an ?_
  intro avs H r H' h
  unfold F_spec_RowsOf at h
  split at h
  · refine Awp.cast ?_ ?_ ?_ (spec_RowsOf_e _ _ h) <;> kernel_rfl
  · simp [Ans.no, Ans.run] at h

/-! loop.example/headtrees/impl.oneRoot -/

def impl_oneRoot_an : Ann := (.seq (.leaf [0]) (.seq (.leaf [0, 3]) (.seq (.seq (.leaf [0, 3, 6, 7, 8]) (.block (.loop (.seq (.leaf [0, 3, 6, 7, 8, 9]) (.seq (.cond (.leaf [0, 3, 6, 7, 8]) (.leaf [3])) (.seq (.block (.seq (.leaf [0, 3, 5, 6, 7, 8]) (.seq (.seq (.leaf [0, 3, 5, 6, 7, 8, 19]) (.cond (.seq (.leaf [2]) (.leaf [2])) (.leaf [0, 3, 5, 6, 7, 8]))) (.seq (.leaf [0, 3, 6, 7, 8, 21]) (.cond (.leaf [0, 3, 6, 7, 8]) (.leaf [0, 3, 6, 7, 8])))))) (.leaf [0, 3, 6, 7, 8]))))))) (.seq (.leaf [2]) (.leaf [2])))))

noncomputable def impl_oneRoot_ctx : Ctx := ⟨tlook tys, olook [], ioF, 0, false⟩

theorem impl_oneRoot_n1_l (x1923 : List Int) : Link impl_oneRoot_ctx LL (Code.seq (Code.fst (bodyOf Tryd.f28)) (Code.fst (Code.snd (bodyOf Tryd.f28)))) (Ann.seq (Ann.fst impl_oneRoot_an) (Ann.fst (Ann.snd impl_oneRoot_an))) (⟨mkE 27 0 [(0, .dat (.list (.int .i64)) x1923)], []⟩ : St) (impl_oneRoot_n1) (fun (t : Unit) => (Exit.normal, (⟨mkE 27 0 [(0, .dat (.list (.int .i64)) x1923), (3, .dat (.int .i64) 0)], []⟩ : St))) := by
  refine Link.of fun K h => ?_
  simp only [impl_oneRoot_n1, wpO_bind, wpO_cond, wpO_map, wpO_some] at h
  exact Awp.of (by kernel_rfl) h

theorem impl_oneRoot_n2_l (x1923 : List Int) : Link impl_oneRoot_ctx LL (Code.fst (Code.fst (Code.snd (Code.snd (bodyOf Tryd.f28))))) (Ann.fst (Ann.fst (Ann.snd (Ann.snd impl_oneRoot_an)))) (⟨mkE 27 0 [(0, .dat (.list (.int .i64)) x1923), (3, .dat (.int .i64) 0)], []⟩ : St) (impl_oneRoot_n2 x1923) (fun (t : Int) => (Exit.normal, (⟨mkE 27 0 [(0, .dat (.list (.int .i64)) x1923), (3, .dat (.int .i64) 0), (6, .dat (.list (.int .i64)) x1923), (7, .dat (.int .i64) t), (8, .dat (.int .i64) 0)], []⟩ : St))) := by
  refine Link.of fun K h => ?_
  simp only [impl_oneRoot_n2, wpO_bind, wpO_cond, wpO_map, wpO_some] at h
  exact Awp.of (by kernel_rfl) h

theorem impl_oneRoot_n3_l (x1923 : List Int) (x1945 : Int) (x1924 : Int) (x1946 : Int) : Link impl_oneRoot_ctx LL (Code.fst (Code.fst (Code.snd (Code.fst (Code.snd (Code.snd (bodyOf Tryd.f28))))))) (Ann.fst (Ann.fst (Ann.snd (Ann.fst (Ann.snd (Ann.snd impl_oneRoot_an)))))) (⟨mkE 27 0 [(0, .dat (.list (.int .i64)) x1923), (3, .dat (.int .i64) x1945), (6, .dat (.list (.int .i64)) x1923), (7, .dat (.int .i64) x1924), (8, .dat (.int .i64) x1946)], []⟩ : St) (impl_oneRoot_n3 x1923 x1945 x1924 x1946) (Sum.elim (fun (t : Int × Int) => (Exit.normal, (⟨mkE 27 0 [(0, .dat (.list (.int .i64)) x1923), (3, .dat (.int .i64) t.1), (6, .dat (.list (.int .i64)) x1923), (7, .dat (.int .i64) x1924), (8, .dat (.int .i64) t.2)], []⟩ : St))) (Sum.elim (fun (t : Bool) => (Exit.ret, (⟨mkE 27 0 [(2, .dat .bool t)], []⟩ : St))) (fun (t : Int) => ((Exit.exit 0), (⟨mkE 27 0 [(3, .dat (.int .i64) t)], []⟩ : St))))) := by
  refine Link.of fun K h => ?_
  simp only [impl_oneRoot_n3, wpO_bind, wpO_cond, wpO_map, wpO_some] at h
  exact Awp.of (by kernel_rfl) h

theorem impl_oneRoot_n4_l (x1923 : List Int) (x1924 : Int) : Link impl_oneRoot_ctx LL (Code.fst (Code.snd (Code.fst (Code.snd (Code.snd (bodyOf Tryd.f28)))))) (Ann.fst (Ann.snd (Ann.fst (Ann.snd (Ann.snd impl_oneRoot_an))))) (⟨mkE 27 0 [(0, .dat (.list (.int .i64)) x1923), (3, .dat (.int .i64) 0), (6, .dat (.list (.int .i64)) x1923), (7, .dat (.int .i64) x1924), (8, .dat (.int .i64) 0)], []⟩ : St) (impl_oneRoot_n4 x1923 x1924) (Sum.elim (fun (t : Bool) => (Exit.ret, (⟨mkE 27 0 [(2, .dat .bool t)], []⟩ : St))) (fun (t : Int) => ((Exit.exit 0), (⟨mkE 27 0 [(3, .dat (.int .i64) t)], []⟩ : St)))) := by
  unfold impl_oneRoot_n4
  exact Link.cast (by kernel_rfl) (by kernel_rfl) (link_loop (mk := fun (s : Int × Int) => (⟨mkE 27 0 [(0, .dat (.list (.int .i64)) x1923), (3, .dat (.int .i64) s.1), (6, .dat (.list (.int .i64)) x1923), (7, .dat (.int .i64) x1924), (8, .dat (.int .i64) s.2)], []⟩ : St)) (fin := (Sum.elim (fun (t : Bool) => (Exit.ret, (⟨mkE 27 0 [(2, .dat .bool t)], []⟩ : St))) (fun (t : Int) => ((Exit.exit 0), (⟨mkE 27 0 [(3, .dat (.int .i64) t)], []⟩ : St))))) (by
  rintro (t | t) f K h
  · exact h
  · exact h) (fun s => link_map (impl_oneRoot_n3_l x1923 s.1 x1924 s.2) (Sum.elim (fun (t : Int × Int) => Sum.inl (t.1, t.2)) (Sum.elim (fun (t : Bool) => Sum.inr (Sum.inl t)) (fun (t : Int) => Sum.inr (Sum.inr t)))) (by
  rintro (t | t | t)
  · kernel_rfl
  · kernel_rfl
  · kernel_rfl)) (0, 0))

theorem impl_oneRoot_n5_l (x1923 : List Int) (x1924 : Int) : Link impl_oneRoot_ctx LL (Code.snd (Code.fst (Code.snd (Code.snd (bodyOf Tryd.f28))))) (Ann.snd (Ann.fst (Ann.snd (Ann.snd impl_oneRoot_an)))) (⟨mkE 27 0 [(0, .dat (.list (.int .i64)) x1923), (3, .dat (.int .i64) 0), (6, .dat (.list (.int .i64)) x1923), (7, .dat (.int .i64) x1924), (8, .dat (.int .i64) 0)], []⟩ : St) (impl_oneRoot_n5 x1923 x1924) (Sum.elim (fun (t : Int) => (Exit.normal, (⟨mkE 27 0 [(3, .dat (.int .i64) t)], []⟩ : St))) (fun (t : Bool) => (Exit.ret, (⟨mkE 27 0 [(2, .dat .bool t)], []⟩ : St)))) := by
  unfold impl_oneRoot_n5
  exact Link.cast (by kernel_rfl) (by kernel_rfl) (link_block (id := 0) (impl_oneRoot_n4_l x1923 x1924) (Sum.elim (fun (t : Bool) => (Sum.inr t)) (fun (t : Int) => (Sum.inl t))) (by
  rintro (t | t) K h
  · exact Eq.mp (by kernel_rfl) h
  · exact Eq.mp (by kernel_rfl) h))

theorem impl_oneRoot_n6_l (x1923 : List Int) : Link impl_oneRoot_ctx LL (Code.fst (Code.snd (Code.snd (bodyOf Tryd.f28)))) (Ann.fst (Ann.snd (Ann.snd impl_oneRoot_an))) (⟨mkE 27 0 [(0, .dat (.list (.int .i64)) x1923), (3, .dat (.int .i64) 0)], []⟩ : St) (impl_oneRoot_n6 x1923) (Sum.elim (fun (t : Int) => (Exit.normal, (⟨mkE 27 0 [(3, .dat (.int .i64) t)], []⟩ : St))) (fun (t : Bool) => (Exit.ret, (⟨mkE 27 0 [(2, .dat .bool t)], []⟩ : St)))) := by
  unfold impl_oneRoot_n6
  exact Link.cast (by kernel_rfl) (by kernel_rfl) (link_seq (b := (Code.snd (Code.fst (Code.snd (Code.snd (bodyOf Tryd.f28)))))) (y := (Ann.snd (Ann.fst (Ann.snd (Ann.snd impl_oneRoot_an))))) (impl_oneRoot_n2_l x1923) (fun (t : Int) => (impl_oneRoot_n5_l x1923 t)))

theorem impl_oneRoot_n7_l (x1945 : Int) : Link impl_oneRoot_ctx LL (Code.snd (Code.snd (Code.snd (bodyOf Tryd.f28)))) (Ann.snd (Ann.snd (Ann.snd impl_oneRoot_an))) (⟨mkE 27 0 [(3, .dat (.int .i64) x1945)], []⟩ : St) (impl_oneRoot_n7 x1945) (fun (t : Bool) => (Exit.ret, (⟨mkE 27 0 [(2, .dat .bool t)], []⟩ : St))) := by
  refine Link.of fun K h => ?_
  simp only [impl_oneRoot_n7, wpO_bind, wpO_cond, wpO_map, wpO_some] at h
  exact Awp.of (by kernel_rfl) h

theorem impl_oneRoot_n8_l (x1923 : List Int) : Link impl_oneRoot_ctx LL (Code.snd (Code.snd (bodyOf Tryd.f28))) (Ann.snd (Ann.snd impl_oneRoot_an)) (⟨mkE 27 0 [(0, .dat (.list (.int .i64)) x1923), (3, .dat (.int .i64) 0)], []⟩ : St) (impl_oneRoot_n8 x1923) (fun (t : Bool) => (Exit.ret, (⟨mkE 27 0 [(2, .dat .bool t)], []⟩ : St))) := by
  unfold impl_oneRoot_n8
  exact Link.cast (by kernel_rfl) (by kernel_rfl) (link_seq2 (b := (Code.snd (Code.snd (Code.snd (bodyOf Tryd.f28))))) (y := (Ann.snd (Ann.snd (Ann.snd impl_oneRoot_an)))) (impl_oneRoot_n6_l x1923) (fun (t : Int) => (impl_oneRoot_n7_l t)) (fun (t : Bool) => t) (by
  rintro t
  · kernel_rfl) (by
  rintro t f K h
  · exact h))

theorem impl_oneRoot_n9_l (x1923 : List Int) : Link impl_oneRoot_ctx LL (bodyOf Tryd.f28) impl_oneRoot_an (⟨mkE 27 0 [(0, .dat (.list (.int .i64)) x1923)], []⟩ : St) (impl_oneRoot_n9 x1923) (fun (t : Bool) => (Exit.ret, (⟨mkE 27 0 [(2, .dat .bool t)], []⟩ : St))) := by
  unfold impl_oneRoot_n9
  exact Link.cast (by kernel_rfl) (by kernel_rfl) (link_group (c := (Code.fst (Code.snd (bodyOf Tryd.f28)))) (a := (Ann.fst (Ann.snd impl_oneRoot_an))) [(Code.fst (bodyOf Tryd.f28))] [(Ann.fst impl_oneRoot_an)] rfl (link_seq (b := (Code.snd (Code.snd (bodyOf Tryd.f28)))) (y := (Ann.snd (Ann.snd impl_oneRoot_an))) (impl_oneRoot_n1_l x1923) (fun (t : Unit) => (impl_oneRoot_n8_l x1923))))

theorem impl_oneRoot_e (x1923 : List Int) {r : AV} {H' : Heap} (h : (Ans.mk _ (impl_oneRoot x1923) (fun (t : Bool) => (.dat .bool t, []))).run = some (r, H')) : Awp impl_oneRoot_ctx LL (bodyOf Tryd.f28) impl_oneRoot_an (⟨mkE 27 0 [(0, .dat (.list (.int .i64)) x1923)], []⟩ : St) (Ret (tlook tys) Tryd.f28.results.toList r H') :=
  ret_of' (impl_oneRoot_n9_l x1923) (by unfold impl_oneRoot; kernel_rfl) (by
  intro t
  exact ret_mk [.dat .bool t] (by kernel_rfl) (by kernel_rfl) (by kernel_rfl) (by kernel_rfl)) h

def F_impl_oneRoot : Fun := fun avs H =>
  match avs, H with
  | [.dat (.list (.int .i64)) x1923], [] => ⟨_, impl_oneRoot x1923, fun (t : Bool) => (.dat .bool t, [])⟩
  | _, _ => Ans.no

theorem impl_oneRoot_sound : Sound Tryd.prog 28 F_impl_oneRoot := by
  refine fn_sound' (C := impl_oneRoot_ctx) (c := bodyOf Tryd.f28) (cok_of tys_ok (by simp) (by simp) (by kernel_rfl)) Tryd.func28 (by kernel_rfl) LL impl_oneRoot_an ?_
  intro avs H r H' h
  unfold F_impl_oneRoot at h
  split at h
  · refine Awp.cast ?_ ?_ ?_ (impl_oneRoot_e _ h) <;> kernel_rfl
  · simp [Ans.no, Ans.run] at h

/-! (*loop.example/headtrees/impl.walker).up -/

def impl_walker_up_an : Ann := (.seq (.leaf [0]) (.seq (.draw [] [0, 1, 2, 3, 4, 5, 6, 7, 8, 9, 10, 11] [] [0, 3]) (.seq (.seq (.leaf [0, 3, 16]) (.cond (.seq (.leaf [2]) (.leaf [2])) (.leaf [0, 3]))) (.seq (.leaf [0]) (.seq (.leaf []) (.seq (.leaf [2]) (.leaf [2])))))))

noncomputable def impl_walker_up_ctx : Ctx := ⟨tlook tys, olook [], ioF, 1, false⟩

theorem impl_walker_up_n1_l (x1979 : List Int) (x1980 : Int) (x1981 : Int) : Link impl_walker_up_ctx LL (bodyOf Tryd.f32) impl_walker_up_an (⟨mkE 28 0 [(0, .ptr 0 0)], [some (.box [.dat (.list (.int .i64)) x1979, .dat (.int .i64) x1980, .dat (.int .i64) x1981])]⟩ : St) (impl_walker_up_n1 x1979 x1980 x1981) (fun (t : Bool × Int × Int) => (Exit.ret, (⟨mkE 28 0 [(2, .dat .bool t.1)], [some (.box [.dat (.list (.int .i64)) x1979, .dat (.int .i64) t.2.1, .dat (.int .i64) t.2.2])]⟩ : St))) := by
  refine Link.of fun K h => ?_
  simp only [impl_walker_up_n1, wpO_bind, wpO_cond, wpO_map, wpO_some] at h
  exact Awp.of (by kernel_rfl) h

theorem impl_walker_up_e (x1979 : List Int) (x1980 : Int) (x1981 : Int) {r : AV} {H' : Heap} (h : (Ans.mk _ (impl_walker_up x1979 x1980 x1981) (fun (t : Bool × Int × Int) => (.dat .bool t.1, [some (.box [.dat (.list (.int .i64)) x1979, .dat (.int .i64) t.2.1, .dat (.int .i64) t.2.2])]))).run = some (r, H')) : Awp impl_walker_up_ctx LL (bodyOf Tryd.f32) impl_walker_up_an (⟨mkE 28 0 [(0, .ptr 0 0)], [some (.box [.dat (.list (.int .i64)) x1979, .dat (.int .i64) x1980, .dat (.int .i64) x1981])]⟩ : St) (Ret (tlook tys) Tryd.f32.results.toList r H') :=
  ret_of' (impl_walker_up_n1_l x1979 x1980 x1981) (by unfold impl_walker_up; kernel_rfl) (by
  intro t
  exact ret_mk [.dat .bool t.1] (by kernel_rfl) (by kernel_rfl) (by kernel_rfl) (by kernel_rfl)) h

def F_impl_walker_up : Fun := fun avs H =>
  match avs, H with
  | [.ptr 0 0], [some (.box [.dat (.list (.int .i64)) x1979, .dat (.int .i64) x1980, .dat (.int .i64) x1981])] => ⟨_, impl_walker_up x1979 x1980 x1981, fun (t : Bool × Int × Int) => (.dat .bool t.1, [some (.box [.dat (.list (.int .i64)) x1979, .dat (.int .i64) t.2.1, .dat (.int .i64) t.2.2])])⟩
  | _, _ => Ans.no

theorem impl_walker_up_sound : Sound Tryd.prog 32 F_impl_walker_up := by
  refine fn_sound' (C := impl_walker_up_ctx) (c := bodyOf Tryd.f32) (cok_of tys_ok (by simp) (by simp) (by kernel_rfl)) Tryd.func32 (by kernel_rfl) LL impl_walker_up_an ?_
  intro avs H r H' h
  unfold F_impl_walker_up at h
  split at h
  · refine Awp.cast ?_ ?_ ?_ (impl_walker_up_e _ _ _ h) <;> kernel_rfl
  · simp [Ans.no, Ans.run] at h

/-! loop.example/headtrees/impl.stepsToRoot -/

def impl_stepsToRoot_an : Ann := (.seq (.leaf [0, 1]) (.seq (.leaf [0, 6]) (.seq (.block (.loop (.seq (.seq (.leaf [0, 6, 10]) (.cond (.leaf [0, 6]) (.leaf [6]))) (.block (.seq (.leaf [0, 6, 15]) (.cond (.seq (.leaf [4, 5]) (.leaf [4, 5])) (.leaf [0, 6]))))))) (.seq (.leaf [4, 5]) (.leaf [4, 5])))))

noncomputable def impl_stepsToRoot_ctx : Ctx := ⟨tlook tys, olook [(32, F_impl_walker_up)], ioF, 0, false⟩

theorem impl_stepsToRoot_n1_l (x1977 : List Int) (x1978 : Int) : Link impl_stepsToRoot_ctx LL (Code.seq (Code.fst (bodyOf Tryd.f29)) (Code.fst (Code.snd (bodyOf Tryd.f29)))) (Ann.seq (Ann.fst impl_stepsToRoot_an) (Ann.fst (Ann.snd impl_stepsToRoot_an))) (⟨mkE 18 0 [(0, .dat (.list (.int .i64)) x1977), (1, .dat (.int .i64) x1978)], []⟩ : St) (impl_stepsToRoot_n1) (fun (t : Unit) => (Exit.normal, (⟨mkE 18 0 [(0, .dat (.list (.int .i64)) x1977), (6, .ptr 0 0)], [some (.box [.dat (.list (.int .i64)) x1977, .dat (.int .i64) x1978, .dat (.int .i64) 0])]⟩ : St))) := by
  refine Link.of fun K h => ?_
  simp only [impl_stepsToRoot_n1, wpO_bind, wpO_cond, wpO_map, wpO_some] at h
  exact Awp.of (by kernel_rfl) h

theorem impl_stepsToRoot_n2_l (x1977 : List Int) (x2015 : Int) (x2016 : Int) : Link impl_stepsToRoot_ctx LL (Code.fst (Code.fst (Code.fst (Code.snd (Code.snd (bodyOf Tryd.f29)))))) (Ann.fst (Ann.fst (Ann.fst (Ann.snd (Ann.snd impl_stepsToRoot_an))))) (⟨mkE 18 0 [(0, .dat (.list (.int .i64)) x1977), (6, .ptr 0 0)], [some (.box [.dat (.list (.int .i64)) x1977, .dat (.int .i64) x2015, .dat (.int .i64) x2016])]⟩ : St) (impl_stepsToRoot_n2 x1977 x2015 x2016) (Sum.elim (fun (t : Int × Int) => (Exit.normal, (⟨mkE 18 0 [(0, .dat (.list (.int .i64)) x1977), (6, .ptr 0 0)], [some (.box [.dat (.list (.int .i64)) x1977, .dat (.int .i64) t.1, .dat (.int .i64) t.2])]⟩ : St))) (Sum.elim (fun (t : Int × Bool) => (Exit.ret, (⟨mkE 18 0 [(4, .dat (.int .i64) t.1), (5, .dat .bool t.2)], []⟩ : St))) (fun (t : Int × Int) => ((Exit.exit 0), (⟨mkE 18 0 [(6, .ptr 0 0)], [some (.box [.dat (.list (.int .i64)) x1977, .dat (.int .i64) t.1, .dat (.int .i64) t.2])]⟩ : St))))) := by
  refine Link.of fun K h => ?_
  simp only [impl_stepsToRoot_n2, wpO_bind, wpO_cond, wpO_map, wpO_some] at h
  exact Awp.of (by kernel_rfl) h

theorem impl_stepsToRoot_n3_l (x1977 : List Int) (x1978 : Int) : Link impl_stepsToRoot_ctx LL (Code.fst (Code.fst (Code.snd (Code.snd (bodyOf Tryd.f29))))) (Ann.fst (Ann.fst (Ann.snd (Ann.snd impl_stepsToRoot_an)))) (⟨mkE 18 0 [(0, .dat (.list (.int .i64)) x1977), (6, .ptr 0 0)], [some (.box [.dat (.list (.int .i64)) x1977, .dat (.int .i64) x1978, .dat (.int .i64) 0])]⟩ : St) (impl_stepsToRoot_n3 x1977 x1978) (Sum.elim (fun (t : Int × Bool) => (Exit.ret, (⟨mkE 18 0 [(4, .dat (.int .i64) t.1), (5, .dat .bool t.2)], []⟩ : St))) (fun (t : Int × Int) => ((Exit.exit 0), (⟨mkE 18 0 [(6, .ptr 0 0)], [some (.box [.dat (.list (.int .i64)) x1977, .dat (.int .i64) t.1, .dat (.int .i64) t.2])]⟩ : St)))) := by
  unfold impl_stepsToRoot_n3
  exact Link.cast (by kernel_rfl) (by kernel_rfl) (link_loop (mk := fun (s : Int × Int) => (⟨mkE 18 0 [(0, .dat (.list (.int .i64)) x1977), (6, .ptr 0 0)], [some (.box [.dat (.list (.int .i64)) x1977, .dat (.int .i64) s.1, .dat (.int .i64) s.2])]⟩ : St)) (fin := (Sum.elim (fun (t : Int × Bool) => (Exit.ret, (⟨mkE 18 0 [(4, .dat (.int .i64) t.1), (5, .dat .bool t.2)], []⟩ : St))) (fun (t : Int × Int) => ((Exit.exit 0), (⟨mkE 18 0 [(6, .ptr 0 0)], [some (.box [.dat (.list (.int .i64)) x1977, .dat (.int .i64) t.1, .dat (.int .i64) t.2])]⟩ : St))))) (by
  rintro (t | t) f K h
  · exact h
  · exact h) (fun s => link_map (impl_stepsToRoot_n2_l x1977 s.1 s.2) (Sum.elim (fun (t : Int × Int) => Sum.inl (t.1, t.2)) (Sum.elim (fun (t : Int × Bool) => Sum.inr (Sum.inl t)) (fun (t : Int × Int) => Sum.inr (Sum.inr t)))) (by
  rintro (t | t | t)
  · kernel_rfl
  · kernel_rfl
  · kernel_rfl)) (x1978, 0))

theorem impl_stepsToRoot_n4_l (x1977 : List Int) (x1978 : Int) : Link impl_stepsToRoot_ctx LL (Code.fst (Code.snd (Code.snd (bodyOf Tryd.f29)))) (Ann.fst (Ann.snd (Ann.snd impl_stepsToRoot_an))) (⟨mkE 18 0 [(0, .dat (.list (.int .i64)) x1977), (6, .ptr 0 0)], [some (.box [.dat (.list (.int .i64)) x1977, .dat (.int .i64) x1978, .dat (.int .i64) 0])]⟩ : St) (impl_stepsToRoot_n4 x1977 x1978) (Sum.elim (fun (t : Int × Int) => (Exit.normal, (⟨mkE 18 0 [(6, .ptr 0 0)], [some (.box [.dat (.list (.int .i64)) x1977, .dat (.int .i64) t.1, .dat (.int .i64) t.2])]⟩ : St))) (fun (t : Int × Bool) => (Exit.ret, (⟨mkE 18 0 [(4, .dat (.int .i64) t.1), (5, .dat .bool t.2)], []⟩ : St)))) := by
  unfold impl_stepsToRoot_n4
  exact Link.cast (by kernel_rfl) (by kernel_rfl) (link_block (id := 0) (impl_stepsToRoot_n3_l x1977 x1978) (Sum.elim (fun (t : Int × Bool) => (Sum.inr t)) (fun (t : Int × Int) => (Sum.inl (t.1, t.2)))) (by
  rintro (t | t) K h
  · exact Eq.mp (by kernel_rfl) h
  · exact Eq.mp (by kernel_rfl) h))

theorem impl_stepsToRoot_n5_l (x1977 : List Int) (x2023 : Int) (x2024 : Int) : Link impl_stepsToRoot_ctx LL (Code.snd (Code.snd (Code.snd (bodyOf Tryd.f29)))) (Ann.snd (Ann.snd (Ann.snd impl_stepsToRoot_an))) (⟨mkE 18 0 [(6, .ptr 0 0)], [some (.box [.dat (.list (.int .i64)) x1977, .dat (.int .i64) x2023, .dat (.int .i64) x2024])]⟩ : St) (impl_stepsToRoot_n5 x2024) (fun (t : Int × Bool) => (Exit.ret, (⟨mkE 18 0 [(4, .dat (.int .i64) t.1), (5, .dat .bool t.2)], []⟩ : St))) := by
  refine Link.of fun K h => ?_
  simp only [impl_stepsToRoot_n5, wpO_bind, wpO_cond, wpO_map, wpO_some] at h
  exact Awp.of (by kernel_rfl) h

theorem impl_stepsToRoot_n6_l (x1977 : List Int) (x1978 : Int) : Link impl_stepsToRoot_ctx LL (Code.snd (Code.snd (bodyOf Tryd.f29))) (Ann.snd (Ann.snd impl_stepsToRoot_an)) (⟨mkE 18 0 [(0, .dat (.list (.int .i64)) x1977), (6, .ptr 0 0)], [some (.box [.dat (.list (.int .i64)) x1977, .dat (.int .i64) x1978, .dat (.int .i64) 0])]⟩ : St) (impl_stepsToRoot_n6 x1977 x1978) (fun (t : Int × Bool) => (Exit.ret, (⟨mkE 18 0 [(4, .dat (.int .i64) t.1), (5, .dat .bool t.2)], []⟩ : St))) := by
  unfold impl_stepsToRoot_n6
  exact Link.cast (by kernel_rfl) (by kernel_rfl) (link_seq2 (b := (Code.snd (Code.snd (Code.snd (bodyOf Tryd.f29))))) (y := (Ann.snd (Ann.snd (Ann.snd impl_stepsToRoot_an)))) (impl_stepsToRoot_n4_l x1977 x1978) (fun (t : Int × Int) => (impl_stepsToRoot_n5_l x1977 t.1 t.2)) (fun (t : Int × Bool) => t) (by
  rintro t
  · kernel_rfl) (by
  rintro t f K h
  · exact h))

theorem impl_stepsToRoot_n7_l (x1977 : List Int) (x1978 : Int) : Link impl_stepsToRoot_ctx LL (bodyOf Tryd.f29) impl_stepsToRoot_an (⟨mkE 18 0 [(0, .dat (.list (.int .i64)) x1977), (1, .dat (.int .i64) x1978)], []⟩ : St) (impl_stepsToRoot_n7 x1977 x1978) (fun (t : Int × Bool) => (Exit.ret, (⟨mkE 18 0 [(4, .dat (.int .i64) t.1), (5, .dat .bool t.2)], []⟩ : St))) := by
  unfold impl_stepsToRoot_n7
  exact Link.cast (by kernel_rfl) (by kernel_rfl) (link_group (c := (Code.fst (Code.snd (bodyOf Tryd.f29)))) (a := (Ann.fst (Ann.snd impl_stepsToRoot_an))) [(Code.fst (bodyOf Tryd.f29))] [(Ann.fst impl_stepsToRoot_an)] rfl (link_seq (b := (Code.snd (Code.snd (bodyOf Tryd.f29)))) (y := (Ann.snd (Ann.snd impl_stepsToRoot_an))) (impl_stepsToRoot_n1_l x1977 x1978) (fun (t : Unit) => (impl_stepsToRoot_n6_l x1977 x1978))))

theorem impl_stepsToRoot_e (x1977 : List Int) (x1978 : Int) {r : AV} {H' : Heap} (h : (Ans.mk _ (impl_stepsToRoot x1977 x1978) (fun (t : Int × Bool) => (.tup [.dat (.int .i64) t.1, .dat .bool t.2], []))).run = some (r, H')) : Awp impl_stepsToRoot_ctx LL (bodyOf Tryd.f29) impl_stepsToRoot_an (⟨mkE 18 0 [(0, .dat (.list (.int .i64)) x1977), (1, .dat (.int .i64) x1978)], []⟩ : St) (Ret (tlook tys) Tryd.f29.results.toList r H') :=
  ret_of' (impl_stepsToRoot_n7_l x1977 x1978) (by unfold impl_stepsToRoot; kernel_rfl) (by
  intro t
  exact ret_mk [.dat (.int .i64) t.1, .dat .bool t.2] (by kernel_rfl) (by kernel_rfl) (by kernel_rfl) (by kernel_rfl)) h

def F_impl_stepsToRoot : Fun := fun avs H =>
  match avs, H with
  | [.dat (.list (.int .i64)) x1977, .dat (.int .i64) x1978], [] => ⟨_, impl_stepsToRoot x1977 x1978, fun (t : Int × Bool) => (.tup [.dat (.int .i64) t.1, .dat .bool t.2], [])⟩
  | _, _ => Ans.no

theorem impl_stepsToRoot_sound : Sound Tryd.prog 29 F_impl_stepsToRoot := by
  refine fn_sound' (C := impl_stepsToRoot_ctx) (c := bodyOf Tryd.f29) (cok_of tys_ok (List.forall_mem_cons.2 ⟨impl_walker_up_sound, by simp⟩) (List.forall_mem_cons.2 ⟨Tryd.call32, by simp⟩) (by kernel_rfl)) Tryd.func29 (by kernel_rfl) LL impl_stepsToRoot_an ?_
  intro avs H r H' h
  unfold F_impl_stepsToRoot at h
  split at h
  · refine Awp.cast ?_ ?_ ?_ (impl_stepsToRoot_e _ _ h) <;> kernel_rfl
  · simp [Ans.no, Ans.run] at h

/-! loop.example/headtrees/impl.TreeOk -/

def impl_TreeOk_an : Ann := (.seq (.leaf [0]) (.seq (.seq (.leaf [0, 18]) (.cond (.seq (.leaf [2]) (.leaf [2])) (.leaf [0]))) (.seq (.seq (.leaf [0, 20, 21]) (.block (.loop (.seq (.leaf [0, 20, 21, 22]) (.seq (.cond (.leaf [0, 20, 21]) (.leaf [])) (.seq (.block (.seq (.leaf [0, 3, 20, 21]) (.seq (.leaf [0, 5, 20, 21]) (.seq (.leaf [0, 20, 21, 32]) (.cond (.seq (.leaf [2]) (.leaf [2])) (.leaf [0, 20, 21])))))) (.leaf [0, 20, 21]))))))) (.seq (.leaf [2]) (.leaf [2])))))

noncomputable def impl_TreeOk_ctx : Ctx := ⟨tlook tys, olook [(28, F_impl_oneRoot), (29, F_impl_stepsToRoot)], ioF, 0, false⟩

theorem impl_TreeOk_n1_l (x1918 : List Int) : Link impl_TreeOk_ctx LL (Code.seq (Code.fst (bodyOf Tryd.f23)) (Code.fst (Code.snd (bodyOf Tryd.f23)))) (Ann.seq (Ann.fst impl_TreeOk_an) (Ann.fst (Ann.snd impl_TreeOk_an))) (⟨mkE 34 0 [(0, .dat (.list (.int .i64)) x1918)], []⟩ : St) (impl_TreeOk_n1 x1918) (Sum.elim (fun (t : Unit) => (Exit.normal, (⟨mkE 34 0 [(0, .dat (.list (.int .i64)) x1918)], []⟩ : St))) (fun (t : Bool) => (Exit.ret, (⟨mkE 34 0 [(2, .dat .bool t)], []⟩ : St)))) := by
  refine Link.of fun K h => ?_
  simp only [impl_TreeOk_n1, wpO_bind, wpO_cond, wpO_map, wpO_some] at h
  exact Awp.of (by kernel_rfl) h

theorem impl_TreeOk_n2_l (x1918 : List Int) : Link impl_TreeOk_ctx LL (Code.fst (Code.fst (Code.snd (Code.snd (bodyOf Tryd.f23))))) (Ann.fst (Ann.fst (Ann.snd (Ann.snd impl_TreeOk_an)))) (⟨mkE 34 0 [(0, .dat (.list (.int .i64)) x1918)], []⟩ : St) (impl_TreeOk_n2 x1918) (fun (t : Int) => (Exit.normal, (⟨mkE 34 0 [(0, .dat (.list (.int .i64)) x1918), (20, .dat (.int .i64) t), (21, .dat (.int .i64) 0)], []⟩ : St))) := by
  refine Link.of fun K h => ?_
  simp only [impl_TreeOk_n2, wpO_bind, wpO_cond, wpO_map, wpO_some] at h
  exact Awp.of (by kernel_rfl) h

theorem impl_TreeOk_n3_l (x1918 : List Int) (x1972 : Int) (x2040 : Int) : Link impl_TreeOk_ctx LL (Code.fst (Code.fst (Code.snd (Code.fst (Code.snd (Code.snd (bodyOf Tryd.f23))))))) (Ann.fst (Ann.fst (Ann.snd (Ann.fst (Ann.snd (Ann.snd impl_TreeOk_an)))))) (⟨mkE 34 0 [(0, .dat (.list (.int .i64)) x1918), (20, .dat (.int .i64) x1972), (21, .dat (.int .i64) x2040)], []⟩ : St) (impl_TreeOk_n3 x1918 x1972 x2040) (Sum.elim (fun (t : Int) => (Exit.normal, (⟨mkE 34 0 [(0, .dat (.list (.int .i64)) x1918), (20, .dat (.int .i64) x1972), (21, .dat (.int .i64) t)], []⟩ : St))) (Sum.elim (fun (t : Bool) => (Exit.ret, (⟨mkE 34 0 [(2, .dat .bool t)], []⟩ : St))) (fun (t : Unit) => ((Exit.exit 0), (⟨mkE 34 0 [], []⟩ : St))))) := by
  refine Link.of fun K h => ?_
  simp only [impl_TreeOk_n3, wpO_bind, wpO_cond, wpO_map, wpO_some] at h
  exact Awp.of (by kernel_rfl) h

theorem impl_TreeOk_n4_l (x1918 : List Int) (x1972 : Int) : Link impl_TreeOk_ctx LL (Code.fst (Code.snd (Code.fst (Code.snd (Code.snd (bodyOf Tryd.f23)))))) (Ann.fst (Ann.snd (Ann.fst (Ann.snd (Ann.snd impl_TreeOk_an))))) (⟨mkE 34 0 [(0, .dat (.list (.int .i64)) x1918), (20, .dat (.int .i64) x1972), (21, .dat (.int .i64) 0)], []⟩ : St) (impl_TreeOk_n4 x1918 x1972) (Sum.elim (fun (t : Bool) => (Exit.ret, (⟨mkE 34 0 [(2, .dat .bool t)], []⟩ : St))) (fun (t : Unit) => ((Exit.exit 0), (⟨mkE 34 0 [], []⟩ : St)))) := by
  unfold impl_TreeOk_n4
  exact Link.cast (by kernel_rfl) (by kernel_rfl) (link_loop (mk := fun (s : Int) => (⟨mkE 34 0 [(0, .dat (.list (.int .i64)) x1918), (20, .dat (.int .i64) x1972), (21, .dat (.int .i64) s)], []⟩ : St)) (fin := (Sum.elim (fun (t : Bool) => (Exit.ret, (⟨mkE 34 0 [(2, .dat .bool t)], []⟩ : St))) (fun (t : Unit) => ((Exit.exit 0), (⟨mkE 34 0 [], []⟩ : St))))) (by
  rintro (t | t) f K h
  · exact h
  · exact h) (fun s => link_map (impl_TreeOk_n3_l x1918 x1972 s) (Sum.elim (fun (t : Int) => Sum.inl t) (Sum.elim (fun (t : Bool) => Sum.inr (Sum.inl t)) (fun (t : Unit) => Sum.inr (Sum.inr t)))) (by
  rintro (t | t | t)
  · kernel_rfl
  · kernel_rfl
  · kernel_rfl)) 0)

theorem impl_TreeOk_n5_l (x1918 : List Int) (x1972 : Int) : Link impl_TreeOk_ctx LL (Code.snd (Code.fst (Code.snd (Code.snd (bodyOf Tryd.f23))))) (Ann.snd (Ann.fst (Ann.snd (Ann.snd impl_TreeOk_an)))) (⟨mkE 34 0 [(0, .dat (.list (.int .i64)) x1918), (20, .dat (.int .i64) x1972), (21, .dat (.int .i64) 0)], []⟩ : St) (impl_TreeOk_n5 x1918 x1972) (Sum.elim (fun (t : Unit) => (Exit.normal, (⟨mkE 34 0 [], []⟩ : St))) (fun (t : Bool) => (Exit.ret, (⟨mkE 34 0 [(2, .dat .bool t)], []⟩ : St)))) := by
  unfold impl_TreeOk_n5
  exact Link.cast (by kernel_rfl) (by kernel_rfl) (link_block (id := 0) (impl_TreeOk_n4_l x1918 x1972) (Sum.elim (fun (t : Bool) => (Sum.inr t)) (fun (t : Unit) => (Sum.inl ()))) (by
  rintro (t | t) K h
  · exact Eq.mp (by kernel_rfl) h
  · exact Eq.mp (by kernel_rfl) h))

theorem impl_TreeOk_n6_l (x1918 : List Int) : Link impl_TreeOk_ctx LL (Code.fst (Code.snd (Code.snd (bodyOf Tryd.f23)))) (Ann.fst (Ann.snd (Ann.snd impl_TreeOk_an))) (⟨mkE 34 0 [(0, .dat (.list (.int .i64)) x1918)], []⟩ : St) (impl_TreeOk_n6 x1918) (Sum.elim (fun (t : Unit) => (Exit.normal, (⟨mkE 34 0 [], []⟩ : St))) (fun (t : Bool) => (Exit.ret, (⟨mkE 34 0 [(2, .dat .bool t)], []⟩ : St)))) := by
  unfold impl_TreeOk_n6
  exact Link.cast (by kernel_rfl) (by kernel_rfl) (link_seq (b := (Code.snd (Code.fst (Code.snd (Code.snd (bodyOf Tryd.f23)))))) (y := (Ann.snd (Ann.fst (Ann.snd (Ann.snd impl_TreeOk_an))))) (impl_TreeOk_n2_l x1918) (fun (t : Int) => (impl_TreeOk_n5_l x1918 t)))

theorem impl_TreeOk_n7_l : Link impl_TreeOk_ctx LL (Code.snd (Code.snd (Code.snd (bodyOf Tryd.f23)))) (Ann.snd (Ann.snd (Ann.snd impl_TreeOk_an))) (⟨mkE 34 0 [], []⟩ : St) (impl_TreeOk_n7) (fun (t : Bool) => (Exit.ret, (⟨mkE 34 0 [(2, .dat .bool t)], []⟩ : St))) := by
  refine Link.of fun K h => ?_
  simp only [impl_TreeOk_n7, wpO_bind, wpO_cond, wpO_map, wpO_some] at h
  exact Awp.of (by kernel_rfl) h

theorem impl_TreeOk_n8_l (x1918 : List Int) : Link impl_TreeOk_ctx LL (Code.snd (Code.snd (bodyOf Tryd.f23))) (Ann.snd (Ann.snd impl_TreeOk_an)) (⟨mkE 34 0 [(0, .dat (.list (.int .i64)) x1918)], []⟩ : St) (impl_TreeOk_n8 x1918) (fun (t : Bool) => (Exit.ret, (⟨mkE 34 0 [(2, .dat .bool t)], []⟩ : St))) := by
  unfold impl_TreeOk_n8
  exact Link.cast (by kernel_rfl) (by kernel_rfl) (link_seq2 (b := (Code.snd (Code.snd (Code.snd (bodyOf Tryd.f23))))) (y := (Ann.snd (Ann.snd (Ann.snd impl_TreeOk_an)))) (impl_TreeOk_n6_l x1918) (fun (t : Unit) => (impl_TreeOk_n7_l)) (fun (t : Bool) => t) (by
  rintro t
  · kernel_rfl) (by
  rintro t f K h
  · exact h))

theorem impl_TreeOk_n9_l (x1918 : List Int) : Link impl_TreeOk_ctx LL (bodyOf Tryd.f23) impl_TreeOk_an (⟨mkE 34 0 [(0, .dat (.list (.int .i64)) x1918)], []⟩ : St) (impl_TreeOk_n9 x1918) (fun (t : Bool) => (Exit.ret, (⟨mkE 34 0 [(2, .dat .bool t)], []⟩ : St))) := by
  unfold impl_TreeOk_n9
  exact Link.cast (by kernel_rfl) (by kernel_rfl) (link_group (c := (Code.fst (Code.snd (bodyOf Tryd.f23)))) (a := (Ann.fst (Ann.snd impl_TreeOk_an))) [(Code.fst (bodyOf Tryd.f23))] [(Ann.fst impl_TreeOk_an)] rfl (link_seq2 (b := (Code.snd (Code.snd (bodyOf Tryd.f23)))) (y := (Ann.snd (Ann.snd impl_TreeOk_an))) (impl_TreeOk_n1_l x1918) (fun (t : Unit) => (impl_TreeOk_n8_l x1918)) (fun (t : Bool) => t) (by
  rintro t
  · kernel_rfl) (by
  rintro t f K h
  · exact h)))

theorem impl_TreeOk_e (x1918 : List Int) {r : AV} {H' : Heap} (h : (Ans.mk _ (impl_TreeOk x1918) (fun (t : Bool) => (.dat .bool t, []))).run = some (r, H')) : Awp impl_TreeOk_ctx LL (bodyOf Tryd.f23) impl_TreeOk_an (⟨mkE 34 0 [(0, .dat (.list (.int .i64)) x1918)], []⟩ : St) (Ret (tlook tys) Tryd.f23.results.toList r H') :=
  ret_of' (impl_TreeOk_n9_l x1918) (by unfold impl_TreeOk; kernel_rfl) (by
  intro t
  exact ret_mk [.dat .bool t] (by kernel_rfl) (by kernel_rfl) (by kernel_rfl) (by kernel_rfl)) h

def F_impl_TreeOk : Fun := fun avs H =>
  match avs, H with
  | [.dat (.list (.int .i64)) x1918], [] => ⟨_, impl_TreeOk x1918, fun (t : Bool) => (.dat .bool t, [])⟩
  | _, _ => Ans.no

theorem impl_TreeOk_sound : Sound Tryd.prog 23 F_impl_TreeOk := by
  refine fn_sound' (C := impl_TreeOk_ctx) (c := bodyOf Tryd.f23) (cok_of tys_ok (List.forall_mem_cons.2 ⟨impl_oneRoot_sound, List.forall_mem_cons.2 ⟨impl_stepsToRoot_sound, by simp⟩⟩) (List.forall_mem_cons.2 ⟨Tryd.call28, List.forall_mem_cons.2 ⟨Tryd.call29, by simp⟩⟩) (by kernel_rfl)) Tryd.func23 (by kernel_rfl) LL impl_TreeOk_an ?_
  intro avs H r H' h
  unfold F_impl_TreeOk at h
  split at h
  · refine Awp.cast ?_ ?_ ?_ (impl_TreeOk_e _ h) <;> kernel_rfl
  · simp [Ans.no, Ans.run] at h

/-! loop.example/headtrees/impl.wordOk -/

def impl_wordOk_an : Ann := (.seq (.leaf [0, 1]) (.seq (.leaf [4]) (.leaf [4])))

noncomputable def impl_wordOk_ctx : Ctx := ⟨tlook tys, olook [(23, F_impl_TreeOk)], ioF, 0, false⟩

theorem impl_wordOk_n1_l (x1916 : List Int) (x1917 : Int) : Link impl_wordOk_ctx LL (bodyOf Tryd.f13) impl_wordOk_an (⟨mkE 17 0 [(0, .dat (.list (.int .i64)) x1916), (1, .dat (.int .i64) x1917)], []⟩ : St) (impl_wordOk_n1 x1916 x1917) (fun (t : Bool) => (Exit.ret, (⟨mkE 17 0 [(4, .dat .bool t)], []⟩ : St))) := by
  refine Link.of fun K h => ?_
  simp only [impl_wordOk_n1, wpO_bind, wpO_cond, wpO_map, wpO_some] at h
  exact Awp.of (by kernel_rfl) h

theorem impl_wordOk_e (x1916 : List Int) (x1917 : Int) {r : AV} {H' : Heap} (h : (Ans.mk _ (impl_wordOk x1916 x1917) (fun (t : Bool) => (.dat .bool t, []))).run = some (r, H')) : Awp impl_wordOk_ctx LL (bodyOf Tryd.f13) impl_wordOk_an (⟨mkE 17 0 [(0, .dat (.list (.int .i64)) x1916), (1, .dat (.int .i64) x1917)], []⟩ : St) (Ret (tlook tys) Tryd.f13.results.toList r H') :=
  ret_of' (impl_wordOk_n1_l x1916 x1917) (by unfold impl_wordOk; kernel_rfl) (by
  intro t
  exact ret_mk [.dat .bool t] (by kernel_rfl) (by kernel_rfl) (by kernel_rfl) (by kernel_rfl)) h

def F_impl_wordOk : Fun := fun avs H =>
  match avs, H with
  | [.dat (.list (.int .i64)) x1916, .dat (.int .i64) x1917], [] => ⟨_, impl_wordOk x1916 x1917, fun (t : Bool) => (.dat .bool t, [])⟩
  | _, _ => Ans.no

theorem impl_wordOk_sound : Sound Tryd.prog 13 F_impl_wordOk := by
  refine fn_sound' (C := impl_wordOk_ctx) (c := bodyOf Tryd.f13) (cok_of tys_ok (List.forall_mem_cons.2 ⟨impl_TreeOk_sound, by simp⟩) (List.forall_mem_cons.2 ⟨Tryd.call23, by simp⟩) (by kernel_rfl)) Tryd.func13 (by kernel_rfl) LL impl_wordOk_an ?_
  intro avs H r H' h
  unfold F_impl_wordOk at h
  split at h
  · refine Awp.cast ?_ ?_ ?_ (impl_wordOk_e _ _ h) <;> kernel_rfl
  · simp [Ans.no, Ans.run] at h

/-! loop.example/headtrees/impl.RootOf -/

def impl_RootOf_an : Ann := (.seq (.leaf [0]) (.seq (.seq (.leaf [0, 6]) (.cond (.seq (.leaf [2]) (.leaf [2])) (.leaf [0]))) (.seq (.leaf [3]) (.seq (.block (.loop (.seq (.seq (.leaf [3, 9]) (.cond (.leaf [3]) (.leaf [3]))) (.block (.leaf [3]))))) (.seq (.leaf [2]) (.leaf [2]))))))

noncomputable def impl_RootOf_ctx : Ctx := ⟨tlook tys, olook [(23, F_impl_TreeOk), (32, F_impl_walker_up)], ioF, 0, false⟩

theorem impl_RootOf_n1_l (x2077 : List Int) : Link impl_RootOf_ctx LL (Code.seq (Code.fst (bodyOf Tryd.f25)) (Code.seq (Code.fst (Code.snd (bodyOf Tryd.f25))) (Code.fst (Code.snd (Code.snd (bodyOf Tryd.f25)))))) (Ann.seq (Ann.fst impl_RootOf_an) (Ann.seq (Ann.fst (Ann.snd impl_RootOf_an)) (Ann.fst (Ann.snd (Ann.snd impl_RootOf_an))))) (⟨mkE 12 0 [(0, .dat (.list (.int .i64)) x2077)], []⟩ : St) (impl_RootOf_n1 x2077) (Sum.elim (fun (t : Unit) => (Exit.normal, (⟨mkE 12 0 [(3, .ptr 0 0)], [some (.box [.dat (.list (.int .i64)) x2077, .dat (.int .i64) 1, .dat (.int .i64) 0])]⟩ : St))) (fun (t : Int) => (Exit.ret, (⟨mkE 12 0 [(2, .dat (.int .i64) t)], []⟩ : St)))) := by
  refine Link.of fun K h => ?_
  simp only [impl_RootOf_n1, wpO_bind, wpO_cond, wpO_map, wpO_some] at h
  exact Awp.of (by kernel_rfl) h

theorem impl_RootOf_n2_l (x2077 : List Int) (x2090 : Int) (x2091 : Int) : Link impl_RootOf_ctx LL (Code.fst (Code.fst (Code.fst (Code.snd (Code.snd (Code.snd (bodyOf Tryd.f25))))))) (Ann.fst (Ann.fst (Ann.fst (Ann.snd (Ann.snd (Ann.snd impl_RootOf_an)))))) (⟨mkE 12 0 [(3, .ptr 0 0)], [some (.box [.dat (.list (.int .i64)) x2077, .dat (.int .i64) x2090, .dat (.int .i64) x2091])]⟩ : St) (impl_RootOf_n2 x2077 x2090 x2091) (Sum.elim (fun (t : Int × Int) => (Exit.normal, (⟨mkE 12 0 [(3, .ptr 0 0)], [some (.box [.dat (.list (.int .i64)) x2077, .dat (.int .i64) t.1, .dat (.int .i64) t.2])]⟩ : St))) (fun (t : Int × Int) => ((Exit.exit 0), (⟨mkE 12 0 [(3, .ptr 0 0)], [some (.box [.dat (.list (.int .i64)) x2077, .dat (.int .i64) t.1, .dat (.int .i64) t.2])]⟩ : St)))) := by
  refine Link.of fun K h => ?_
  simp only [impl_RootOf_n2, wpO_bind, wpO_cond, wpO_map, wpO_some] at h
  exact Awp.of (by kernel_rfl) h

theorem impl_RootOf_n3_l (x2077 : List Int) : Link impl_RootOf_ctx LL (Code.fst (Code.fst (Code.snd (Code.snd (Code.snd (bodyOf Tryd.f25)))))) (Ann.fst (Ann.fst (Ann.snd (Ann.snd (Ann.snd impl_RootOf_an))))) (⟨mkE 12 0 [(3, .ptr 0 0)], [some (.box [.dat (.list (.int .i64)) x2077, .dat (.int .i64) 1, .dat (.int .i64) 0])]⟩ : St) (impl_RootOf_n3 x2077) (fun (t : Int × Int) => ((Exit.exit 0), (⟨mkE 12 0 [(3, .ptr 0 0)], [some (.box [.dat (.list (.int .i64)) x2077, .dat (.int .i64) t.1, .dat (.int .i64) t.2])]⟩ : St))) := by
  unfold impl_RootOf_n3
  exact Link.cast (by kernel_rfl) (by kernel_rfl) (link_loop (mk := fun (s : Int × Int) => (⟨mkE 12 0 [(3, .ptr 0 0)], [some (.box [.dat (.list (.int .i64)) x2077, .dat (.int .i64) s.1, .dat (.int .i64) s.2])]⟩ : St)) (fin := (fun (t : Int × Int) => ((Exit.exit 0), (⟨mkE 12 0 [(3, .ptr 0 0)], [some (.box [.dat (.list (.int .i64)) x2077, .dat (.int .i64) t.1, .dat (.int .i64) t.2])]⟩ : St)))) (by
  rintro t f K h
  · exact h) (fun s => link_map (impl_RootOf_n2_l x2077 s.1 s.2) (Sum.elim (fun (t : Int × Int) => Sum.inl (t.1, t.2)) (fun (t : Int × Int) => Sum.inr t)) (by
  rintro (t | t)
  · kernel_rfl
  · kernel_rfl)) (1, 0))

theorem impl_RootOf_n4_l (x2077 : List Int) : Link impl_RootOf_ctx LL (Code.fst (Code.snd (Code.snd (Code.snd (bodyOf Tryd.f25))))) (Ann.fst (Ann.snd (Ann.snd (Ann.snd impl_RootOf_an)))) (⟨mkE 12 0 [(3, .ptr 0 0)], [some (.box [.dat (.list (.int .i64)) x2077, .dat (.int .i64) 1, .dat (.int .i64) 0])]⟩ : St) (impl_RootOf_n4 x2077) (fun (t : Int × Int) => (Exit.normal, (⟨mkE 12 0 [(3, .ptr 0 0)], [some (.box [.dat (.list (.int .i64)) x2077, .dat (.int .i64) t.1, .dat (.int .i64) t.2])]⟩ : St))) := by
  unfold impl_RootOf_n4
  exact Link.cast (by kernel_rfl) (by kernel_rfl) (link_block (id := 0) (impl_RootOf_n3_l x2077) (fun (t : Int × Int) => (t.1, t.2)) (by
  rintro t K h
  · exact Eq.mp (by kernel_rfl) h))

theorem impl_RootOf_n5_l (x2077 : List Int) (x2098 : Int) (x2099 : Int) : Link impl_RootOf_ctx LL (Code.snd (Code.snd (Code.snd (Code.snd (bodyOf Tryd.f25))))) (Ann.snd (Ann.snd (Ann.snd (Ann.snd impl_RootOf_an)))) (⟨mkE 12 0 [(3, .ptr 0 0)], [some (.box [.dat (.list (.int .i64)) x2077, .dat (.int .i64) x2098, .dat (.int .i64) x2099])]⟩ : St) (impl_RootOf_n5 x2098) (fun (t : Int) => (Exit.ret, (⟨mkE 12 0 [(2, .dat (.int .i64) t)], []⟩ : St))) := by
  refine Link.of fun K h => ?_
  simp only [impl_RootOf_n5, wpO_bind, wpO_cond, wpO_map, wpO_some] at h
  exact Awp.of (by kernel_rfl) h

theorem impl_RootOf_n6_l (x2077 : List Int) : Link impl_RootOf_ctx LL (Code.snd (Code.snd (Code.snd (bodyOf Tryd.f25)))) (Ann.snd (Ann.snd (Ann.snd impl_RootOf_an))) (⟨mkE 12 0 [(3, .ptr 0 0)], [some (.box [.dat (.list (.int .i64)) x2077, .dat (.int .i64) 1, .dat (.int .i64) 0])]⟩ : St) (impl_RootOf_n6 x2077) (fun (t : Int) => (Exit.ret, (⟨mkE 12 0 [(2, .dat (.int .i64) t)], []⟩ : St))) := by
  unfold impl_RootOf_n6
  exact Link.cast (by kernel_rfl) (by kernel_rfl) (link_seq (b := (Code.snd (Code.snd (Code.snd (Code.snd (bodyOf Tryd.f25)))))) (y := (Ann.snd (Ann.snd (Ann.snd (Ann.snd impl_RootOf_an))))) (impl_RootOf_n4_l x2077) (fun (t : Int × Int) => (impl_RootOf_n5_l x2077 t.1 t.2)))

theorem impl_RootOf_n7_l (x2077 : List Int) : Link impl_RootOf_ctx LL (bodyOf Tryd.f25) impl_RootOf_an (⟨mkE 12 0 [(0, .dat (.list (.int .i64)) x2077)], []⟩ : St) (impl_RootOf_n7 x2077) (fun (t : Int) => (Exit.ret, (⟨mkE 12 0 [(2, .dat (.int .i64) t)], []⟩ : St))) := by
  unfold impl_RootOf_n7
  exact Link.cast (by kernel_rfl) (by kernel_rfl) (link_group (c := (Code.fst (Code.snd (Code.snd (bodyOf Tryd.f25))))) (a := (Ann.fst (Ann.snd (Ann.snd impl_RootOf_an)))) [(Code.fst (bodyOf Tryd.f25)), (Code.fst (Code.snd (bodyOf Tryd.f25)))] [(Ann.fst impl_RootOf_an), (Ann.fst (Ann.snd impl_RootOf_an))] rfl (link_seq2 (b := (Code.snd (Code.snd (Code.snd (bodyOf Tryd.f25))))) (y := (Ann.snd (Ann.snd (Ann.snd impl_RootOf_an)))) (impl_RootOf_n1_l x2077) (fun (t : Unit) => (impl_RootOf_n6_l x2077)) (fun (t : Int) => t) (by
  rintro t
  · kernel_rfl) (by
  rintro t f K h
  · exact h)))

theorem impl_RootOf_e (x2077 : List Int) {r : AV} {H' : Heap} (h : (Ans.mk _ (impl_RootOf x2077) (fun (t : Int) => (.dat (.int .i64) t, []))).run = some (r, H')) : Awp impl_RootOf_ctx LL (bodyOf Tryd.f25) impl_RootOf_an (⟨mkE 12 0 [(0, .dat (.list (.int .i64)) x2077)], []⟩ : St) (Ret (tlook tys) Tryd.f25.results.toList r H') :=
  ret_of' (impl_RootOf_n7_l x2077) (by unfold impl_RootOf; kernel_rfl) (by
  intro t
  exact ret_mk [.dat (.int .i64) t] (by kernel_rfl) (by kernel_rfl) (by kernel_rfl) (by kernel_rfl)) h

def F_impl_RootOf : Fun := fun avs H =>
  match avs, H with
  | [.dat (.list (.int .i64)) x2077], [] => ⟨_, impl_RootOf x2077, fun (t : Int) => (.dat (.int .i64) t, [])⟩
  | _, _ => Ans.no

theorem impl_RootOf_sound : Sound Tryd.prog 25 F_impl_RootOf := by
  refine fn_sound' (C := impl_RootOf_ctx) (c := bodyOf Tryd.f25) (cok_of tys_ok (List.forall_mem_cons.2 ⟨impl_TreeOk_sound, List.forall_mem_cons.2 ⟨impl_walker_up_sound, by simp⟩⟩) (List.forall_mem_cons.2 ⟨Tryd.call23, List.forall_mem_cons.2 ⟨Tryd.call32, by simp⟩⟩) (by kernel_rfl)) Tryd.func25 (by kernel_rfl) LL impl_RootOf_an ?_
  intro avs H r H' h
  unfold F_impl_RootOf at h
  split at h
  · refine Awp.cast ?_ ?_ ?_ (impl_RootOf_e _ h) <;> kernel_rfl
  · simp [Ans.no, Ans.run] at h

/-! loop.example/headtrees/impl.only -/

def impl_only_an : Ann := (.seq (.leaf [0]) (.seq (.leaf [2]) (.leaf [2])))

noncomputable def impl_only_ctx : Ctx := ⟨tlook tys, olook [], ioF, 0, false⟩

theorem impl_only_n1_l (x2105 : Int) : Link impl_only_ctx LL (bodyOf Tryd.f30) impl_only_an (⟨mkE 6 0 [(0, .dat (.int .i64) x2105)], []⟩ : St) (impl_only_n1 x2105) (fun (t : Int) => (Exit.ret, (⟨mkE 6 0 [(2, .dat (.int .u64) t)], []⟩ : St))) := by
  refine Link.of fun K h => ?_
  simp only [impl_only_n1, wpO_bind, wpO_cond, wpO_map, wpO_some] at h
  exact Awp.of (by kernel_rfl) h

theorem impl_only_e (x2105 : Int) {r : AV} {H' : Heap} (h : (Ans.mk _ (impl_only x2105) (fun (t : Int) => (.dat (.int .u64) t, []))).run = some (r, H')) : Awp impl_only_ctx LL (bodyOf Tryd.f30) impl_only_an (⟨mkE 6 0 [(0, .dat (.int .i64) x2105)], []⟩ : St) (Ret (tlook tys) Tryd.f30.results.toList r H') :=
  ret_of' (impl_only_n1_l x2105) (by unfold impl_only; kernel_rfl) (by
  intro t
  exact ret_mk [.dat (.int .u64) t] (by kernel_rfl) (by kernel_rfl) (by kernel_rfl) (by kernel_rfl)) h

def F_impl_only : Fun := fun avs H =>
  match avs, H with
  | [.dat (.int .i64) x2105], [] => ⟨_, impl_only x2105, fun (t : Int) => (.dat (.int .u64) t, [])⟩
  | _, _ => Ans.no

theorem impl_only_sound : Sound Tryd.prog 30 F_impl_only := by
  refine fn_sound' (C := impl_only_ctx) (c := bodyOf Tryd.f30) (cok_of tys_ok (by simp) (by simp) (by kernel_rfl)) Tryd.func30 (by kernel_rfl) LL impl_only_an ?_
  intro avs H r H' h
  unfold F_impl_only at h
  split at h
  · refine Awp.cast ?_ ?_ ?_ (impl_only_e _ h) <;> kernel_rfl
  · simp [Ans.no, Ans.run] at h

/-! loop.example/headtrees/impl.dependents -/

def impl_dependents_an : Ann := (.seq (.leaf [0, 1]) (.seq (.leaf [0, 1, 5]) (.seq (.seq (.leaf [0, 1, 5, 8, 9]) (.block (.loop (.seq (.leaf [0, 1, 5, 8, 9, 10]) (.seq (.cond (.leaf [0, 1, 5, 8, 9]) (.leaf [5])) (.seq (.block (.seq (.leaf [0, 1, 5, 6, 8, 9]) (.seq (.leaf [0, 1, 5, 6, 8, 9, 17]) (.cond (.leaf [0, 1, 5, 8, 9]) (.leaf [0, 1, 5, 8, 9]))))) (.leaf [0, 1, 5, 8, 9]))))))) (.seq (.leaf [4]) (.leaf [4])))))

noncomputable def impl_dependents_ctx : Ctx := ⟨tlook tys, olook [(30, F_impl_only)], ioF, 0, false⟩

theorem impl_dependents_n1_l (x2111 : List Int) (x2112 : Int) : Link impl_dependents_ctx LL (Code.seq (Code.fst (bodyOf Tryd.f31)) (Code.fst (Code.snd (bodyOf Tryd.f31)))) (Ann.seq (Ann.fst impl_dependents_an) (Ann.fst (Ann.snd impl_dependents_an))) (⟨mkE 25 0 [(0, .dat (.list (.int .i64)) x2111), (1, .dat (.int .i64) x2112)], []⟩ : St) (impl_dependents_n1) (fun (t : Unit) => (Exit.normal, (⟨mkE 25 0 [(0, .dat (.list (.int .i64)) x2111), (1, .dat (.int .i64) x2112), (5, .dat (.int .u64) 0)], []⟩ : St))) := by
  refine Link.of fun K h => ?_
  simp only [impl_dependents_n1, wpO_bind, wpO_cond, wpO_map, wpO_some] at h
  exact Awp.of (by kernel_rfl) h

theorem impl_dependents_n2_l (x2111 : List Int) (x2112 : Int) : Link impl_dependents_ctx LL (Code.fst (Code.fst (Code.snd (Code.snd (bodyOf Tryd.f31))))) (Ann.fst (Ann.fst (Ann.snd (Ann.snd impl_dependents_an)))) (⟨mkE 25 0 [(0, .dat (.list (.int .i64)) x2111), (1, .dat (.int .i64) x2112), (5, .dat (.int .u64) 0)], []⟩ : St) (impl_dependents_n2 x2111) (fun (t : Int) => (Exit.normal, (⟨mkE 25 0 [(0, .dat (.list (.int .i64)) x2111), (1, .dat (.int .i64) x2112), (5, .dat (.int .u64) 0), (8, .dat (.int .i64) t), (9, .dat (.int .i64) 0)], []⟩ : St))) := by
  refine Link.of fun K h => ?_
  simp only [impl_dependents_n2, wpO_bind, wpO_cond, wpO_map, wpO_some] at h
  exact Awp.of (by kernel_rfl) h

theorem impl_dependents_n3_l (x2111 : List Int) (x2112 : Int) (x2132 : Int) (x2113 : Int) (x2133 : Int) : Link impl_dependents_ctx LL (Code.fst (Code.fst (Code.snd (Code.fst (Code.snd (Code.snd (bodyOf Tryd.f31))))))) (Ann.fst (Ann.fst (Ann.snd (Ann.fst (Ann.snd (Ann.snd impl_dependents_an)))))) (⟨mkE 25 0 [(0, .dat (.list (.int .i64)) x2111), (1, .dat (.int .i64) x2112), (5, .dat (.int .u64) x2132), (8, .dat (.int .i64) x2113), (9, .dat (.int .i64) x2133)], []⟩ : St) (impl_dependents_n3 x2111 x2112 x2132 x2113 x2133) (Sum.elim (fun (t : Int × Int) => (Exit.normal, (⟨mkE 25 0 [(0, .dat (.list (.int .i64)) x2111), (1, .dat (.int .i64) x2112), (5, .dat (.int .u64) t.1), (8, .dat (.int .i64) x2113), (9, .dat (.int .i64) t.2)], []⟩ : St))) (fun (t : Int) => ((Exit.exit 0), (⟨mkE 25 0 [(5, .dat (.int .u64) t)], []⟩ : St)))) := by
  refine Link.of fun K h => ?_
  simp only [impl_dependents_n3, wpO_bind, wpO_cond, wpO_map, wpO_some] at h
  exact Awp.of (by kernel_rfl) h

theorem impl_dependents_n4_l (x2111 : List Int) (x2112 : Int) (x2113 : Int) : Link impl_dependents_ctx LL (Code.fst (Code.snd (Code.fst (Code.snd (Code.snd (bodyOf Tryd.f31)))))) (Ann.fst (Ann.snd (Ann.fst (Ann.snd (Ann.snd impl_dependents_an))))) (⟨mkE 25 0 [(0, .dat (.list (.int .i64)) x2111), (1, .dat (.int .i64) x2112), (5, .dat (.int .u64) 0), (8, .dat (.int .i64) x2113), (9, .dat (.int .i64) 0)], []⟩ : St) (impl_dependents_n4 x2111 x2112 x2113) (fun (t : Int) => ((Exit.exit 0), (⟨mkE 25 0 [(5, .dat (.int .u64) t)], []⟩ : St))) := by
  unfold impl_dependents_n4
  exact Link.cast (by kernel_rfl) (by kernel_rfl) (link_loop (mk := fun (s : Int × Int) => (⟨mkE 25 0 [(0, .dat (.list (.int .i64)) x2111), (1, .dat (.int .i64) x2112), (5, .dat (.int .u64) s.1), (8, .dat (.int .i64) x2113), (9, .dat (.int .i64) s.2)], []⟩ : St)) (fin := (fun (t : Int) => ((Exit.exit 0), (⟨mkE 25 0 [(5, .dat (.int .u64) t)], []⟩ : St)))) (by
  rintro t f K h
  · exact h) (fun s => link_map (impl_dependents_n3_l x2111 x2112 s.1 x2113 s.2) (Sum.elim (fun (t : Int × Int) => Sum.inl (t.1, t.2)) (fun (t : Int) => Sum.inr t)) (by
  rintro (t | t)
  · kernel_rfl
  · kernel_rfl)) (0, 0))

theorem impl_dependents_n5_l (x2111 : List Int) (x2112 : Int) (x2113 : Int) : Link impl_dependents_ctx LL (Code.snd (Code.fst (Code.snd (Code.snd (bodyOf Tryd.f31))))) (Ann.snd (Ann.fst (Ann.snd (Ann.snd impl_dependents_an)))) (⟨mkE 25 0 [(0, .dat (.list (.int .i64)) x2111), (1, .dat (.int .i64) x2112), (5, .dat (.int .u64) 0), (8, .dat (.int .i64) x2113), (9, .dat (.int .i64) 0)], []⟩ : St) (impl_dependents_n5 x2111 x2112 x2113) (fun (t : Int) => (Exit.normal, (⟨mkE 25 0 [(5, .dat (.int .u64) t)], []⟩ : St))) := by
  unfold impl_dependents_n5
  exact Link.cast (by kernel_rfl) (by kernel_rfl) (link_block (id := 0) (impl_dependents_n4_l x2111 x2112 x2113) (fun (t : Int) => t) (by
  rintro t K h
  · exact Eq.mp (by kernel_rfl) h))

theorem impl_dependents_n6_l (x2111 : List Int) (x2112 : Int) : Link impl_dependents_ctx LL (Code.fst (Code.snd (Code.snd (bodyOf Tryd.f31)))) (Ann.fst (Ann.snd (Ann.snd impl_dependents_an))) (⟨mkE 25 0 [(0, .dat (.list (.int .i64)) x2111), (1, .dat (.int .i64) x2112), (5, .dat (.int .u64) 0)], []⟩ : St) (impl_dependents_n6 x2111 x2112) (fun (t : Int) => (Exit.normal, (⟨mkE 25 0 [(5, .dat (.int .u64) t)], []⟩ : St))) := by
  unfold impl_dependents_n6
  exact Link.cast (by kernel_rfl) (by kernel_rfl) (link_seq (b := (Code.snd (Code.fst (Code.snd (Code.snd (bodyOf Tryd.f31)))))) (y := (Ann.snd (Ann.fst (Ann.snd (Ann.snd impl_dependents_an))))) (impl_dependents_n2_l x2111 x2112) (fun (t : Int) => (impl_dependents_n5_l x2111 x2112 t)))

theorem impl_dependents_n7_l (x2132 : Int) : Link impl_dependents_ctx LL (Code.snd (Code.snd (Code.snd (bodyOf Tryd.f31)))) (Ann.snd (Ann.snd (Ann.snd impl_dependents_an))) (⟨mkE 25 0 [(5, .dat (.int .u64) x2132)], []⟩ : St) (impl_dependents_n7 x2132) (fun (t : Int) => (Exit.ret, (⟨mkE 25 0 [(4, .dat (.int .u64) t)], []⟩ : St))) := by
  refine Link.of fun K h => ?_
  simp only [impl_dependents_n7, wpO_bind, wpO_cond, wpO_map, wpO_some] at h
  exact Awp.of (by kernel_rfl) h

theorem impl_dependents_n8_l (x2111 : List Int) (x2112 : Int) : Link impl_dependents_ctx LL (Code.snd (Code.snd (bodyOf Tryd.f31))) (Ann.snd (Ann.snd impl_dependents_an)) (⟨mkE 25 0 [(0, .dat (.list (.int .i64)) x2111), (1, .dat (.int .i64) x2112), (5, .dat (.int .u64) 0)], []⟩ : St) (impl_dependents_n8 x2111 x2112) (fun (t : Int) => (Exit.ret, (⟨mkE 25 0 [(4, .dat (.int .u64) t)], []⟩ : St))) := by
  unfold impl_dependents_n8
  exact Link.cast (by kernel_rfl) (by kernel_rfl) (link_seq (b := (Code.snd (Code.snd (Code.snd (bodyOf Tryd.f31))))) (y := (Ann.snd (Ann.snd (Ann.snd impl_dependents_an)))) (impl_dependents_n6_l x2111 x2112) (fun (t : Int) => (impl_dependents_n7_l t)))

theorem impl_dependents_n9_l (x2111 : List Int) (x2112 : Int) : Link impl_dependents_ctx LL (bodyOf Tryd.f31) impl_dependents_an (⟨mkE 25 0 [(0, .dat (.list (.int .i64)) x2111), (1, .dat (.int .i64) x2112)], []⟩ : St) (impl_dependents_n9 x2111 x2112) (fun (t : Int) => (Exit.ret, (⟨mkE 25 0 [(4, .dat (.int .u64) t)], []⟩ : St))) := by
  unfold impl_dependents_n9
  exact Link.cast (by kernel_rfl) (by kernel_rfl) (link_group (c := (Code.fst (Code.snd (bodyOf Tryd.f31)))) (a := (Ann.fst (Ann.snd impl_dependents_an))) [(Code.fst (bodyOf Tryd.f31))] [(Ann.fst impl_dependents_an)] rfl (link_seq (b := (Code.snd (Code.snd (bodyOf Tryd.f31)))) (y := (Ann.snd (Ann.snd impl_dependents_an))) (impl_dependents_n1_l x2111 x2112) (fun (t : Unit) => (impl_dependents_n8_l x2111 x2112))))

theorem impl_dependents_e (x2111 : List Int) (x2112 : Int) {r : AV} {H' : Heap} (h : (Ans.mk _ (impl_dependents x2111 x2112) (fun (t : Int) => (.dat (.int .u64) t, []))).run = some (r, H')) : Awp impl_dependents_ctx LL (bodyOf Tryd.f31) impl_dependents_an (⟨mkE 25 0 [(0, .dat (.list (.int .i64)) x2111), (1, .dat (.int .i64) x2112)], []⟩ : St) (Ret (tlook tys) Tryd.f31.results.toList r H') :=
  ret_of' (impl_dependents_n9_l x2111 x2112) (by unfold impl_dependents; kernel_rfl) (by
  intro t
  exact ret_mk [.dat (.int .u64) t] (by kernel_rfl) (by kernel_rfl) (by kernel_rfl) (by kernel_rfl)) h

def F_impl_dependents : Fun := fun avs H =>
  match avs, H with
  | [.dat (.list (.int .i64)) x2111, .dat (.int .i64) x2112], [] => ⟨_, impl_dependents x2111 x2112, fun (t : Int) => (.dat (.int .u64) t, [])⟩
  | _, _ => Ans.no

theorem impl_dependents_sound : Sound Tryd.prog 31 F_impl_dependents := by
  refine fn_sound' (C := impl_dependents_ctx) (c := bodyOf Tryd.f31) (cok_of tys_ok (List.forall_mem_cons.2 ⟨impl_only_sound, by simp⟩) (List.forall_mem_cons.2 ⟨Tryd.call30, by simp⟩) (by kernel_rfl)) Tryd.func31 (by kernel_rfl) LL impl_dependents_an ?_
  intro avs H r H' h
  unfold F_impl_dependents at h
  split at h
  · refine Awp.cast ?_ ?_ ?_ (impl_dependents_e _ _ h) <;> kernel_rfl
  · simp [Ans.no, Ans.run] at h

/-! math/bits.OnesCount64 -/

def math_bits_OnesCount64_an : Ann := (.seq (.leaf [0]) (.seq (.leaf [0]) (.seq (.leaf [0]) (.seq (.leaf [0]) (.seq (.leaf [0]) (.seq (.leaf [0]) (.seq (.leaf [0]) (.seq (.leaf [2]) (.leaf [2])))))))))

noncomputable def math_bits_OnesCount64_ctx : Ctx := ⟨tlook tys, olook [], ioF, 0, false⟩

theorem math_bits_OnesCount64_n1_l (x2156 : Int) : Link math_bits_OnesCount64_ctx LL (Code.seq (Code.fst (bodyOf Tryd.f37)) (Code.fst (Code.snd (bodyOf Tryd.f37)))) (Ann.seq (Ann.fst math_bits_OnesCount64_an) (Ann.fst (Ann.snd math_bits_OnesCount64_an))) (⟨mkE 35 0 [(0, .dat (.int .u64) x2156)], []⟩ : St) (math_bits_OnesCount64_n1 x2156) (fun (t : Int) => (Exit.normal, (⟨mkE 35 0 [(0, .dat (.int .u64) t)], []⟩ : St))) := by
  refine Link.of fun K h => ?_
  simp only [math_bits_OnesCount64_n1, wpO_bind, wpO_cond, wpO_map, wpO_some] at h
  exact Awp.of (by kernel_rfl) h

theorem math_bits_OnesCount64_n2_l (x2160 : Int) : Link math_bits_OnesCount64_ctx LL (Code.fst (Code.snd (Code.snd (bodyOf Tryd.f37)))) (Ann.fst (Ann.snd (Ann.snd math_bits_OnesCount64_an))) (⟨mkE 35 0 [(0, .dat (.int .u64) x2160)], []⟩ : St) (math_bits_OnesCount64_n2 x2160) (fun (t : Int) => (Exit.normal, (⟨mkE 35 0 [(0, .dat (.int .u64) t)], []⟩ : St))) := by
  refine Link.of fun K h => ?_
  simp only [math_bits_OnesCount64_n2, wpO_bind, wpO_cond, wpO_map, wpO_some] at h
  exact Awp.of (by kernel_rfl) h

theorem math_bits_OnesCount64_n3_l (x2176 : Int) : Link math_bits_OnesCount64_ctx LL (Code.fst (Code.snd (Code.snd (Code.snd (bodyOf Tryd.f37))))) (Ann.fst (Ann.snd (Ann.snd (Ann.snd math_bits_OnesCount64_an)))) (⟨mkE 35 0 [(0, .dat (.int .u64) x2176)], []⟩ : St) (math_bits_OnesCount64_n3 x2176) (fun (t : Int) => (Exit.normal, (⟨mkE 35 0 [(0, .dat (.int .u64) t)], []⟩ : St))) := by
  refine Link.of fun K h => ?_
  simp only [math_bits_OnesCount64_n3, wpO_bind, wpO_cond, wpO_map, wpO_some] at h
  exact Awp.of (by kernel_rfl) h

theorem math_bits_OnesCount64_n4_l (x2182 : Int) : Link math_bits_OnesCount64_ctx LL (Code.fst (Code.snd (Code.snd (Code.snd (Code.snd (bodyOf Tryd.f37)))))) (Ann.fst (Ann.snd (Ann.snd (Ann.snd (Ann.snd math_bits_OnesCount64_an))))) (⟨mkE 35 0 [(0, .dat (.int .u64) x2182)], []⟩ : St) (math_bits_OnesCount64_n4 x2182) (fun (t : Int) => (Exit.normal, (⟨mkE 35 0 [(0, .dat (.int .u64) t)], []⟩ : St))) := by
  refine Link.of fun K h => ?_
  simp only [math_bits_OnesCount64_n4, wpO_bind, wpO_cond, wpO_map, wpO_some] at h
  exact Awp.of (by kernel_rfl) h

theorem math_bits_OnesCount64_n5_l (x2186 : Int) : Link math_bits_OnesCount64_ctx LL (Code.fst (Code.snd (Code.snd (Code.snd (Code.snd (Code.snd (bodyOf Tryd.f37))))))) (Ann.fst (Ann.snd (Ann.snd (Ann.snd (Ann.snd (Ann.snd math_bits_OnesCount64_an)))))) (⟨mkE 35 0 [(0, .dat (.int .u64) x2186)], []⟩ : St) (math_bits_OnesCount64_n5 x2186) (fun (t : Int) => (Exit.normal, (⟨mkE 35 0 [(0, .dat (.int .u64) t)], []⟩ : St))) := by
  refine Link.of fun K h => ?_
  simp only [math_bits_OnesCount64_n5, wpO_bind, wpO_cond, wpO_map, wpO_some] at h
  exact Awp.of (by kernel_rfl) h

theorem math_bits_OnesCount64_n6_l (x2190 : Int) : Link math_bits_OnesCount64_ctx LL (Code.fst (Code.snd (Code.snd (Code.snd (Code.snd (Code.snd (Code.snd (bodyOf Tryd.f37)))))))) (Ann.fst (Ann.snd (Ann.snd (Ann.snd (Ann.snd (Ann.snd (Ann.snd math_bits_OnesCount64_an))))))) (⟨mkE 35 0 [(0, .dat (.int .u64) x2190)], []⟩ : St) (math_bits_OnesCount64_n6 x2190) (fun (t : Int) => (Exit.normal, (⟨mkE 35 0 [(0, .dat (.int .u64) t)], []⟩ : St))) := by
  refine Link.of fun K h => ?_
  simp only [math_bits_OnesCount64_n6, wpO_bind, wpO_cond, wpO_map, wpO_some] at h
  exact Awp.of (by kernel_rfl) h

theorem math_bits_OnesCount64_n7_l (x2194 : Int) : Link math_bits_OnesCount64_ctx LL (Code.fst (Code.snd (Code.snd (Code.snd (Code.snd (Code.snd (Code.snd (Code.snd (bodyOf Tryd.f37))))))))) (Ann.fst (Ann.snd (Ann.snd (Ann.snd (Ann.snd (Ann.snd (Ann.snd (Ann.snd math_bits_OnesCount64_an)))))))) (⟨mkE 35 0 [(0, .dat (.int .u64) x2194)], []⟩ : St) (math_bits_OnesCount64_n7 x2194) (fun (t : Int) => (Exit.normal, (⟨mkE 35 0 [(2, .dat (.int .i64) t)], []⟩ : St))) := by
  refine Link.of fun K h => ?_
  simp only [math_bits_OnesCount64_n7, wpO_bind, wpO_cond, wpO_map, wpO_some] at h
  exact Awp.of (by kernel_rfl) h

theorem math_bits_OnesCount64_n8_l (x2198 : Int) : Link math_bits_OnesCount64_ctx LL (Code.snd (Code.snd (Code.snd (Code.snd (Code.snd (Code.snd (Code.snd (Code.snd (bodyOf Tryd.f37))))))))) (Ann.snd (Ann.snd (Ann.snd (Ann.snd (Ann.snd (Ann.snd (Ann.snd (Ann.snd math_bits_OnesCount64_an)))))))) (⟨mkE 35 0 [(2, .dat (.int .i64) x2198)], []⟩ : St) (math_bits_OnesCount64_n8 x2198) (fun (t : Int) => (Exit.ret, (⟨mkE 35 0 [(2, .dat (.int .i64) t)], []⟩ : St))) := by
  refine Link.of fun K h => ?_
  simp only [math_bits_OnesCount64_n8, wpO_bind, wpO_cond, wpO_map, wpO_some] at h
  exact Awp.of (by kernel_rfl) h

theorem math_bits_OnesCount64_n9_l (x2194 : Int) : Link math_bits_OnesCount64_ctx LL (Code.snd (Code.snd (Code.snd (Code.snd (Code.snd (Code.snd (Code.snd (bodyOf Tryd.f37)))))))) (Ann.snd (Ann.snd (Ann.snd (Ann.snd (Ann.snd (Ann.snd (Ann.snd math_bits_OnesCount64_an))))))) (⟨mkE 35 0 [(0, .dat (.int .u64) x2194)], []⟩ : St) (math_bits_OnesCount64_n9 x2194) (fun (t : Int) => (Exit.ret, (⟨mkE 35 0 [(2, .dat (.int .i64) t)], []⟩ : St))) := by
  unfold math_bits_OnesCount64_n9
  exact Link.cast (by kernel_rfl) (by kernel_rfl) (link_seq (b := (Code.snd (Code.snd (Code.snd (Code.snd (Code.snd (Code.snd (Code.snd (Code.snd (bodyOf Tryd.f37)))))))))) (y := (Ann.snd (Ann.snd (Ann.snd (Ann.snd (Ann.snd (Ann.snd (Ann.snd (Ann.snd math_bits_OnesCount64_an))))))))) (math_bits_OnesCount64_n7_l x2194) (fun (t : Int) => (math_bits_OnesCount64_n8_l t)))

theorem math_bits_OnesCount64_n10_l (x2190 : Int) : Link math_bits_OnesCount64_ctx LL (Code.snd (Code.snd (Code.snd (Code.snd (Code.snd (Code.snd (bodyOf Tryd.f37))))))) (Ann.snd (Ann.snd (Ann.snd (Ann.snd (Ann.snd (Ann.snd math_bits_OnesCount64_an)))))) (⟨mkE 35 0 [(0, .dat (.int .u64) x2190)], []⟩ : St) (math_bits_OnesCount64_n10 x2190) (fun (t : Int) => (Exit.ret, (⟨mkE 35 0 [(2, .dat (.int .i64) t)], []⟩ : St))) := by
  unfold math_bits_OnesCount64_n10
  exact Link.cast (by kernel_rfl) (by kernel_rfl) (link_seq (b := (Code.snd (Code.snd (Code.snd (Code.snd (Code.snd (Code.snd (Code.snd (bodyOf Tryd.f37))))))))) (y := (Ann.snd (Ann.snd (Ann.snd (Ann.snd (Ann.snd (Ann.snd (Ann.snd math_bits_OnesCount64_an)))))))) (math_bits_OnesCount64_n6_l x2190) (fun (t : Int) => (math_bits_OnesCount64_n9_l t)))

theorem math_bits_OnesCount64_n11_l (x2186 : Int) : Link math_bits_OnesCount64_ctx LL (Code.snd (Code.snd (Code.snd (Code.snd (Code.snd (bodyOf Tryd.f37)))))) (Ann.snd (Ann.snd (Ann.snd (Ann.snd (Ann.snd math_bits_OnesCount64_an))))) (⟨mkE 35 0 [(0, .dat (.int .u64) x2186)], []⟩ : St) (math_bits_OnesCount64_n11 x2186) (fun (t : Int) => (Exit.ret, (⟨mkE 35 0 [(2, .dat (.int .i64) t)], []⟩ : St))) := by
  unfold math_bits_OnesCount64_n11
  exact Link.cast (by kernel_rfl) (by kernel_rfl) (link_seq (b := (Code.snd (Code.snd (Code.snd (Code.snd (Code.snd (Code.snd (bodyOf Tryd.f37)))))))) (y := (Ann.snd (Ann.snd (Ann.snd (Ann.snd (Ann.snd (Ann.snd math_bits_OnesCount64_an))))))) (math_bits_OnesCount64_n5_l x2186) (fun (t : Int) => (math_bits_OnesCount64_n10_l t)))

theorem math_bits_OnesCount64_n12_l (x2182 : Int) : Link math_bits_OnesCount64_ctx LL (Code.snd (Code.snd (Code.snd (Code.snd (bodyOf Tryd.f37))))) (Ann.snd (Ann.snd (Ann.snd (Ann.snd math_bits_OnesCount64_an)))) (⟨mkE 35 0 [(0, .dat (.int .u64) x2182)], []⟩ : St) (math_bits_OnesCount64_n12 x2182) (fun (t : Int) => (Exit.ret, (⟨mkE 35 0 [(2, .dat (.int .i64) t)], []⟩ : St))) := by
  unfold math_bits_OnesCount64_n12
  exact Link.cast (by kernel_rfl) (by kernel_rfl) (link_seq (b := (Code.snd (Code.snd (Code.snd (Code.snd (Code.snd (bodyOf Tryd.f37))))))) (y := (Ann.snd (Ann.snd (Ann.snd (Ann.snd (Ann.snd math_bits_OnesCount64_an)))))) (math_bits_OnesCount64_n4_l x2182) (fun (t : Int) => (math_bits_OnesCount64_n11_l t)))

theorem math_bits_OnesCount64_n13_l (x2176 : Int) : Link math_bits_OnesCount64_ctx LL (Code.snd (Code.snd (Code.snd (bodyOf Tryd.f37)))) (Ann.snd (Ann.snd (Ann.snd math_bits_OnesCount64_an))) (⟨mkE 35 0 [(0, .dat (.int .u64) x2176)], []⟩ : St) (math_bits_OnesCount64_n13 x2176) (fun (t : Int) => (Exit.ret, (⟨mkE 35 0 [(2, .dat (.int .i64) t)], []⟩ : St))) := by
  unfold math_bits_OnesCount64_n13
  exact Link.cast (by kernel_rfl) (by kernel_rfl) (link_seq (b := (Code.snd (Code.snd (Code.snd (Code.snd (bodyOf Tryd.f37)))))) (y := (Ann.snd (Ann.snd (Ann.snd (Ann.snd math_bits_OnesCount64_an))))) (math_bits_OnesCount64_n3_l x2176) (fun (t : Int) => (math_bits_OnesCount64_n12_l t)))

theorem math_bits_OnesCount64_n14_l (x2160 : Int) : Link math_bits_OnesCount64_ctx LL (Code.snd (Code.snd (bodyOf Tryd.f37))) (Ann.snd (Ann.snd math_bits_OnesCount64_an)) (⟨mkE 35 0 [(0, .dat (.int .u64) x2160)], []⟩ : St) (math_bits_OnesCount64_n14 x2160) (fun (t : Int) => (Exit.ret, (⟨mkE 35 0 [(2, .dat (.int .i64) t)], []⟩ : St))) := by
  unfold math_bits_OnesCount64_n14
  exact Link.cast (by kernel_rfl) (by kernel_rfl) (link_seq (b := (Code.snd (Code.snd (Code.snd (bodyOf Tryd.f37))))) (y := (Ann.snd (Ann.snd (Ann.snd math_bits_OnesCount64_an)))) (math_bits_OnesCount64_n2_l x2160) (fun (t : Int) => (math_bits_OnesCount64_n13_l t)))

theorem math_bits_OnesCount64_n15_l (x2156 : Int) : Link math_bits_OnesCount64_ctx LL (bodyOf Tryd.f37) math_bits_OnesCount64_an (⟨mkE 35 0 [(0, .dat (.int .u64) x2156)], []⟩ : St) (math_bits_OnesCount64_n15 x2156) (fun (t : Int) => (Exit.ret, (⟨mkE 35 0 [(2, .dat (.int .i64) t)], []⟩ : St))) := by
  unfold math_bits_OnesCount64_n15
  exact Link.cast (by kernel_rfl) (by kernel_rfl) (link_group (c := (Code.fst (Code.snd (bodyOf Tryd.f37)))) (a := (Ann.fst (Ann.snd math_bits_OnesCount64_an))) [(Code.fst (bodyOf Tryd.f37))] [(Ann.fst math_bits_OnesCount64_an)] rfl (link_seq (b := (Code.snd (Code.snd (bodyOf Tryd.f37)))) (y := (Ann.snd (Ann.snd math_bits_OnesCount64_an))) (math_bits_OnesCount64_n1_l x2156) (fun (t : Int) => (math_bits_OnesCount64_n14_l t))))

theorem math_bits_OnesCount64_e (x2156 : Int) {r : AV} {H' : Heap} (h : (Ans.mk _ (math_bits_OnesCount64 x2156) (fun (t : Int) => (.dat (.int .i64) t, []))).run = some (r, H')) : Awp math_bits_OnesCount64_ctx LL (bodyOf Tryd.f37) math_bits_OnesCount64_an (⟨mkE 35 0 [(0, .dat (.int .u64) x2156)], []⟩ : St) (Ret (tlook tys) Tryd.f37.results.toList r H') :=
  ret_of' (math_bits_OnesCount64_n15_l x2156) (by unfold math_bits_OnesCount64; kernel_rfl) (by
  intro t
  exact ret_mk [.dat (.int .i64) t] (by kernel_rfl) (by kernel_rfl) (by kernel_rfl) (by kernel_rfl)) h

def F_math_bits_OnesCount64 : Fun := fun avs H =>
  match avs, H with
  | [.dat (.int .u64) x2156], [] => ⟨_, math_bits_OnesCount64 x2156, fun (t : Int) => (.dat (.int .i64) t, [])⟩
  | _, _ => Ans.no

theorem math_bits_OnesCount64_sound : Sound Tryd.prog 37 F_math_bits_OnesCount64 := by
  refine fn_sound' (C := math_bits_OnesCount64_ctx) (c := bodyOf Tryd.f37) (cok_of tys_ok (by simp) (by simp) (by kernel_rfl)) Tryd.func37 (by kernel_rfl) LL math_bits_OnesCount64_an ?_
  intro avs H r H' h
  unfold F_math_bits_OnesCount64 at h
  split at h
  · refine Awp.cast ?_ ?_ ?_ (math_bits_OnesCount64_e _ h) <;> kernel_rfl
  · simp [Ans.no, Ans.run] at h

/-! math/bits.OnesCount -/

def math_bits_OnesCount_an : Ann := (.seq (.leaf [0]) (.seq (.cond (.seq (.leaf [2]) (.leaf [2])) (.leaf [0])) (.seq (.leaf [2]) (.leaf [2]))))

noncomputable def math_bits_OnesCount_ctx : Ctx := ⟨tlook tys, olook [(37, F_math_bits_OnesCount64)], ioF, 0, false⟩

theorem math_bits_OnesCount_n1_l (x2155 : Int) : Link math_bits_OnesCount_ctx LL (bodyOf Tryd.f33) math_bits_OnesCount_an (⟨mkE 8 0 [(0, .dat (.int .u64) x2155)], []⟩ : St) (math_bits_OnesCount_n1 x2155) (fun (t : Int) => (Exit.ret, (⟨mkE 8 0 [(2, .dat (.int .i64) t)], []⟩ : St))) := by
  refine Link.of fun K h => ?_
  simp only [math_bits_OnesCount_n1, wpO_bind, wpO_cond, wpO_map, wpO_some] at h
  exact Awp.of (by kernel_rfl) h

theorem math_bits_OnesCount_e (x2155 : Int) {r : AV} {H' : Heap} (h : (Ans.mk _ (math_bits_OnesCount x2155) (fun (t : Int) => (.dat (.int .i64) t, []))).run = some (r, H')) : Awp math_bits_OnesCount_ctx LL (bodyOf Tryd.f33) math_bits_OnesCount_an (⟨mkE 8 0 [(0, .dat (.int .u64) x2155)], []⟩ : St) (Ret (tlook tys) Tryd.f33.results.toList r H') :=
  ret_of' (math_bits_OnesCount_n1_l x2155) (by unfold math_bits_OnesCount; kernel_rfl) (by
  intro t
  exact ret_mk [.dat (.int .i64) t] (by kernel_rfl) (by kernel_rfl) (by kernel_rfl) (by kernel_rfl)) h

def F_math_bits_OnesCount : Fun := fun avs H =>
  match avs, H with
  | [.dat (.int .u64) x2155], [] => ⟨_, math_bits_OnesCount x2155, fun (t : Int) => (.dat (.int .i64) t, [])⟩
  | _, _ => Ans.no

theorem math_bits_OnesCount_sound : Sound Tryd.prog 33 F_math_bits_OnesCount := by
  refine fn_sound' (C := math_bits_OnesCount_ctx) (c := bodyOf Tryd.f33) (cok_of tys_ok (List.forall_mem_cons.2 ⟨math_bits_OnesCount64_sound, by simp⟩) (List.forall_mem_cons.2 ⟨Tryd.call37, by simp⟩) (by kernel_rfl)) Tryd.func33 (by kernel_rfl) LL math_bits_OnesCount_an ?_
  intro avs H r H' h
  unfold F_math_bits_OnesCount at h
  split at h
  · refine Awp.cast ?_ ?_ ?_ (math_bits_OnesCount_e _ h) <;> kernel_rfl
  · simp [Ans.no, Ans.run] at h

/-! (loop.example/headtrees/impl.wordSet).count -/

def impl_wordSet_count_an : Ann := (.seq (.leaf [0]) (.seq (.leaf [2]) (.leaf [2])))

noncomputable def impl_wordSet_count_ctx : Ctx := ⟨tlook tys, olook [(33, F_math_bits_OnesCount)], ioF, 0, false⟩

theorem impl_wordSet_count_n1_l (x2154 : Int) : Link impl_wordSet_count_ctx LL (bodyOf Tryd.f26) impl_wordSet_count_an (⟨mkE 5 0 [(0, .dat (.int .u64) x2154)], []⟩ : St) (impl_wordSet_count_n1 x2154) (fun (t : Int) => (Exit.ret, (⟨mkE 5 0 [(2, .dat (.int .i64) t)], []⟩ : St))) := by
  refine Link.of fun K h => ?_
  simp only [impl_wordSet_count_n1, wpO_bind, wpO_cond, wpO_map, wpO_some] at h
  exact Awp.of (by kernel_rfl) h

theorem impl_wordSet_count_e (x2154 : Int) {r : AV} {H' : Heap} (h : (Ans.mk _ (impl_wordSet_count x2154) (fun (t : Int) => (.dat (.int .i64) t, []))).run = some (r, H')) : Awp impl_wordSet_count_ctx LL (bodyOf Tryd.f26) impl_wordSet_count_an (⟨mkE 5 0 [(0, .dat (.int .u64) x2154)], []⟩ : St) (Ret (tlook tys) Tryd.f26.results.toList r H') :=
  ret_of' (impl_wordSet_count_n1_l x2154) (by unfold impl_wordSet_count; kernel_rfl) (by
  intro t
  exact ret_mk [.dat (.int .i64) t] (by kernel_rfl) (by kernel_rfl) (by kernel_rfl) (by kernel_rfl)) h

def F_impl_wordSet_count : Fun := fun avs H =>
  match avs, H with
  | [.dat (.int .u64) x2154], [] => ⟨_, impl_wordSet_count x2154, fun (t : Int) => (.dat (.int .i64) t, [])⟩
  | _, _ => Ans.no

theorem impl_wordSet_count_sound : Sound Tryd.prog 26 F_impl_wordSet_count := by
  refine fn_sound' (C := impl_wordSet_count_ctx) (c := bodyOf Tryd.f26) (cok_of tys_ok (List.forall_mem_cons.2 ⟨math_bits_OnesCount_sound, by simp⟩) (List.forall_mem_cons.2 ⟨Tryd.call33, by simp⟩) (by kernel_rfl)) Tryd.func26 (by kernel_rfl) LL impl_wordSet_count_an ?_
  intro avs H r H' h
  unfold F_impl_wordSet_count at h
  split at h
  · refine Awp.cast ?_ ?_ ?_ (impl_wordSet_count_e _ h) <;> kernel_rfl
  · simp [Ans.no, Ans.run] at h

/-! math/bits.TrailingZeros64 -/

def math_bits_TrailingZeros64_an : Ann := (.seq (.leaf [0]) (.seq (.seq (.leaf [0, 4]) (.cond (.seq (.leaf [2]) (.leaf [2])) (.leaf [0]))) (.seq (.leaf [2]) (.leaf [2]))))

noncomputable def math_bits_TrailingZeros64_ctx : Ctx := ⟨tlook tys, olook [], ioF, 0, false⟩

theorem math_bits_TrailingZeros64_n1_l (x2209 : Int) : Link math_bits_TrailingZeros64_ctx LL (bodyOf Tryd.f35) math_bits_TrailingZeros64_an (⟨mkE 14 0 [(0, .dat (.int .u64) x2209)], []⟩ : St) (math_bits_TrailingZeros64_n1 x2209) (fun (t : Int) => (Exit.ret, (⟨mkE 14 0 [(2, .dat (.int .i64) t)], []⟩ : St))) := by
  refine Link.of fun K h => ?_
  simp only [math_bits_TrailingZeros64_n1, wpO_bind, wpO_cond, wpO_map, wpO_some] at h
  exact Awp.of (by kernel_rfl) h

theorem math_bits_TrailingZeros64_e (x2209 : Int) {r : AV} {H' : Heap} (h : (Ans.mk _ (math_bits_TrailingZeros64 x2209) (fun (t : Int) => (.dat (.int .i64) t, []))).run = some (r, H')) : Awp math_bits_TrailingZeros64_ctx LL (bodyOf Tryd.f35) math_bits_TrailingZeros64_an (⟨mkE 14 0 [(0, .dat (.int .u64) x2209)], []⟩ : St) (Ret (tlook tys) Tryd.f35.results.toList r H') :=
  ret_of' (math_bits_TrailingZeros64_n1_l x2209) (by unfold math_bits_TrailingZeros64; kernel_rfl) (by
  intro t
  exact ret_mk [.dat (.int .i64) t] (by kernel_rfl) (by kernel_rfl) (by kernel_rfl) (by kernel_rfl)) h

def F_math_bits_TrailingZeros64 : Fun := fun avs H =>
  match avs, H with
  | [.dat (.int .u64) x2209], [] => ⟨_, math_bits_TrailingZeros64 x2209, fun (t : Int) => (.dat (.int .i64) t, [])⟩
  | _, _ => Ans.no

theorem math_bits_TrailingZeros64_sound : Sound Tryd.prog 35 F_math_bits_TrailingZeros64 := by
  refine fn_sound' (C := math_bits_TrailingZeros64_ctx) (c := bodyOf Tryd.f35) (cok_of tys_ok (by simp) (by simp) (by kernel_rfl)) Tryd.func35 (by kernel_rfl) LL math_bits_TrailingZeros64_an ?_
  intro avs H r H' h
  unfold F_math_bits_TrailingZeros64 at h
  split at h
  · refine Awp.cast ?_ ?_ ?_ (math_bits_TrailingZeros64_e _ h) <;> kernel_rfl
  · simp [Ans.no, Ans.run] at h

/-! math/bits.TrailingZeros -/

def math_bits_TrailingZeros_an : Ann := (.seq (.leaf [0]) (.seq (.cond (.seq (.leaf [2]) (.leaf [2])) (.leaf [0])) (.seq (.leaf [2]) (.leaf [2]))))

noncomputable def math_bits_TrailingZeros_ctx : Ctx := ⟨tlook tys, olook [(35, F_math_bits_TrailingZeros64)], ioF, 0, false⟩

theorem math_bits_TrailingZeros_n1_l (x2208 : Int) : Link math_bits_TrailingZeros_ctx LL (bodyOf Tryd.f27) math_bits_TrailingZeros_an (⟨mkE 8 0 [(0, .dat (.int .u64) x2208)], []⟩ : St) (math_bits_TrailingZeros_n1 x2208) (fun (t : Int) => (Exit.ret, (⟨mkE 8 0 [(2, .dat (.int .i64) t)], []⟩ : St))) := by
  refine Link.of fun K h => ?_
  simp only [math_bits_TrailingZeros_n1, wpO_bind, wpO_cond, wpO_map, wpO_some] at h
  exact Awp.of (by kernel_rfl) h

theorem math_bits_TrailingZeros_e (x2208 : Int) {r : AV} {H' : Heap} (h : (Ans.mk _ (math_bits_TrailingZeros x2208) (fun (t : Int) => (.dat (.int .i64) t, []))).run = some (r, H')) : Awp math_bits_TrailingZeros_ctx LL (bodyOf Tryd.f27) math_bits_TrailingZeros_an (⟨mkE 8 0 [(0, .dat (.int .u64) x2208)], []⟩ : St) (Ret (tlook tys) Tryd.f27.results.toList r H') :=
  ret_of' (math_bits_TrailingZeros_n1_l x2208) (by unfold math_bits_TrailingZeros; kernel_rfl) (by
  intro t
  exact ret_mk [.dat (.int .i64) t] (by kernel_rfl) (by kernel_rfl) (by kernel_rfl) (by kernel_rfl)) h

def F_math_bits_TrailingZeros : Fun := fun avs H =>
  match avs, H with
  | [.dat (.int .u64) x2208], [] => ⟨_, math_bits_TrailingZeros x2208, fun (t : Int) => (.dat (.int .i64) t, [])⟩
  | _, _ => Ans.no

theorem math_bits_TrailingZeros_sound : Sound Tryd.prog 27 F_math_bits_TrailingZeros := by
  refine fn_sound' (C := math_bits_TrailingZeros_ctx) (c := bodyOf Tryd.f27) (cok_of tys_ok (List.forall_mem_cons.2 ⟨math_bits_TrailingZeros64_sound, by simp⟩) (List.forall_mem_cons.2 ⟨Tryd.call35, by simp⟩) (by kernel_rfl)) Tryd.func27 (by kernel_rfl) LL math_bits_TrailingZeros_an ?_
  intro avs H r H' h
  unfold F_math_bits_TrailingZeros at h
  split at h
  · refine Awp.cast ?_ ?_ ?_ (math_bits_TrailingZeros_e _ h) <;> kernel_rfl
  · simp [Ans.no, Ans.run] at h

/-! (loop.example/headtrees/impl.wordSet).list -/

def impl_wordSet_list_an : Ann := (.seq (.leaf [0]) (.seq (.leaf [0, 3]) (.seq (.seq (.leaf [3, 4]) (.block (.loop (.seq (.seq (.leaf [3, 4, 10]) (.cond (.leaf [3, 4]) (.leaf [3]))) (.seq (.block (.leaf [3, 4])) (.leaf [3, 4])))))) (.seq (.leaf [2]) (.leaf [2])))))

noncomputable def impl_wordSet_list_ctx : Ctx := ⟨tlook tys, olook [(26, F_impl_wordSet_count), (27, F_math_bits_TrailingZeros)], ioF, 0, false⟩

theorem impl_wordSet_list_n1_l (x2153 : Int) : Link impl_wordSet_list_ctx LL (Code.seq (Code.fst (bodyOf Tryd.f16)) (Code.fst (Code.snd (bodyOf Tryd.f16)))) (Ann.seq (Ann.fst impl_wordSet_list_an) (Ann.fst (Ann.snd impl_wordSet_list_an))) (⟨mkE 22 0 [(0, .dat (.int .u64) x2153)], []⟩ : St) (impl_wordSet_list_n1 x2153) (fun (t : (List Int)) => (Exit.normal, (⟨mkE 22 0 [(0, .dat (.int .u64) x2153), (3, .slc 0)], [some (.seq (.int .i64) t)]⟩ : St))) := by
  refine Link.of fun K h => ?_
  simp only [impl_wordSet_list_n1, wpO_bind, wpO_cond, wpO_map, wpO_some] at h
  exact Awp.of (by kernel_rfl) h

theorem impl_wordSet_list_n2_l (x2153 : Int) (x2205 : List Int) : Link impl_wordSet_list_ctx LL (Code.fst (Code.fst (Code.snd (Code.snd (bodyOf Tryd.f16))))) (Ann.fst (Ann.fst (Ann.snd (Ann.snd impl_wordSet_list_an)))) (⟨mkE 22 0 [(0, .dat (.int .u64) x2153), (3, .slc 0)], [some (.seq (.int .i64) x2205)]⟩ : St) (impl_wordSet_list_n2) (fun (t : Unit) => (Exit.normal, (⟨mkE 22 0 [(3, .slc 0), (4, .dat (.int .u64) x2153)], [some (.seq (.int .i64) x2205)]⟩ : St))) := by
  refine Link.of fun K h => ?_
  simp only [impl_wordSet_list_n2, wpO_bind, wpO_cond, wpO_map, wpO_some] at h
  exact Awp.of (by kernel_rfl) h

theorem impl_wordSet_list_n3_l (x2245 : Int) (x2246 : List Int) : Link impl_wordSet_list_ctx LL (Code.fst (Code.fst (Code.snd (Code.fst (Code.snd (Code.snd (bodyOf Tryd.f16))))))) (Ann.fst (Ann.fst (Ann.snd (Ann.fst (Ann.snd (Ann.snd impl_wordSet_list_an)))))) (⟨mkE 22 0 [(3, .slc 0), (4, .dat (.int .u64) x2245)], [some (.seq (.int .i64) x2246)]⟩ : St) (impl_wordSet_list_n3 x2245 x2246) (Sum.elim (fun (t : Int × (List Int)) => (Exit.normal, (⟨mkE 22 0 [(3, .slc 0), (4, .dat (.int .u64) t.1)], [some (.seq (.int .i64) t.2)]⟩ : St))) (fun (t : (List Int)) => ((Exit.exit 0), (⟨mkE 22 0 [(3, .slc 0)], [some (.seq (.int .i64) t)]⟩ : St)))) := by
  refine Link.of fun K h => ?_
  simp only [impl_wordSet_list_n3, wpO_bind, wpO_cond, wpO_map, wpO_some] at h
  exact Awp.of (by kernel_rfl) h

theorem impl_wordSet_list_n4_l (x2153 : Int) (x2205 : List Int) : Link impl_wordSet_list_ctx LL (Code.fst (Code.snd (Code.fst (Code.snd (Code.snd (bodyOf Tryd.f16)))))) (Ann.fst (Ann.snd (Ann.fst (Ann.snd (Ann.snd impl_wordSet_list_an))))) (⟨mkE 22 0 [(3, .slc 0), (4, .dat (.int .u64) x2153)], [some (.seq (.int .i64) x2205)]⟩ : St) (impl_wordSet_list_n4 x2153 x2205) (fun (t : (List Int)) => ((Exit.exit 0), (⟨mkE 22 0 [(3, .slc 0)], [some (.seq (.int .i64) t)]⟩ : St))) := by
  unfold impl_wordSet_list_n4
  exact Link.cast (by kernel_rfl) (by kernel_rfl) (link_loop (mk := fun (s : Int × (List Int)) => (⟨mkE 22 0 [(3, .slc 0), (4, .dat (.int .u64) s.1)], [some (.seq (.int .i64) s.2)]⟩ : St)) (fin := (fun (t : (List Int)) => ((Exit.exit 0), (⟨mkE 22 0 [(3, .slc 0)], [some (.seq (.int .i64) t)]⟩ : St)))) (by
  rintro t f K h
  · exact h) (fun s => link_map (impl_wordSet_list_n3_l s.1 s.2) (Sum.elim (fun (t : Int × (List Int)) => Sum.inl (t.1, t.2)) (fun (t : (List Int)) => Sum.inr t)) (by
  rintro (t | t)
  · kernel_rfl
  · kernel_rfl)) (x2153, x2205))

theorem impl_wordSet_list_n5_l (x2153 : Int) (x2205 : List Int) : Link impl_wordSet_list_ctx LL (Code.snd (Code.fst (Code.snd (Code.snd (bodyOf Tryd.f16))))) (Ann.snd (Ann.fst (Ann.snd (Ann.snd impl_wordSet_list_an)))) (⟨mkE 22 0 [(3, .slc 0), (4, .dat (.int .u64) x2153)], [some (.seq (.int .i64) x2205)]⟩ : St) (impl_wordSet_list_n5 x2153 x2205) (fun (t : (List Int)) => (Exit.normal, (⟨mkE 22 0 [(3, .slc 0)], [some (.seq (.int .i64) t)]⟩ : St))) := by
  unfold impl_wordSet_list_n5
  exact Link.cast (by kernel_rfl) (by kernel_rfl) (link_block (id := 0) (impl_wordSet_list_n4_l x2153 x2205) (fun (t : (List Int)) => t) (by
  rintro t K h
  · exact Eq.mp (by kernel_rfl) h))

theorem impl_wordSet_list_n6_l (x2153 : Int) (x2205 : List Int) : Link impl_wordSet_list_ctx LL (Code.fst (Code.snd (Code.snd (bodyOf Tryd.f16)))) (Ann.fst (Ann.snd (Ann.snd impl_wordSet_list_an))) (⟨mkE 22 0 [(0, .dat (.int .u64) x2153), (3, .slc 0)], [some (.seq (.int .i64) x2205)]⟩ : St) (impl_wordSet_list_n6 x2153 x2205) (fun (t : (List Int)) => (Exit.normal, (⟨mkE 22 0 [(3, .slc 0)], [some (.seq (.int .i64) t)]⟩ : St))) := by
  unfold impl_wordSet_list_n6
  exact Link.cast (by kernel_rfl) (by kernel_rfl) (link_seq (b := (Code.snd (Code.fst (Code.snd (Code.snd (bodyOf Tryd.f16)))))) (y := (Ann.snd (Ann.fst (Ann.snd (Ann.snd impl_wordSet_list_an))))) (impl_wordSet_list_n2_l x2153 x2205) (fun (t : Unit) => (impl_wordSet_list_n5_l x2153 x2205)))

theorem impl_wordSet_list_n7_l (x2246 : List Int) : Link impl_wordSet_list_ctx LL (Code.snd (Code.snd (Code.snd (bodyOf Tryd.f16)))) (Ann.snd (Ann.snd (Ann.snd impl_wordSet_list_an))) (⟨mkE 22 0 [(3, .slc 0)], [some (.seq (.int .i64) x2246)]⟩ : St) (impl_wordSet_list_n7 x2246) (fun (t : (List Int)) => (Exit.ret, (⟨mkE 22 0 [(2, .slc 0)], [some (.seq (.int .i64) t)]⟩ : St))) := by
  refine Link.of fun K h => ?_
  simp only [impl_wordSet_list_n7, wpO_bind, wpO_cond, wpO_map, wpO_some] at h
  exact Awp.of (by kernel_rfl) h

theorem impl_wordSet_list_n8_l (x2153 : Int) (x2205 : List Int) : Link impl_wordSet_list_ctx LL (Code.snd (Code.snd (bodyOf Tryd.f16))) (Ann.snd (Ann.snd impl_wordSet_list_an)) (⟨mkE 22 0 [(0, .dat (.int .u64) x2153), (3, .slc 0)], [some (.seq (.int .i64) x2205)]⟩ : St) (impl_wordSet_list_n8 x2153 x2205) (fun (t : (List Int)) => (Exit.ret, (⟨mkE 22 0 [(2, .slc 0)], [some (.seq (.int .i64) t)]⟩ : St))) := by
  unfold impl_wordSet_list_n8
  exact Link.cast (by kernel_rfl) (by kernel_rfl) (link_seq (b := (Code.snd (Code.snd (Code.snd (bodyOf Tryd.f16))))) (y := (Ann.snd (Ann.snd (Ann.snd impl_wordSet_list_an)))) (impl_wordSet_list_n6_l x2153 x2205) (fun (t : (List Int)) => (impl_wordSet_list_n7_l t)))

theorem impl_wordSet_list_n9_l (x2153 : Int) : Link impl_wordSet_list_ctx LL (bodyOf Tryd.f16) impl_wordSet_list_an (⟨mkE 22 0 [(0, .dat (.int .u64) x2153)], []⟩ : St) (impl_wordSet_list_n9 x2153) (fun (t : (List Int)) => (Exit.ret, (⟨mkE 22 0 [(2, .slc 0)], [some (.seq (.int .i64) t)]⟩ : St))) := by
  unfold impl_wordSet_list_n9
  exact Link.cast (by kernel_rfl) (by kernel_rfl) (link_group (c := (Code.fst (Code.snd (bodyOf Tryd.f16)))) (a := (Ann.fst (Ann.snd impl_wordSet_list_an))) [(Code.fst (bodyOf Tryd.f16))] [(Ann.fst impl_wordSet_list_an)] rfl (link_seq (b := (Code.snd (Code.snd (bodyOf Tryd.f16)))) (y := (Ann.snd (Ann.snd impl_wordSet_list_an))) (impl_wordSet_list_n1_l x2153) (fun (t : (List Int)) => (impl_wordSet_list_n8_l x2153 t))))

theorem impl_wordSet_list_e (x2153 : Int) {r : AV} {H' : Heap} (h : (Ans.mk _ (impl_wordSet_list x2153) (fun (t : (List Int)) => (.slc 0, [some (.seq (.int .i64) t)]))).run = some (r, H')) : Awp impl_wordSet_list_ctx LL (bodyOf Tryd.f16) impl_wordSet_list_an (⟨mkE 22 0 [(0, .dat (.int .u64) x2153)], []⟩ : St) (Ret (tlook tys) Tryd.f16.results.toList r H') :=
  ret_of' (impl_wordSet_list_n9_l x2153) (by unfold impl_wordSet_list; kernel_rfl) (by
  intro t
  exact ret_mk [.slc 0] (by kernel_rfl) (by kernel_rfl) (by kernel_rfl) (by kernel_rfl)) h

def F_impl_wordSet_list : Fun := fun avs H =>
  match avs, H with
  | [.dat (.int .u64) x2153], [] => ⟨_, impl_wordSet_list x2153, fun (t : (List Int)) => (.slc 0, [some (.seq (.int .i64) t)])⟩
  | _, _ => Ans.no

theorem impl_wordSet_list_sound : Sound Tryd.prog 16 F_impl_wordSet_list := by
  refine fn_sound' (C := impl_wordSet_list_ctx) (c := bodyOf Tryd.f16) (cok_of tys_ok (List.forall_mem_cons.2 ⟨impl_wordSet_count_sound, List.forall_mem_cons.2 ⟨math_bits_TrailingZeros_sound, by simp⟩⟩) (List.forall_mem_cons.2 ⟨Tryd.call26, List.forall_mem_cons.2 ⟨Tryd.call27, by simp⟩⟩) (by kernel_rfl)) Tryd.func16 (by kernel_rfl) LL impl_wordSet_list_an ?_
  intro avs H r H' h
  unfold F_impl_wordSet_list at h
  split at h
  · refine Awp.cast ?_ ?_ ?_ (impl_wordSet_list_e _ h) <;> kernel_rfl
  · simp [Ans.no, Ans.run] at h

/-! loop.example/headtrees/impl.fillYields -/

def impl_fillYields_an : Ann := (.seq (.leaf [0, 1, 2]) (.seq (.leaf [0, 1, 2, 7]) (.seq (.seq (.leaf [0, 1, 2, 7, 15, 16, 17]) (.block (.loop (.seq (.leaf [0, 1, 2, 7, 15, 16, 17, 18]) (.seq (.cond (.leaf [0, 1, 2, 7, 15, 16, 17]) (.leaf [0, 2, 7])) (.seq (.block (.seq (.leaf [0, 1, 2, 7, 9, 15, 16, 17]) (.leaf [0, 1, 2, 7, 15, 16, 17]))) (.leaf [0, 1, 2, 7, 15, 16, 17]))))))) (.seq (.leaf [7]) (.seq (.leaf [6]) (.leaf [6]))))))

def F_impl_fillYields_fuel (n : Nat) : Fun := fun avs H =>
  match avs, H with
  | [.slc 0, .dat (.list (.int .i64)) x2102, .dat (.int .i64) x2103], [some (.seq (.int .u64) x2104)] => ⟨_, impl_fillYields_fuel n x2102 x2103 x2104, fun (t : Int × (List Int)) => (.dat (.int .u64) t.1, [some (.seq (.int .u64) t.2)])⟩
  | _, _ => Ans.no

noncomputable def impl_fillYields_ctx (n : Nat) : Ctx := ⟨tlook tys, olook [(30, F_impl_only), (31, F_impl_dependents), (16, F_impl_wordSet_list), (24, F_impl_fillYields_fuel n)], ioF, 1, false⟩

theorem impl_fillYields_n1_l (n : Nat) (x2102 : List Int) (x2103 : Int) (x2104 : List Int) : Link (impl_fillYields_ctx n) LL (Code.seq (Code.fst (bodyOf Tryd.f24)) (Code.fst (Code.snd (bodyOf Tryd.f24)))) (Ann.seq (Ann.fst impl_fillYields_an) (Ann.fst (Ann.snd impl_fillYields_an))) (⟨mkE 34 0 [(0, .slc 0), (1, .dat (.list (.int .i64)) x2102), (2, .dat (.int .i64) x2103)], [some (.seq (.int .u64) x2104)]⟩ : St) (impl_fillYields_n1 (impl_fillYields_fuel n) x2103) (fun (t : Int) => (Exit.normal, (⟨mkE 34 0 [(0, .slc 0), (1, .dat (.list (.int .i64)) x2102), (2, .dat (.int .i64) x2103), (7, .dat (.int .u64) t)], [some (.seq (.int .u64) x2104)]⟩ : St))) := by
  refine Link.of fun K h => ?_
  simp only [impl_fillYields_n1, wpO_bind, wpO_cond, wpO_map, wpO_some] at h
  exact Awp.of (by kernel_rfl) h

theorem impl_fillYields_n2_l (n : Nat) (x2102 : List Int) (x2103 : Int) (x2280 : Int) (x2104 : List Int) : Link (impl_fillYields_ctx n) LL (Code.fst (Code.fst (Code.snd (Code.snd (bodyOf Tryd.f24))))) (Ann.fst (Ann.fst (Ann.snd (Ann.snd impl_fillYields_an)))) (⟨mkE 34 0 [(0, .slc 0), (1, .dat (.list (.int .i64)) x2102), (2, .dat (.int .i64) x2103), (7, .dat (.int .u64) x2280)], [some (.seq (.int .u64) x2104)]⟩ : St) (impl_fillYields_n2 (impl_fillYields_fuel n) x2102 x2103) (fun (t : Int × (List Int)) => (Exit.normal, (⟨mkE 34 0 [(0, .slc 0), (1, .dat (.list (.int .i64)) x2102), (2, .dat (.int .i64) x2103), (7, .dat (.int .u64) x2280), (15, .slc 1), (16, .dat (.int .i64) t.1), (17, .dat (.int .i64) 0)], [some (.seq (.int .u64) x2104), some (.seq (.int .i64) t.2)]⟩ : St))) := by
  refine Link.of fun K h => ?_
  simp only [impl_fillYields_n2, wpO_bind, wpO_cond, wpO_map, wpO_some] at h
  exact Awp.of (by kernel_rfl) h

theorem impl_fillYields_n3_l (n : Nat) (x2102 : List Int) (x2103 : Int) (x2301 : Int) (x2283 : Int) (x2302 : Int) (x2303 : List Int) (x2282 : List Int) : Link (impl_fillYields_ctx n) LL (Code.fst (Code.fst (Code.snd (Code.fst (Code.snd (Code.snd (bodyOf Tryd.f24))))))) (Ann.fst (Ann.fst (Ann.snd (Ann.fst (Ann.snd (Ann.snd impl_fillYields_an)))))) (⟨mkE 34 0 [(0, .slc 0), (1, .dat (.list (.int .i64)) x2102), (2, .dat (.int .i64) x2103), (7, .dat (.int .u64) x2301), (15, .slc 1), (16, .dat (.int .i64) x2283), (17, .dat (.int .i64) x2302)], [some (.seq (.int .u64) x2303), some (.seq (.int .i64) x2282)]⟩ : St) (impl_fillYields_n3 (impl_fillYields_fuel n) x2102 x2301 x2283 x2302 x2303 x2282) (Sum.elim (fun (t : Int × Int × (List Int)) => (Exit.normal, (⟨mkE 34 0 [(0, .slc 0), (1, .dat (.list (.int .i64)) x2102), (2, .dat (.int .i64) x2103), (7, .dat (.int .u64) t.1), (15, .slc 1), (16, .dat (.int .i64) x2283), (17, .dat (.int .i64) t.2.1)], [some (.seq (.int .u64) t.2.2), some (.seq (.int .i64) x2282)]⟩ : St))) (fun (t : Int × (List Int)) => ((Exit.exit 0), (⟨mkE 34 0 [(0, .slc 0), (2, .dat (.int .i64) x2103), (7, .dat (.int .u64) t.1)], [some (.seq (.int .u64) t.2)]⟩ : St)))) := by
  refine Link.of fun K h => ?_
  simp only [impl_fillYields_n3, wpO_bind, wpO_cond, wpO_map, wpO_some] at h
  exact Awp.of (by kernel_rfl) h

theorem impl_fillYields_n4_l (n : Nat) (x2102 : List Int) (x2103 : Int) (x2280 : Int) (x2283 : Int) (x2104 : List Int) (x2282 : List Int) : Link (impl_fillYields_ctx n) LL (Code.fst (Code.snd (Code.fst (Code.snd (Code.snd (bodyOf Tryd.f24)))))) (Ann.fst (Ann.snd (Ann.fst (Ann.snd (Ann.snd impl_fillYields_an))))) (⟨mkE 34 0 [(0, .slc 0), (1, .dat (.list (.int .i64)) x2102), (2, .dat (.int .i64) x2103), (7, .dat (.int .u64) x2280), (15, .slc 1), (16, .dat (.int .i64) x2283), (17, .dat (.int .i64) 0)], [some (.seq (.int .u64) x2104), some (.seq (.int .i64) x2282)]⟩ : St) (impl_fillYields_n4 (impl_fillYields_fuel n) x2102 x2280 x2283 x2104 x2282) (fun (t : Int × (List Int)) => ((Exit.exit 0), (⟨mkE 34 0 [(0, .slc 0), (2, .dat (.int .i64) x2103), (7, .dat (.int .u64) t.1)], [some (.seq (.int .u64) t.2)]⟩ : St))) := by
  unfold impl_fillYields_n4
  exact Link.cast (by kernel_rfl) (by kernel_rfl) (link_loop (mk := fun (s : Int × Int × (List Int)) => (⟨mkE 34 0 [(0, .slc 0), (1, .dat (.list (.int .i64)) x2102), (2, .dat (.int .i64) x2103), (7, .dat (.int .u64) s.1), (15, .slc 1), (16, .dat (.int .i64) x2283), (17, .dat (.int .i64) s.2.1)], [some (.seq (.int .u64) s.2.2), some (.seq (.int .i64) x2282)]⟩ : St)) (fin := (fun (t : Int × (List Int)) => ((Exit.exit 0), (⟨mkE 34 0 [(0, .slc 0), (2, .dat (.int .i64) x2103), (7, .dat (.int .u64) t.1)], [some (.seq (.int .u64) t.2)]⟩ : St)))) (by
  rintro t f K h
  · exact h) (fun s => link_map (impl_fillYields_n3_l n x2102 x2103 s.1 x2283 s.2.1 s.2.2 x2282) (Sum.elim (fun (t : Int × Int × (List Int)) => Sum.inl (t.1, t.2.1, t.2.2)) (fun (t : Int × (List Int)) => Sum.inr t)) (by
  rintro (t | t)
  · kernel_rfl
  · kernel_rfl)) (x2280, 0, x2104))

theorem impl_fillYields_n5_l (n : Nat) (x2102 : List Int) (x2103 : Int) (x2280 : Int) (x2283 : Int) (x2104 : List Int) (x2282 : List Int) : Link (impl_fillYields_ctx n) LL (Code.snd (Code.fst (Code.snd (Code.snd (bodyOf Tryd.f24))))) (Ann.snd (Ann.fst (Ann.snd (Ann.snd impl_fillYields_an)))) (⟨mkE 34 0 [(0, .slc 0), (1, .dat (.list (.int .i64)) x2102), (2, .dat (.int .i64) x2103), (7, .dat (.int .u64) x2280), (15, .slc 1), (16, .dat (.int .i64) x2283), (17, .dat (.int .i64) 0)], [some (.seq (.int .u64) x2104), some (.seq (.int .i64) x2282)]⟩ : St) (impl_fillYields_n5 (impl_fillYields_fuel n) x2102 x2280 x2283 x2104 x2282) (fun (t : Int × (List Int)) => (Exit.normal, (⟨mkE 34 0 [(0, .slc 0), (2, .dat (.int .i64) x2103), (7, .dat (.int .u64) t.1)], [some (.seq (.int .u64) t.2)]⟩ : St))) := by
  unfold impl_fillYields_n5
  exact Link.cast (by kernel_rfl) (by kernel_rfl) (link_block (id := 0) (impl_fillYields_n4_l n x2102 x2103 x2280 x2283 x2104 x2282) (fun (t : Int × (List Int)) => (t.1, t.2)) (by
  rintro t K h
  · exact Eq.mp (by kernel_rfl) h))

theorem impl_fillYields_n6_l (n : Nat) (x2102 : List Int) (x2103 : Int) (x2280 : Int) (x2104 : List Int) : Link (impl_fillYields_ctx n) LL (Code.fst (Code.snd (Code.snd (bodyOf Tryd.f24)))) (Ann.fst (Ann.snd (Ann.snd impl_fillYields_an))) (⟨mkE 34 0 [(0, .slc 0), (1, .dat (.list (.int .i64)) x2102), (2, .dat (.int .i64) x2103), (7, .dat (.int .u64) x2280)], [some (.seq (.int .u64) x2104)]⟩ : St) (impl_fillYields_n6 (impl_fillYields_fuel n) x2102 x2103 x2280 x2104) (fun (t : Int × (List Int)) => (Exit.normal, (⟨mkE 34 0 [(0, .slc 0), (2, .dat (.int .i64) x2103), (7, .dat (.int .u64) t.1)], [some (.seq (.int .u64) t.2)]⟩ : St))) := by
  unfold impl_fillYields_n6
  exact Link.cast (by kernel_rfl) (by kernel_rfl) (link_seq (b := (Code.snd (Code.fst (Code.snd (Code.snd (bodyOf Tryd.f24)))))) (y := (Ann.snd (Ann.fst (Ann.snd (Ann.snd impl_fillYields_an))))) (impl_fillYields_n2_l n x2102 x2103 x2280 x2104) (fun (t : Int × (List Int)) => (impl_fillYields_n5_l n x2102 x2103 x2280 t.1 x2104 t.2)))

theorem impl_fillYields_n7_l (n : Nat) (x2103 : Int) (x2301 : Int) (x2303 : List Int) : Link (impl_fillYields_ctx n) LL (Code.snd (Code.snd (Code.snd (bodyOf Tryd.f24)))) (Ann.snd (Ann.snd (Ann.snd impl_fillYields_an))) (⟨mkE 34 0 [(0, .slc 0), (2, .dat (.int .i64) x2103), (7, .dat (.int .u64) x2301)], [some (.seq (.int .u64) x2303)]⟩ : St) (impl_fillYields_n7 (impl_fillYields_fuel n) x2103 x2301 x2303) (fun (t : Int × (List Int)) => (Exit.ret, (⟨mkE 34 0 [(6, .dat (.int .u64) t.1)], [some (.seq (.int .u64) t.2)]⟩ : St))) := by
  refine Link.of fun K h => ?_
  simp only [impl_fillYields_n7, wpO_bind, wpO_cond, wpO_map, wpO_some] at h
  exact Awp.of (by kernel_rfl) h

theorem impl_fillYields_n8_l (n : Nat) (x2102 : List Int) (x2103 : Int) (x2280 : Int) (x2104 : List Int) : Link (impl_fillYields_ctx n) LL (Code.snd (Code.snd (bodyOf Tryd.f24))) (Ann.snd (Ann.snd impl_fillYields_an)) (⟨mkE 34 0 [(0, .slc 0), (1, .dat (.list (.int .i64)) x2102), (2, .dat (.int .i64) x2103), (7, .dat (.int .u64) x2280)], [some (.seq (.int .u64) x2104)]⟩ : St) (impl_fillYields_n8 (impl_fillYields_fuel n) x2102 x2103 x2280 x2104) (fun (t : Int × (List Int)) => (Exit.ret, (⟨mkE 34 0 [(6, .dat (.int .u64) t.1)], [some (.seq (.int .u64) t.2)]⟩ : St))) := by
  unfold impl_fillYields_n8
  exact Link.cast (by kernel_rfl) (by kernel_rfl) (link_seq (b := (Code.snd (Code.snd (Code.snd (bodyOf Tryd.f24))))) (y := (Ann.snd (Ann.snd (Ann.snd impl_fillYields_an)))) (impl_fillYields_n6_l n x2102 x2103 x2280 x2104) (fun (t : Int × (List Int)) => (impl_fillYields_n7_l n x2103 t.1 t.2)))

theorem impl_fillYields_n9_l (n : Nat) (x2102 : List Int) (x2103 : Int) (x2104 : List Int) : Link (impl_fillYields_ctx n) LL (bodyOf Tryd.f24) impl_fillYields_an (⟨mkE 34 0 [(0, .slc 0), (1, .dat (.list (.int .i64)) x2102), (2, .dat (.int .i64) x2103)], [some (.seq (.int .u64) x2104)]⟩ : St) (impl_fillYields_n9 (impl_fillYields_fuel n) x2102 x2103 x2104) (fun (t : Int × (List Int)) => (Exit.ret, (⟨mkE 34 0 [(6, .dat (.int .u64) t.1)], [some (.seq (.int .u64) t.2)]⟩ : St))) := by
  unfold impl_fillYields_n9
  exact Link.cast (by kernel_rfl) (by kernel_rfl) (link_group (c := (Code.fst (Code.snd (bodyOf Tryd.f24)))) (a := (Ann.fst (Ann.snd impl_fillYields_an))) [(Code.fst (bodyOf Tryd.f24))] [(Ann.fst impl_fillYields_an)] rfl (link_seq (b := (Code.snd (Code.snd (bodyOf Tryd.f24)))) (y := (Ann.snd (Ann.snd impl_fillYields_an))) (impl_fillYields_n1_l n x2102 x2103 x2104) (fun (t : Int) => (impl_fillYields_n8_l n x2102 x2103 t x2104))))

theorem impl_fillYields_e (n : Nat) (x2102 : List Int) (x2103 : Int) (x2104 : List Int) {r : AV} {H' : Heap} (h : (Ans.mk _ (impl_fillYields_fuel (n + 1) x2102 x2103 x2104) (fun (t : Int × (List Int)) => (.dat (.int .u64) t.1, [some (.seq (.int .u64) t.2)]))).run = some (r, H')) : Awp (impl_fillYields_ctx n) LL (bodyOf Tryd.f24) impl_fillYields_an (⟨mkE 34 0 [(0, .slc 0), (1, .dat (.list (.int .i64)) x2102), (2, .dat (.int .i64) x2103)], [some (.seq (.int .u64) x2104)]⟩ : St) (Ret (tlook tys) Tryd.f24.results.toList r H') :=
  ret_of' (impl_fillYields_n9_l n x2102 x2103 x2104) (by (show _ = _); kernel_rfl) (by
  intro t
  exact ret_mk [.dat (.int .u64) t.1] (by kernel_rfl) (by kernel_rfl) (by kernel_rfl) (by kernel_rfl)) h

theorem impl_fillYields_step (n : Nat) (h24 : Sound Tryd.prog 24 (F_impl_fillYields_fuel n)) : Sound Tryd.prog 24 (F_impl_fillYields_fuel (n + 1)) := by
  refine fn_sound' (C := impl_fillYields_ctx n) (c := bodyOf Tryd.f24) (cok_of tys_ok (List.forall_mem_cons.2 ⟨impl_only_sound, List.forall_mem_cons.2 ⟨impl_dependents_sound, List.forall_mem_cons.2 ⟨impl_wordSet_list_sound, List.forall_mem_cons.2 ⟨h24, by simp⟩⟩⟩⟩) (List.forall_mem_cons.2 ⟨Tryd.call30, List.forall_mem_cons.2 ⟨Tryd.call31, List.forall_mem_cons.2 ⟨Tryd.call16, List.forall_mem_cons.2 ⟨Tryd.call24, by simp⟩⟩⟩⟩) (by kernel_rfl)) Tryd.func24 (by kernel_rfl) LL impl_fillYields_an ?_
  intro avs H r H' h
  unfold F_impl_fillYields_fuel at h
  split at h
  · refine Awp.cast ?_ ?_ ?_ (impl_fillYields_e n _ _ _ h) <;> kernel_rfl
  · simp [Ans.no, Ans.run] at h

theorem impl_fillYields_null : Sound Tryd.prog 24 (F_impl_fillYields_fuel 0) := by
  intro avs H r H' h
  unfold F_impl_fillYields_fuel at h
  split at h
  · simp [impl_fillYields_fuel, impl_fillYields_knot, Ans.run] at h
  · simp [Ans.no, Ans.run] at h

theorem impl_fillYields_knot_all : ∀ n, Sound Tryd.prog 24 (F_impl_fillYields_fuel n)
  | 0 => impl_fillYields_null
  | n + 1 => by
    have h24 := impl_fillYields_knot_all n
    exact impl_fillYields_step n h24

def F_impl_fillYields : Fun := fun avs H =>
  match avs, H with
  | [.slc 0, .dat (.list (.int .i64)) x2102, .dat (.int .i64) x2103], [some (.seq (.int .u64) x2104)] => ⟨_, impl_fillYields x2102 x2103 x2104, fun (t : Int × (List Int)) => (.dat (.int .u64) t.1, [some (.seq (.int .u64) t.2)])⟩
  | _, _ => Ans.no

theorem impl_fillYields_sound : Sound Tryd.prog 24 F_impl_fillYields := by
  have e : F_impl_fillYields = F_impl_fillYields_fuel RR := by
    funext avs H
    unfold F_impl_fillYields F_impl_fillYields_fuel
    split <;> first | rfl | (simp only [impl_fillYields])
  rw [e]
  exact (impl_fillYields_knot_all RR)

/-! loop.example/headtrees/impl.yieldsOf -/

def impl_yieldsOf_an : Ann := (.seq (.leaf [0]) (.seq (.leaf [0, 3]) (.seq (.leaf [3]) (.seq (.leaf [2]) (.leaf [2])))))

noncomputable def impl_yieldsOf_ctx : Ctx := ⟨tlook tys, olook [(25, F_impl_RootOf), (24, F_impl_fillYields)], ioF, 0, false⟩

theorem impl_yieldsOf_n1_l (x2070 : List Int) : Link impl_yieldsOf_ctx LL (bodyOf Tryd.f14) impl_yieldsOf_an (⟨mkE 13 0 [(0, .dat (.list (.int .i64)) x2070)], []⟩ : St) (impl_yieldsOf_n1 x2070) (fun (t : (List Int)) => (Exit.ret, (⟨mkE 13 0 [(2, .slc 0)], [some (.seq (.int .u64) t)]⟩ : St))) := by
  refine Link.of fun K h => ?_
  simp only [impl_yieldsOf_n1, wpO_bind, wpO_cond, wpO_map, wpO_some] at h
  exact Awp.of (by kernel_rfl) h

theorem impl_yieldsOf_e (x2070 : List Int) {r : AV} {H' : Heap} (h : (Ans.mk _ (impl_yieldsOf x2070) (fun (t : (List Int)) => (.slc 0, [some (.seq (.int .u64) t)]))).run = some (r, H')) : Awp impl_yieldsOf_ctx LL (bodyOf Tryd.f14) impl_yieldsOf_an (⟨mkE 13 0 [(0, .dat (.list (.int .i64)) x2070)], []⟩ : St) (Ret (tlook tys) Tryd.f14.results.toList r H') :=
  ret_of' (impl_yieldsOf_n1_l x2070) (by unfold impl_yieldsOf; kernel_rfl) (by
  intro t
  exact ret_mk [.slc 0] (by kernel_rfl) (by kernel_rfl) (by kernel_rfl) (by kernel_rfl)) h

def F_impl_yieldsOf : Fun := fun avs H =>
  match avs, H with
  | [.dat (.list (.int .i64)) x2070], [] => ⟨_, impl_yieldsOf x2070, fun (t : (List Int)) => (.slc 0, [some (.seq (.int .u64) t)])⟩
  | _, _ => Ans.no

theorem impl_yieldsOf_sound : Sound Tryd.prog 14 F_impl_yieldsOf := by
  refine fn_sound' (C := impl_yieldsOf_ctx) (c := bodyOf Tryd.f14) (cok_of tys_ok (List.forall_mem_cons.2 ⟨impl_RootOf_sound, List.forall_mem_cons.2 ⟨impl_fillYields_sound, by simp⟩⟩) (List.forall_mem_cons.2 ⟨Tryd.call25, List.forall_mem_cons.2 ⟨Tryd.call24, by simp⟩⟩) (by kernel_rfl)) Tryd.func14 (by kernel_rfl) LL impl_yieldsOf_an ?_
  intro avs H r H' h
  unfold F_impl_yieldsOf at h
  split at h
  · refine Awp.cast ?_ ?_ ?_ (impl_yieldsOf_e _ h) <;> kernel_rfl
  · simp [Ans.no, Ans.run] at h

/-! (loop.example/headtrees/impl.wordSet).ends -/

def impl_wordSet_ends_an : Ann := (.seq (.leaf [0]) (.seq (.leaf [2]) (.leaf [2])))

noncomputable def impl_wordSet_ends_ctx : Ctx := ⟨tlook tys, olook [], ioF, 0, false⟩

theorem impl_wordSet_ends_n1_l (x2357 : Int) : Link impl_wordSet_ends_ctx LL (bodyOf Tryd.f15) impl_wordSet_ends_an (⟨mkE 7 0 [(0, .dat (.int .u64) x2357)], []⟩ : St) (impl_wordSet_ends_n1 x2357) (fun (t : Int) => (Exit.ret, (⟨mkE 7 0 [(2, .dat (.int .u64) t)], []⟩ : St))) := by
  refine Link.of fun K h => ?_
  simp only [impl_wordSet_ends_n1, wpO_bind, wpO_cond, wpO_map, wpO_some] at h
  exact Awp.of (by kernel_rfl) h

theorem impl_wordSet_ends_e (x2357 : Int) {r : AV} {H' : Heap} (h : (Ans.mk _ (impl_wordSet_ends x2357) (fun (t : Int) => (.dat (.int .u64) t, []))).run = some (r, H')) : Awp impl_wordSet_ends_ctx LL (bodyOf Tryd.f15) impl_wordSet_ends_an (⟨mkE 7 0 [(0, .dat (.int .u64) x2357)], []⟩ : St) (Ret (tlook tys) Tryd.f15.results.toList r H') :=
  ret_of' (impl_wordSet_ends_n1_l x2357) (by unfold impl_wordSet_ends; kernel_rfl) (by
  intro t
  exact ret_mk [.dat (.int .u64) t] (by kernel_rfl) (by kernel_rfl) (by kernel_rfl) (by kernel_rfl)) h

end Go.Rv
