/-
  The checked code answers as the plain functions do; written by program. Conditions: none.
-/
import Derived.Test.YthhbbiielebblaaGLa
set_option linter.unusedVariables false
set_option linter.unusedSimpArgs false
set_option maxRecDepth 100000
namespace Go.Rv
open Go.Proofs
def F_spec_l4Row_fuel (n : Nat) : Fun := fun avs H =>
  match avs, H with
  | [.slc 0, .dat (.int .i64) x1282, .dat (.int .i64) x1283, .dat (.int .i64) x1284, .dat (.int .i64) x1285], [some (.seq (.int .i64) x1286)] => ⟨_, spec_l4Row_fuel n x1282 x1283 x1284 x1285 x1286, fun (t : (List Int)) => (.tup [], [some (.seq (.int .i64) t)])⟩
  | _, _ => Ans.no

noncomputable def spec_l4Tree_ctx (n : Nat) : Ctx := ⟨tlook tys, olook [(27, F_spec_l4Rows), (35, F_spec_l4Row_fuel n)], ioF, 1⟩

noncomputable def spec_l4Row_ctx (n : Nat) : Ctx := ⟨tlook tys, olook [(27, F_spec_l4Rows), (25, F_spec_l4Flat), (28, F_spec_l4Tree_fuel n), (35, F_spec_l4Row_fuel n)], ioF, 1⟩

theorem spec_l4Tree_n1_l (n : Nat) (x1092 : Int) (x1093 : Int) (x1094 : Int) (x1095 : Int) (x1096 : List Int) : Link (spec_l4Tree_ctx n) LL (Code.fst (bodyOf Try.f28)) (Ann.fst spec_l4Tree_an) (⟨mkE 58 0 [(0, .slc 0), (1, .dat (.int .i64) x1092), (2, .dat (.int .i64) x1093), (3, .dat (.int .i64) x1094), (4, .dat (.int .i64) x1095)], [some (.seq (.int .i64) x1096)]⟩ : St) (spec_l4Tree_n1 (spec_l4Tree_fuel n) (spec_l4Row_fuel n)) (fun (t : Unit) => (Exit.normal, (⟨mkE 58 0 [(0, .slc 0), (1, .dat (.int .i64) x1092), (2, .dat (.int .i64) x1093), (3, .dat (.int .i64) x1094), (4, .dat (.int .i64) x1095), (10, .dat (.int .i64) x1092)], [some (.seq (.int .i64) x1096)]⟩ : St))) := by
  refine Link.of fun K h => ?_
  simp only [spec_l4Tree_n1, wpO_bind, wpO_cond, wpO_map, wpO_some] at h
  exact Awp.of (by kernel_rfl) h

theorem spec_l4Tree_n2_l (n : Nat) (x1092 : Int) (x1093 : Int) (x1094 : Int) (x1494 : Int) (x1495 : Int) (x1096 : List Int) : Link (spec_l4Tree_ctx n) LL (Code.fst (Code.fst (Code.snd (bodyOf Try.f28)))) (Ann.fst (Ann.fst (Ann.snd spec_l4Tree_an))) (⟨mkE 58 0 [(0, .slc 0), (1, .dat (.int .i64) x1092), (2, .dat (.int .i64) x1093), (3, .dat (.int .i64) x1094), (4, .dat (.int .i64) x1494), (10, .dat (.int .i64) x1495)], [some (.seq (.int .i64) x1096)]⟩ : St) (spec_l4Tree_n2 (spec_l4Tree_fuel n) (spec_l4Row_fuel n) x1092 x1093 x1094 x1494 x1495 x1096) (Sum.elim (fun (t : Int × Int) => (Exit.normal, (⟨mkE 58 0 [(0, .slc 0), (1, .dat (.int .i64) x1092), (2, .dat (.int .i64) x1093), (3, .dat (.int .i64) x1094), (4, .dat (.int .i64) t.1), (10, .dat (.int .i64) t.2)], [some (.seq (.int .i64) x1096)]⟩ : St))) (Sum.elim (fun (t : (List Int)) => (Exit.ret, (⟨mkE 58 0 [], [some (.seq (.int .i64) t)]⟩ : St))) (fun (t : Unit) => ((Exit.exit 0), (⟨mkE 58 0 [], [some (.seq (.int .i64) x1096)]⟩ : St))))) := by
  refine Link.of fun K h => ?_
  simp only [spec_l4Tree_n2, wpO_bind, wpO_cond, wpO_map, wpO_some] at h
  exact Awp.of (by kernel_rfl) h

theorem spec_l4Tree_n3_l (n : Nat) (x1092 : Int) (x1093 : Int) (x1094 : Int) (x1095 : Int) (x1096 : List Int) : Link (spec_l4Tree_ctx n) LL (Code.fst (Code.snd (bodyOf Try.f28))) (Ann.fst (Ann.snd spec_l4Tree_an)) (⟨mkE 58 0 [(0, .slc 0), (1, .dat (.int .i64) x1092), (2, .dat (.int .i64) x1093), (3, .dat (.int .i64) x1094), (4, .dat (.int .i64) x1095), (10, .dat (.int .i64) x1092)], [some (.seq (.int .i64) x1096)]⟩ : St) (spec_l4Tree_n3 (spec_l4Tree_fuel n) (spec_l4Row_fuel n) x1092 x1093 x1094 x1095 x1096) (Sum.elim (fun (t : (List Int)) => (Exit.ret, (⟨mkE 58 0 [], [some (.seq (.int .i64) t)]⟩ : St))) (fun (t : Unit) => ((Exit.exit 0), (⟨mkE 58 0 [], [some (.seq (.int .i64) x1096)]⟩ : St)))) := by
  unfold spec_l4Tree_n3
  exact Link.cast (by kernel_rfl) (by kernel_rfl) (link_loop (mk := fun (s : Int × Int) => (⟨mkE 58 0 [(0, .slc 0), (1, .dat (.int .i64) x1092), (2, .dat (.int .i64) x1093), (3, .dat (.int .i64) x1094), (4, .dat (.int .i64) s.1), (10, .dat (.int .i64) s.2)], [some (.seq (.int .i64) x1096)]⟩ : St)) (fin := (Sum.elim (fun (t : (List Int)) => (Exit.ret, (⟨mkE 58 0 [], [some (.seq (.int .i64) t)]⟩ : St))) (fun (t : Unit) => ((Exit.exit 0), (⟨mkE 58 0 [], [some (.seq (.int .i64) x1096)]⟩ : St))))) (by
  rintro (t | t) f K h
  · exact h
  · exact h) (fun s => link_map (spec_l4Tree_n2_l n x1092 x1093 x1094 s.1 s.2 x1096) (Sum.elim (fun (t : Int × Int) => Sum.inl (t.1, t.2)) (Sum.elim (fun (t : (List Int)) => Sum.inr (Sum.inl t)) (fun (t : Unit) => Sum.inr (Sum.inr t)))) (by
  rintro (t | t | t)
  · kernel_rfl
  · kernel_rfl
  · kernel_rfl)) (x1095, x1092))

theorem spec_l4Tree_n4_l (n : Nat) (x1092 : Int) (x1093 : Int) (x1094 : Int) (x1095 : Int) (x1096 : List Int) : Link (spec_l4Tree_ctx n) LL (Code.snd (bodyOf Try.f28)) (Ann.snd spec_l4Tree_an) (⟨mkE 58 0 [(0, .slc 0), (1, .dat (.int .i64) x1092), (2, .dat (.int .i64) x1093), (3, .dat (.int .i64) x1094), (4, .dat (.int .i64) x1095), (10, .dat (.int .i64) x1092)], [some (.seq (.int .i64) x1096)]⟩ : St) (spec_l4Tree_n4 (spec_l4Tree_fuel n) (spec_l4Row_fuel n) x1092 x1093 x1094 x1095 x1096) (Sum.elim (fun (t : Unit) => (Exit.normal, (⟨mkE 58 0 [], [some (.seq (.int .i64) x1096)]⟩ : St))) (fun (t : (List Int)) => (Exit.ret, (⟨mkE 58 0 [], [some (.seq (.int .i64) t)]⟩ : St)))) := by
  unfold spec_l4Tree_n4
  exact Link.cast (by kernel_rfl) (by kernel_rfl) (link_block (id := 0) (spec_l4Tree_n3_l n x1092 x1093 x1094 x1095 x1096) (Sum.elim (fun (t : (List Int)) => (Sum.inr t)) (fun (t : Unit) => (Sum.inl ()))) (by
  rintro (t | t) K h
  · exact Eq.mp (by kernel_rfl) h
  · exact Eq.mp (by kernel_rfl) h))

theorem spec_l4Tree_n5_l (n : Nat) (x1092 : Int) (x1093 : Int) (x1094 : Int) (x1095 : Int) (x1096 : List Int) : Link (spec_l4Tree_ctx n) LL (bodyOf Try.f28) spec_l4Tree_an (⟨mkE 58 0 [(0, .slc 0), (1, .dat (.int .i64) x1092), (2, .dat (.int .i64) x1093), (3, .dat (.int .i64) x1094), (4, .dat (.int .i64) x1095)], [some (.seq (.int .i64) x1096)]⟩ : St) (spec_l4Tree_n5 (spec_l4Tree_fuel n) (spec_l4Row_fuel n) x1092 x1093 x1094 x1095 x1096) (Sum.elim (fun (t : Unit) => (Exit.normal, (⟨mkE 58 0 [], [some (.seq (.int .i64) x1096)]⟩ : St))) (fun (t : (List Int)) => (Exit.ret, (⟨mkE 58 0 [], [some (.seq (.int .i64) t)]⟩ : St)))) := by
  unfold spec_l4Tree_n5
  exact Link.cast (by kernel_rfl) (by kernel_rfl) (link_seq (b := (Code.snd (bodyOf Try.f28))) (y := (Ann.snd spec_l4Tree_an)) (spec_l4Tree_n1_l n x1092 x1093 x1094 x1095 x1096) (fun (t : Unit) => (spec_l4Tree_n4_l n x1092 x1093 x1094 x1095 x1096)))

theorem spec_l4Tree_e (n : Nat) (x1092 : Int) (x1093 : Int) (x1094 : Int) (x1095 : Int) (x1096 : List Int) {r : AV} {H' : Heap} (h : (Ans.mk _ (spec_l4Tree_fuel (n + 1) x1092 x1093 x1094 x1095 x1096) (fun (t : (List Int)) => (.tup [], [some (.seq (.int .i64) t)]))).run = some (r, H')) : Awp (spec_l4Tree_ctx n) LL (bodyOf Try.f28) spec_l4Tree_an (⟨mkE 58 0 [(0, .slc 0), (1, .dat (.int .i64) x1092), (2, .dat (.int .i64) x1093), (3, .dat (.int .i64) x1094), (4, .dat (.int .i64) x1095)], [some (.seq (.int .i64) x1096)]⟩ : St) (Ret (tlook tys) Try.f28.results.toList r H') :=
  ret_of (spec_l4Tree_n5_l n x1092 x1093 x1094 x1095 x1096) (Sum.elim (fun (t : Unit) => x1096) (fun (t : (List Int)) => t)) (by (show _ = _); kernel_rfl) (by
  rintro (t | t)
  · exact ret_mk [] (by kernel_rfl) (by kernel_rfl) (by kernel_rfl) (by kernel_rfl)
  · exact ret_mk [] (by kernel_rfl) (by kernel_rfl) (by kernel_rfl) (by kernel_rfl)) h

theorem spec_l4Row_n1_l (n : Nat) (x1282 : Int) (x1283 : Int) (x1284 : Int) (x1285 : Int) (x1286 : List Int) : Link (spec_l4Row_ctx n) LL (Code.fst (bodyOf Try.f35)) (Ann.fst spec_l4Row_an) (⟨mkE 53 0 [(0, .slc 0), (1, .dat (.int .i64) x1282), (2, .dat (.int .i64) x1283), (3, .dat (.int .i64) x1284), (4, .dat (.int .i64) x1285)], [some (.seq (.int .i64) x1286)]⟩ : St) (spec_l4Row_n1 (spec_l4Tree_fuel n) (spec_l4Row_fuel n)) (fun (t : Unit) => (Exit.normal, (⟨mkE 53 0 [(0, .slc 0), (1, .dat (.int .i64) x1282), (2, .dat (.int .i64) x1283), (3, .dat (.int .i64) x1284), (4, .dat (.int .i64) x1285), (10, .dat (.int .i64) x1282)], [some (.seq (.int .i64) x1286)]⟩ : St))) := by
  refine Link.of fun K h => ?_
  simp only [spec_l4Row_n1, wpO_bind, wpO_cond, wpO_map, wpO_some] at h
  exact Awp.of (by kernel_rfl) h

theorem spec_l4Row_n2_l (n : Nat) (x1282 : Int) (x1283 : Int) (x1284 : Int) (x1438 : Int) (x1439 : Int) (x1286 : List Int) : Link (spec_l4Row_ctx n) LL (Code.fst (Code.fst (Code.snd (bodyOf Try.f35)))) (Ann.fst (Ann.fst (Ann.snd spec_l4Row_an))) (⟨mkE 53 0 [(0, .slc 0), (1, .dat (.int .i64) x1282), (2, .dat (.int .i64) x1283), (3, .dat (.int .i64) x1284), (4, .dat (.int .i64) x1438), (10, .dat (.int .i64) x1439)], [some (.seq (.int .i64) x1286)]⟩ : St) (spec_l4Row_n2 (spec_l4Tree_fuel n) (spec_l4Row_fuel n) x1282 x1283 x1284 x1438 x1439 x1286) (Sum.elim (fun (t : Int × Int) => (Exit.normal, (⟨mkE 53 0 [(0, .slc 0), (1, .dat (.int .i64) x1282), (2, .dat (.int .i64) x1283), (3, .dat (.int .i64) x1284), (4, .dat (.int .i64) t.1), (10, .dat (.int .i64) t.2)], [some (.seq (.int .i64) x1286)]⟩ : St))) (Sum.elim (fun (t : (List Int)) => (Exit.ret, (⟨mkE 53 0 [], [some (.seq (.int .i64) t)]⟩ : St))) (fun (t : Unit) => ((Exit.exit 0), (⟨mkE 53 0 [], [some (.seq (.int .i64) x1286)]⟩ : St))))) := by
  refine Link.of fun K h => ?_
  simp only [spec_l4Row_n2, wpO_bind, wpO_cond, wpO_map, wpO_some] at h
  exact Awp.of (by kernel_rfl) h

theorem spec_l4Row_n3_l (n : Nat) (x1282 : Int) (x1283 : Int) (x1284 : Int) (x1285 : Int) (x1286 : List Int) : Link (spec_l4Row_ctx n) LL (Code.fst (Code.snd (bodyOf Try.f35))) (Ann.fst (Ann.snd spec_l4Row_an)) (⟨mkE 53 0 [(0, .slc 0), (1, .dat (.int .i64) x1282), (2, .dat (.int .i64) x1283), (3, .dat (.int .i64) x1284), (4, .dat (.int .i64) x1285), (10, .dat (.int .i64) x1282)], [some (.seq (.int .i64) x1286)]⟩ : St) (spec_l4Row_n3 (spec_l4Tree_fuel n) (spec_l4Row_fuel n) x1282 x1283 x1284 x1285 x1286) (Sum.elim (fun (t : (List Int)) => (Exit.ret, (⟨mkE 53 0 [], [some (.seq (.int .i64) t)]⟩ : St))) (fun (t : Unit) => ((Exit.exit 0), (⟨mkE 53 0 [], [some (.seq (.int .i64) x1286)]⟩ : St)))) := by
  unfold spec_l4Row_n3
  exact Link.cast (by kernel_rfl) (by kernel_rfl) (link_loop (mk := fun (s : Int × Int) => (⟨mkE 53 0 [(0, .slc 0), (1, .dat (.int .i64) x1282), (2, .dat (.int .i64) x1283), (3, .dat (.int .i64) x1284), (4, .dat (.int .i64) s.1), (10, .dat (.int .i64) s.2)], [some (.seq (.int .i64) x1286)]⟩ : St)) (fin := (Sum.elim (fun (t : (List Int)) => (Exit.ret, (⟨mkE 53 0 [], [some (.seq (.int .i64) t)]⟩ : St))) (fun (t : Unit) => ((Exit.exit 0), (⟨mkE 53 0 [], [some (.seq (.int .i64) x1286)]⟩ : St))))) (by
  rintro (t | t) f K h
  · exact h
  · exact h) (fun s => link_map (spec_l4Row_n2_l n x1282 x1283 x1284 s.1 s.2 x1286) (Sum.elim (fun (t : Int × Int) => Sum.inl (t.1, t.2)) (Sum.elim (fun (t : (List Int)) => Sum.inr (Sum.inl t)) (fun (t : Unit) => Sum.inr (Sum.inr t)))) (by
  rintro (t | t | t)
  · kernel_rfl
  · kernel_rfl
  · kernel_rfl)) (x1285, x1282))

theorem spec_l4Row_n4_l (n : Nat) (x1282 : Int) (x1283 : Int) (x1284 : Int) (x1285 : Int) (x1286 : List Int) : Link (spec_l4Row_ctx n) LL (Code.snd (bodyOf Try.f35)) (Ann.snd spec_l4Row_an) (⟨mkE 53 0 [(0, .slc 0), (1, .dat (.int .i64) x1282), (2, .dat (.int .i64) x1283), (3, .dat (.int .i64) x1284), (4, .dat (.int .i64) x1285), (10, .dat (.int .i64) x1282)], [some (.seq (.int .i64) x1286)]⟩ : St) (spec_l4Row_n4 (spec_l4Tree_fuel n) (spec_l4Row_fuel n) x1282 x1283 x1284 x1285 x1286) (Sum.elim (fun (t : Unit) => (Exit.normal, (⟨mkE 53 0 [], [some (.seq (.int .i64) x1286)]⟩ : St))) (fun (t : (List Int)) => (Exit.ret, (⟨mkE 53 0 [], [some (.seq (.int .i64) t)]⟩ : St)))) := by
  unfold spec_l4Row_n4
  exact Link.cast (by kernel_rfl) (by kernel_rfl) (link_block (id := 0) (spec_l4Row_n3_l n x1282 x1283 x1284 x1285 x1286) (Sum.elim (fun (t : (List Int)) => (Sum.inr t)) (fun (t : Unit) => (Sum.inl ()))) (by
  rintro (t | t) K h
  · exact Eq.mp (by kernel_rfl) h
  · exact Eq.mp (by kernel_rfl) h))

theorem spec_l4Row_n5_l (n : Nat) (x1282 : Int) (x1283 : Int) (x1284 : Int) (x1285 : Int) (x1286 : List Int) : Link (spec_l4Row_ctx n) LL (bodyOf Try.f35) spec_l4Row_an (⟨mkE 53 0 [(0, .slc 0), (1, .dat (.int .i64) x1282), (2, .dat (.int .i64) x1283), (3, .dat (.int .i64) x1284), (4, .dat (.int .i64) x1285)], [some (.seq (.int .i64) x1286)]⟩ : St) (spec_l4Row_n5 (spec_l4Tree_fuel n) (spec_l4Row_fuel n) x1282 x1283 x1284 x1285 x1286) (Sum.elim (fun (t : Unit) => (Exit.normal, (⟨mkE 53 0 [], [some (.seq (.int .i64) x1286)]⟩ : St))) (fun (t : (List Int)) => (Exit.ret, (⟨mkE 53 0 [], [some (.seq (.int .i64) t)]⟩ : St)))) := by
  unfold spec_l4Row_n5
  exact Link.cast (by kernel_rfl) (by kernel_rfl) (link_seq (b := (Code.snd (bodyOf Try.f35))) (y := (Ann.snd spec_l4Row_an)) (spec_l4Row_n1_l n x1282 x1283 x1284 x1285 x1286) (fun (t : Unit) => (spec_l4Row_n4_l n x1282 x1283 x1284 x1285 x1286)))

theorem spec_l4Row_e (n : Nat) (x1282 : Int) (x1283 : Int) (x1284 : Int) (x1285 : Int) (x1286 : List Int) {r : AV} {H' : Heap} (h : (Ans.mk _ (spec_l4Row_fuel (n + 1) x1282 x1283 x1284 x1285 x1286) (fun (t : (List Int)) => (.tup [], [some (.seq (.int .i64) t)]))).run = some (r, H')) : Awp (spec_l4Row_ctx n) LL (bodyOf Try.f35) spec_l4Row_an (⟨mkE 53 0 [(0, .slc 0), (1, .dat (.int .i64) x1282), (2, .dat (.int .i64) x1283), (3, .dat (.int .i64) x1284), (4, .dat (.int .i64) x1285)], [some (.seq (.int .i64) x1286)]⟩ : St) (Ret (tlook tys) Try.f35.results.toList r H') :=
  ret_of (spec_l4Row_n5_l n x1282 x1283 x1284 x1285 x1286) (Sum.elim (fun (t : Unit) => x1286) (fun (t : (List Int)) => t)) (by (show _ = _); kernel_rfl) (by
  rintro (t | t)
  · exact ret_mk [] (by kernel_rfl) (by kernel_rfl) (by kernel_rfl) (by kernel_rfl)
  · exact ret_mk [] (by kernel_rfl) (by kernel_rfl) (by kernel_rfl) (by kernel_rfl)) h

theorem spec_l4Tree_step (n : Nat) (h28 : Sound Try.prog 28 (F_spec_l4Tree_fuel n)) (h35 : Sound Try.prog 35 (F_spec_l4Row_fuel n)) : Sound Try.prog 28 (F_spec_l4Tree_fuel (n + 1)) := by
  refine fn_sound' (C := spec_l4Tree_ctx n) (c := bodyOf Try.f28) (cok_of tys_ok (List.forall_mem_cons.2 ⟨spec_l4Rows_sound, List.forall_mem_cons.2 ⟨h35, by simp⟩⟩) (List.forall_mem_cons.2 ⟨Try.call27, List.forall_mem_cons.2 ⟨Try.call35, by simp⟩⟩) (by kernel_rfl)) Try.func28 (by kernel_rfl) LL spec_l4Tree_an ?_
  intro avs H r H' h
  unfold F_spec_l4Tree_fuel at h
  split at h
  · refine Awp.cast ?_ ?_ ?_ (spec_l4Tree_e n _ _ _ _ _ h) <;> kernel_rfl
  · simp [Ans.no, Ans.run] at h

theorem spec_l4Tree_null : Sound Try.prog 28 (F_spec_l4Tree_fuel 0) := by
  intro avs H r H' h
  unfold F_spec_l4Tree_fuel at h
  split at h
  · simp [spec_l4Tree_fuel, spec_l4Tree_knot, Ans.run] at h
  · simp [Ans.no, Ans.run] at h

theorem spec_l4Row_step (n : Nat) (h28 : Sound Try.prog 28 (F_spec_l4Tree_fuel n)) (h35 : Sound Try.prog 35 (F_spec_l4Row_fuel n)) : Sound Try.prog 35 (F_spec_l4Row_fuel (n + 1)) := by
  refine fn_sound' (C := spec_l4Row_ctx n) (c := bodyOf Try.f35) (cok_of tys_ok (List.forall_mem_cons.2 ⟨spec_l4Rows_sound, List.forall_mem_cons.2 ⟨spec_l4Flat_sound, List.forall_mem_cons.2 ⟨h28, List.forall_mem_cons.2 ⟨h35, by simp⟩⟩⟩⟩) (List.forall_mem_cons.2 ⟨Try.call27, List.forall_mem_cons.2 ⟨Try.call25, List.forall_mem_cons.2 ⟨Try.call28, List.forall_mem_cons.2 ⟨Try.call35, by simp⟩⟩⟩⟩) (by kernel_rfl)) Try.func35 (by kernel_rfl) LL spec_l4Row_an ?_
  intro avs H r H' h
  unfold F_spec_l4Row_fuel at h
  split at h
  · refine Awp.cast ?_ ?_ ?_ (spec_l4Row_e n _ _ _ _ _ h) <;> kernel_rfl
  · simp [Ans.no, Ans.run] at h

theorem spec_l4Row_null : Sound Try.prog 35 (F_spec_l4Row_fuel 0) := by
  intro avs H r H' h
  unfold F_spec_l4Row_fuel at h
  split at h
  · simp [spec_l4Row_fuel, spec_l4Tree_knot, Ans.run] at h
  · simp [Ans.no, Ans.run] at h

theorem spec_l4Tree_knot_all : ∀ n, Sound Try.prog 28 (F_spec_l4Tree_fuel n) ∧ Sound Try.prog 35 (F_spec_l4Row_fuel n)
  | 0 => ⟨spec_l4Tree_null, spec_l4Row_null⟩
  | n + 1 => by
    obtain ⟨h28, h35⟩ := spec_l4Tree_knot_all n
    exact ⟨spec_l4Tree_step n h28 h35, spec_l4Row_step n h28 h35⟩

def F_spec_l4Tree : Fun := fun avs H =>
  match avs, H with
  | [.slc 0, .dat (.int .i64) x1092, .dat (.int .i64) x1093, .dat (.int .i64) x1094, .dat (.int .i64) x1095], [some (.seq (.int .i64) x1096)] => ⟨_, spec_l4Tree x1092 x1093 x1094 x1095 x1096, fun (t : (List Int)) => (.tup [], [some (.seq (.int .i64) t)])⟩
  | _, _ => Ans.no

theorem spec_l4Tree_sound : Sound Try.prog 28 F_spec_l4Tree := by
  have e : F_spec_l4Tree = F_spec_l4Tree_fuel RR := by
    funext avs H
    unfold F_spec_l4Tree F_spec_l4Tree_fuel
    split <;> first | rfl | (simp only [spec_l4Tree])
  rw [e]
  exact (spec_l4Tree_knot_all RR).1

def F_spec_l4Row : Fun := fun avs H =>
  match avs, H with
  | [.slc 0, .dat (.int .i64) x1282, .dat (.int .i64) x1283, .dat (.int .i64) x1284, .dat (.int .i64) x1285], [some (.seq (.int .i64) x1286)] => ⟨_, spec_l4Row x1282 x1283 x1284 x1285 x1286, fun (t : (List Int)) => (.tup [], [some (.seq (.int .i64) t)])⟩
  | _, _ => Ans.no

theorem spec_l4Row_sound : Sound Try.prog 35 F_spec_l4Row := by
  have e : F_spec_l4Row = F_spec_l4Row_fuel RR := by
    funext avs H
    unfold F_spec_l4Row F_spec_l4Row_fuel
    split <;> first | rfl | (simp only [spec_l4Row])
  rw [e]
  exact (spec_l4Tree_knot_all RR).2

/-! loop.example/headtrees/spec.FlatAt -/

def spec_FlatAt_an : Ann := (.seq (.leaf [0, 1]) (.seq (.seq (.leaf [0, 1, 17]) (.cond (.seq (.leaf [4, 5]) (.leaf [4, 5])) (.leaf [0, 1]))) (.seq (.leaf [0, 1, 6]) (.seq (.leaf [6]) (.seq (.leaf [4, 5]) (.leaf [4, 5]))))))

noncomputable def spec_FlatAt_ctx : Ctx := ⟨tlook tys, olook [(24, F_spec_l1In), (25, F_spec_l4Flat), (28, F_spec_l4Tree)], ioF, 0⟩

theorem spec_FlatAt_n1_l (x1067 : Int) (x1068 : Int) : Link spec_FlatAt_ctx LL (bodyOf Try.f16) spec_FlatAt_an (⟨mkE 26 0 [(0, .dat (.int .i64) x1067), (1, .dat (.int .i64) x1068)], []⟩ : St) (spec_FlatAt_n1 x1067 x1068) (fun (t : Bool × (List Int)) => (Exit.ret, (⟨mkE 26 0 [(4, .slc 0), (5, .dat .bool t.1)], [some (.seq (.int .i64) t.2)]⟩ : St))) := by
  refine Link.of fun K h => ?_
  simp only [spec_FlatAt_n1, wpO_bind, wpO_cond, wpO_map, wpO_some] at h
  exact Awp.of (by kernel_rfl) h

theorem spec_FlatAt_e (x1067 : Int) (x1068 : Int) {r : AV} {H' : Heap} (h : (Ans.mk _ (spec_FlatAt x1067 x1068) (fun (t : Bool × (List Int)) => (.tup [.slc 0, .dat .bool t.1], [some (.seq (.int .i64) t.2)]))).run = some (r, H')) : Awp spec_FlatAt_ctx LL (bodyOf Try.f16) spec_FlatAt_an (⟨mkE 26 0 [(0, .dat (.int .i64) x1067), (1, .dat (.int .i64) x1068)], []⟩ : St) (Ret (tlook tys) Try.f16.results.toList r H') :=
  ret_of' (spec_FlatAt_n1_l x1067 x1068) (by unfold spec_FlatAt; kernel_rfl) (by
  intro t
  exact ret_mk [.slc 0, .dat .bool t.1] (by kernel_rfl) (by kernel_rfl) (by kernel_rfl) (by kernel_rfl)) h

def F_spec_FlatAt : Fun := fun avs H =>
  match avs, H with
  | [.dat (.int .i64) x1067, .dat (.int .i64) x1068], [] => ⟨_, spec_FlatAt x1067 x1068, fun (t : Bool × (List Int)) => (.tup [.slc 0, .dat .bool t.1], [some (.seq (.int .i64) t.2)])⟩
  | _, _ => Ans.no

theorem spec_FlatAt_sound : Sound Try.prog 16 F_spec_FlatAt := by
  refine fn_sound' (C := spec_FlatAt_ctx) (c := bodyOf Try.f16) (cok_of tys_ok (List.forall_mem_cons.2 ⟨spec_l1In_sound, List.forall_mem_cons.2 ⟨spec_l4Flat_sound, List.forall_mem_cons.2 ⟨spec_l4Tree_sound, by simp⟩⟩⟩) (List.forall_mem_cons.2 ⟨Try.call24, List.forall_mem_cons.2 ⟨Try.call25, List.forall_mem_cons.2 ⟨Try.call28, by simp⟩⟩⟩) (by kernel_rfl)) Try.func16 (by kernel_rfl) LL spec_FlatAt_an ?_
  intro avs H r H' h
  unfold F_spec_FlatAt at h
  split at h
  · refine Awp.cast ?_ ?_ ?_ (spec_FlatAt_e _ _ h) <;> kernel_rfl
  · simp [Ans.no, Ans.run] at h

/-! (loop.example/headtrees/impl.joins).partsOf -/

def impl_joins_partsOf_an : Ann := (.seq (.leaf [1, 2, 3, 6, 7]) (.seq (.leaf [1, 2, 3, 6, 7, 8]) (.seq (.block (.loop (.seq (.seq (.leaf [1, 2, 3, 6, 7, 8, 16]) (.cond (.leaf [1, 2, 3, 6, 7, 8]) (.leaf [1, 2, 3, 6, 7, 8]))) (.block (.leaf [1, 2, 3, 6, 7, 8]))))) (.seq (.leaf [1, 2, 3, 6, 7, 8]) (.seq (.leaf [1, 2, 6, 7, 8, 9]) (.seq (.draw [] [0, 1, 2, 3, 4, 5, 6, 7, 8, 9, 10, 11, 12, 13] [] [6, 7]) (.leaf [6, 7])))))))

noncomputable def impl_joins_partsOf_ctx : Ctx := ⟨tlook tys, olook [(38, F_impl_joins_below)], ioF, 0⟩

theorem impl_joins_partsOf_n1_l (x1611 : Int) (x1612 : Int) (x1613 : Int) (x1614 : Int) (x1615 : Int) (x1616 : Int) (x1617 : Int) (x1618 : Int) (x1619 : Int) (x1620 : Int) (x1621 : Int) (x1622 : Int) (x1623 : Int) (x1624 : Int) (x1625 : Int) (x1626 : Int) : Link impl_joins_partsOf_ctx LL (Code.seq (Code.fst (bodyOf Try.f36)) (Code.fst (Code.snd (bodyOf Try.f36)))) (Ann.seq (Ann.fst impl_joins_partsOf_an) (Ann.fst (Ann.snd impl_joins_partsOf_an))) (⟨mkE 43 0 [(0, .agg [.dat (.int .i64) x1611, .dat (.int .i64) x1612, .dat (.int .i64) x1613, .dat (.int .i64) x1614, .dat (.int .i64) x1615, .dat (.int .i64) x1616, .dat (.int .i64) x1617, .dat (.int .i64) x1618, .dat (.int .i64) x1619, .dat (.int .i64) x1620, .dat (.int .i64) x1621, .dat (.int .i64) x1622, .dat (.int .i64) x1623, .dat (.int .i64) x1624]), (1, .dat (.int .i64) x1625), (2, .dat (.int .i64) x1626)], []⟩ : St) (impl_joins_partsOf_n1) (fun (t : Unit) => (Exit.normal, (⟨mkE 43 0 [(1, .dat (.int .i64) x1625), (2, .dat (.int .i64) x1626), (3, .ptr 0 0), (6, .ptr 1 0), (7, .ptr 2 0), (8, .dat (.int .i64) 0)], [some (.box [.dat (.int .i64) x1611, .dat (.int .i64) x1612, .dat (.int .i64) x1613, .dat (.int .i64) x1614, .dat (.int .i64) x1615, .dat (.int .i64) x1616, .dat (.int .i64) x1617, .dat (.int .i64) x1618, .dat (.int .i64) x1619, .dat (.int .i64) x1620, .dat (.int .i64) x1621, .dat (.int .i64) x1622, .dat (.int .i64) x1623, .dat (.int .i64) x1624]), some (.box [.dat (.int .i64) 0, .dat (.int .i64) 0]), some (.box [.dat (.int .i64) 0, .dat (.int .i64) 0])]⟩ : St))) := by
  refine Link.of fun K h => ?_
  simp only [impl_joins_partsOf_n1, wpO_bind, wpO_cond, wpO_map, wpO_some] at h
  exact Awp.of (by kernel_rfl) h

theorem impl_joins_partsOf_n2_l (x1625 : Int) (x1626 : Int) (x1634 : Int) (x1611 : Int) (x1612 : Int) (x1613 : Int) (x1614 : Int) (x1615 : Int) (x1616 : Int) (x1617 : Int) (x1618 : Int) (x1619 : Int) (x1620 : Int) (x1621 : Int) (x1622 : Int) (x1623 : Int) (x1624 : Int) : Link impl_joins_partsOf_ctx LL (Code.fst (Code.fst (Code.fst (Code.snd (Code.snd (bodyOf Try.f36)))))) (Ann.fst (Ann.fst (Ann.fst (Ann.snd (Ann.snd impl_joins_partsOf_an))))) (⟨mkE 43 0 [(1, .dat (.int .i64) x1625), (2, .dat (.int .i64) x1626), (3, .ptr 0 0), (6, .ptr 1 0), (7, .ptr 2 0), (8, .dat (.int .i64) x1634)], [some (.box [.dat (.int .i64) x1611, .dat (.int .i64) x1612, .dat (.int .i64) x1613, .dat (.int .i64) x1614, .dat (.int .i64) x1615, .dat (.int .i64) x1616, .dat (.int .i64) x1617, .dat (.int .i64) x1618, .dat (.int .i64) x1619, .dat (.int .i64) x1620, .dat (.int .i64) x1621, .dat (.int .i64) x1622, .dat (.int .i64) x1623, .dat (.int .i64) x1624]), some (.box [.dat (.int .i64) 0, .dat (.int .i64) 0]), some (.box [.dat (.int .i64) 0, .dat (.int .i64) 0])]⟩ : St) (impl_joins_partsOf_n2 x1625 x1626 x1634 x1611 x1612 x1613 x1614 x1615 x1616 x1617 x1618 x1619 x1620 x1621 x1622 x1623 x1624) (Sum.elim (fun (t : Int) => (Exit.normal, (⟨mkE 43 0 [(1, .dat (.int .i64) x1625), (2, .dat (.int .i64) x1626), (3, .ptr 0 0), (6, .ptr 1 0), (7, .ptr 2 0), (8, .dat (.int .i64) t)], [some (.box [.dat (.int .i64) x1611, .dat (.int .i64) x1612, .dat (.int .i64) x1613, .dat (.int .i64) x1614, .dat (.int .i64) x1615, .dat (.int .i64) x1616, .dat (.int .i64) x1617, .dat (.int .i64) x1618, .dat (.int .i64) x1619, .dat (.int .i64) x1620, .dat (.int .i64) x1621, .dat (.int .i64) x1622, .dat (.int .i64) x1623, .dat (.int .i64) x1624]), some (.box [.dat (.int .i64) 0, .dat (.int .i64) 0]), some (.box [.dat (.int .i64) 0, .dat (.int .i64) 0])]⟩ : St))) (fun (t : Int) => ((Exit.exit 0), (⟨mkE 43 0 [(1, .dat (.int .i64) x1625), (2, .dat (.int .i64) x1626), (3, .ptr 0 0), (6, .ptr 1 0), (7, .ptr 2 0), (8, .dat (.int .i64) t)], [some (.box [.dat (.int .i64) x1611, .dat (.int .i64) x1612, .dat (.int .i64) x1613, .dat (.int .i64) x1614, .dat (.int .i64) x1615, .dat (.int .i64) x1616, .dat (.int .i64) x1617, .dat (.int .i64) x1618, .dat (.int .i64) x1619, .dat (.int .i64) x1620, .dat (.int .i64) x1621, .dat (.int .i64) x1622, .dat (.int .i64) x1623, .dat (.int .i64) x1624]), some (.box [.dat (.int .i64) 0, .dat (.int .i64) 0]), some (.box [.dat (.int .i64) 0, .dat (.int .i64) 0])]⟩ : St)))) := by
  refine Link.of fun K h => ?_
  simp only [impl_joins_partsOf_n2, wpO_bind, wpO_cond, wpO_map, wpO_some] at h
  exact Awp.of (by kernel_rfl) h

theorem impl_joins_partsOf_n3_l (x1625 : Int) (x1626 : Int) (x1611 : Int) (x1612 : Int) (x1613 : Int) (x1614 : Int) (x1615 : Int) (x1616 : Int) (x1617 : Int) (x1618 : Int) (x1619 : Int) (x1620 : Int) (x1621 : Int) (x1622 : Int) (x1623 : Int) (x1624 : Int) : Link impl_joins_partsOf_ctx LL (Code.fst (Code.fst (Code.snd (Code.snd (bodyOf Try.f36))))) (Ann.fst (Ann.fst (Ann.snd (Ann.snd impl_joins_partsOf_an)))) (⟨mkE 43 0 [(1, .dat (.int .i64) x1625), (2, .dat (.int .i64) x1626), (3, .ptr 0 0), (6, .ptr 1 0), (7, .ptr 2 0), (8, .dat (.int .i64) 0)], [some (.box [.dat (.int .i64) x1611, .dat (.int .i64) x1612, .dat (.int .i64) x1613, .dat (.int .i64) x1614, .dat (.int .i64) x1615, .dat (.int .i64) x1616, .dat (.int .i64) x1617, .dat (.int .i64) x1618, .dat (.int .i64) x1619, .dat (.int .i64) x1620, .dat (.int .i64) x1621, .dat (.int .i64) x1622, .dat (.int .i64) x1623, .dat (.int .i64) x1624]), some (.box [.dat (.int .i64) 0, .dat (.int .i64) 0]), some (.box [.dat (.int .i64) 0, .dat (.int .i64) 0])]⟩ : St) (impl_joins_partsOf_n3 x1625 x1626 x1611 x1612 x1613 x1614 x1615 x1616 x1617 x1618 x1619 x1620 x1621 x1622 x1623 x1624) (fun (t : Int) => ((Exit.exit 0), (⟨mkE 43 0 [(1, .dat (.int .i64) x1625), (2, .dat (.int .i64) x1626), (3, .ptr 0 0), (6, .ptr 1 0), (7, .ptr 2 0), (8, .dat (.int .i64) t)], [some (.box [.dat (.int .i64) x1611, .dat (.int .i64) x1612, .dat (.int .i64) x1613, .dat (.int .i64) x1614, .dat (.int .i64) x1615, .dat (.int .i64) x1616, .dat (.int .i64) x1617, .dat (.int .i64) x1618, .dat (.int .i64) x1619, .dat (.int .i64) x1620, .dat (.int .i64) x1621, .dat (.int .i64) x1622, .dat (.int .i64) x1623, .dat (.int .i64) x1624]), some (.box [.dat (.int .i64) 0, .dat (.int .i64) 0]), some (.box [.dat (.int .i64) 0, .dat (.int .i64) 0])]⟩ : St))) := by
  unfold impl_joins_partsOf_n3
  exact Link.cast (by kernel_rfl) (by kernel_rfl) (link_loop (mk := fun (s : Int) => (⟨mkE 43 0 [(1, .dat (.int .i64) x1625), (2, .dat (.int .i64) x1626), (3, .ptr 0 0), (6, .ptr 1 0), (7, .ptr 2 0), (8, .dat (.int .i64) s)], [some (.box [.dat (.int .i64) x1611, .dat (.int .i64) x1612, .dat (.int .i64) x1613, .dat (.int .i64) x1614, .dat (.int .i64) x1615, .dat (.int .i64) x1616, .dat (.int .i64) x1617, .dat (.int .i64) x1618, .dat (.int .i64) x1619, .dat (.int .i64) x1620, .dat (.int .i64) x1621, .dat (.int .i64) x1622, .dat (.int .i64) x1623, .dat (.int .i64) x1624]), some (.box [.dat (.int .i64) 0, .dat (.int .i64) 0]), some (.box [.dat (.int .i64) 0, .dat (.int .i64) 0])]⟩ : St)) (fin := (fun (t : Int) => ((Exit.exit 0), (⟨mkE 43 0 [(1, .dat (.int .i64) x1625), (2, .dat (.int .i64) x1626), (3, .ptr 0 0), (6, .ptr 1 0), (7, .ptr 2 0), (8, .dat (.int .i64) t)], [some (.box [.dat (.int .i64) x1611, .dat (.int .i64) x1612, .dat (.int .i64) x1613, .dat (.int .i64) x1614, .dat (.int .i64) x1615, .dat (.int .i64) x1616, .dat (.int .i64) x1617, .dat (.int .i64) x1618, .dat (.int .i64) x1619, .dat (.int .i64) x1620, .dat (.int .i64) x1621, .dat (.int .i64) x1622, .dat (.int .i64) x1623, .dat (.int .i64) x1624]), some (.box [.dat (.int .i64) 0, .dat (.int .i64) 0]), some (.box [.dat (.int .i64) 0, .dat (.int .i64) 0])]⟩ : St)))) (by
  rintro t f K h
  · exact h) (fun s => link_map (impl_joins_partsOf_n2_l x1625 x1626 s x1611 x1612 x1613 x1614 x1615 x1616 x1617 x1618 x1619 x1620 x1621 x1622 x1623 x1624) (Sum.elim (fun (t : Int) => Sum.inl t) (fun (t : Int) => Sum.inr t)) (by
  rintro (t | t)
  · kernel_rfl
  · kernel_rfl)) 0)

theorem impl_joins_partsOf_n4_l (x1625 : Int) (x1626 : Int) (x1611 : Int) (x1612 : Int) (x1613 : Int) (x1614 : Int) (x1615 : Int) (x1616 : Int) (x1617 : Int) (x1618 : Int) (x1619 : Int) (x1620 : Int) (x1621 : Int) (x1622 : Int) (x1623 : Int) (x1624 : Int) : Link impl_joins_partsOf_ctx LL (Code.fst (Code.snd (Code.snd (bodyOf Try.f36)))) (Ann.fst (Ann.snd (Ann.snd impl_joins_partsOf_an))) (⟨mkE 43 0 [(1, .dat (.int .i64) x1625), (2, .dat (.int .i64) x1626), (3, .ptr 0 0), (6, .ptr 1 0), (7, .ptr 2 0), (8, .dat (.int .i64) 0)], [some (.box [.dat (.int .i64) x1611, .dat (.int .i64) x1612, .dat (.int .i64) x1613, .dat (.int .i64) x1614, .dat (.int .i64) x1615, .dat (.int .i64) x1616, .dat (.int .i64) x1617, .dat (.int .i64) x1618, .dat (.int .i64) x1619, .dat (.int .i64) x1620, .dat (.int .i64) x1621, .dat (.int .i64) x1622, .dat (.int .i64) x1623, .dat (.int .i64) x1624]), some (.box [.dat (.int .i64) 0, .dat (.int .i64) 0]), some (.box [.dat (.int .i64) 0, .dat (.int .i64) 0])]⟩ : St) (impl_joins_partsOf_n4 x1625 x1626 x1611 x1612 x1613 x1614 x1615 x1616 x1617 x1618 x1619 x1620 x1621 x1622 x1623 x1624) (fun (t : Int) => (Exit.normal, (⟨mkE 43 0 [(1, .dat (.int .i64) x1625), (2, .dat (.int .i64) x1626), (3, .ptr 0 0), (6, .ptr 1 0), (7, .ptr 2 0), (8, .dat (.int .i64) t)], [some (.box [.dat (.int .i64) x1611, .dat (.int .i64) x1612, .dat (.int .i64) x1613, .dat (.int .i64) x1614, .dat (.int .i64) x1615, .dat (.int .i64) x1616, .dat (.int .i64) x1617, .dat (.int .i64) x1618, .dat (.int .i64) x1619, .dat (.int .i64) x1620, .dat (.int .i64) x1621, .dat (.int .i64) x1622, .dat (.int .i64) x1623, .dat (.int .i64) x1624]), some (.box [.dat (.int .i64) 0, .dat (.int .i64) 0]), some (.box [.dat (.int .i64) 0, .dat (.int .i64) 0])]⟩ : St))) := by
  unfold impl_joins_partsOf_n4
  exact Link.cast (by kernel_rfl) (by kernel_rfl) (link_block (id := 0) (impl_joins_partsOf_n3_l x1625 x1626 x1611 x1612 x1613 x1614 x1615 x1616 x1617 x1618 x1619 x1620 x1621 x1622 x1623 x1624) (fun (t : Int) => t) (by
  rintro t K h
  · exact Eq.mp (by kernel_rfl) h))

theorem impl_joins_partsOf_n5_l (x1625 : Int) (x1626 : Int) (x1634 : Int) (x1611 : Int) (x1612 : Int) (x1613 : Int) (x1614 : Int) (x1615 : Int) (x1616 : Int) (x1617 : Int) (x1618 : Int) (x1619 : Int) (x1620 : Int) (x1621 : Int) (x1622 : Int) (x1623 : Int) (x1624 : Int) : Link impl_joins_partsOf_ctx LL (Code.snd (Code.snd (Code.snd (bodyOf Try.f36)))) (Ann.snd (Ann.snd (Ann.snd impl_joins_partsOf_an))) (⟨mkE 43 0 [(1, .dat (.int .i64) x1625), (2, .dat (.int .i64) x1626), (3, .ptr 0 0), (6, .ptr 1 0), (7, .ptr 2 0), (8, .dat (.int .i64) x1634)], [some (.box [.dat (.int .i64) x1611, .dat (.int .i64) x1612, .dat (.int .i64) x1613, .dat (.int .i64) x1614, .dat (.int .i64) x1615, .dat (.int .i64) x1616, .dat (.int .i64) x1617, .dat (.int .i64) x1618, .dat (.int .i64) x1619, .dat (.int .i64) x1620, .dat (.int .i64) x1621, .dat (.int .i64) x1622, .dat (.int .i64) x1623, .dat (.int .i64) x1624]), some (.box [.dat (.int .i64) 0, .dat (.int .i64) 0]), some (.box [.dat (.int .i64) 0, .dat (.int .i64) 0])]⟩ : St) (impl_joins_partsOf_n5 x1625 x1626 x1634 x1611 x1612 x1613 x1614 x1615 x1616 x1617 x1618 x1619 x1620 x1621 x1622 x1623 x1624) (fun (t : Int × Int × Int × Int) => (Exit.ret, (⟨mkE 43 0 [(6, .ptr 0 0), (7, .ptr 1 0)], [some (.box [.dat (.int .i64) t.1, .dat (.int .i64) t.2.1]), some (.box [.dat (.int .i64) t.2.2.1, .dat (.int .i64) t.2.2.2])]⟩ : St))) := by
  refine Link.of fun K h => ?_
  simp only [impl_joins_partsOf_n5, wpO_bind, wpO_cond, wpO_map, wpO_some] at h
  exact Awp.of (by kernel_rfl) h

theorem impl_joins_partsOf_n6_l (x1625 : Int) (x1626 : Int) (x1611 : Int) (x1612 : Int) (x1613 : Int) (x1614 : Int) (x1615 : Int) (x1616 : Int) (x1617 : Int) (x1618 : Int) (x1619 : Int) (x1620 : Int) (x1621 : Int) (x1622 : Int) (x1623 : Int) (x1624 : Int) : Link impl_joins_partsOf_ctx LL (Code.snd (Code.snd (bodyOf Try.f36))) (Ann.snd (Ann.snd impl_joins_partsOf_an)) (⟨mkE 43 0 [(1, .dat (.int .i64) x1625), (2, .dat (.int .i64) x1626), (3, .ptr 0 0), (6, .ptr 1 0), (7, .ptr 2 0), (8, .dat (.int .i64) 0)], [some (.box [.dat (.int .i64) x1611, .dat (.int .i64) x1612, .dat (.int .i64) x1613, .dat (.int .i64) x1614, .dat (.int .i64) x1615, .dat (.int .i64) x1616, .dat (.int .i64) x1617, .dat (.int .i64) x1618, .dat (.int .i64) x1619, .dat (.int .i64) x1620, .dat (.int .i64) x1621, .dat (.int .i64) x1622, .dat (.int .i64) x1623, .dat (.int .i64) x1624]), some (.box [.dat (.int .i64) 0, .dat (.int .i64) 0]), some (.box [.dat (.int .i64) 0, .dat (.int .i64) 0])]⟩ : St) (impl_joins_partsOf_n6 x1625 x1626 x1611 x1612 x1613 x1614 x1615 x1616 x1617 x1618 x1619 x1620 x1621 x1622 x1623 x1624) (fun (t : Int × Int × Int × Int) => (Exit.ret, (⟨mkE 43 0 [(6, .ptr 0 0), (7, .ptr 1 0)], [some (.box [.dat (.int .i64) t.1, .dat (.int .i64) t.2.1]), some (.box [.dat (.int .i64) t.2.2.1, .dat (.int .i64) t.2.2.2])]⟩ : St))) := by
  unfold impl_joins_partsOf_n6
  exact Link.cast (by kernel_rfl) (by kernel_rfl) (link_seq (b := (Code.snd (Code.snd (Code.snd (bodyOf Try.f36))))) (y := (Ann.snd (Ann.snd (Ann.snd impl_joins_partsOf_an)))) (impl_joins_partsOf_n4_l x1625 x1626 x1611 x1612 x1613 x1614 x1615 x1616 x1617 x1618 x1619 x1620 x1621 x1622 x1623 x1624) (fun (t : Int) => (impl_joins_partsOf_n5_l x1625 x1626 t x1611 x1612 x1613 x1614 x1615 x1616 x1617 x1618 x1619 x1620 x1621 x1622 x1623 x1624)))

theorem impl_joins_partsOf_n7_l (x1611 : Int) (x1612 : Int) (x1613 : Int) (x1614 : Int) (x1615 : Int) (x1616 : Int) (x1617 : Int) (x1618 : Int) (x1619 : Int) (x1620 : Int) (x1621 : Int) (x1622 : Int) (x1623 : Int) (x1624 : Int) (x1625 : Int) (x1626 : Int) : Link impl_joins_partsOf_ctx LL (bodyOf Try.f36) impl_joins_partsOf_an (⟨mkE 43 0 [(0, .agg [.dat (.int .i64) x1611, .dat (.int .i64) x1612, .dat (.int .i64) x1613, .dat (.int .i64) x1614, .dat (.int .i64) x1615, .dat (.int .i64) x1616, .dat (.int .i64) x1617, .dat (.int .i64) x1618, .dat (.int .i64) x1619, .dat (.int .i64) x1620, .dat (.int .i64) x1621, .dat (.int .i64) x1622, .dat (.int .i64) x1623, .dat (.int .i64) x1624]), (1, .dat (.int .i64) x1625), (2, .dat (.int .i64) x1626)], []⟩ : St) (impl_joins_partsOf_n7 x1611 x1612 x1613 x1614 x1615 x1616 x1617 x1618 x1619 x1620 x1621 x1622 x1623 x1624 x1625 x1626) (fun (t : Int × Int × Int × Int) => (Exit.ret, (⟨mkE 43 0 [(6, .ptr 0 0), (7, .ptr 1 0)], [some (.box [.dat (.int .i64) t.1, .dat (.int .i64) t.2.1]), some (.box [.dat (.int .i64) t.2.2.1, .dat (.int .i64) t.2.2.2])]⟩ : St))) := by
  unfold impl_joins_partsOf_n7
  exact Link.cast (by kernel_rfl) (by kernel_rfl) (link_group (c := (Code.fst (Code.snd (bodyOf Try.f36)))) (a := (Ann.fst (Ann.snd impl_joins_partsOf_an))) [(Code.fst (bodyOf Try.f36))] [(Ann.fst impl_joins_partsOf_an)] rfl (link_seq (b := (Code.snd (Code.snd (bodyOf Try.f36)))) (y := (Ann.snd (Ann.snd impl_joins_partsOf_an))) (impl_joins_partsOf_n1_l x1611 x1612 x1613 x1614 x1615 x1616 x1617 x1618 x1619 x1620 x1621 x1622 x1623 x1624 x1625 x1626) (fun (t : Unit) => (impl_joins_partsOf_n6_l x1625 x1626 x1611 x1612 x1613 x1614 x1615 x1616 x1617 x1618 x1619 x1620 x1621 x1622 x1623 x1624))))

theorem impl_joins_partsOf_e (x1611 : Int) (x1612 : Int) (x1613 : Int) (x1614 : Int) (x1615 : Int) (x1616 : Int) (x1617 : Int) (x1618 : Int) (x1619 : Int) (x1620 : Int) (x1621 : Int) (x1622 : Int) (x1623 : Int) (x1624 : Int) (x1625 : Int) (x1626 : Int) {r : AV} {H' : Heap} (h : (Ans.mk _ (impl_joins_partsOf x1611 x1612 x1613 x1614 x1615 x1616 x1617 x1618 x1619 x1620 x1621 x1622 x1623 x1624 x1625 x1626) (fun (t : Int × Int × Int × Int) => (.tup [.agg [.dat (.int .i64) t.1, .dat (.int .i64) t.2.1], .agg [.dat (.int .i64) t.2.2.1, .dat (.int .i64) t.2.2.2]], [some (.box [.dat (.int .i64) t.1, .dat (.int .i64) t.2.1]), some (.box [.dat (.int .i64) t.2.2.1, .dat (.int .i64) t.2.2.2])]))).run = some (r, H')) : Awp impl_joins_partsOf_ctx LL (bodyOf Try.f36) impl_joins_partsOf_an (⟨mkE 43 0 [(0, .agg [.dat (.int .i64) x1611, .dat (.int .i64) x1612, .dat (.int .i64) x1613, .dat (.int .i64) x1614, .dat (.int .i64) x1615, .dat (.int .i64) x1616, .dat (.int .i64) x1617, .dat (.int .i64) x1618, .dat (.int .i64) x1619, .dat (.int .i64) x1620, .dat (.int .i64) x1621, .dat (.int .i64) x1622, .dat (.int .i64) x1623, .dat (.int .i64) x1624]), (1, .dat (.int .i64) x1625), (2, .dat (.int .i64) x1626)], []⟩ : St) (Ret (tlook tys) Try.f36.results.toList r H') :=
  ret_of' (impl_joins_partsOf_n7_l x1611 x1612 x1613 x1614 x1615 x1616 x1617 x1618 x1619 x1620 x1621 x1622 x1623 x1624 x1625 x1626) (by unfold impl_joins_partsOf; kernel_rfl) (by
  intro t
  exact ret_mk [.agg [.dat (.int .i64) t.1, .dat (.int .i64) t.2.1], .agg [.dat (.int .i64) t.2.2.1, .dat (.int .i64) t.2.2.2]] (by kernel_rfl) (by kernel_rfl) (by kernel_rfl) (by kernel_rfl)) h

def F_impl_joins_partsOf : Fun := fun avs H =>
  match avs, H with
  | [.agg [.dat (.int .i64) x1611, .dat (.int .i64) x1612, .dat (.int .i64) x1613, .dat (.int .i64) x1614, .dat (.int .i64) x1615, .dat (.int .i64) x1616, .dat (.int .i64) x1617, .dat (.int .i64) x1618, .dat (.int .i64) x1619, .dat (.int .i64) x1620, .dat (.int .i64) x1621, .dat (.int .i64) x1622, .dat (.int .i64) x1623, .dat (.int .i64) x1624], .dat (.int .i64) x1625, .dat (.int .i64) x1626], [] => ⟨_, impl_joins_partsOf x1611 x1612 x1613 x1614 x1615 x1616 x1617 x1618 x1619 x1620 x1621 x1622 x1623 x1624 x1625 x1626, fun (t : Int × Int × Int × Int) => (.tup [.agg [.dat (.int .i64) t.1, .dat (.int .i64) t.2.1], .agg [.dat (.int .i64) t.2.2.1, .dat (.int .i64) t.2.2.2]], [some (.box [.dat (.int .i64) t.1, .dat (.int .i64) t.2.1]), some (.box [.dat (.int .i64) t.2.2.1, .dat (.int .i64) t.2.2.2])])⟩
  | _, _ => Ans.no

theorem impl_joins_partsOf_sound : Sound Try.prog 36 F_impl_joins_partsOf := by
  refine fn_sound' (C := impl_joins_partsOf_ctx) (c := bodyOf Try.f36) (cok_of tys_ok (List.forall_mem_cons.2 ⟨impl_joins_below_sound, by simp⟩) (List.forall_mem_cons.2 ⟨Try.call38, by simp⟩) (by kernel_rfl)) Try.func36 (by kernel_rfl) LL impl_joins_partsOf_an ?_
  intro avs H r H' h
  unfold F_impl_joins_partsOf at h
  split at h
  · refine Awp.cast ?_ ?_ ?_ (impl_joins_partsOf_e _ _ _ _ _ _ _ _ _ _ _ _ _ _ _ _ h) <;> kernel_rfl
  · simp [Ans.no, Ans.run] at h

/-! (loop.example/headtrees/impl.flatCounts).tellTree, (loop.example/headtrees/impl.flatCounts).tellRow -/

def impl_flatCounts_tellTree_an : Ann := (.seq (.leaf [1, 2, 4, 5, 8]) (.seq (.draw [1, 7] [0, 2, 3, 4, 5, 6, 1, 7, 8, 9, 10, 11, 12, 13, 14] [] [1, 2, 4, 5, 10, 11]) (.seq (.leaf [1, 2, 4, 5, 10, 11, 12]) (.seq (.leaf [1, 2, 5, 10, 11, 12]) (.seq (.leaf [1, 5, 11, 12]) (.leaf []))))))

def impl_flatCounts_tellRow_an : Ann := (.seq (.leaf [1, 2, 4, 5, 8]) (.seq (.seq (.leaf [1, 2, 4, 5, 8, 14]) (.cond (.leaf []) (.leaf [1, 2, 4, 5, 8]))) (.seq (.draw [1, 6] [0, 2, 3, 4, 5, 1, 6, 7, 8, 9, 10, 11, 12, 13] [] [1, 2, 4, 5, 10, 11]) (.seq (.leaf [1, 2, 4, 5, 10, 11]) (.leaf [])))))

def F_impl_flatCounts_tellTree_fuel (n : Nat) : Fun := fun avs H =>
  match avs, H with
  | [.agg [.dat (.int .i64) x1590, .dat (.int .i64) x1591, .dat (.int .i64) x1592, .dat (.int .i64) x1593, .dat (.int .i64) x1594, .dat (.int .i64) x1595, .dat (.int .i64) x1596, .dat (.int .i64) x1597, .dat (.int .i64) x1598, .dat (.int .i64) x1599, .dat (.int .i64) x1600, .dat (.int .i64) x1601, .dat (.int .i64) x1602, .dat (.int .i64) x1603], .slc 0, .dat (.int .i64) x1604, .agg [.dat (.int .i64) x1605, .dat (.int .i64) x1606], .dat (.int .i64) x1607], [some (.seq (.int .i64) x1608)] => ⟨_, impl_flatCounts_tellTree_fuel n x1590 x1591 x1592 x1593 x1594 x1595 x1596 x1597 x1598 x1599 x1600 x1601 x1602 x1603 x1604 x1605 x1606 x1607 x1608, fun (t : (List Int)) => (.tup [], [some (.seq (.int .i64) t)])⟩
  | _, _ => Ans.no

def F_impl_flatCounts_tellRow_fuel (n : Nat) : Fun := fun avs H =>
  match avs, H with
  | [.agg [.dat (.int .i64) x1801, .dat (.int .i64) x1802, .dat (.int .i64) x1803, .dat (.int .i64) x1804, .dat (.int .i64) x1805, .dat (.int .i64) x1806, .dat (.int .i64) x1807, .dat (.int .i64) x1808, .dat (.int .i64) x1809, .dat (.int .i64) x1810, .dat (.int .i64) x1811, .dat (.int .i64) x1812, .dat (.int .i64) x1813, .dat (.int .i64) x1814], .slc 0, .dat (.int .i64) x1815, .agg [.dat (.int .i64) x1816, .dat (.int .i64) x1817], .dat (.int .i64) x1818], [some (.seq (.int .i64) x1819)] => ⟨_, impl_flatCounts_tellRow_fuel n x1801 x1802 x1803 x1804 x1805 x1806 x1807 x1808 x1809 x1810 x1811 x1812 x1813 x1814 x1815 x1816 x1817 x1818 x1819, fun (t : (List Int)) => (.tup [], [some (.seq (.int .i64) t)])⟩
  | _, _ => Ans.no

noncomputable def impl_flatCounts_tellTree_ctx (n : Nat) : Ctx := ⟨tlook tys, olook [(30, F_impl_flatCounts_aroundRoots), (36, F_impl_joins_partsOf), (37, F_impl_flatCounts_tellRow_fuel n)], ioF, 1⟩

noncomputable def impl_flatCounts_tellRow_ctx (n : Nat) : Ctx := ⟨tlook tys, olook [(32, F_impl_flatCounts_inRows), (36, F_impl_joins_partsOf), (29, F_impl_flatCounts_tellTree_fuel n), (37, F_impl_flatCounts_tellRow_fuel n)], ioF, 1⟩

theorem impl_flatCounts_tellTree_n1_l (n : Nat) (x1590 : Int) (x1591 : Int) (x1592 : Int) (x1593 : Int) (x1594 : Int) (x1595 : Int) (x1596 : Int) (x1597 : Int) (x1598 : Int) (x1599 : Int) (x1600 : Int) (x1601 : Int) (x1602 : Int) (x1603 : Int) (x1604 : Int) (x1605 : Int) (x1606 : Int) (x1607 : Int) (x1608 : List Int) : Link (impl_flatCounts_tellTree_ctx n) LL (bodyOf Try.f29) impl_flatCounts_tellTree_an (⟨mkE 46 0 [(0, .agg [.dat (.int .i64) x1590, .dat (.int .i64) x1591, .dat (.int .i64) x1592, .dat (.int .i64) x1593, .dat (.int .i64) x1594, .dat (.int .i64) x1595, .dat (.int .i64) x1596, .dat (.int .i64) x1597, .dat (.int .i64) x1598, .dat (.int .i64) x1599, .dat (.int .i64) x1600, .dat (.int .i64) x1601, .dat (.int .i64) x1602, .dat (.int .i64) x1603]), (1, .slc 0), (2, .dat (.int .i64) x1604), (3, .agg [.dat (.int .i64) x1605, .dat (.int .i64) x1606]), (4, .dat (.int .i64) x1607)], [some (.seq (.int .i64) x1608)]⟩ : St) (impl_flatCounts_tellTree_n1 (impl_flatCounts_tellTree_fuel n) (impl_flatCounts_tellRow_fuel n) x1590 x1591 x1592 x1593 x1594 x1595 x1596 x1597 x1598 x1599 x1600 x1601 x1602 x1603 x1604 x1605 x1606 x1607 x1608) (fun (t : (List Int)) => (Exit.normal, (⟨mkE 46 0 [], [some (.seq (.int .i64) t)]⟩ : St))) := by
  refine Link.of fun K h => ?_
  simp only [impl_flatCounts_tellTree_n1, wpO_bind, wpO_cond, wpO_map, wpO_some] at h
  exact Awp.of (by kernel_rfl) h

theorem impl_flatCounts_tellTree_e (n : Nat) (x1590 : Int) (x1591 : Int) (x1592 : Int) (x1593 : Int) (x1594 : Int) (x1595 : Int) (x1596 : Int) (x1597 : Int) (x1598 : Int) (x1599 : Int) (x1600 : Int) (x1601 : Int) (x1602 : Int) (x1603 : Int) (x1604 : Int) (x1605 : Int) (x1606 : Int) (x1607 : Int) (x1608 : List Int) {r : AV} {H' : Heap} (h : (Ans.mk _ (impl_flatCounts_tellTree_fuel (n + 1) x1590 x1591 x1592 x1593 x1594 x1595 x1596 x1597 x1598 x1599 x1600 x1601 x1602 x1603 x1604 x1605 x1606 x1607 x1608) (fun (t : (List Int)) => (.tup [], [some (.seq (.int .i64) t)]))).run = some (r, H')) : Awp (impl_flatCounts_tellTree_ctx n) LL (bodyOf Try.f29) impl_flatCounts_tellTree_an (⟨mkE 46 0 [(0, .agg [.dat (.int .i64) x1590, .dat (.int .i64) x1591, .dat (.int .i64) x1592, .dat (.int .i64) x1593, .dat (.int .i64) x1594, .dat (.int .i64) x1595, .dat (.int .i64) x1596, .dat (.int .i64) x1597, .dat (.int .i64) x1598, .dat (.int .i64) x1599, .dat (.int .i64) x1600, .dat (.int .i64) x1601, .dat (.int .i64) x1602, .dat (.int .i64) x1603]), (1, .slc 0), (2, .dat (.int .i64) x1604), (3, .agg [.dat (.int .i64) x1605, .dat (.int .i64) x1606]), (4, .dat (.int .i64) x1607)], [some (.seq (.int .i64) x1608)]⟩ : St) (Ret (tlook tys) Try.f29.results.toList r H') :=
  ret_of (impl_flatCounts_tellTree_n1_l n x1590 x1591 x1592 x1593 x1594 x1595 x1596 x1597 x1598 x1599 x1600 x1601 x1602 x1603 x1604 x1605 x1606 x1607 x1608) (fun (t : (List Int)) => t) (by (show _ = _); kernel_rfl) (by
  rintro t
  · exact ret_mk [] (by kernel_rfl) (by kernel_rfl) (by kernel_rfl) (by kernel_rfl)) h

theorem impl_flatCounts_tellRow_n1_l (n : Nat) (x1801 : Int) (x1802 : Int) (x1803 : Int) (x1804 : Int) (x1805 : Int) (x1806 : Int) (x1807 : Int) (x1808 : Int) (x1809 : Int) (x1810 : Int) (x1811 : Int) (x1812 : Int) (x1813 : Int) (x1814 : Int) (x1815 : Int) (x1816 : Int) (x1817 : Int) (x1818 : Int) (x1819 : List Int) : Link (impl_flatCounts_tellRow_ctx n) LL (bodyOf Try.f37) impl_flatCounts_tellRow_an (⟨mkE 40 0 [(0, .agg [.dat (.int .i64) x1801, .dat (.int .i64) x1802, .dat (.int .i64) x1803, .dat (.int .i64) x1804, .dat (.int .i64) x1805, .dat (.int .i64) x1806, .dat (.int .i64) x1807, .dat (.int .i64) x1808, .dat (.int .i64) x1809, .dat (.int .i64) x1810, .dat (.int .i64) x1811, .dat (.int .i64) x1812, .dat (.int .i64) x1813, .dat (.int .i64) x1814]), (1, .slc 0), (2, .dat (.int .i64) x1815), (3, .agg [.dat (.int .i64) x1816, .dat (.int .i64) x1817]), (4, .dat (.int .i64) x1818)], [some (.seq (.int .i64) x1819)]⟩ : St) (impl_flatCounts_tellRow_n1 (impl_flatCounts_tellTree_fuel n) (impl_flatCounts_tellRow_fuel n) x1801 x1802 x1803 x1804 x1805 x1806 x1807 x1808 x1809 x1810 x1811 x1812 x1813 x1814 x1815 x1816 x1817 x1818 x1819) (Sum.elim (fun (t : (List Int)) => (Exit.normal, (⟨mkE 40 0 [], [some (.seq (.int .i64) t)]⟩ : St))) (fun (t : (List Int)) => (Exit.ret, (⟨mkE 40 0 [], [some (.seq (.int .i64) t)]⟩ : St)))) := by
  refine Link.of fun K h => ?_
  simp only [impl_flatCounts_tellRow_n1, wpO_bind, wpO_cond, wpO_map, wpO_some] at h
  exact Awp.of (by kernel_rfl) h

theorem impl_flatCounts_tellRow_e (n : Nat) (x1801 : Int) (x1802 : Int) (x1803 : Int) (x1804 : Int) (x1805 : Int) (x1806 : Int) (x1807 : Int) (x1808 : Int) (x1809 : Int) (x1810 : Int) (x1811 : Int) (x1812 : Int) (x1813 : Int) (x1814 : Int) (x1815 : Int) (x1816 : Int) (x1817 : Int) (x1818 : Int) (x1819 : List Int) {r : AV} {H' : Heap} (h : (Ans.mk _ (impl_flatCounts_tellRow_fuel (n + 1) x1801 x1802 x1803 x1804 x1805 x1806 x1807 x1808 x1809 x1810 x1811 x1812 x1813 x1814 x1815 x1816 x1817 x1818 x1819) (fun (t : (List Int)) => (.tup [], [some (.seq (.int .i64) t)]))).run = some (r, H')) : Awp (impl_flatCounts_tellRow_ctx n) LL (bodyOf Try.f37) impl_flatCounts_tellRow_an (⟨mkE 40 0 [(0, .agg [.dat (.int .i64) x1801, .dat (.int .i64) x1802, .dat (.int .i64) x1803, .dat (.int .i64) x1804, .dat (.int .i64) x1805, .dat (.int .i64) x1806, .dat (.int .i64) x1807, .dat (.int .i64) x1808, .dat (.int .i64) x1809, .dat (.int .i64) x1810, .dat (.int .i64) x1811, .dat (.int .i64) x1812, .dat (.int .i64) x1813, .dat (.int .i64) x1814]), (1, .slc 0), (2, .dat (.int .i64) x1815), (3, .agg [.dat (.int .i64) x1816, .dat (.int .i64) x1817]), (4, .dat (.int .i64) x1818)], [some (.seq (.int .i64) x1819)]⟩ : St) (Ret (tlook tys) Try.f37.results.toList r H') :=
  ret_of (impl_flatCounts_tellRow_n1_l n x1801 x1802 x1803 x1804 x1805 x1806 x1807 x1808 x1809 x1810 x1811 x1812 x1813 x1814 x1815 x1816 x1817 x1818 x1819) (Sum.elim (fun (t : (List Int)) => t) (fun (t : (List Int)) => t)) (by (show _ = _); kernel_rfl) (by
  rintro (t | t)
  · exact ret_mk [] (by kernel_rfl) (by kernel_rfl) (by kernel_rfl) (by kernel_rfl)
  · exact ret_mk [] (by kernel_rfl) (by kernel_rfl) (by kernel_rfl) (by kernel_rfl)) h

theorem impl_flatCounts_tellTree_step (n : Nat) (h29 : Sound Try.prog 29 (F_impl_flatCounts_tellTree_fuel n)) (h37 : Sound Try.prog 37 (F_impl_flatCounts_tellRow_fuel n)) : Sound Try.prog 29 (F_impl_flatCounts_tellTree_fuel (n + 1)) := by
  refine fn_sound' (C := impl_flatCounts_tellTree_ctx n) (c := bodyOf Try.f29) (cok_of tys_ok (List.forall_mem_cons.2 ⟨impl_flatCounts_aroundRoots_sound, List.forall_mem_cons.2 ⟨impl_joins_partsOf_sound, List.forall_mem_cons.2 ⟨h37, by simp⟩⟩⟩) (List.forall_mem_cons.2 ⟨Try.call30, List.forall_mem_cons.2 ⟨Try.call36, List.forall_mem_cons.2 ⟨Try.call37, by simp⟩⟩⟩) (by kernel_rfl)) Try.func29 (by kernel_rfl) LL impl_flatCounts_tellTree_an ?_
  intro avs H r H' h
  unfold F_impl_flatCounts_tellTree_fuel at h
  split at h
  · refine Awp.cast ?_ ?_ ?_ (impl_flatCounts_tellTree_e n _ _ _ _ _ _ _ _ _ _ _ _ _ _ _ _ _ _ _ h) <;> kernel_rfl
  · simp [Ans.no, Ans.run] at h

theorem impl_flatCounts_tellTree_null : Sound Try.prog 29 (F_impl_flatCounts_tellTree_fuel 0) := by
  intro avs H r H' h
  unfold F_impl_flatCounts_tellTree_fuel at h
  split at h
  · simp [impl_flatCounts_tellTree_fuel, impl_flatCounts_tellTree_knot, Ans.run] at h
  · simp [Ans.no, Ans.run] at h

theorem impl_flatCounts_tellRow_step (n : Nat) (h29 : Sound Try.prog 29 (F_impl_flatCounts_tellTree_fuel n)) (h37 : Sound Try.prog 37 (F_impl_flatCounts_tellRow_fuel n)) : Sound Try.prog 37 (F_impl_flatCounts_tellRow_fuel (n + 1)) := by
  refine fn_sound' (C := impl_flatCounts_tellRow_ctx n) (c := bodyOf Try.f37) (cok_of tys_ok (List.forall_mem_cons.2 ⟨impl_flatCounts_inRows_sound, List.forall_mem_cons.2 ⟨impl_joins_partsOf_sound, List.forall_mem_cons.2 ⟨h29, List.forall_mem_cons.2 ⟨h37, by simp⟩⟩⟩⟩) (List.forall_mem_cons.2 ⟨Try.call32, List.forall_mem_cons.2 ⟨Try.call36, List.forall_mem_cons.2 ⟨Try.call29, List.forall_mem_cons.2 ⟨Try.call37, by simp⟩⟩⟩⟩) (by kernel_rfl)) Try.func37 (by kernel_rfl) LL impl_flatCounts_tellRow_an ?_
  intro avs H r H' h
  unfold F_impl_flatCounts_tellRow_fuel at h
  split at h
  · refine Awp.cast ?_ ?_ ?_ (impl_flatCounts_tellRow_e n _ _ _ _ _ _ _ _ _ _ _ _ _ _ _ _ _ _ _ h) <;> kernel_rfl
  · simp [Ans.no, Ans.run] at h

theorem impl_flatCounts_tellRow_null : Sound Try.prog 37 (F_impl_flatCounts_tellRow_fuel 0) := by
  intro avs H r H' h
  unfold F_impl_flatCounts_tellRow_fuel at h
  split at h
  · simp [impl_flatCounts_tellRow_fuel, impl_flatCounts_tellTree_knot, Ans.run] at h
  · simp [Ans.no, Ans.run] at h

theorem impl_flatCounts_tellTree_knot_all : ∀ n, Sound Try.prog 29 (F_impl_flatCounts_tellTree_fuel n) ∧ Sound Try.prog 37 (F_impl_flatCounts_tellRow_fuel n)
  | 0 => ⟨impl_flatCounts_tellTree_null, impl_flatCounts_tellRow_null⟩
  | n + 1 => by
    obtain ⟨h29, h37⟩ := impl_flatCounts_tellTree_knot_all n
    exact ⟨impl_flatCounts_tellTree_step n h29 h37, impl_flatCounts_tellRow_step n h29 h37⟩

def F_impl_flatCounts_tellTree : Fun := fun avs H =>
  match avs, H with
  | [.agg [.dat (.int .i64) x1590, .dat (.int .i64) x1591, .dat (.int .i64) x1592, .dat (.int .i64) x1593, .dat (.int .i64) x1594, .dat (.int .i64) x1595, .dat (.int .i64) x1596, .dat (.int .i64) x1597, .dat (.int .i64) x1598, .dat (.int .i64) x1599, .dat (.int .i64) x1600, .dat (.int .i64) x1601, .dat (.int .i64) x1602, .dat (.int .i64) x1603], .slc 0, .dat (.int .i64) x1604, .agg [.dat (.int .i64) x1605, .dat (.int .i64) x1606], .dat (.int .i64) x1607], [some (.seq (.int .i64) x1608)] => ⟨_, impl_flatCounts_tellTree x1590 x1591 x1592 x1593 x1594 x1595 x1596 x1597 x1598 x1599 x1600 x1601 x1602 x1603 x1604 x1605 x1606 x1607 x1608, fun (t : (List Int)) => (.tup [], [some (.seq (.int .i64) t)])⟩
  | _, _ => Ans.no

theorem impl_flatCounts_tellTree_sound : Sound Try.prog 29 F_impl_flatCounts_tellTree := by
  have e : F_impl_flatCounts_tellTree = F_impl_flatCounts_tellTree_fuel RR := by
    funext avs H
    unfold F_impl_flatCounts_tellTree F_impl_flatCounts_tellTree_fuel
    split <;> first | rfl | (simp only [impl_flatCounts_tellTree])
  rw [e]
  exact (impl_flatCounts_tellTree_knot_all RR).1

def F_impl_flatCounts_tellRow : Fun := fun avs H =>
  match avs, H with
  | [.agg [.dat (.int .i64) x1801, .dat (.int .i64) x1802, .dat (.int .i64) x1803, .dat (.int .i64) x1804, .dat (.int .i64) x1805, .dat (.int .i64) x1806, .dat (.int .i64) x1807, .dat (.int .i64) x1808, .dat (.int .i64) x1809, .dat (.int .i64) x1810, .dat (.int .i64) x1811, .dat (.int .i64) x1812, .dat (.int .i64) x1813, .dat (.int .i64) x1814], .slc 0, .dat (.int .i64) x1815, .agg [.dat (.int .i64) x1816, .dat (.int .i64) x1817], .dat (.int .i64) x1818], [some (.seq (.int .i64) x1819)] => ⟨_, impl_flatCounts_tellRow x1801 x1802 x1803 x1804 x1805 x1806 x1807 x1808 x1809 x1810 x1811 x1812 x1813 x1814 x1815 x1816 x1817 x1818 x1819, fun (t : (List Int)) => (.tup [], [some (.seq (.int .i64) t)])⟩
  | _, _ => Ans.no

theorem impl_flatCounts_tellRow_sound : Sound Try.prog 37 F_impl_flatCounts_tellRow := by
  have e : F_impl_flatCounts_tellRow = F_impl_flatCounts_tellRow_fuel RR := by
    funext avs H
    unfold F_impl_flatCounts_tellRow F_impl_flatCounts_tellRow_fuel
    split <;> first | rfl | (simp only [impl_flatCounts_tellRow])
  rw [e]
  exact (impl_flatCounts_tellTree_knot_all RR).2

/-! loop.example/headtrees/impl.FlatAt -/

def impl_FlatAt_an : Ann := (.seq (.leaf [0, 1]) (.seq (.seq (.leaf [0, 1, 14]) (.cond (.seq (.leaf [4, 5]) (.leaf [4, 5])) (.leaf [0, 1]))) (.seq (.leaf [0, 1, 6]) (.seq (.leaf [6]) (.seq (.leaf [4, 5]) (.leaf [4, 5]))))))

noncomputable def impl_FlatAt_ctx : Ctx := ⟨tlook tys, olook [(9, F_impl_CountFlat), (23, F_impl_countFlatParts), (29, F_impl_flatCounts_tellTree)], ioF, 0⟩

theorem impl_FlatAt_n1_l (x1560 : Int) (x1561 : Int) : Link impl_FlatAt_ctx LL (bodyOf Try.f17) impl_FlatAt_an (⟨mkE 24 0 [(0, .dat (.int .i64) x1560), (1, .dat (.int .i64) x1561)], []⟩ : St) (impl_FlatAt_n1 x1560 x1561) (fun (t : Bool × (List Int)) => (Exit.ret, (⟨mkE 24 0 [(4, .slc 0), (5, .dat .bool t.1)], [some (.seq (.int .i64) t.2)]⟩ : St))) := by
  refine Link.of fun K h => ?_
  simp only [impl_FlatAt_n1, wpO_bind, wpO_cond, wpO_map, wpO_some] at h
  exact Awp.of (by kernel_rfl) h

theorem impl_FlatAt_e (x1560 : Int) (x1561 : Int) {r : AV} {H' : Heap} (h : (Ans.mk _ (impl_FlatAt x1560 x1561) (fun (t : Bool × (List Int)) => (.tup [.slc 0, .dat .bool t.1], [some (.seq (.int .i64) t.2)]))).run = some (r, H')) : Awp impl_FlatAt_ctx LL (bodyOf Try.f17) impl_FlatAt_an (⟨mkE 24 0 [(0, .dat (.int .i64) x1560), (1, .dat (.int .i64) x1561)], []⟩ : St) (Ret (tlook tys) Try.f17.results.toList r H') :=
  ret_of' (impl_FlatAt_n1_l x1560 x1561) (by unfold impl_FlatAt; kernel_rfl) (by
  intro t
  exact ret_mk [.slc 0, .dat .bool t.1] (by kernel_rfl) (by kernel_rfl) (by kernel_rfl) (by kernel_rfl)) h

def F_impl_FlatAt : Fun := fun avs H =>
  match avs, H with
  | [.dat (.int .i64) x1560, .dat (.int .i64) x1561], [] => ⟨_, impl_FlatAt x1560 x1561, fun (t : Bool × (List Int)) => (.tup [.slc 0, .dat .bool t.1], [some (.seq (.int .i64) t.2)])⟩
  | _, _ => Ans.no

theorem impl_FlatAt_sound : Sound Try.prog 17 F_impl_FlatAt := by
  refine fn_sound' (C := impl_FlatAt_ctx) (c := bodyOf Try.f17) (cok_of tys_ok (List.forall_mem_cons.2 ⟨impl_CountFlat_sound, List.forall_mem_cons.2 ⟨impl_countFlatParts_sound, List.forall_mem_cons.2 ⟨impl_flatCounts_tellTree_sound, by simp⟩⟩⟩) (List.forall_mem_cons.2 ⟨Try.call9, List.forall_mem_cons.2 ⟨Try.call23, List.forall_mem_cons.2 ⟨Try.call29, by simp⟩⟩⟩) (by kernel_rfl)) Try.func17 (by kernel_rfl) LL impl_FlatAt_an ?_
  intro avs H r H' h
  unfold F_impl_FlatAt at h
  split at h
  · refine Awp.cast ?_ ?_ ?_ (impl_FlatAt_e _ _ h) <;> kernel_rfl
  · simp [Ans.no, Ans.run] at h

/-! loop.example/headtrees/laws.eqIntS -/

def laws_eqIntS_an : Ann := (.seq (.leaf [0, 1]) (.seq (.seq (.leaf [0, 1, 10]) (.cond (.seq (.leaf [4]) (.leaf [4])) (.leaf [0, 1]))) (.seq (.seq (.leaf [0, 1, 5]) (.block (.loop (.seq (.seq (.leaf [0, 1, 5, 14]) (.cond (.leaf [0, 1, 5]) (.leaf []))) (.seq (.block (.seq (.draw [] [0, 1, 2, 3, 4, 5, 6, 7, 8] [] [0, 1, 5, 25]) (.cond (.seq (.leaf [4]) (.leaf [4])) (.leaf [0, 1, 5])))) (.leaf [0, 1, 5])))))) (.seq (.leaf [4]) (.leaf [4])))))

noncomputable def laws_eqIntS_ctx : Ctx := ⟨tlook tys, olook [], ioF, 0⟩

theorem laws_eqIntS_n1_l (x1968 : List Int) (x1969 : List Int) : Link laws_eqIntS_ctx LL (Code.seq (Code.fst (bodyOf Try.f18)) (Code.fst (Code.snd (bodyOf Try.f18)))) (Ann.seq (Ann.fst laws_eqIntS_an) (Ann.fst (Ann.snd laws_eqIntS_an))) (⟨mkE 26 0 [(0, .dat (.list (.int .i64)) x1968), (1, .dat (.list (.int .i64)) x1969)], []⟩ : St) (laws_eqIntS_n1 x1968 x1969) (Sum.elim (fun (t : Unit) => (Exit.normal, (⟨mkE 26 0 [(0, .dat (.list (.int .i64)) x1968), (1, .dat (.list (.int .i64)) x1969)], []⟩ : St))) (fun (t : Bool) => (Exit.ret, (⟨mkE 26 0 [(4, .dat .bool t)], []⟩ : St)))) := by
  refine Link.of fun K h => ?_
  simp only [laws_eqIntS_n1, wpO_bind, wpO_cond, wpO_map, wpO_some] at h
  exact Awp.of (by kernel_rfl) h

theorem laws_eqIntS_n2_l (x1968 : List Int) (x1969 : List Int) : Link laws_eqIntS_ctx LL (Code.fst (Code.fst (Code.snd (Code.snd (bodyOf Try.f18))))) (Ann.fst (Ann.fst (Ann.snd (Ann.snd laws_eqIntS_an)))) (⟨mkE 26 0 [(0, .dat (.list (.int .i64)) x1968), (1, .dat (.list (.int .i64)) x1969)], []⟩ : St) (laws_eqIntS_n2) (fun (t : Unit) => (Exit.normal, (⟨mkE 26 0 [(0, .dat (.list (.int .i64)) x1968), (1, .dat (.list (.int .i64)) x1969), (5, .dat (.int .i64) 0)], []⟩ : St))) := by
  refine Link.of fun K h => ?_
  simp only [laws_eqIntS_n2, wpO_bind, wpO_cond, wpO_map, wpO_some] at h
  exact Awp.of (by kernel_rfl) h

theorem laws_eqIntS_n3_l (x1968 : List Int) (x1969 : List Int) (x1986 : Int) : Link laws_eqIntS_ctx LL (Code.fst (Code.fst (Code.snd (Code.fst (Code.snd (Code.snd (bodyOf Try.f18))))))) (Ann.fst (Ann.fst (Ann.snd (Ann.fst (Ann.snd (Ann.snd laws_eqIntS_an)))))) (⟨mkE 26 0 [(0, .dat (.list (.int .i64)) x1968), (1, .dat (.list (.int .i64)) x1969), (5, .dat (.int .i64) x1986)], []⟩ : St) (laws_eqIntS_n3 x1968 x1969 x1986) (Sum.elim (fun (t : Int) => (Exit.normal, (⟨mkE 26 0 [(0, .dat (.list (.int .i64)) x1968), (1, .dat (.list (.int .i64)) x1969), (5, .dat (.int .i64) t)], []⟩ : St))) (Sum.elim (fun (t : Bool) => (Exit.ret, (⟨mkE 26 0 [(4, .dat .bool t)], []⟩ : St))) (fun (t : Unit) => ((Exit.exit 0), (⟨mkE 26 0 [], []⟩ : St))))) := by
  refine Link.of fun K h => ?_
  simp only [laws_eqIntS_n3, wpO_bind, wpO_cond, wpO_map, wpO_some] at h
  exact Awp.of (by kernel_rfl) h

theorem laws_eqIntS_n4_l (x1968 : List Int) (x1969 : List Int) : Link laws_eqIntS_ctx LL (Code.fst (Code.snd (Code.fst (Code.snd (Code.snd (bodyOf Try.f18)))))) (Ann.fst (Ann.snd (Ann.fst (Ann.snd (Ann.snd laws_eqIntS_an))))) (⟨mkE 26 0 [(0, .dat (.list (.int .i64)) x1968), (1, .dat (.list (.int .i64)) x1969), (5, .dat (.int .i64) 0)], []⟩ : St) (laws_eqIntS_n4 x1968 x1969) (Sum.elim (fun (t : Bool) => (Exit.ret, (⟨mkE 26 0 [(4, .dat .bool t)], []⟩ : St))) (fun (t : Unit) => ((Exit.exit 0), (⟨mkE 26 0 [], []⟩ : St)))) := by
  unfold laws_eqIntS_n4
  exact Link.cast (by kernel_rfl) (by kernel_rfl) (link_loop (mk := fun (s : Int) => (⟨mkE 26 0 [(0, .dat (.list (.int .i64)) x1968), (1, .dat (.list (.int .i64)) x1969), (5, .dat (.int .i64) s)], []⟩ : St)) (fin := (Sum.elim (fun (t : Bool) => (Exit.ret, (⟨mkE 26 0 [(4, .dat .bool t)], []⟩ : St))) (fun (t : Unit) => ((Exit.exit 0), (⟨mkE 26 0 [], []⟩ : St))))) (by
  rintro (t | t) f K h
  · exact h
  · exact h) (fun s => link_map (laws_eqIntS_n3_l x1968 x1969 s) (Sum.elim (fun (t : Int) => Sum.inl t) (Sum.elim (fun (t : Bool) => Sum.inr (Sum.inl t)) (fun (t : Unit) => Sum.inr (Sum.inr t)))) (by
  rintro (t | t | t)
  · kernel_rfl
  · kernel_rfl
  · kernel_rfl)) 0)

theorem laws_eqIntS_n5_l (x1968 : List Int) (x1969 : List Int) : Link laws_eqIntS_ctx LL (Code.snd (Code.fst (Code.snd (Code.snd (bodyOf Try.f18))))) (Ann.snd (Ann.fst (Ann.snd (Ann.snd laws_eqIntS_an)))) (⟨mkE 26 0 [(0, .dat (.list (.int .i64)) x1968), (1, .dat (.list (.int .i64)) x1969), (5, .dat (.int .i64) 0)], []⟩ : St) (laws_eqIntS_n5 x1968 x1969) (Sum.elim (fun (t : Unit) => (Exit.normal, (⟨mkE 26 0 [], []⟩ : St))) (fun (t : Bool) => (Exit.ret, (⟨mkE 26 0 [(4, .dat .bool t)], []⟩ : St)))) := by
  unfold laws_eqIntS_n5
  exact Link.cast (by kernel_rfl) (by kernel_rfl) (link_block (id := 0) (laws_eqIntS_n4_l x1968 x1969) (Sum.elim (fun (t : Bool) => (Sum.inr t)) (fun (t : Unit) => (Sum.inl ()))) (by
  rintro (t | t) K h
  · exact Eq.mp (by kernel_rfl) h
  · exact Eq.mp (by kernel_rfl) h))

theorem laws_eqIntS_n6_l (x1968 : List Int) (x1969 : List Int) : Link laws_eqIntS_ctx LL (Code.fst (Code.snd (Code.snd (bodyOf Try.f18)))) (Ann.fst (Ann.snd (Ann.snd laws_eqIntS_an))) (⟨mkE 26 0 [(0, .dat (.list (.int .i64)) x1968), (1, .dat (.list (.int .i64)) x1969)], []⟩ : St) (laws_eqIntS_n6 x1968 x1969) (Sum.elim (fun (t : Unit) => (Exit.normal, (⟨mkE 26 0 [], []⟩ : St))) (fun (t : Bool) => (Exit.ret, (⟨mkE 26 0 [(4, .dat .bool t)], []⟩ : St)))) := by
  unfold laws_eqIntS_n6
  exact Link.cast (by kernel_rfl) (by kernel_rfl) (link_seq (b := (Code.snd (Code.fst (Code.snd (Code.snd (bodyOf Try.f18)))))) (y := (Ann.snd (Ann.fst (Ann.snd (Ann.snd laws_eqIntS_an))))) (laws_eqIntS_n2_l x1968 x1969) (fun (t : Unit) => (laws_eqIntS_n5_l x1968 x1969)))

theorem laws_eqIntS_n7_l : Link laws_eqIntS_ctx LL (Code.snd (Code.snd (Code.snd (bodyOf Try.f18)))) (Ann.snd (Ann.snd (Ann.snd laws_eqIntS_an))) (⟨mkE 26 0 [], []⟩ : St) (laws_eqIntS_n7) (fun (t : Bool) => (Exit.ret, (⟨mkE 26 0 [(4, .dat .bool t)], []⟩ : St))) := by
  refine Link.of fun K h => ?_
  simp only [laws_eqIntS_n7, wpO_bind, wpO_cond, wpO_map, wpO_some] at h
  exact Awp.of (by kernel_rfl) h

theorem laws_eqIntS_n8_l (x1968 : List Int) (x1969 : List Int) : Link laws_eqIntS_ctx LL (Code.snd (Code.snd (bodyOf Try.f18))) (Ann.snd (Ann.snd laws_eqIntS_an)) (⟨mkE 26 0 [(0, .dat (.list (.int .i64)) x1968), (1, .dat (.list (.int .i64)) x1969)], []⟩ : St) (laws_eqIntS_n8 x1968 x1969) (fun (t : Bool) => (Exit.ret, (⟨mkE 26 0 [(4, .dat .bool t)], []⟩ : St))) := by
  unfold laws_eqIntS_n8
  exact Link.cast (by kernel_rfl) (by kernel_rfl) (link_seq2 (b := (Code.snd (Code.snd (Code.snd (bodyOf Try.f18))))) (y := (Ann.snd (Ann.snd (Ann.snd laws_eqIntS_an)))) (laws_eqIntS_n6_l x1968 x1969) (fun (t : Unit) => (laws_eqIntS_n7_l)) (fun (t : Bool) => t) (by
  rintro t
  · kernel_rfl) (by
  rintro t f K h
  · exact h))

theorem laws_eqIntS_n9_l (x1968 : List Int) (x1969 : List Int) : Link laws_eqIntS_ctx LL (bodyOf Try.f18) laws_eqIntS_an (⟨mkE 26 0 [(0, .dat (.list (.int .i64)) x1968), (1, .dat (.list (.int .i64)) x1969)], []⟩ : St) (laws_eqIntS_n9 x1968 x1969) (fun (t : Bool) => (Exit.ret, (⟨mkE 26 0 [(4, .dat .bool t)], []⟩ : St))) := by
  unfold laws_eqIntS_n9
  exact Link.cast (by kernel_rfl) (by kernel_rfl) (link_group (c := (Code.fst (Code.snd (bodyOf Try.f18)))) (a := (Ann.fst (Ann.snd laws_eqIntS_an))) [(Code.fst (bodyOf Try.f18))] [(Ann.fst laws_eqIntS_an)] rfl (link_seq2 (b := (Code.snd (Code.snd (bodyOf Try.f18)))) (y := (Ann.snd (Ann.snd laws_eqIntS_an))) (laws_eqIntS_n1_l x1968 x1969) (fun (t : Unit) => (laws_eqIntS_n8_l x1968 x1969)) (fun (t : Bool) => t) (by
  rintro t
  · kernel_rfl) (by
  rintro t f K h
  · exact h)))

theorem laws_eqIntS_e (x1968 : List Int) (x1969 : List Int) {r : AV} {H' : Heap} (h : (Ans.mk _ (laws_eqIntS x1968 x1969) (fun (t : Bool) => (.dat .bool t, []))).run = some (r, H')) : Awp laws_eqIntS_ctx LL (bodyOf Try.f18) laws_eqIntS_an (⟨mkE 26 0 [(0, .dat (.list (.int .i64)) x1968), (1, .dat (.list (.int .i64)) x1969)], []⟩ : St) (Ret (tlook tys) Try.f18.results.toList r H') :=
  ret_of' (laws_eqIntS_n9_l x1968 x1969) (by unfold laws_eqIntS; kernel_rfl) (by
  intro t
  exact ret_mk [.dat .bool t] (by kernel_rfl) (by kernel_rfl) (by kernel_rfl) (by kernel_rfl)) h

def F_laws_eqIntS : Fun := fun avs H =>
  match avs, H with
  | [.dat (.list (.int .i64)) x1968, .dat (.list (.int .i64)) x1969], [] => ⟨_, laws_eqIntS x1968 x1969, fun (t : Bool) => (.dat .bool t, [])⟩
  | _, _ => Ans.no

theorem laws_eqIntS_sound : Sound Try.prog 18 F_laws_eqIntS := by
  refine fn_sound' (C := laws_eqIntS_ctx) (c := bodyOf Try.f18) (cok_of tys_ok (by simp) (by simp) (by kernel_rfl)) Try.func18 (by kernel_rfl) LL laws_eqIntS_an ?_
  intro avs H r H' h
  unfold F_laws_eqIntS at h
  split at h
  · refine Awp.cast ?_ ?_ ?_ (laws_eqIntS_e _ _ h) <;> kernel_rfl
  · simp [Ans.no, Ans.run] at h

/-! loop.example/headtrees/laws.markIntS -/

def laws_markIntS_an : Ann := (.seq (.leaf [0, 1]) (.seq (.seq (.leaf [0, 1, 5]) (.block (.loop (.seq (.seq (.leaf [0, 1, 5, 9]) (.cond (.leaf [0, 1, 5]) (.leaf [1]))) (.seq (.block (.seq (.leaf [0, 1, 5]) (.leaf [0, 1, 5]))) (.leaf [0, 1, 5])))))) (.seq (.leaf [4]) (.leaf [4]))))

noncomputable def laws_markIntS_ctx : Ctx := ⟨tlook tys, olook [], ioF, 1⟩

theorem laws_markIntS_n1_l (x2022 : Int) (x2023 : List Int) : Link laws_markIntS_ctx LL (Code.fst (bodyOf Try.f19)) (Ann.fst laws_markIntS_an) (⟨mkE 19 0 [(0, .slc 0), (1, .dat (.int .i64) x2022)], [some (.seq (.int .i64) x2023)]⟩ : St) (laws_markIntS_n1) (fun (t : Unit) => (Exit.normal, (⟨mkE 19 0 [(0, .slc 0), (1, .dat (.int .i64) x2022)], [some (.seq (.int .i64) x2023)]⟩ : St))) := by
  refine Link.of fun K h => ?_
  simp only [laws_markIntS_n1, wpO_bind, wpO_cond, wpO_map, wpO_some] at h
  exact Awp.of (by kernel_rfl) h

theorem laws_markIntS_n2_l (x2022 : Int) (x2023 : List Int) : Link laws_markIntS_ctx LL (Code.fst (Code.fst (Code.snd (bodyOf Try.f19)))) (Ann.fst (Ann.fst (Ann.snd laws_markIntS_an))) (⟨mkE 19 0 [(0, .slc 0), (1, .dat (.int .i64) x2022)], [some (.seq (.int .i64) x2023)]⟩ : St) (laws_markIntS_n2) (fun (t : Unit) => (Exit.normal, (⟨mkE 19 0 [(0, .slc 0), (1, .dat (.int .i64) x2022), (5, .dat (.int .i64) 0)], [some (.seq (.int .i64) x2023)]⟩ : St))) := by
  refine Link.of fun K h => ?_
  simp only [laws_markIntS_n2, wpO_bind, wpO_cond, wpO_map, wpO_some] at h
  exact Awp.of (by kernel_rfl) h

theorem laws_markIntS_n3_l (x2037 : Int) (x2038 : Int) (x2039 : List Int) : Link laws_markIntS_ctx LL (Code.fst (Code.fst (Code.snd (Code.fst (Code.snd (bodyOf Try.f19)))))) (Ann.fst (Ann.fst (Ann.snd (Ann.fst (Ann.snd laws_markIntS_an))))) (⟨mkE 19 0 [(0, .slc 0), (1, .dat (.int .i64) x2037), (5, .dat (.int .i64) x2038)], [some (.seq (.int .i64) x2039)]⟩ : St) (laws_markIntS_n3 x2037 x2038 x2039) (Sum.elim (fun (t : Int × Int × (List Int)) => (Exit.normal, (⟨mkE 19 0 [(0, .slc 0), (1, .dat (.int .i64) t.1), (5, .dat (.int .i64) t.2.1)], [some (.seq (.int .i64) t.2.2)]⟩ : St))) (fun (t : Int × (List Int)) => ((Exit.exit 0), (⟨mkE 19 0 [(1, .dat (.int .i64) t.1)], [some (.seq (.int .i64) t.2)]⟩ : St)))) := by
  refine Link.of fun K h => ?_
  simp only [laws_markIntS_n3, wpO_bind, wpO_cond, wpO_map, wpO_some] at h
  exact Awp.of (by kernel_rfl) h

theorem laws_markIntS_n4_l (x2022 : Int) (x2023 : List Int) : Link laws_markIntS_ctx LL (Code.fst (Code.snd (Code.fst (Code.snd (bodyOf Try.f19))))) (Ann.fst (Ann.snd (Ann.fst (Ann.snd laws_markIntS_an)))) (⟨mkE 19 0 [(0, .slc 0), (1, .dat (.int .i64) x2022), (5, .dat (.int .i64) 0)], [some (.seq (.int .i64) x2023)]⟩ : St) (laws_markIntS_n4 x2022 x2023) (fun (t : Int × (List Int)) => ((Exit.exit 0), (⟨mkE 19 0 [(1, .dat (.int .i64) t.1)], [some (.seq (.int .i64) t.2)]⟩ : St))) := by
  unfold laws_markIntS_n4
  exact Link.cast (by kernel_rfl) (by kernel_rfl) (link_loop (mk := fun (s : Int × Int × (List Int)) => (⟨mkE 19 0 [(0, .slc 0), (1, .dat (.int .i64) s.1), (5, .dat (.int .i64) s.2.1)], [some (.seq (.int .i64) s.2.2)]⟩ : St)) (fin := (fun (t : Int × (List Int)) => ((Exit.exit 0), (⟨mkE 19 0 [(1, .dat (.int .i64) t.1)], [some (.seq (.int .i64) t.2)]⟩ : St)))) (by
  rintro t f K h
  · exact h) (fun s => link_map (laws_markIntS_n3_l s.1 s.2.1 s.2.2) (Sum.elim (fun (t : Int × Int × (List Int)) => Sum.inl (t.1, t.2.1, t.2.2)) (fun (t : Int × (List Int)) => Sum.inr t)) (by
  rintro (t | t)
  · kernel_rfl
  · kernel_rfl)) (x2022, 0, x2023))

theorem laws_markIntS_n5_l (x2022 : Int) (x2023 : List Int) : Link laws_markIntS_ctx LL (Code.snd (Code.fst (Code.snd (bodyOf Try.f19)))) (Ann.snd (Ann.fst (Ann.snd laws_markIntS_an))) (⟨mkE 19 0 [(0, .slc 0), (1, .dat (.int .i64) x2022), (5, .dat (.int .i64) 0)], [some (.seq (.int .i64) x2023)]⟩ : St) (laws_markIntS_n5 x2022 x2023) (fun (t : Int × (List Int)) => (Exit.normal, (⟨mkE 19 0 [(1, .dat (.int .i64) t.1)], [some (.seq (.int .i64) t.2)]⟩ : St))) := by
  unfold laws_markIntS_n5
  exact Link.cast (by kernel_rfl) (by kernel_rfl) (link_block (id := 0) (laws_markIntS_n4_l x2022 x2023) (fun (t : Int × (List Int)) => (t.1, t.2)) (by
  rintro t K h
  · exact Eq.mp (by kernel_rfl) h))

theorem laws_markIntS_n6_l (x2022 : Int) (x2023 : List Int) : Link laws_markIntS_ctx LL (Code.fst (Code.snd (bodyOf Try.f19))) (Ann.fst (Ann.snd laws_markIntS_an)) (⟨mkE 19 0 [(0, .slc 0), (1, .dat (.int .i64) x2022)], [some (.seq (.int .i64) x2023)]⟩ : St) (laws_markIntS_n6 x2022 x2023) (fun (t : Int × (List Int)) => (Exit.normal, (⟨mkE 19 0 [(1, .dat (.int .i64) t.1)], [some (.seq (.int .i64) t.2)]⟩ : St))) := by
  unfold laws_markIntS_n6
  exact Link.cast (by kernel_rfl) (by kernel_rfl) (link_seq (b := (Code.snd (Code.fst (Code.snd (bodyOf Try.f19))))) (y := (Ann.snd (Ann.fst (Ann.snd laws_markIntS_an)))) (laws_markIntS_n2_l x2022 x2023) (fun (t : Unit) => (laws_markIntS_n5_l x2022 x2023)))

theorem laws_markIntS_n7_l (x2037 : Int) (x2039 : List Int) : Link laws_markIntS_ctx LL (Code.snd (Code.snd (bodyOf Try.f19))) (Ann.snd (Ann.snd laws_markIntS_an)) (⟨mkE 19 0 [(1, .dat (.int .i64) x2037)], [some (.seq (.int .i64) x2039)]⟩ : St) (laws_markIntS_n7 x2037 x2039) (fun (t : Int × (List Int)) => (Exit.ret, (⟨mkE 19 0 [(4, .dat (.int .i64) t.1)], [some (.seq (.int .i64) t.2)]⟩ : St))) := by
  refine Link.of fun K h => ?_
  simp only [laws_markIntS_n7, wpO_bind, wpO_cond, wpO_map, wpO_some] at h
  exact Awp.of (by kernel_rfl) h

theorem laws_markIntS_n8_l (x2022 : Int) (x2023 : List Int) : Link laws_markIntS_ctx LL (Code.snd (bodyOf Try.f19)) (Ann.snd laws_markIntS_an) (⟨mkE 19 0 [(0, .slc 0), (1, .dat (.int .i64) x2022)], [some (.seq (.int .i64) x2023)]⟩ : St) (laws_markIntS_n8 x2022 x2023) (fun (t : Int × (List Int)) => (Exit.ret, (⟨mkE 19 0 [(4, .dat (.int .i64) t.1)], [some (.seq (.int .i64) t.2)]⟩ : St))) := by
  unfold laws_markIntS_n8
  exact Link.cast (by kernel_rfl) (by kernel_rfl) (link_seq (b := (Code.snd (Code.snd (bodyOf Try.f19)))) (y := (Ann.snd (Ann.snd laws_markIntS_an))) (laws_markIntS_n6_l x2022 x2023) (fun (t : Int × (List Int)) => (laws_markIntS_n7_l t.1 t.2)))

theorem laws_markIntS_n9_l (x2022 : Int) (x2023 : List Int) : Link laws_markIntS_ctx LL (bodyOf Try.f19) laws_markIntS_an (⟨mkE 19 0 [(0, .slc 0), (1, .dat (.int .i64) x2022)], [some (.seq (.int .i64) x2023)]⟩ : St) (laws_markIntS_n9 x2022 x2023) (fun (t : Int × (List Int)) => (Exit.ret, (⟨mkE 19 0 [(4, .dat (.int .i64) t.1)], [some (.seq (.int .i64) t.2)]⟩ : St))) := by
  unfold laws_markIntS_n9
  exact Link.cast (by kernel_rfl) (by kernel_rfl) (link_seq (b := (Code.snd (bodyOf Try.f19))) (y := (Ann.snd laws_markIntS_an)) (laws_markIntS_n1_l x2022 x2023) (fun (t : Unit) => (laws_markIntS_n8_l x2022 x2023)))

theorem laws_markIntS_e (x2022 : Int) (x2023 : List Int) {r : AV} {H' : Heap} (h : (Ans.mk _ (laws_markIntS x2022 x2023) (fun (t : Int × (List Int)) => (.dat (.int .i64) t.1, [some (.seq (.int .i64) t.2)]))).run = some (r, H')) : Awp laws_markIntS_ctx LL (bodyOf Try.f19) laws_markIntS_an (⟨mkE 19 0 [(0, .slc 0), (1, .dat (.int .i64) x2022)], [some (.seq (.int .i64) x2023)]⟩ : St) (Ret (tlook tys) Try.f19.results.toList r H') :=
  ret_of' (laws_markIntS_n9_l x2022 x2023) (by unfold laws_markIntS; kernel_rfl) (by
  intro t
  exact ret_mk [.dat (.int .i64) t.1] (by kernel_rfl) (by kernel_rfl) (by kernel_rfl) (by kernel_rfl)) h

def F_laws_markIntS : Fun := fun avs H =>
  match avs, H with
  | [.slc 0, .dat (.int .i64) x2022], [some (.seq (.int .i64) x2023)] => ⟨_, laws_markIntS x2022 x2023, fun (t : Int × (List Int)) => (.dat (.int .i64) t.1, [some (.seq (.int .i64) t.2)])⟩
  | _, _ => Ans.no

theorem laws_markIntS_sound : Sound Try.prog 19 F_laws_markIntS := by
  refine fn_sound' (C := laws_markIntS_ctx) (c := bodyOf Try.f19) (cok_of tys_ok (by simp) (by simp) (by kernel_rfl)) Try.func19 (by kernel_rfl) LL laws_markIntS_an ?_
  intro avs H r H' h
  unfold F_laws_markIntS at h
  split at h
  · refine Awp.cast ?_ ?_ ?_ (laws_markIntS_e _ _ h) <;> kernel_rfl
  · simp [Ans.no, Ans.run] at h

/-! loop.example/headtrees/laws.heldIntS -/

def laws_heldIntS_an : Ann := (.seq (.leaf [0, 1]) (.seq (.seq (.leaf [0, 1, 5]) (.block (.loop (.seq (.seq (.leaf [0, 1, 5, 9]) (.cond (.leaf [0, 1, 5]) (.leaf [1]))) (.seq (.block (.seq (.seq (.leaf [0, 1, 5, 17]) (.cond (.seq (.leaf [4]) (.leaf [4])) (.leaf [0, 1, 5]))) (.leaf [0, 1, 5]))) (.leaf [0, 1, 5])))))) (.seq (.leaf [4]) (.leaf [4]))))

noncomputable def laws_heldIntS_ctx : Ctx := ⟨tlook tys, olook [], ioF, 0⟩

theorem laws_heldIntS_n1_l (x2080 : List Int) (x2081 : Int) : Link laws_heldIntS_ctx LL (Code.fst (bodyOf Try.f20)) (Ann.fst laws_heldIntS_an) (⟨mkE 21 0 [(0, .dat (.list (.int .i64)) x2080), (1, .dat (.int .i64) x2081)], []⟩ : St) (laws_heldIntS_n1) (fun (t : Unit) => (Exit.normal, (⟨mkE 21 0 [(0, .dat (.list (.int .i64)) x2080), (1, .dat (.int .i64) x2081)], []⟩ : St))) := by
  refine Link.of fun K h => ?_
  simp only [laws_heldIntS_n1, wpO_bind, wpO_cond, wpO_map, wpO_some] at h
  exact Awp.of (by kernel_rfl) h

theorem laws_heldIntS_n2_l (x2080 : List Int) (x2081 : Int) : Link laws_heldIntS_ctx LL (Code.fst (Code.fst (Code.snd (bodyOf Try.f20)))) (Ann.fst (Ann.fst (Ann.snd laws_heldIntS_an))) (⟨mkE 21 0 [(0, .dat (.list (.int .i64)) x2080), (1, .dat (.int .i64) x2081)], []⟩ : St) (laws_heldIntS_n2) (fun (t : Unit) => (Exit.normal, (⟨mkE 21 0 [(0, .dat (.list (.int .i64)) x2080), (1, .dat (.int .i64) x2081), (5, .dat (.int .i64) 0)], []⟩ : St))) := by
  refine Link.of fun K h => ?_
  simp only [laws_heldIntS_n2, wpO_bind, wpO_cond, wpO_map, wpO_some] at h
  exact Awp.of (by kernel_rfl) h

theorem laws_heldIntS_n3_l (x2080 : List Int) (x2095 : Int) (x2096 : Int) : Link laws_heldIntS_ctx LL (Code.fst (Code.fst (Code.snd (Code.fst (Code.snd (bodyOf Try.f20)))))) (Ann.fst (Ann.fst (Ann.snd (Ann.fst (Ann.snd laws_heldIntS_an))))) (⟨mkE 21 0 [(0, .dat (.list (.int .i64)) x2080), (1, .dat (.int .i64) x2095), (5, .dat (.int .i64) x2096)], []⟩ : St) (laws_heldIntS_n3 x2080 x2095 x2096) (Sum.elim (fun (t : Int × Int) => (Exit.normal, (⟨mkE 21 0 [(0, .dat (.list (.int .i64)) x2080), (1, .dat (.int .i64) t.1), (5, .dat (.int .i64) t.2)], []⟩ : St))) (Sum.elim (fun (t : Int) => (Exit.ret, (⟨mkE 21 0 [(4, .dat (.int .i64) t)], []⟩ : St))) (fun (t : Int) => ((Exit.exit 0), (⟨mkE 21 0 [(1, .dat (.int .i64) t)], []⟩ : St))))) := by
  refine Link.of fun K h => ?_
  simp only [laws_heldIntS_n3, wpO_bind, wpO_cond, wpO_map, wpO_some] at h
  exact Awp.of (by kernel_rfl) h

theorem laws_heldIntS_n4_l (x2080 : List Int) (x2081 : Int) : Link laws_heldIntS_ctx LL (Code.fst (Code.snd (Code.fst (Code.snd (bodyOf Try.f20))))) (Ann.fst (Ann.snd (Ann.fst (Ann.snd laws_heldIntS_an)))) (⟨mkE 21 0 [(0, .dat (.list (.int .i64)) x2080), (1, .dat (.int .i64) x2081), (5, .dat (.int .i64) 0)], []⟩ : St) (laws_heldIntS_n4 x2080 x2081) (Sum.elim (fun (t : Int) => (Exit.ret, (⟨mkE 21 0 [(4, .dat (.int .i64) t)], []⟩ : St))) (fun (t : Int) => ((Exit.exit 0), (⟨mkE 21 0 [(1, .dat (.int .i64) t)], []⟩ : St)))) := by
  unfold laws_heldIntS_n4
  exact Link.cast (by kernel_rfl) (by kernel_rfl) (link_loop (mk := fun (s : Int × Int) => (⟨mkE 21 0 [(0, .dat (.list (.int .i64)) x2080), (1, .dat (.int .i64) s.1), (5, .dat (.int .i64) s.2)], []⟩ : St)) (fin := (Sum.elim (fun (t : Int) => (Exit.ret, (⟨mkE 21 0 [(4, .dat (.int .i64) t)], []⟩ : St))) (fun (t : Int) => ((Exit.exit 0), (⟨mkE 21 0 [(1, .dat (.int .i64) t)], []⟩ : St))))) (by
  rintro (t | t) f K h
  · exact h
  · exact h) (fun s => link_map (laws_heldIntS_n3_l x2080 s.1 s.2) (Sum.elim (fun (t : Int × Int) => Sum.inl (t.1, t.2)) (Sum.elim (fun (t : Int) => Sum.inr (Sum.inl t)) (fun (t : Int) => Sum.inr (Sum.inr t)))) (by
  rintro (t | t | t)
  · kernel_rfl
  · kernel_rfl
  · kernel_rfl)) (x2081, 0))

theorem laws_heldIntS_n5_l (x2080 : List Int) (x2081 : Int) : Link laws_heldIntS_ctx LL (Code.snd (Code.fst (Code.snd (bodyOf Try.f20)))) (Ann.snd (Ann.fst (Ann.snd laws_heldIntS_an))) (⟨mkE 21 0 [(0, .dat (.list (.int .i64)) x2080), (1, .dat (.int .i64) x2081), (5, .dat (.int .i64) 0)], []⟩ : St) (laws_heldIntS_n5 x2080 x2081) (Sum.elim (fun (t : Int) => (Exit.normal, (⟨mkE 21 0 [(1, .dat (.int .i64) t)], []⟩ : St))) (fun (t : Int) => (Exit.ret, (⟨mkE 21 0 [(4, .dat (.int .i64) t)], []⟩ : St)))) := by
  unfold laws_heldIntS_n5
  exact Link.cast (by kernel_rfl) (by kernel_rfl) (link_block (id := 0) (laws_heldIntS_n4_l x2080 x2081) (Sum.elim (fun (t : Int) => (Sum.inr t)) (fun (t : Int) => (Sum.inl t))) (by
  rintro (t | t) K h
  · exact Eq.mp (by kernel_rfl) h
  · exact Eq.mp (by kernel_rfl) h))

theorem laws_heldIntS_n6_l (x2080 : List Int) (x2081 : Int) : Link laws_heldIntS_ctx LL (Code.fst (Code.snd (bodyOf Try.f20))) (Ann.fst (Ann.snd laws_heldIntS_an)) (⟨mkE 21 0 [(0, .dat (.list (.int .i64)) x2080), (1, .dat (.int .i64) x2081)], []⟩ : St) (laws_heldIntS_n6 x2080 x2081) (Sum.elim (fun (t : Int) => (Exit.normal, (⟨mkE 21 0 [(1, .dat (.int .i64) t)], []⟩ : St))) (fun (t : Int) => (Exit.ret, (⟨mkE 21 0 [(4, .dat (.int .i64) t)], []⟩ : St)))) := by
  unfold laws_heldIntS_n6
  exact Link.cast (by kernel_rfl) (by kernel_rfl) (link_seq (b := (Code.snd (Code.fst (Code.snd (bodyOf Try.f20))))) (y := (Ann.snd (Ann.fst (Ann.snd laws_heldIntS_an)))) (laws_heldIntS_n2_l x2080 x2081) (fun (t : Unit) => (laws_heldIntS_n5_l x2080 x2081)))

theorem laws_heldIntS_n7_l (x2095 : Int) : Link laws_heldIntS_ctx LL (Code.snd (Code.snd (bodyOf Try.f20))) (Ann.snd (Ann.snd laws_heldIntS_an)) (⟨mkE 21 0 [(1, .dat (.int .i64) x2095)], []⟩ : St) (laws_heldIntS_n7 x2095) (fun (t : Int) => (Exit.ret, (⟨mkE 21 0 [(4, .dat (.int .i64) t)], []⟩ : St))) := by
  refine Link.of fun K h => ?_
  simp only [laws_heldIntS_n7, wpO_bind, wpO_cond, wpO_map, wpO_some] at h
  exact Awp.of (by kernel_rfl) h

theorem laws_heldIntS_n8_l (x2080 : List Int) (x2081 : Int) : Link laws_heldIntS_ctx LL (Code.snd (bodyOf Try.f20)) (Ann.snd laws_heldIntS_an) (⟨mkE 21 0 [(0, .dat (.list (.int .i64)) x2080), (1, .dat (.int .i64) x2081)], []⟩ : St) (laws_heldIntS_n8 x2080 x2081) (fun (t : Int) => (Exit.ret, (⟨mkE 21 0 [(4, .dat (.int .i64) t)], []⟩ : St))) := by
  unfold laws_heldIntS_n8
  exact Link.cast (by kernel_rfl) (by kernel_rfl) (link_seq2 (b := (Code.snd (Code.snd (bodyOf Try.f20)))) (y := (Ann.snd (Ann.snd laws_heldIntS_an))) (laws_heldIntS_n6_l x2080 x2081) (fun (t : Int) => (laws_heldIntS_n7_l t)) (fun (t : Int) => t) (by
  rintro t
  · kernel_rfl) (by
  rintro t f K h
  · exact h))

theorem laws_heldIntS_n9_l (x2080 : List Int) (x2081 : Int) : Link laws_heldIntS_ctx LL (bodyOf Try.f20) laws_heldIntS_an (⟨mkE 21 0 [(0, .dat (.list (.int .i64)) x2080), (1, .dat (.int .i64) x2081)], []⟩ : St) (laws_heldIntS_n9 x2080 x2081) (fun (t : Int) => (Exit.ret, (⟨mkE 21 0 [(4, .dat (.int .i64) t)], []⟩ : St))) := by
  unfold laws_heldIntS_n9
  exact Link.cast (by kernel_rfl) (by kernel_rfl) (link_seq (b := (Code.snd (bodyOf Try.f20))) (y := (Ann.snd laws_heldIntS_an)) (laws_heldIntS_n1_l x2080 x2081) (fun (t : Unit) => (laws_heldIntS_n8_l x2080 x2081)))

theorem laws_heldIntS_e (x2080 : List Int) (x2081 : Int) {r : AV} {H' : Heap} (h : (Ans.mk _ (laws_heldIntS x2080 x2081) (fun (t : Int) => (.dat (.int .i64) t, []))).run = some (r, H')) : Awp laws_heldIntS_ctx LL (bodyOf Try.f20) laws_heldIntS_an (⟨mkE 21 0 [(0, .dat (.list (.int .i64)) x2080), (1, .dat (.int .i64) x2081)], []⟩ : St) (Ret (tlook tys) Try.f20.results.toList r H') :=
  ret_of' (laws_heldIntS_n9_l x2080 x2081) (by unfold laws_heldIntS; kernel_rfl) (by
  intro t
  exact ret_mk [.dat (.int .i64) t] (by kernel_rfl) (by kernel_rfl) (by kernel_rfl) (by kernel_rfl)) h

def F_laws_heldIntS : Fun := fun avs H =>
  match avs, H with
  | [.dat (.list (.int .i64)) x2080, .dat (.int .i64) x2081], [] => ⟨_, laws_heldIntS x2080 x2081, fun (t : Int) => (.dat (.int .i64) t, [])⟩
  | _, _ => Ans.no

theorem laws_heldIntS_sound : Sound Try.prog 20 F_laws_heldIntS := by
  refine fn_sound' (C := laws_heldIntS_ctx) (c := bodyOf Try.f20) (cok_of tys_ok (by simp) (by simp) (by kernel_rfl)) Try.func20 (by kernel_rfl) LL laws_heldIntS_an ?_
  intro avs H r H' h
  unfold F_laws_heldIntS at h
  split at h
  · refine Awp.cast ?_ ?_ ?_ (laws_heldIntS_e _ _ h) <;> kernel_rfl
  · simp [Ans.no, Ans.run] at h

/-! loop.example/headtrees/laws.FnExactFlatAt -/

def laws_FnExactFlatAt_an : Ann := (.seq (.leaf [0, 1]) (.seq (.leaf [0, 1, 5, 6]) (.seq (.leaf [0, 1, 5, 6, 7, 8]) (.seq (.seq (.leaf [0, 1, 5, 6, 7, 33]) (.cond (.seq (.leaf [4]) (.leaf [4])) (.leaf [0, 1, 5, 6, 7]))) (.seq (.leaf [0, 1, 5, 6, 7, 9]) (.seq (.leaf [0, 1, 5, 6, 7, 9]) (.seq (.leaf [0, 1, 5, 6, 7, 9, 10]) (.seq (.leaf [0, 1, 5, 6, 7, 9, 10]) (.seq (.seq (.leaf [0, 1, 5, 6, 7, 9, 10, 41]) (.cond (.seq (.leaf [4]) (.leaf [4])) (.leaf [0, 1, 5, 6, 7, 9, 10]))) (.seq (.seq (.leaf [0, 1, 5, 6, 7, 9, 44]) (.cond (.seq (.leaf [4]) (.leaf [4])) (.leaf [0, 1, 5, 6, 7, 9]))) (.seq (.leaf [5, 6, 7, 9, 11, 12]) (.seq (.seq (.leaf [7, 9, 59]) (.cond (.seq (.leaf [4]) (.leaf [4])) (.leaf [7, 9]))) (.seq (.leaf [7, 9, 10]) (.seq (.leaf [9, 10]) (.seq (.seq (.leaf [9, 10, 64]) (.cond (.seq (.leaf [4]) (.leaf [4])) (.leaf [9, 10]))) (.seq (.seq (.leaf [67]) (.cond (.seq (.leaf [4]) (.leaf [4])) (.leaf []))) (.seq (.leaf [4]) (.leaf [4]))))))))))))))))))

noncomputable def laws_FnExactFlatAt_ctx : Ctx := ⟨tlook tys, olook [(16, F_spec_FlatAt), (17, F_impl_FlatAt), (18, F_laws_eqIntS), (19, F_laws_markIntS), (20, F_laws_heldIntS)], ioF, 0⟩

theorem laws_FnExactFlatAt_n1_l (x1065 : Int) (x1066 : Int) : Link laws_FnExactFlatAt_ctx LL (bodyOf Try.f7) laws_FnExactFlatAt_an (⟨mkE 68 0 [(0, .dat (.int .i64) x1065), (1, .dat (.int .i64) x1066)], []⟩ : St) (laws_FnExactFlatAt_n1 x1065 x1066) (fun (t : Bool) => (Exit.ret, (⟨mkE 68 0 [(4, .dat .bool t)], []⟩ : St))) := by
  refine Link.of fun K h => ?_
  simp only [laws_FnExactFlatAt_n1, wpO_bind, wpO_cond, wpO_map, wpO_some] at h
  exact Awp.of (by kernel_rfl) h

theorem laws_FnExactFlatAt_e (x1065 : Int) (x1066 : Int) {r : AV} {H' : Heap} (h : (Ans.mk _ (laws_FnExactFlatAt x1065 x1066) (fun (t : Bool) => (.dat .bool t, []))).run = some (r, H')) : Awp laws_FnExactFlatAt_ctx LL (bodyOf Try.f7) laws_FnExactFlatAt_an (⟨mkE 68 0 [(0, .dat (.int .i64) x1065), (1, .dat (.int .i64) x1066)], []⟩ : St) (Ret (tlook tys) Try.f7.results.toList r H') :=
  ret_of' (laws_FnExactFlatAt_n1_l x1065 x1066) (by unfold laws_FnExactFlatAt; kernel_rfl) (by
  intro t
  exact ret_mk [.dat .bool t] (by kernel_rfl) (by kernel_rfl) (by kernel_rfl) (by kernel_rfl)) h

def F_laws_FnExactFlatAt : Fun := fun avs H =>
  match avs, H with
  | [.dat (.int .i64) x1065, .dat (.int .i64) x1066], [] => ⟨_, laws_FnExactFlatAt x1065 x1066, fun (t : Bool) => (.dat .bool t, [])⟩
  | _, _ => Ans.no

theorem laws_FnExactFlatAt_sound : Sound Try.prog 7 F_laws_FnExactFlatAt := by
  refine fn_sound' (C := laws_FnExactFlatAt_ctx) (c := bodyOf Try.f7) (cok_of tys_ok (List.forall_mem_cons.2 ⟨spec_FlatAt_sound, List.forall_mem_cons.2 ⟨impl_FlatAt_sound, List.forall_mem_cons.2 ⟨laws_eqIntS_sound, List.forall_mem_cons.2 ⟨laws_markIntS_sound, List.forall_mem_cons.2 ⟨laws_heldIntS_sound, by simp⟩⟩⟩⟩⟩) (List.forall_mem_cons.2 ⟨Try.call16, List.forall_mem_cons.2 ⟨Try.call17, List.forall_mem_cons.2 ⟨Try.call18, List.forall_mem_cons.2 ⟨Try.call19, List.forall_mem_cons.2 ⟨Try.call20, by simp⟩⟩⟩⟩⟩) (by kernel_rfl)) Try.func7 (by kernel_rfl) LL laws_FnExactFlatAt_an ?_
  intro avs H r H' h
  unfold F_laws_FnExactFlatAt at h
  split at h
  · refine Awp.cast ?_ ?_ ?_ (laws_FnExactFlatAt_e _ _ h) <;> kernel_rfl
  · simp [Ans.no, Ans.run] at h

end Go.Rv
