/-
  The checked code answers as the plain functions do; written by program. Conditions: none.
-/
import Derived.Test.YthhbbiielebblaaDoorGLb
set_option linter.unusedVariables false
set_option linter.unusedSimpArgs false
set_option maxRecDepth 100000
namespace Go.Rv
open Go.Proofs
theorem spec_l20Fill_step (n : Nat) (h52 : Sound Tryd.prog 52 (F_spec_l20Fill_fuel n)) : Sound Tryd.prog 52 (F_spec_l20Fill_fuel (n + 1)) := by
  refine fn_sound' (C := spec_l20Fill_ctx n) (c := bodyOf Tryd.f52) (cok_of tys_ok (List.forall_mem_cons.2 ⟨spec_l20Rd_pick_sound, List.forall_mem_cons.2 ⟨h52, by simp⟩⟩) (List.forall_mem_cons.2 ⟨Tryd.call20, List.forall_mem_cons.2 ⟨Tryd.call52, by simp⟩⟩) (by kernel_rfl)) Tryd.func52 (by kernel_rfl) LL spec_l20Fill_an ?_
  intro avs H r H' h
  unfold F_spec_l20Fill_fuel at h
  split at h
  · refine Awp.cast ?_ ?_ ?_ (spec_l20Fill_e n _ _ _ _ _ _ h) <;> kernel_rfl
  · simp [Ans.no, Ans.run] at h

theorem spec_l20Fill_null : Sound Tryd.prog 52 (F_spec_l20Fill_fuel 0) := by
  intro avs H r H' h
  unfold F_spec_l20Fill_fuel at h
  split at h
  · simp [spec_l20Fill_fuel, spec_l20Fill_knot, Ans.run] at h
  · simp [Ans.no, Ans.run] at h

theorem spec_l20Fill_knot_all : ∀ n, Sound Tryd.prog 52 (F_spec_l20Fill_fuel n)
  | 0 => spec_l20Fill_null
  | n + 1 => by
    have h52 := spec_l20Fill_knot_all n
    exact spec_l20Fill_step n h52

def F_spec_l20Fill : Fun := fun avs H =>
  match avs, H with
  | [.ptr 0 0, .slc 1, .dat (.int .i64) x3224, .dat (.int .i64) x3225, .dat (.int .i64) x3226], [some (.box [.dat (.list (.int .u8)) x3227, .dat (.int .i64) x3228]), some (.seq (.int .i64) x3229)] => ⟨_, spec_l20Fill x3224 x3225 x3226 x3227 x3228 x3229, fun (t : Int × (List Int)) => (.tup [], [some (.box [.dat (.list (.int .u8)) x3227, .dat (.int .i64) t.1]), some (.seq (.int .i64) t.2)])⟩
  | _, _ => Ans.no

theorem spec_l20Fill_sound : Sound Tryd.prog 52 F_spec_l20Fill := by
  have e : F_spec_l20Fill = F_spec_l20Fill_fuel RR := by
    funext avs H
    unfold F_spec_l20Fill F_spec_l20Fill_fuel
    split <;> first | rfl | (simp only [spec_l20Fill])
  rw [e]
  exact (spec_l20Fill_knot_all RR)

/-! loop.example/headtrees/spec.l20Flat -/

def spec_l20Flat_an : Ann := (.seq (.leaf [0, 1]) (.seq (.seq (.leaf [0, 1, 9]) (.cond (.seq (.leaf [4]) (.leaf [4])) (.leaf [0]))) (.seq (.leaf [0, 5]) (.seq (.leaf [0, 5, 6]) (.seq (.leaf [6]) (.seq (.leaf [4]) (.leaf [4])))))))

noncomputable def spec_l20Flat_ctx : Ctx := ⟨tlook tys, olook [(20, F_spec_l20Rd_pick), (51, F_spec_l20Tree), (52, F_spec_l20Fill)], ioF, 1⟩

theorem spec_l20Flat_n1_l (x2607 : Int) (x2608 : List Int) (x2609 : Int) : Link spec_l20Flat_ctx LL (bodyOf Tryd.f32) spec_l20Flat_an (⟨mkE 23 0 [(0, .ptr 0 0), (1, .dat (.int .i64) x2607)], [some (.box [.dat (.list (.int .u8)) x2608, .dat (.int .i64) x2609])]⟩ : St) (spec_l20Flat_n1 x2607 x2608 x2609) (fun (t : Int × (List Int)) => (Exit.ret, (⟨mkE 23 0 [(4, .slc 1)], [some (.box [.dat (.list (.int .u8)) x2608, .dat (.int .i64) t.1]), some (.seq (.int .i64) t.2)]⟩ : St))) := by
  refine Link.of fun K h => ?_
  simp only [spec_l20Flat_n1, wpO_bind, wpO_cond, wpO_map, wpO_some] at h
  exact Awp.of (by kernel_rfl) h

theorem spec_l20Flat_e (x2607 : Int) (x2608 : List Int) (x2609 : Int) {r : AV} {H' : Heap} (h : (Ans.mk _ (spec_l20Flat x2607 x2608 x2609) (fun (t : Int × (List Int)) => (.slc 1, [some (.box [.dat (.list (.int .u8)) x2608, .dat (.int .i64) t.1]), some (.seq (.int .i64) t.2)]))).run = some (r, H')) : Awp spec_l20Flat_ctx LL (bodyOf Tryd.f32) spec_l20Flat_an (⟨mkE 23 0 [(0, .ptr 0 0), (1, .dat (.int .i64) x2607)], [some (.box [.dat (.list (.int .u8)) x2608, .dat (.int .i64) x2609])]⟩ : St) (Ret (tlook tys) Tryd.f32.results.toList r H') :=
  ret_of' (spec_l20Flat_n1_l x2607 x2608 x2609) (by unfold spec_l20Flat; kernel_rfl) (by
  intro t
  exact ret_mk [.slc 1] (by kernel_rfl) (by kernel_rfl) (by kernel_rfl) (by kernel_rfl)) h

def F_spec_l20Flat : Fun := fun avs H =>
  match avs, H with
  | [.ptr 0 0, .dat (.int .i64) x2607], [some (.box [.dat (.list (.int .u8)) x2608, .dat (.int .i64) x2609])] => ⟨_, spec_l20Flat x2607 x2608 x2609, fun (t : Int × (List Int)) => (.slc 1, [some (.box [.dat (.list (.int .u8)) x2608, .dat (.int .i64) t.1]), some (.seq (.int .i64) t.2)])⟩
  | _, _ => Ans.no

theorem spec_l20Flat_sound : Sound Tryd.prog 32 F_spec_l20Flat := by
  refine fn_sound' (C := spec_l20Flat_ctx) (c := bodyOf Tryd.f32) (cok_of tys_ok (List.forall_mem_cons.2 ⟨spec_l20Rd_pick_sound, List.forall_mem_cons.2 ⟨spec_l20Tree_sound, List.forall_mem_cons.2 ⟨spec_l20Fill_sound, by simp⟩⟩⟩) (List.forall_mem_cons.2 ⟨Tryd.call20, List.forall_mem_cons.2 ⟨Tryd.call51, List.forall_mem_cons.2 ⟨Tryd.call52, by simp⟩⟩⟩) (by kernel_rfl)) Tryd.func32 (by kernel_rfl) LL spec_l20Flat_an ?_
  intro avs H r H' h
  unfold F_spec_l20Flat at h
  split at h
  · refine Awp.cast ?_ ?_ ?_ (spec_l20Flat_e _ _ _ h) <;> kernel_rfl
  · simp [Ans.no, Ans.run] at h

/-! loop.example/headtrees/spec.DrawPlaceOf -/

def spec_DrawPlaceOf_an : Ann := (.seq (.leaf [0]) (.seq (.leaf [2]) (.leaf [2])))

noncomputable def spec_DrawPlaceOf_ctx : Ctx := ⟨tlook tys, olook [(19, F_spec_l20Open), (32, F_spec_l20Flat)], ioF, 0⟩

theorem spec_DrawPlaceOf_n1_l (x2604 : List Int) : Link spec_DrawPlaceOf_ctx LL (bodyOf Tryd.f14) spec_DrawPlaceOf_an (⟨mkE 6 0 [(0, .dat (.list (.int .u8)) x2604)], []⟩ : St) (spec_DrawPlaceOf_n1 x2604) (fun (t : (List Int)) => (Exit.ret, (⟨mkE 6 0 [(2, .slc 0)], [some (.seq (.int .i64) t)]⟩ : St))) := by
  refine Link.of fun K h => ?_
  simp only [spec_DrawPlaceOf_n1, wpO_bind, wpO_cond, wpO_map, wpO_some] at h
  exact Awp.of (by kernel_rfl) h

theorem spec_DrawPlaceOf_e (x2604 : List Int) {r : AV} {H' : Heap} (h : (Ans.mk _ (spec_DrawPlaceOf x2604) (fun (t : (List Int)) => (.slc 0, [some (.seq (.int .i64) t)]))).run = some (r, H')) : Awp spec_DrawPlaceOf_ctx LL (bodyOf Tryd.f14) spec_DrawPlaceOf_an (⟨mkE 6 0 [(0, .dat (.list (.int .u8)) x2604)], []⟩ : St) (Ret (tlook tys) Tryd.f14.results.toList r H') :=
  ret_of' (spec_DrawPlaceOf_n1_l x2604) (by unfold spec_DrawPlaceOf; kernel_rfl) (by
  intro t
  exact ret_mk [.slc 0] (by kernel_rfl) (by kernel_rfl) (by kernel_rfl) (by kernel_rfl)) h

def F_spec_DrawPlaceOf : Fun := fun avs H =>
  match avs, H with
  | [.dat (.list (.int .u8)) x2604], [] => ⟨_, spec_DrawPlaceOf x2604, fun (t : (List Int)) => (.slc 0, [some (.seq (.int .i64) t)])⟩
  | _, _ => Ans.no

theorem spec_DrawPlaceOf_sound : Sound Tryd.prog 14 F_spec_DrawPlaceOf := by
  refine fn_sound' (C := spec_DrawPlaceOf_ctx) (c := bodyOf Tryd.f14) (cok_of tys_ok (List.forall_mem_cons.2 ⟨spec_l20Open_sound, List.forall_mem_cons.2 ⟨spec_l20Flat_sound, by simp⟩⟩) (List.forall_mem_cons.2 ⟨Tryd.call19, List.forall_mem_cons.2 ⟨Tryd.call32, by simp⟩⟩) (by kernel_rfl)) Tryd.func14 (by kernel_rfl) LL spec_DrawPlaceOf_an ?_
  intro avs H r H' h
  unfold F_spec_DrawPlaceOf at h
  split at h
  · refine Awp.cast ?_ ?_ ?_ (spec_DrawPlaceOf_e _ h) <;> kernel_rfl
  · simp [Ans.no, Ans.run] at h

/-! loop.example/headtrees/spec.TreeOk -/

def spec_TreeOk_an : Ann := (.seq (.leaf [0]) (.seq (.leaf [0, 3]) (.seq (.seq (.leaf [0, 3, 12]) (.cond (.seq (.leaf [2]) (.leaf [2])) (.leaf [0, 3]))) (.seq (.leaf [0, 3, 4]) (.seq (.seq (.leaf [0, 3, 4, 5]) (.block (.loop (.seq (.seq (.leaf [0, 3, 4, 5, 15]) (.cond (.leaf [0, 3, 4, 5]) (.leaf [4]))) (.seq (.block (.seq (.seq (.leaf [0, 3, 4, 5, 33]) (.cond (.seq (.leaf [2]) (.leaf [2])) (.leaf [0, 3, 4, 5]))) (.seq (.seq (.leaf [0, 3, 4, 5, 38]) (.cond (.leaf [0, 3, 4, 5]) (.leaf [0, 3, 4, 5]))) (.seq (.leaf [0, 3, 4, 5, 6]) (.seq (.seq (.leaf [0, 3, 4, 5, 6, 7]) (.block (.loop (.seq (.seq (.leaf [0, 3, 4, 5, 6, 7, 49]) (.cond (.leaf [0, 3, 4, 5, 6, 7]) (.leaf [0, 3, 4, 5, 6]))) (.seq (.block (.seq (.leaf [0, 3, 4, 5, 6, 7]) (.seq (.leaf [0, 3, 4, 5, 6, 7, 60]) (.cond (.seq (.leaf [2]) (.leaf [2])) (.leaf [0, 3, 4, 5, 6, 7]))))) (.leaf [0, 3, 4, 5, 6, 7])))))) (.seq (.leaf [0, 3, 4, 5, 62]) (.cond (.seq (.leaf [2]) (.leaf [2])) (.leaf [0, 3, 4, 5])))))))) (.leaf [0, 3, 4, 5])))))) (.seq (.leaf [2]) (.leaf [2])))))))

noncomputable def spec_TreeOk_ctx : Ctx := ⟨tlook tys, olook [(24, F_spec_l1In)], ioF, 0⟩

theorem spec_TreeOk_n1_l (x3416 : List Int) : Link spec_TreeOk_ctx LL (Code.seq (Code.fst (bodyOf Tryd.f53)) (Code.seq (Code.fst (Code.snd (bodyOf Tryd.f53))) (Code.seq (Code.fst (Code.snd (Code.snd (bodyOf Tryd.f53)))) (Code.fst (Code.snd (Code.snd (Code.snd (bodyOf Tryd.f53)))))))) (Ann.seq (Ann.fst spec_TreeOk_an) (Ann.seq (Ann.fst (Ann.snd spec_TreeOk_an)) (Ann.seq (Ann.fst (Ann.snd (Ann.snd spec_TreeOk_an))) (Ann.fst (Ann.snd (Ann.snd (Ann.snd spec_TreeOk_an))))))) (⟨mkE 65 0 [(0, .dat (.list (.int .i64)) x3416)], []⟩ : St) (spec_TreeOk_n1 x3416) (Sum.elim (fun (t : Int) => (Exit.normal, (⟨mkE 65 0 [(0, .dat (.list (.int .i64)) x3416), (3, .dat (.int .i64) t), (4, .dat (.int .i64) 0)], []⟩ : St))) (fun (t : Bool) => (Exit.ret, (⟨mkE 65 0 [(2, .dat .bool t)], []⟩ : St)))) := by
  refine Link.of fun K h => ?_
  simp only [spec_TreeOk_n1, wpO_bind, wpO_cond, wpO_map, wpO_some] at h
  exact Awp.of (by kernel_rfl) h

theorem spec_TreeOk_n2_l (x3416 : List Int) (x3421 : Int) : Link spec_TreeOk_ctx LL (Code.fst (Code.fst (Code.snd (Code.snd (Code.snd (Code.snd (bodyOf Tryd.f53))))))) (Ann.fst (Ann.fst (Ann.snd (Ann.snd (Ann.snd (Ann.snd spec_TreeOk_an)))))) (⟨mkE 65 0 [(0, .dat (.list (.int .i64)) x3416), (3, .dat (.int .i64) x3421), (4, .dat (.int .i64) 0)], []⟩ : St) (spec_TreeOk_n2) (fun (t : Unit) => (Exit.normal, (⟨mkE 65 0 [(0, .dat (.list (.int .i64)) x3416), (3, .dat (.int .i64) x3421), (4, .dat (.int .i64) 0), (5, .dat (.int .i64) 0)], []⟩ : St))) := by
  refine Link.of fun K h => ?_
  simp only [spec_TreeOk_n2, wpO_bind, wpO_cond, wpO_map, wpO_some] at h
  exact Awp.of (by kernel_rfl) h

theorem spec_TreeOk_n3_l (x3416 : List Int) (x3421 : Int) (x3488 : Int) (x3489 : Int) : Link spec_TreeOk_ctx LL (Code.fst (Code.fst (Code.fst (Code.snd (Code.fst (Code.snd (Code.snd (Code.snd (Code.snd (bodyOf Tryd.f53)))))))))) (Ann.fst (Ann.fst (Ann.fst (Ann.snd (Ann.fst (Ann.snd (Ann.snd (Ann.snd (Ann.snd spec_TreeOk_an))))))))) (⟨mkE 65 0 [(0, .dat (.list (.int .i64)) x3416), (3, .dat (.int .i64) x3421), (4, .dat (.int .i64) x3488), (5, .dat (.int .i64) x3489)], []⟩ : St) (spec_TreeOk_n3 x3421 x3488 x3489) (Sum.elim (fun (t : Unit) => (Exit.normal, (⟨mkE 65 0 [(0, .dat (.list (.int .i64)) x3416), (3, .dat (.int .i64) x3421), (4, .dat (.int .i64) x3488), (5, .dat (.int .i64) x3489)], []⟩ : St))) (fun (t : Int) => ((Exit.exit 0), (⟨mkE 65 0 [(4, .dat (.int .i64) t)], []⟩ : St)))) := by
  refine Link.of fun K h => ?_
  simp only [spec_TreeOk_n3, wpO_bind, wpO_cond, wpO_map, wpO_some] at h
  exact Awp.of (by kernel_rfl) h

theorem spec_TreeOk_n4_l (x3416 : List Int) (x3421 : Int) (x3488 : Int) (x3489 : Int) : Link spec_TreeOk_ctx LL (Code.seq (Code.fst (Code.fst (Code.fst (Code.snd (Code.fst (Code.fst (Code.snd (Code.fst (Code.snd (Code.snd (Code.snd (Code.snd (bodyOf Tryd.f53))))))))))))) (Code.seq (Code.fst (Code.snd (Code.fst (Code.fst (Code.snd (Code.fst (Code.fst (Code.snd (Code.fst (Code.snd (Code.snd (Code.snd (Code.snd (bodyOf Tryd.f53)))))))))))))) (Code.fst (Code.snd (Code.snd (Code.fst (Code.fst (Code.snd (Code.fst (Code.fst (Code.snd (Code.fst (Code.snd (Code.snd (Code.snd (Code.snd (bodyOf Tryd.f53))))))))))))))))) (Ann.seq (Ann.fst (Ann.fst (Ann.fst (Ann.snd (Ann.fst (Ann.fst (Ann.snd (Ann.fst (Ann.snd (Ann.snd (Ann.snd (Ann.snd spec_TreeOk_an)))))))))))) (Ann.seq (Ann.fst (Ann.snd (Ann.fst (Ann.fst (Ann.snd (Ann.fst (Ann.fst (Ann.snd (Ann.fst (Ann.snd (Ann.snd (Ann.snd (Ann.snd spec_TreeOk_an))))))))))))) (Ann.fst (Ann.snd (Ann.snd (Ann.fst (Ann.fst (Ann.snd (Ann.fst (Ann.fst (Ann.snd (Ann.fst (Ann.snd (Ann.snd (Ann.snd (Ann.snd spec_TreeOk_an)))))))))))))))) (⟨mkE 65 0 [(0, .dat (.list (.int .i64)) x3416), (3, .dat (.int .i64) x3421), (4, .dat (.int .i64) x3488), (5, .dat (.int .i64) x3489)], []⟩ : St) (spec_TreeOk_n4 x3416 x3421 x3488 x3489) (Sum.elim (fun (t : Int × Int) => (Exit.normal, (⟨mkE 65 0 [(0, .dat (.list (.int .i64)) x3416), (3, .dat (.int .i64) x3421), (4, .dat (.int .i64) t.1), (5, .dat (.int .i64) x3489), (6, .dat (.int .i64) t.2)], []⟩ : St))) (fun (t : Bool) => (Exit.ret, (⟨mkE 65 0 [(2, .dat .bool t)], []⟩ : St)))) := by
  refine Link.of fun K h => ?_
  simp only [spec_TreeOk_n4, wpO_bind, wpO_cond, wpO_map, wpO_some] at h
  exact Awp.of (by kernel_rfl) h

theorem spec_TreeOk_n5_l (x3416 : List Int) (x3421 : Int) (x3517 : Int) (x3489 : Int) (x3518 : Int) : Link spec_TreeOk_ctx LL (Code.fst (Code.fst (Code.snd (Code.snd (Code.snd (Code.fst (Code.fst (Code.snd (Code.fst (Code.fst (Code.snd (Code.fst (Code.snd (Code.snd (Code.snd (Code.snd (bodyOf Tryd.f53))))))))))))))))) (Ann.fst (Ann.fst (Ann.snd (Ann.snd (Ann.snd (Ann.fst (Ann.fst (Ann.snd (Ann.fst (Ann.fst (Ann.snd (Ann.fst (Ann.snd (Ann.snd (Ann.snd (Ann.snd spec_TreeOk_an)))))))))))))))) (⟨mkE 65 0 [(0, .dat (.list (.int .i64)) x3416), (3, .dat (.int .i64) x3421), (4, .dat (.int .i64) x3517), (5, .dat (.int .i64) x3489), (6, .dat (.int .i64) x3518)], []⟩ : St) (spec_TreeOk_n5) (fun (t : Unit) => (Exit.normal, (⟨mkE 65 0 [(0, .dat (.list (.int .i64)) x3416), (3, .dat (.int .i64) x3421), (4, .dat (.int .i64) x3517), (5, .dat (.int .i64) x3489), (6, .dat (.int .i64) x3518), (7, .dat (.int .i64) 0)], []⟩ : St))) := by
  refine Link.of fun K h => ?_
  simp only [spec_TreeOk_n5, wpO_bind, wpO_cond, wpO_map, wpO_some] at h
  exact Awp.of (by kernel_rfl) h

theorem spec_TreeOk_n6_l (x3416 : List Int) (x3421 : Int) (x3517 : Int) (x3489 : Int) (x3534 : Int) (x3535 : Int) : Link spec_TreeOk_ctx LL (Code.fst (Code.fst (Code.snd (Code.fst (Code.snd (Code.snd (Code.snd (Code.fst (Code.fst (Code.snd (Code.fst (Code.fst (Code.snd (Code.fst (Code.snd (Code.snd (Code.snd (Code.snd (bodyOf Tryd.f53))))))))))))))))))) (Ann.fst (Ann.fst (Ann.snd (Ann.fst (Ann.snd (Ann.snd (Ann.snd (Ann.fst (Ann.fst (Ann.snd (Ann.fst (Ann.fst (Ann.snd (Ann.fst (Ann.snd (Ann.snd (Ann.snd (Ann.snd spec_TreeOk_an)))))))))))))))))) (⟨mkE 65 0 [(0, .dat (.list (.int .i64)) x3416), (3, .dat (.int .i64) x3421), (4, .dat (.int .i64) x3517), (5, .dat (.int .i64) x3489), (6, .dat (.int .i64) x3534), (7, .dat (.int .i64) x3535)], []⟩ : St) (spec_TreeOk_n6 x3416 x3421 x3534 x3535) (Sum.elim (fun (t : Int × Int) => (Exit.normal, (⟨mkE 65 0 [(0, .dat (.list (.int .i64)) x3416), (3, .dat (.int .i64) x3421), (4, .dat (.int .i64) x3517), (5, .dat (.int .i64) x3489), (6, .dat (.int .i64) t.1), (7, .dat (.int .i64) t.2)], []⟩ : St))) (Sum.elim (fun (t : Bool) => (Exit.ret, (⟨mkE 65 0 [(2, .dat .bool t)], []⟩ : St))) (fun (t : Int) => ((Exit.exit 2), (⟨mkE 65 0 [(0, .dat (.list (.int .i64)) x3416), (3, .dat (.int .i64) x3421), (4, .dat (.int .i64) x3517), (5, .dat (.int .i64) x3489), (6, .dat (.int .i64) t)], []⟩ : St))))) := by
  refine Link.of fun K h => ?_
  simp only [spec_TreeOk_n6, wpO_bind, wpO_cond, wpO_map, wpO_some] at h
  exact Awp.of (by kernel_rfl) h

theorem spec_TreeOk_n7_l (x3416 : List Int) (x3421 : Int) (x3517 : Int) (x3489 : Int) (x3518 : Int) : Link spec_TreeOk_ctx LL (Code.fst (Code.snd (Code.fst (Code.snd (Code.snd (Code.snd (Code.fst (Code.fst (Code.snd (Code.fst (Code.fst (Code.snd (Code.fst (Code.snd (Code.snd (Code.snd (Code.snd (bodyOf Tryd.f53)))))))))))))))))) (Ann.fst (Ann.snd (Ann.fst (Ann.snd (Ann.snd (Ann.snd (Ann.fst (Ann.fst (Ann.snd (Ann.fst (Ann.fst (Ann.snd (Ann.fst (Ann.snd (Ann.snd (Ann.snd (Ann.snd spec_TreeOk_an))))))))))))))))) (⟨mkE 65 0 [(0, .dat (.list (.int .i64)) x3416), (3, .dat (.int .i64) x3421), (4, .dat (.int .i64) x3517), (5, .dat (.int .i64) x3489), (6, .dat (.int .i64) x3518), (7, .dat (.int .i64) 0)], []⟩ : St) (spec_TreeOk_n7 x3416 x3421 x3518) (Sum.elim (fun (t : Bool) => (Exit.ret, (⟨mkE 65 0 [(2, .dat .bool t)], []⟩ : St))) (fun (t : Int) => ((Exit.exit 2), (⟨mkE 65 0 [(0, .dat (.list (.int .i64)) x3416), (3, .dat (.int .i64) x3421), (4, .dat (.int .i64) x3517), (5, .dat (.int .i64) x3489), (6, .dat (.int .i64) t)], []⟩ : St)))) := by
  unfold spec_TreeOk_n7
  exact Link.cast (by kernel_rfl) (by kernel_rfl) (link_loop (mk := fun (s : Int × Int) => (⟨mkE 65 0 [(0, .dat (.list (.int .i64)) x3416), (3, .dat (.int .i64) x3421), (4, .dat (.int .i64) x3517), (5, .dat (.int .i64) x3489), (6, .dat (.int .i64) s.1), (7, .dat (.int .i64) s.2)], []⟩ : St)) (fin := (Sum.elim (fun (t : Bool) => (Exit.ret, (⟨mkE 65 0 [(2, .dat .bool t)], []⟩ : St))) (fun (t : Int) => ((Exit.exit 2), (⟨mkE 65 0 [(0, .dat (.list (.int .i64)) x3416), (3, .dat (.int .i64) x3421), (4, .dat (.int .i64) x3517), (5, .dat (.int .i64) x3489), (6, .dat (.int .i64) t)], []⟩ : St))))) (by
  rintro (t | t) f K h
  · exact h
  · exact h) (fun s => link_map (spec_TreeOk_n6_l x3416 x3421 x3517 x3489 s.1 s.2) (Sum.elim (fun (t : Int × Int) => Sum.inl (t.1, t.2)) (Sum.elim (fun (t : Bool) => Sum.inr (Sum.inl t)) (fun (t : Int) => Sum.inr (Sum.inr t)))) (by
  rintro (t | t | t)
  · kernel_rfl
  · kernel_rfl
  · kernel_rfl)) (x3518, 0))

theorem spec_TreeOk_n8_l (x3416 : List Int) (x3421 : Int) (x3517 : Int) (x3489 : Int) (x3518 : Int) : Link spec_TreeOk_ctx LL (Code.snd (Code.fst (Code.snd (Code.snd (Code.snd (Code.fst (Code.fst (Code.snd (Code.fst (Code.fst (Code.snd (Code.fst (Code.snd (Code.snd (Code.snd (Code.snd (bodyOf Tryd.f53))))))))))))))))) (Ann.snd (Ann.fst (Ann.snd (Ann.snd (Ann.snd (Ann.fst (Ann.fst (Ann.snd (Ann.fst (Ann.fst (Ann.snd (Ann.fst (Ann.snd (Ann.snd (Ann.snd (Ann.snd spec_TreeOk_an)))))))))))))))) (⟨mkE 65 0 [(0, .dat (.list (.int .i64)) x3416), (3, .dat (.int .i64) x3421), (4, .dat (.int .i64) x3517), (5, .dat (.int .i64) x3489), (6, .dat (.int .i64) x3518), (7, .dat (.int .i64) 0)], []⟩ : St) (spec_TreeOk_n8 x3416 x3421 x3518) (Sum.elim (fun (t : Int) => (Exit.normal, (⟨mkE 65 0 [(0, .dat (.list (.int .i64)) x3416), (3, .dat (.int .i64) x3421), (4, .dat (.int .i64) x3517), (5, .dat (.int .i64) x3489), (6, .dat (.int .i64) t)], []⟩ : St))) (fun (t : Bool) => (Exit.ret, (⟨mkE 65 0 [(2, .dat .bool t)], []⟩ : St)))) := by
  unfold spec_TreeOk_n8
  exact Link.cast (by kernel_rfl) (by kernel_rfl) (link_block (id := 2) (spec_TreeOk_n7_l x3416 x3421 x3517 x3489 x3518) (Sum.elim (fun (t : Bool) => (Sum.inr t)) (fun (t : Int) => (Sum.inl t))) (by
  rintro (t | t) K h
  · exact Eq.mp (by kernel_rfl) h
  · exact Eq.mp (by kernel_rfl) h))

theorem spec_TreeOk_n9_l (x3416 : List Int) (x3421 : Int) (x3517 : Int) (x3489 : Int) (x3518 : Int) : Link spec_TreeOk_ctx LL (Code.fst (Code.snd (Code.snd (Code.snd (Code.fst (Code.fst (Code.snd (Code.fst (Code.fst (Code.snd (Code.fst (Code.snd (Code.snd (Code.snd (Code.snd (bodyOf Tryd.f53)))))))))))))))) (Ann.fst (Ann.snd (Ann.snd (Ann.snd (Ann.fst (Ann.fst (Ann.snd (Ann.fst (Ann.fst (Ann.snd (Ann.fst (Ann.snd (Ann.snd (Ann.snd (Ann.snd spec_TreeOk_an))))))))))))))) (⟨mkE 65 0 [(0, .dat (.list (.int .i64)) x3416), (3, .dat (.int .i64) x3421), (4, .dat (.int .i64) x3517), (5, .dat (.int .i64) x3489), (6, .dat (.int .i64) x3518)], []⟩ : St) (spec_TreeOk_n9 x3416 x3421 x3518) (Sum.elim (fun (t : Int) => (Exit.normal, (⟨mkE 65 0 [(0, .dat (.list (.int .i64)) x3416), (3, .dat (.int .i64) x3421), (4, .dat (.int .i64) x3517), (5, .dat (.int .i64) x3489), (6, .dat (.int .i64) t)], []⟩ : St))) (fun (t : Bool) => (Exit.ret, (⟨mkE 65 0 [(2, .dat .bool t)], []⟩ : St)))) := by
  unfold spec_TreeOk_n9
  exact Link.cast (by kernel_rfl) (by kernel_rfl) (link_seq (b := (Code.snd (Code.fst (Code.snd (Code.snd (Code.snd (Code.fst (Code.fst (Code.snd (Code.fst (Code.fst (Code.snd (Code.fst (Code.snd (Code.snd (Code.snd (Code.snd (bodyOf Tryd.f53)))))))))))))))))) (y := (Ann.snd (Ann.fst (Ann.snd (Ann.snd (Ann.snd (Ann.fst (Ann.fst (Ann.snd (Ann.fst (Ann.fst (Ann.snd (Ann.fst (Ann.snd (Ann.snd (Ann.snd (Ann.snd spec_TreeOk_an))))))))))))))))) (spec_TreeOk_n5_l x3416 x3421 x3517 x3489 x3518) (fun (t : Unit) => (spec_TreeOk_n8_l x3416 x3421 x3517 x3489 x3518)))

theorem spec_TreeOk_n10_l (x3416 : List Int) (x3421 : Int) (x3517 : Int) (x3489 : Int) (x3534 : Int) : Link spec_TreeOk_ctx LL (Code.snd (Code.snd (Code.snd (Code.snd (Code.fst (Code.fst (Code.snd (Code.fst (Code.fst (Code.snd (Code.fst (Code.snd (Code.snd (Code.snd (Code.snd (bodyOf Tryd.f53)))))))))))))))) (Ann.snd (Ann.snd (Ann.snd (Ann.snd (Ann.fst (Ann.fst (Ann.snd (Ann.fst (Ann.fst (Ann.snd (Ann.fst (Ann.snd (Ann.snd (Ann.snd (Ann.snd spec_TreeOk_an))))))))))))))) (⟨mkE 65 0 [(0, .dat (.list (.int .i64)) x3416), (3, .dat (.int .i64) x3421), (4, .dat (.int .i64) x3517), (5, .dat (.int .i64) x3489), (6, .dat (.int .i64) x3534)], []⟩ : St) (spec_TreeOk_n10 x3534) (Sum.elim (fun (t : Unit) => (Exit.normal, (⟨mkE 65 0 [(0, .dat (.list (.int .i64)) x3416), (3, .dat (.int .i64) x3421), (4, .dat (.int .i64) x3517), (5, .dat (.int .i64) x3489)], []⟩ : St))) (fun (t : Bool) => (Exit.ret, (⟨mkE 65 0 [(2, .dat .bool t)], []⟩ : St)))) := by
  refine Link.of fun K h => ?_
  simp only [spec_TreeOk_n10, wpO_bind, wpO_cond, wpO_map, wpO_some] at h
  exact Awp.of (by kernel_rfl) h

theorem spec_TreeOk_n11_l (x3416 : List Int) (x3421 : Int) (x3517 : Int) (x3489 : Int) (x3518 : Int) : Link spec_TreeOk_ctx LL (Code.snd (Code.snd (Code.snd (Code.fst (Code.fst (Code.snd (Code.fst (Code.fst (Code.snd (Code.fst (Code.snd (Code.snd (Code.snd (Code.snd (bodyOf Tryd.f53))))))))))))))) (Ann.snd (Ann.snd (Ann.snd (Ann.fst (Ann.fst (Ann.snd (Ann.fst (Ann.fst (Ann.snd (Ann.fst (Ann.snd (Ann.snd (Ann.snd (Ann.snd spec_TreeOk_an)))))))))))))) (⟨mkE 65 0 [(0, .dat (.list (.int .i64)) x3416), (3, .dat (.int .i64) x3421), (4, .dat (.int .i64) x3517), (5, .dat (.int .i64) x3489), (6, .dat (.int .i64) x3518)], []⟩ : St) (spec_TreeOk_n11 x3416 x3421 x3518) (Sum.elim (fun (t : Unit) => (Exit.normal, (⟨mkE 65 0 [(0, .dat (.list (.int .i64)) x3416), (3, .dat (.int .i64) x3421), (4, .dat (.int .i64) x3517), (5, .dat (.int .i64) x3489)], []⟩ : St))) (fun (t : Bool) => (Exit.ret, (⟨mkE 65 0 [(2, .dat .bool t)], []⟩ : St)))) := by
  unfold spec_TreeOk_n11
  exact Link.cast (by kernel_rfl) (by kernel_rfl) (link_seq2 (b := (Code.snd (Code.snd (Code.snd (Code.snd (Code.fst (Code.fst (Code.snd (Code.fst (Code.fst (Code.snd (Code.fst (Code.snd (Code.snd (Code.snd (Code.snd (bodyOf Tryd.f53))))))))))))))))) (y := (Ann.snd (Ann.snd (Ann.snd (Ann.snd (Ann.fst (Ann.fst (Ann.snd (Ann.fst (Ann.fst (Ann.snd (Ann.fst (Ann.snd (Ann.snd (Ann.snd (Ann.snd spec_TreeOk_an)))))))))))))))) (spec_TreeOk_n9_l x3416 x3421 x3517 x3489 x3518) (fun (t : Int) => (spec_TreeOk_n10_l x3416 x3421 x3517 x3489 t)) (fun (t : Bool) => (Sum.inr t)) (by
  rintro t
  · kernel_rfl) (by
  rintro t f K h
  · exact h))

theorem spec_TreeOk_n12_l (x3416 : List Int) (x3421 : Int) (x3488 : Int) (x3489 : Int) : Link spec_TreeOk_ctx LL (Code.fst (Code.fst (Code.snd (Code.fst (Code.fst (Code.snd (Code.fst (Code.snd (Code.snd (Code.snd (Code.snd (bodyOf Tryd.f53)))))))))))) (Ann.fst (Ann.fst (Ann.snd (Ann.fst (Ann.fst (Ann.snd (Ann.fst (Ann.snd (Ann.snd (Ann.snd (Ann.snd spec_TreeOk_an))))))))))) (⟨mkE 65 0 [(0, .dat (.list (.int .i64)) x3416), (3, .dat (.int .i64) x3421), (4, .dat (.int .i64) x3488), (5, .dat (.int .i64) x3489)], []⟩ : St) (spec_TreeOk_n12 x3416 x3421 x3488 x3489) (Sum.elim (fun (t : Int) => (Exit.normal, (⟨mkE 65 0 [(0, .dat (.list (.int .i64)) x3416), (3, .dat (.int .i64) x3421), (4, .dat (.int .i64) t), (5, .dat (.int .i64) x3489)], []⟩ : St))) (fun (t : Bool) => (Exit.ret, (⟨mkE 65 0 [(2, .dat .bool t)], []⟩ : St)))) := by
  unfold spec_TreeOk_n12
  exact Link.cast (by kernel_rfl) (by kernel_rfl) (link_group (c := (Code.fst (Code.snd (Code.snd (Code.fst (Code.fst (Code.snd (Code.fst (Code.fst (Code.snd (Code.fst (Code.snd (Code.snd (Code.snd (Code.snd (bodyOf Tryd.f53)))))))))))))))) (a := (Ann.fst (Ann.snd (Ann.snd (Ann.fst (Ann.fst (Ann.snd (Ann.fst (Ann.fst (Ann.snd (Ann.fst (Ann.snd (Ann.snd (Ann.snd (Ann.snd spec_TreeOk_an))))))))))))))) [(Code.fst (Code.fst (Code.fst (Code.snd (Code.fst (Code.fst (Code.snd (Code.fst (Code.snd (Code.snd (Code.snd (Code.snd (bodyOf Tryd.f53))))))))))))), (Code.fst (Code.snd (Code.fst (Code.fst (Code.snd (Code.fst (Code.fst (Code.snd (Code.fst (Code.snd (Code.snd (Code.snd (Code.snd (bodyOf Tryd.f53))))))))))))))] [(Ann.fst (Ann.fst (Ann.fst (Ann.snd (Ann.fst (Ann.fst (Ann.snd (Ann.fst (Ann.snd (Ann.snd (Ann.snd (Ann.snd spec_TreeOk_an)))))))))))), (Ann.fst (Ann.snd (Ann.fst (Ann.fst (Ann.snd (Ann.fst (Ann.fst (Ann.snd (Ann.fst (Ann.snd (Ann.snd (Ann.snd (Ann.snd spec_TreeOk_an)))))))))))))] rfl (link_seq2 (b := (Code.snd (Code.snd (Code.snd (Code.fst (Code.fst (Code.snd (Code.fst (Code.fst (Code.snd (Code.fst (Code.snd (Code.snd (Code.snd (Code.snd (bodyOf Tryd.f53)))))))))))))))) (y := (Ann.snd (Ann.snd (Ann.snd (Ann.fst (Ann.fst (Ann.snd (Ann.fst (Ann.fst (Ann.snd (Ann.fst (Ann.snd (Ann.snd (Ann.snd (Ann.snd spec_TreeOk_an))))))))))))))) (spec_TreeOk_n4_l x3416 x3421 x3488 x3489) (fun (t : Int × Int) => (link_map (spec_TreeOk_n11_l x3416 x3421 t.1 x3489 t.2) (Sum.elim (fun (u : Unit) => (Sum.inl t.1)) (fun (u : Bool) => (Sum.inr u))) (by
  rintro (t | t)
  · kernel_rfl
  · kernel_rfl))) (fun (t : Bool) => (Sum.inr t)) (by
  rintro t
  · kernel_rfl) (by
  rintro t f K h
  · exact h)))

theorem spec_TreeOk_n13_l (x3416 : List Int) (x3421 : Int) (x3488 : Int) (x3489 : Int) : Link spec_TreeOk_ctx LL (Code.fst (Code.snd (Code.fst (Code.fst (Code.snd (Code.fst (Code.snd (Code.snd (Code.snd (Code.snd (bodyOf Tryd.f53))))))))))) (Ann.fst (Ann.snd (Ann.fst (Ann.fst (Ann.snd (Ann.fst (Ann.snd (Ann.snd (Ann.snd (Ann.snd spec_TreeOk_an)))))))))) (⟨mkE 65 0 [(0, .dat (.list (.int .i64)) x3416), (3, .dat (.int .i64) x3421), (4, .dat (.int .i64) x3488), (5, .dat (.int .i64) x3489)], []⟩ : St) (spec_TreeOk_n13 x3416 x3421 x3488 x3489) (Sum.elim (fun (t : Int) => (Exit.normal, (⟨mkE 65 0 [(0, .dat (.list (.int .i64)) x3416), (3, .dat (.int .i64) x3421), (4, .dat (.int .i64) t), (5, .dat (.int .i64) x3489)], []⟩ : St))) (fun (t : Bool) => (Exit.ret, (⟨mkE 65 0 [(2, .dat .bool t)], []⟩ : St)))) := by
  unfold spec_TreeOk_n13
  exact Link.cast (by kernel_rfl) (by kernel_rfl) (link_block (id := 1) (spec_TreeOk_n12_l x3416 x3421 x3488 x3489) (Sum.elim (fun (t : Int) => (Sum.inl t)) (fun (t : Bool) => (Sum.inr t))) (by
  rintro (t | t) K h
  · exact Eq.mp (by kernel_rfl) h
  · exact Eq.mp (by kernel_rfl) h))

theorem spec_TreeOk_n14_l (x3416 : List Int) (x3421 : Int) (x3517 : Int) (x3489 : Int) : Link spec_TreeOk_ctx LL (Code.snd (Code.snd (Code.fst (Code.fst (Code.snd (Code.fst (Code.snd (Code.snd (Code.snd (Code.snd (bodyOf Tryd.f53))))))))))) (Ann.snd (Ann.snd (Ann.fst (Ann.fst (Ann.snd (Ann.fst (Ann.snd (Ann.snd (Ann.snd (Ann.snd spec_TreeOk_an)))))))))) (⟨mkE 65 0 [(0, .dat (.list (.int .i64)) x3416), (3, .dat (.int .i64) x3421), (4, .dat (.int .i64) x3517), (5, .dat (.int .i64) x3489)], []⟩ : St) (spec_TreeOk_n14 x3489) (fun (t : Int) => (Exit.normal, (⟨mkE 65 0 [(0, .dat (.list (.int .i64)) x3416), (3, .dat (.int .i64) x3421), (4, .dat (.int .i64) x3517), (5, .dat (.int .i64) t)], []⟩ : St))) := by
  refine Link.of fun K h => ?_
  simp only [spec_TreeOk_n14, wpO_bind, wpO_cond, wpO_map, wpO_some] at h
  exact Awp.of (by kernel_rfl) h

theorem spec_TreeOk_n15_l (x3416 : List Int) (x3421 : Int) (x3488 : Int) (x3489 : Int) : Link spec_TreeOk_ctx LL (Code.snd (Code.fst (Code.fst (Code.snd (Code.fst (Code.snd (Code.snd (Code.snd (Code.snd (bodyOf Tryd.f53)))))))))) (Ann.snd (Ann.fst (Ann.fst (Ann.snd (Ann.fst (Ann.snd (Ann.snd (Ann.snd (Ann.snd spec_TreeOk_an))))))))) (⟨mkE 65 0 [(0, .dat (.list (.int .i64)) x3416), (3, .dat (.int .i64) x3421), (4, .dat (.int .i64) x3488), (5, .dat (.int .i64) x3489)], []⟩ : St) (spec_TreeOk_n15 x3416 x3421 x3488 x3489) (Sum.elim (fun (t : Int × Int) => (Exit.normal, (⟨mkE 65 0 [(0, .dat (.list (.int .i64)) x3416), (3, .dat (.int .i64) x3421), (4, .dat (.int .i64) t.1), (5, .dat (.int .i64) t.2)], []⟩ : St))) (fun (t : Bool) => (Exit.ret, (⟨mkE 65 0 [(2, .dat .bool t)], []⟩ : St)))) := by
  unfold spec_TreeOk_n15
  exact Link.cast (by kernel_rfl) (by kernel_rfl) (link_seq2 (b := (Code.snd (Code.snd (Code.fst (Code.fst (Code.snd (Code.fst (Code.snd (Code.snd (Code.snd (Code.snd (bodyOf Tryd.f53)))))))))))) (y := (Ann.snd (Ann.snd (Ann.fst (Ann.fst (Ann.snd (Ann.fst (Ann.snd (Ann.snd (Ann.snd (Ann.snd spec_TreeOk_an))))))))))) (spec_TreeOk_n13_l x3416 x3421 x3488 x3489) (fun (t : Int) => (link_map (spec_TreeOk_n14_l x3416 x3421 t x3489) (fun (u : Int) => (Sum.inl (t, u))) (by
  rintro t
  · kernel_rfl))) (fun (t : Bool) => (Sum.inr t)) (by
  rintro t
  · kernel_rfl) (by
  rintro t f K h
  · exact h))

theorem spec_TreeOk_n16_l (x3416 : List Int) (x3421 : Int) (x3488 : Int) (x3489 : Int) : Link spec_TreeOk_ctx LL (Code.fst (Code.fst (Code.snd (Code.fst (Code.snd (Code.snd (Code.snd (Code.snd (bodyOf Tryd.f53))))))))) (Ann.fst (Ann.fst (Ann.snd (Ann.fst (Ann.snd (Ann.snd (Ann.snd (Ann.snd spec_TreeOk_an)))))))) (⟨mkE 65 0 [(0, .dat (.list (.int .i64)) x3416), (3, .dat (.int .i64) x3421), (4, .dat (.int .i64) x3488), (5, .dat (.int .i64) x3489)], []⟩ : St) (spec_TreeOk_n16 x3416 x3421 x3488 x3489) (Sum.elim (fun (t : Int × Int) => (Exit.normal, (⟨mkE 65 0 [(0, .dat (.list (.int .i64)) x3416), (3, .dat (.int .i64) x3421), (4, .dat (.int .i64) t.1), (5, .dat (.int .i64) t.2)], []⟩ : St))) (Sum.elim (fun (t : Bool) => (Exit.ret, (⟨mkE 65 0 [(2, .dat .bool t)], []⟩ : St))) (fun (t : Int) => ((Exit.exit 0), (⟨mkE 65 0 [(4, .dat (.int .i64) t)], []⟩ : St))))) := by
  unfold spec_TreeOk_n16
  exact Link.cast (by kernel_rfl) (by kernel_rfl) (link_seq2 (b := (Code.snd (Code.fst (Code.fst (Code.snd (Code.fst (Code.snd (Code.snd (Code.snd (Code.snd (bodyOf Tryd.f53))))))))))) (y := (Ann.snd (Ann.fst (Ann.fst (Ann.snd (Ann.fst (Ann.snd (Ann.snd (Ann.snd (Ann.snd spec_TreeOk_an)))))))))) (spec_TreeOk_n3_l x3416 x3421 x3488 x3489) (fun (t : Unit) => (link_map (spec_TreeOk_n15_l x3416 x3421 x3488 x3489) (Sum.elim (fun (t : Int × Int) => (Sum.inl (t.1, t.2))) (fun (t : Bool) => (Sum.inr (Sum.inl t)))) (by
  rintro (t | t)
  · kernel_rfl
  · kernel_rfl))) (fun (t : Int) => (Sum.inr (Sum.inr t))) (by
  rintro t
  · kernel_rfl) (by
  rintro t f K h
  · exact h))

theorem spec_TreeOk_n17_l (x3416 : List Int) (x3421 : Int) : Link spec_TreeOk_ctx LL (Code.fst (Code.snd (Code.fst (Code.snd (Code.snd (Code.snd (Code.snd (bodyOf Tryd.f53)))))))) (Ann.fst (Ann.snd (Ann.fst (Ann.snd (Ann.snd (Ann.snd (Ann.snd spec_TreeOk_an))))))) (⟨mkE 65 0 [(0, .dat (.list (.int .i64)) x3416), (3, .dat (.int .i64) x3421), (4, .dat (.int .i64) 0), (5, .dat (.int .i64) 0)], []⟩ : St) (spec_TreeOk_n17 x3416 x3421) (Sum.elim (fun (t : Bool) => (Exit.ret, (⟨mkE 65 0 [(2, .dat .bool t)], []⟩ : St))) (fun (t : Int) => ((Exit.exit 0), (⟨mkE 65 0 [(4, .dat (.int .i64) t)], []⟩ : St)))) := by
  unfold spec_TreeOk_n17
  exact Link.cast (by kernel_rfl) (by kernel_rfl) (link_loop (mk := fun (s : Int × Int) => (⟨mkE 65 0 [(0, .dat (.list (.int .i64)) x3416), (3, .dat (.int .i64) x3421), (4, .dat (.int .i64) s.1), (5, .dat (.int .i64) s.2)], []⟩ : St)) (fin := (Sum.elim (fun (t : Bool) => (Exit.ret, (⟨mkE 65 0 [(2, .dat .bool t)], []⟩ : St))) (fun (t : Int) => ((Exit.exit 0), (⟨mkE 65 0 [(4, .dat (.int .i64) t)], []⟩ : St))))) (by
  rintro (t | t) f K h
  · exact h
  · exact h) (fun s => link_map (spec_TreeOk_n16_l x3416 x3421 s.1 s.2) (Sum.elim (fun (t : Int × Int) => Sum.inl (t.1, t.2)) (Sum.elim (fun (t : Bool) => Sum.inr (Sum.inl t)) (fun (t : Int) => Sum.inr (Sum.inr t)))) (by
  rintro (t | t | t)
  · kernel_rfl
  · kernel_rfl
  · kernel_rfl)) (0, 0))

theorem spec_TreeOk_n18_l (x3416 : List Int) (x3421 : Int) : Link spec_TreeOk_ctx LL (Code.snd (Code.fst (Code.snd (Code.snd (Code.snd (Code.snd (bodyOf Tryd.f53))))))) (Ann.snd (Ann.fst (Ann.snd (Ann.snd (Ann.snd (Ann.snd spec_TreeOk_an)))))) (⟨mkE 65 0 [(0, .dat (.list (.int .i64)) x3416), (3, .dat (.int .i64) x3421), (4, .dat (.int .i64) 0), (5, .dat (.int .i64) 0)], []⟩ : St) (spec_TreeOk_n18 x3416 x3421) (Sum.elim (fun (t : Int) => (Exit.normal, (⟨mkE 65 0 [(4, .dat (.int .i64) t)], []⟩ : St))) (fun (t : Bool) => (Exit.ret, (⟨mkE 65 0 [(2, .dat .bool t)], []⟩ : St)))) := by
  unfold spec_TreeOk_n18
  exact Link.cast (by kernel_rfl) (by kernel_rfl) (link_block (id := 0) (spec_TreeOk_n17_l x3416 x3421) (Sum.elim (fun (t : Bool) => (Sum.inr t)) (fun (t : Int) => (Sum.inl t))) (by
  rintro (t | t) K h
  · exact Eq.mp (by kernel_rfl) h
  · exact Eq.mp (by kernel_rfl) h))

theorem spec_TreeOk_n19_l (x3416 : List Int) (x3421 : Int) : Link spec_TreeOk_ctx LL (Code.fst (Code.snd (Code.snd (Code.snd (Code.snd (bodyOf Tryd.f53)))))) (Ann.fst (Ann.snd (Ann.snd (Ann.snd (Ann.snd spec_TreeOk_an))))) (⟨mkE 65 0 [(0, .dat (.list (.int .i64)) x3416), (3, .dat (.int .i64) x3421), (4, .dat (.int .i64) 0)], []⟩ : St) (spec_TreeOk_n19 x3416 x3421) (Sum.elim (fun (t : Int) => (Exit.normal, (⟨mkE 65 0 [(4, .dat (.int .i64) t)], []⟩ : St))) (fun (t : Bool) => (Exit.ret, (⟨mkE 65 0 [(2, .dat .bool t)], []⟩ : St)))) := by
  unfold spec_TreeOk_n19
  exact Link.cast (by kernel_rfl) (by kernel_rfl) (link_seq (b := (Code.snd (Code.fst (Code.snd (Code.snd (Code.snd (Code.snd (bodyOf Tryd.f53)))))))) (y := (Ann.snd (Ann.fst (Ann.snd (Ann.snd (Ann.snd (Ann.snd spec_TreeOk_an))))))) (spec_TreeOk_n2_l x3416 x3421) (fun (t : Unit) => (spec_TreeOk_n18_l x3416 x3421)))

theorem spec_TreeOk_n20_l (x3488 : Int) : Link spec_TreeOk_ctx LL (Code.snd (Code.snd (Code.snd (Code.snd (Code.snd (bodyOf Tryd.f53)))))) (Ann.snd (Ann.snd (Ann.snd (Ann.snd (Ann.snd spec_TreeOk_an))))) (⟨mkE 65 0 [(4, .dat (.int .i64) x3488)], []⟩ : St) (spec_TreeOk_n20 x3488) (fun (t : Bool) => (Exit.ret, (⟨mkE 65 0 [(2, .dat .bool t)], []⟩ : St))) := by
  refine Link.of fun K h => ?_
  simp only [spec_TreeOk_n20, wpO_bind, wpO_cond, wpO_map, wpO_some] at h
  exact Awp.of (by kernel_rfl) h

theorem spec_TreeOk_n21_l (x3416 : List Int) (x3421 : Int) : Link spec_TreeOk_ctx LL (Code.snd (Code.snd (Code.snd (Code.snd (bodyOf Tryd.f53))))) (Ann.snd (Ann.snd (Ann.snd (Ann.snd spec_TreeOk_an)))) (⟨mkE 65 0 [(0, .dat (.list (.int .i64)) x3416), (3, .dat (.int .i64) x3421), (4, .dat (.int .i64) 0)], []⟩ : St) (spec_TreeOk_n21 x3416 x3421) (fun (t : Bool) => (Exit.ret, (⟨mkE 65 0 [(2, .dat .bool t)], []⟩ : St))) := by
  unfold spec_TreeOk_n21
  exact Link.cast (by kernel_rfl) (by kernel_rfl) (link_seq2 (b := (Code.snd (Code.snd (Code.snd (Code.snd (Code.snd (bodyOf Tryd.f53))))))) (y := (Ann.snd (Ann.snd (Ann.snd (Ann.snd (Ann.snd spec_TreeOk_an)))))) (spec_TreeOk_n19_l x3416 x3421) (fun (t : Int) => (spec_TreeOk_n20_l t)) (fun (t : Bool) => t) (by
  rintro t
  · kernel_rfl) (by
  rintro t f K h
  · exact h))

theorem spec_TreeOk_n22_l (x3416 : List Int) : Link spec_TreeOk_ctx LL (bodyOf Tryd.f53) spec_TreeOk_an (⟨mkE 65 0 [(0, .dat (.list (.int .i64)) x3416)], []⟩ : St) (spec_TreeOk_n22 x3416) (fun (t : Bool) => (Exit.ret, (⟨mkE 65 0 [(2, .dat .bool t)], []⟩ : St))) := by
  unfold spec_TreeOk_n22
  exact Link.cast (by kernel_rfl) (by kernel_rfl) (link_group (c := (Code.fst (Code.snd (Code.snd (Code.snd (bodyOf Tryd.f53)))))) (a := (Ann.fst (Ann.snd (Ann.snd (Ann.snd spec_TreeOk_an))))) [(Code.fst (bodyOf Tryd.f53)), (Code.fst (Code.snd (bodyOf Tryd.f53))), (Code.fst (Code.snd (Code.snd (bodyOf Tryd.f53))))] [(Ann.fst spec_TreeOk_an), (Ann.fst (Ann.snd spec_TreeOk_an)), (Ann.fst (Ann.snd (Ann.snd spec_TreeOk_an)))] rfl (link_seq2 (b := (Code.snd (Code.snd (Code.snd (Code.snd (bodyOf Tryd.f53)))))) (y := (Ann.snd (Ann.snd (Ann.snd (Ann.snd spec_TreeOk_an))))) (spec_TreeOk_n1_l x3416) (fun (t : Int) => (spec_TreeOk_n21_l x3416 t)) (fun (t : Bool) => t) (by
  rintro t
  · kernel_rfl) (by
  rintro t f K h
  · exact h)))

theorem spec_TreeOk_e (x3416 : List Int) {r : AV} {H' : Heap} (h : (Ans.mk _ (spec_TreeOk x3416) (fun (t : Bool) => (.dat .bool t, []))).run = some (r, H')) : Awp spec_TreeOk_ctx LL (bodyOf Tryd.f53) spec_TreeOk_an (⟨mkE 65 0 [(0, .dat (.list (.int .i64)) x3416)], []⟩ : St) (Ret (tlook tys) Tryd.f53.results.toList r H') :=
  ret_of' (spec_TreeOk_n22_l x3416) (by unfold spec_TreeOk; kernel_rfl) (by
  intro t
  exact ret_mk [.dat .bool t] (by kernel_rfl) (by kernel_rfl) (by kernel_rfl) (by kernel_rfl)) h

def F_spec_TreeOk : Fun := fun avs H =>
  match avs, H with
  | [.dat (.list (.int .i64)) x3416], [] => ⟨_, spec_TreeOk x3416, fun (t : Bool) => (.dat .bool t, [])⟩
  | _, _ => Ans.no

theorem spec_TreeOk_sound : Sound Tryd.prog 53 F_spec_TreeOk := by
  refine fn_sound' (C := spec_TreeOk_ctx) (c := bodyOf Tryd.f53) (cok_of tys_ok (List.forall_mem_cons.2 ⟨spec_l1In_sound, by simp⟩) (List.forall_mem_cons.2 ⟨Tryd.call24, by simp⟩) (by kernel_rfl)) Tryd.func53 (by kernel_rfl) LL spec_TreeOk_an ?_
  intro avs H r H' h
  unfold F_spec_TreeOk at h
  split at h
  · refine Awp.cast ?_ ?_ ?_ (spec_TreeOk_e _ h) <;> kernel_rfl
  · simp [Ans.no, Ans.run] at h

/-! loop.example/headtrees/spec.l2Yield -/

def spec_l2Yield_an : Ann := (.seq (.leaf [0, 1]) (.seq (.leaf [0, 1, 5]) (.seq (.seq (.leaf [0, 1, 5, 6]) (.block (.loop (.seq (.seq (.leaf [0, 1, 5, 6, 13]) (.cond (.leaf [0, 1, 5, 6]) (.leaf [5]))) (.seq (.block (.seq (.leaf [0, 1, 5, 6, 21]) (.cond (.leaf [0, 1, 5, 6]) (.leaf [0, 1, 5, 6])))) (.leaf [0, 1, 5, 6])))))) (.seq (.leaf [4]) (.leaf [4])))))

def F_spec_l2Yield_fuel (n : Nat) : Fun := fun avs H =>
  match avs, H with
  | [.dat (.list (.int .i64)) x3561, .dat (.int .i64) x3562], [] => ⟨_, spec_l2Yield_fuel n x3561 x3562, fun (t : Int) => (.dat (.int .i64) t, [])⟩
  | _, _ => Ans.no

noncomputable def spec_l2Yield_ctx (n : Nat) : Ctx := ⟨tlook tys, olook [(55, F_spec_l2Yield_fuel n)], ioF, 0⟩

theorem spec_l2Yield_n1_l (n : Nat) (x3561 : List Int) (x3562 : Int) : Link (spec_l2Yield_ctx n) LL (Code.seq (Code.fst (bodyOf Tryd.f55)) (Code.fst (Code.snd (bodyOf Tryd.f55)))) (Ann.seq (Ann.fst spec_l2Yield_an) (Ann.fst (Ann.snd spec_l2Yield_an))) (⟨mkE 29 0 [(0, .dat (.list (.int .i64)) x3561), (1, .dat (.int .i64) x3562)], []⟩ : St) (spec_l2Yield_n1 (spec_l2Yield_fuel n) x3562) (fun (t : Int) => (Exit.normal, (⟨mkE 29 0 [(0, .dat (.list (.int .i64)) x3561), (1, .dat (.int .i64) x3562), (5, .dat (.int .i64) t)], []⟩ : St))) := by
  refine Link.of fun K h => ?_
  simp only [spec_l2Yield_n1, wpO_bind, wpO_cond, wpO_map, wpO_some] at h
  exact Awp.of (by kernel_rfl) h

theorem spec_l2Yield_n2_l (n : Nat) (x3561 : List Int) (x3562 : Int) (x3593 : Int) : Link (spec_l2Yield_ctx n) LL (Code.fst (Code.fst (Code.snd (Code.snd (bodyOf Tryd.f55))))) (Ann.fst (Ann.fst (Ann.snd (Ann.snd spec_l2Yield_an)))) (⟨mkE 29 0 [(0, .dat (.list (.int .i64)) x3561), (1, .dat (.int .i64) x3562), (5, .dat (.int .i64) x3593)], []⟩ : St) (spec_l2Yield_n2 (spec_l2Yield_fuel n)) (fun (t : Unit) => (Exit.normal, (⟨mkE 29 0 [(0, .dat (.list (.int .i64)) x3561), (1, .dat (.int .i64) x3562), (5, .dat (.int .i64) x3593), (6, .dat (.int .i64) 0)], []⟩ : St))) := by
  refine Link.of fun K h => ?_
  simp only [spec_l2Yield_n2, wpO_bind, wpO_cond, wpO_map, wpO_some] at h
  exact Awp.of (by kernel_rfl) h

theorem spec_l2Yield_n3_l (n : Nat) (x3561 : List Int) (x3562 : Int) (x3614 : Int) (x3615 : Int) : Link (spec_l2Yield_ctx n) LL (Code.fst (Code.fst (Code.snd (Code.fst (Code.snd (Code.snd (bodyOf Tryd.f55))))))) (Ann.fst (Ann.fst (Ann.snd (Ann.fst (Ann.snd (Ann.snd spec_l2Yield_an)))))) (⟨mkE 29 0 [(0, .dat (.list (.int .i64)) x3561), (1, .dat (.int .i64) x3562), (5, .dat (.int .i64) x3614), (6, .dat (.int .i64) x3615)], []⟩ : St) (spec_l2Yield_n3 (spec_l2Yield_fuel n) x3561 x3562 x3614 x3615) (Sum.elim (fun (t : Int × Int) => (Exit.normal, (⟨mkE 29 0 [(0, .dat (.list (.int .i64)) x3561), (1, .dat (.int .i64) x3562), (5, .dat (.int .i64) t.1), (6, .dat (.int .i64) t.2)], []⟩ : St))) (fun (t : Int) => ((Exit.exit 0), (⟨mkE 29 0 [(5, .dat (.int .i64) t)], []⟩ : St)))) := by
  refine Link.of fun K h => ?_
  simp only [spec_l2Yield_n3, wpO_bind, wpO_cond, wpO_map, wpO_some] at h
  exact Awp.of (by kernel_rfl) h

theorem spec_l2Yield_n4_l (n : Nat) (x3561 : List Int) (x3562 : Int) (x3593 : Int) : Link (spec_l2Yield_ctx n) LL (Code.fst (Code.snd (Code.fst (Code.snd (Code.snd (bodyOf Tryd.f55)))))) (Ann.fst (Ann.snd (Ann.fst (Ann.snd (Ann.snd spec_l2Yield_an))))) (⟨mkE 29 0 [(0, .dat (.list (.int .i64)) x3561), (1, .dat (.int .i64) x3562), (5, .dat (.int .i64) x3593), (6, .dat (.int .i64) 0)], []⟩ : St) (spec_l2Yield_n4 (spec_l2Yield_fuel n) x3561 x3562 x3593) (fun (t : Int) => ((Exit.exit 0), (⟨mkE 29 0 [(5, .dat (.int .i64) t)], []⟩ : St))) := by
  unfold spec_l2Yield_n4
  exact Link.cast (by kernel_rfl) (by kernel_rfl) (link_loop (mk := fun (s : Int × Int) => (⟨mkE 29 0 [(0, .dat (.list (.int .i64)) x3561), (1, .dat (.int .i64) x3562), (5, .dat (.int .i64) s.1), (6, .dat (.int .i64) s.2)], []⟩ : St)) (fin := (fun (t : Int) => ((Exit.exit 0), (⟨mkE 29 0 [(5, .dat (.int .i64) t)], []⟩ : St)))) (by
  rintro t f K h
  · exact h) (fun s => link_map (spec_l2Yield_n3_l n x3561 x3562 s.1 s.2) (Sum.elim (fun (t : Int × Int) => Sum.inl (t.1, t.2)) (fun (t : Int) => Sum.inr t)) (by
  rintro (t | t)
  · kernel_rfl
  · kernel_rfl)) (x3593, 0))

theorem spec_l2Yield_n5_l (n : Nat) (x3561 : List Int) (x3562 : Int) (x3593 : Int) : Link (spec_l2Yield_ctx n) LL (Code.snd (Code.fst (Code.snd (Code.snd (bodyOf Tryd.f55))))) (Ann.snd (Ann.fst (Ann.snd (Ann.snd spec_l2Yield_an)))) (⟨mkE 29 0 [(0, .dat (.list (.int .i64)) x3561), (1, .dat (.int .i64) x3562), (5, .dat (.int .i64) x3593), (6, .dat (.int .i64) 0)], []⟩ : St) (spec_l2Yield_n5 (spec_l2Yield_fuel n) x3561 x3562 x3593) (fun (t : Int) => (Exit.normal, (⟨mkE 29 0 [(5, .dat (.int .i64) t)], []⟩ : St))) := by
  unfold spec_l2Yield_n5
  exact Link.cast (by kernel_rfl) (by kernel_rfl) (link_block (id := 0) (spec_l2Yield_n4_l n x3561 x3562 x3593) (fun (t : Int) => t) (by
  rintro t K h
  · exact Eq.mp (by kernel_rfl) h))

theorem spec_l2Yield_n6_l (n : Nat) (x3561 : List Int) (x3562 : Int) (x3593 : Int) : Link (spec_l2Yield_ctx n) LL (Code.fst (Code.snd (Code.snd (bodyOf Tryd.f55)))) (Ann.fst (Ann.snd (Ann.snd spec_l2Yield_an))) (⟨mkE 29 0 [(0, .dat (.list (.int .i64)) x3561), (1, .dat (.int .i64) x3562), (5, .dat (.int .i64) x3593)], []⟩ : St) (spec_l2Yield_n6 (spec_l2Yield_fuel n) x3561 x3562 x3593) (fun (t : Int) => (Exit.normal, (⟨mkE 29 0 [(5, .dat (.int .i64) t)], []⟩ : St))) := by
  unfold spec_l2Yield_n6
  exact Link.cast (by kernel_rfl) (by kernel_rfl) (link_seq (b := (Code.snd (Code.fst (Code.snd (Code.snd (bodyOf Tryd.f55)))))) (y := (Ann.snd (Ann.fst (Ann.snd (Ann.snd spec_l2Yield_an))))) (spec_l2Yield_n2_l n x3561 x3562 x3593) (fun (t : Unit) => (spec_l2Yield_n5_l n x3561 x3562 x3593)))

theorem spec_l2Yield_n7_l (n : Nat) (x3614 : Int) : Link (spec_l2Yield_ctx n) LL (Code.snd (Code.snd (Code.snd (bodyOf Tryd.f55)))) (Ann.snd (Ann.snd (Ann.snd spec_l2Yield_an))) (⟨mkE 29 0 [(5, .dat (.int .i64) x3614)], []⟩ : St) (spec_l2Yield_n7 (spec_l2Yield_fuel n) x3614) (fun (t : Int) => (Exit.ret, (⟨mkE 29 0 [(4, .dat (.int .i64) t)], []⟩ : St))) := by
  refine Link.of fun K h => ?_
  simp only [spec_l2Yield_n7, wpO_bind, wpO_cond, wpO_map, wpO_some] at h
  exact Awp.of (by kernel_rfl) h

theorem spec_l2Yield_n8_l (n : Nat) (x3561 : List Int) (x3562 : Int) (x3593 : Int) : Link (spec_l2Yield_ctx n) LL (Code.snd (Code.snd (bodyOf Tryd.f55))) (Ann.snd (Ann.snd spec_l2Yield_an)) (⟨mkE 29 0 [(0, .dat (.list (.int .i64)) x3561), (1, .dat (.int .i64) x3562), (5, .dat (.int .i64) x3593)], []⟩ : St) (spec_l2Yield_n8 (spec_l2Yield_fuel n) x3561 x3562 x3593) (fun (t : Int) => (Exit.ret, (⟨mkE 29 0 [(4, .dat (.int .i64) t)], []⟩ : St))) := by
  unfold spec_l2Yield_n8
  exact Link.cast (by kernel_rfl) (by kernel_rfl) (link_seq (b := (Code.snd (Code.snd (Code.snd (bodyOf Tryd.f55))))) (y := (Ann.snd (Ann.snd (Ann.snd spec_l2Yield_an)))) (spec_l2Yield_n6_l n x3561 x3562 x3593) (fun (t : Int) => (spec_l2Yield_n7_l n t)))

theorem spec_l2Yield_n9_l (n : Nat) (x3561 : List Int) (x3562 : Int) : Link (spec_l2Yield_ctx n) LL (bodyOf Tryd.f55) spec_l2Yield_an (⟨mkE 29 0 [(0, .dat (.list (.int .i64)) x3561), (1, .dat (.int .i64) x3562)], []⟩ : St) (spec_l2Yield_n9 (spec_l2Yield_fuel n) x3561 x3562) (fun (t : Int) => (Exit.ret, (⟨mkE 29 0 [(4, .dat (.int .i64) t)], []⟩ : St))) := by
  unfold spec_l2Yield_n9
  exact Link.cast (by kernel_rfl) (by kernel_rfl) (link_group (c := (Code.fst (Code.snd (bodyOf Tryd.f55)))) (a := (Ann.fst (Ann.snd spec_l2Yield_an))) [(Code.fst (bodyOf Tryd.f55))] [(Ann.fst spec_l2Yield_an)] rfl (link_seq (b := (Code.snd (Code.snd (bodyOf Tryd.f55)))) (y := (Ann.snd (Ann.snd spec_l2Yield_an))) (spec_l2Yield_n1_l n x3561 x3562) (fun (t : Int) => (spec_l2Yield_n8_l n x3561 x3562 t))))

theorem spec_l2Yield_e (n : Nat) (x3561 : List Int) (x3562 : Int) {r : AV} {H' : Heap} (h : (Ans.mk _ (spec_l2Yield_fuel (n + 1) x3561 x3562) (fun (t : Int) => (.dat (.int .i64) t, []))).run = some (r, H')) : Awp (spec_l2Yield_ctx n) LL (bodyOf Tryd.f55) spec_l2Yield_an (⟨mkE 29 0 [(0, .dat (.list (.int .i64)) x3561), (1, .dat (.int .i64) x3562)], []⟩ : St) (Ret (tlook tys) Tryd.f55.results.toList r H') :=
  ret_of' (spec_l2Yield_n9_l n x3561 x3562) (by (show _ = _); kernel_rfl) (by
  intro t
  exact ret_mk [.dat (.int .i64) t] (by kernel_rfl) (by kernel_rfl) (by kernel_rfl) (by kernel_rfl)) h

theorem spec_l2Yield_step (n : Nat) (h55 : Sound Tryd.prog 55 (F_spec_l2Yield_fuel n)) : Sound Tryd.prog 55 (F_spec_l2Yield_fuel (n + 1)) := by
  refine fn_sound' (C := spec_l2Yield_ctx n) (c := bodyOf Tryd.f55) (cok_of tys_ok (List.forall_mem_cons.2 ⟨h55, by simp⟩) (List.forall_mem_cons.2 ⟨Tryd.call55, by simp⟩) (by kernel_rfl)) Tryd.func55 (by kernel_rfl) LL spec_l2Yield_an ?_
  intro avs H r H' h
  unfold F_spec_l2Yield_fuel at h
  split at h
  · refine Awp.cast ?_ ?_ ?_ (spec_l2Yield_e n _ _ h) <;> kernel_rfl
  · simp [Ans.no, Ans.run] at h

theorem spec_l2Yield_null : Sound Tryd.prog 55 (F_spec_l2Yield_fuel 0) := by
  intro avs H r H' h
  unfold F_spec_l2Yield_fuel at h
  split at h
  · simp [spec_l2Yield_fuel, spec_l2Yield_knot, Ans.run] at h
  · simp [Ans.no, Ans.run] at h

theorem spec_l2Yield_knot_all : ∀ n, Sound Tryd.prog 55 (F_spec_l2Yield_fuel n)
  | 0 => spec_l2Yield_null
  | n + 1 => by
    have h55 := spec_l2Yield_knot_all n
    exact spec_l2Yield_step n h55

def F_spec_l2Yield : Fun := fun avs H =>
  match avs, H with
  | [.dat (.list (.int .i64)) x3561, .dat (.int .i64) x3562], [] => ⟨_, spec_l2Yield x3561 x3562, fun (t : Int) => (.dat (.int .i64) t, [])⟩
  | _, _ => Ans.no

theorem spec_l2Yield_sound : Sound Tryd.prog 55 F_spec_l2Yield := by
  have e : F_spec_l2Yield = F_spec_l2Yield_fuel RR := by
    funext avs H
    unfold F_spec_l2Yield F_spec_l2Yield_fuel
    split <;> first | rfl | (simp only [spec_l2Yield])
  rw [e]
  exact (spec_l2Yield_knot_all RR)

/-! loop.example/headtrees/spec.l3Row -/

def spec_l3Row_an : Ann := (.seq (.leaf [0]) (.seq (.block (.loop (.seq (.seq (.leaf [0, 5]) (.cond (.leaf [0]) (.leaf [0]))) (.block (.leaf [0]))))) (.seq (.leaf [2]) (.leaf [2]))))

noncomputable def spec_l3Row_ctx : Ctx := ⟨tlook tys, olook [], ioF, 0⟩

theorem spec_l3Row_n1_l (x3637 : Int) : Link spec_l3Row_ctx LL (Code.fst (bodyOf Tryd.f54)) (Ann.fst spec_l3Row_an) (⟨mkE 13 0 [(0, .dat (.int .i64) x3637)], []⟩ : St) (spec_l3Row_n1) (fun (t : Unit) => (Exit.normal, (⟨mkE 13 0 [(0, .dat (.int .i64) x3637)], []⟩ : St))) := by
  refine Link.of fun K h => ?_
  simp only [spec_l3Row_n1, wpO_bind, wpO_cond, wpO_map, wpO_some] at h
  exact Awp.of (by kernel_rfl) h

theorem spec_l3Row_n2_l (x3643 : Int) : Link spec_l3Row_ctx LL (Code.fst (Code.fst (Code.fst (Code.snd (bodyOf Tryd.f54))))) (Ann.fst (Ann.fst (Ann.fst (Ann.snd spec_l3Row_an)))) (⟨mkE 13 0 [(0, .dat (.int .i64) x3643)], []⟩ : St) (spec_l3Row_n2 x3643) (Sum.elim (fun (t : Int) => (Exit.normal, (⟨mkE 13 0 [(0, .dat (.int .i64) t)], []⟩ : St))) (fun (t : Int) => ((Exit.exit 0), (⟨mkE 13 0 [(0, .dat (.int .i64) t)], []⟩ : St)))) := by
  refine Link.of fun K h => ?_
  simp only [spec_l3Row_n2, wpO_bind, wpO_cond, wpO_map, wpO_some] at h
  exact Awp.of (by kernel_rfl) h

theorem spec_l3Row_n3_l (x3637 : Int) : Link spec_l3Row_ctx LL (Code.fst (Code.fst (Code.snd (bodyOf Tryd.f54)))) (Ann.fst (Ann.fst (Ann.snd spec_l3Row_an))) (⟨mkE 13 0 [(0, .dat (.int .i64) x3637)], []⟩ : St) (spec_l3Row_n3 x3637) (fun (t : Int) => ((Exit.exit 0), (⟨mkE 13 0 [(0, .dat (.int .i64) t)], []⟩ : St))) := by
  unfold spec_l3Row_n3
  exact Link.cast (by kernel_rfl) (by kernel_rfl) (link_loop (mk := fun (s : Int) => (⟨mkE 13 0 [(0, .dat (.int .i64) s)], []⟩ : St)) (fin := (fun (t : Int) => ((Exit.exit 0), (⟨mkE 13 0 [(0, .dat (.int .i64) t)], []⟩ : St)))) (by
  rintro t f K h
  · exact h) (fun s => link_map (spec_l3Row_n2_l s) (Sum.elim (fun (t : Int) => Sum.inl t) (fun (t : Int) => Sum.inr t)) (by
  rintro (t | t)
  · kernel_rfl
  · kernel_rfl)) x3637)

theorem spec_l3Row_n4_l (x3637 : Int) : Link spec_l3Row_ctx LL (Code.fst (Code.snd (bodyOf Tryd.f54))) (Ann.fst (Ann.snd spec_l3Row_an)) (⟨mkE 13 0 [(0, .dat (.int .i64) x3637)], []⟩ : St) (spec_l3Row_n4 x3637) (fun (t : Int) => (Exit.normal, (⟨mkE 13 0 [(0, .dat (.int .i64) t)], []⟩ : St))) := by
  unfold spec_l3Row_n4
  exact Link.cast (by kernel_rfl) (by kernel_rfl) (link_block (id := 0) (spec_l3Row_n3_l x3637) (fun (t : Int) => t) (by
  rintro t K h
  · exact Eq.mp (by kernel_rfl) h))

theorem spec_l3Row_n5_l (x3643 : Int) : Link spec_l3Row_ctx LL (Code.snd (Code.snd (bodyOf Tryd.f54))) (Ann.snd (Ann.snd spec_l3Row_an)) (⟨mkE 13 0 [(0, .dat (.int .i64) x3643)], []⟩ : St) (spec_l3Row_n5 x3643) (fun (t : Bool) => (Exit.ret, (⟨mkE 13 0 [(2, .dat .bool t)], []⟩ : St))) := by
  refine Link.of fun K h => ?_
  simp only [spec_l3Row_n5, wpO_bind, wpO_cond, wpO_map, wpO_some] at h
  exact Awp.of (by kernel_rfl) h

theorem spec_l3Row_n6_l (x3637 : Int) : Link spec_l3Row_ctx LL (Code.snd (bodyOf Tryd.f54)) (Ann.snd spec_l3Row_an) (⟨mkE 13 0 [(0, .dat (.int .i64) x3637)], []⟩ : St) (spec_l3Row_n6 x3637) (fun (t : Bool) => (Exit.ret, (⟨mkE 13 0 [(2, .dat .bool t)], []⟩ : St))) := by
  unfold spec_l3Row_n6
  exact Link.cast (by kernel_rfl) (by kernel_rfl) (link_seq (b := (Code.snd (Code.snd (bodyOf Tryd.f54)))) (y := (Ann.snd (Ann.snd spec_l3Row_an))) (spec_l3Row_n4_l x3637) (fun (t : Int) => (spec_l3Row_n5_l t)))

theorem spec_l3Row_n7_l (x3637 : Int) : Link spec_l3Row_ctx LL (bodyOf Tryd.f54) spec_l3Row_an (⟨mkE 13 0 [(0, .dat (.int .i64) x3637)], []⟩ : St) (spec_l3Row_n7 x3637) (fun (t : Bool) => (Exit.ret, (⟨mkE 13 0 [(2, .dat .bool t)], []⟩ : St))) := by
  unfold spec_l3Row_n7
  exact Link.cast (by kernel_rfl) (by kernel_rfl) (link_seq (b := (Code.snd (bodyOf Tryd.f54))) (y := (Ann.snd spec_l3Row_an)) (spec_l3Row_n1_l x3637) (fun (t : Unit) => (spec_l3Row_n6_l x3637)))

theorem spec_l3Row_e (x3637 : Int) {r : AV} {H' : Heap} (h : (Ans.mk _ (spec_l3Row x3637) (fun (t : Bool) => (.dat .bool t, []))).run = some (r, H')) : Awp spec_l3Row_ctx LL (bodyOf Tryd.f54) spec_l3Row_an (⟨mkE 13 0 [(0, .dat (.int .i64) x3637)], []⟩ : St) (Ret (tlook tys) Tryd.f54.results.toList r H') :=
  ret_of' (spec_l3Row_n7_l x3637) (by unfold spec_l3Row; kernel_rfl) (by
  intro t
  exact ret_mk [.dat .bool t] (by kernel_rfl) (by kernel_rfl) (by kernel_rfl) (by kernel_rfl)) h

def F_spec_l3Row : Fun := fun avs H =>
  match avs, H with
  | [.dat (.int .i64) x3637], [] => ⟨_, spec_l3Row x3637, fun (t : Bool) => (.dat .bool t, [])⟩
  | _, _ => Ans.no

theorem spec_l3Row_sound : Sound Tryd.prog 54 F_spec_l3Row := by
  refine fn_sound' (C := spec_l3Row_ctx) (c := bodyOf Tryd.f54) (cok_of tys_ok (by simp) (by simp) (by kernel_rfl)) Tryd.func54 (by kernel_rfl) LL spec_l3Row_an ?_
  intro avs H r H' h
  unfold F_spec_l3Row at h
  split at h
  · refine Awp.cast ?_ ?_ ?_ (spec_l3Row_e _ h) <;> kernel_rfl
  · simp [Ans.no, Ans.run] at h

/-! loop.example/headtrees/spec.FlatOk -/

def spec_FlatOk_an : Ann := (.seq (.leaf [0]) (.seq (.seq (.leaf [0, 3]) (.block (.loop (.seq (.seq (.leaf [0, 3, 11]) (.cond (.leaf [0, 3]) (.leaf [0]))) (.seq (.block (.seq (.leaf [0, 3, 18]) (.cond (.seq (.leaf [2]) (.leaf [2])) (.leaf [0, 3])))) (.leaf [0, 3])))))) (.seq (.leaf [2]) (.leaf [2]))))

noncomputable def spec_FlatOk_ctx : Ctx := ⟨tlook tys, olook [(53, F_spec_TreeOk), (55, F_spec_l2Yield), (54, F_spec_l3Row)], ioF, 0⟩

theorem spec_FlatOk_n1_l (x3413 : List Int) : Link spec_FlatOk_ctx LL (Code.fst (bodyOf Tryd.f33)) (Ann.fst spec_FlatOk_an) (⟨mkE 21 0 [(0, .dat (.list (.int .i64)) x3413)], []⟩ : St) (spec_FlatOk_n1) (fun (t : Unit) => (Exit.normal, (⟨mkE 21 0 [(0, .dat (.list (.int .i64)) x3413)], []⟩ : St))) := by
  refine Link.of fun K h => ?_
  simp only [spec_FlatOk_n1, wpO_bind, wpO_cond, wpO_map, wpO_some] at h
  exact Awp.of (by kernel_rfl) h

theorem spec_FlatOk_n2_l (x3413 : List Int) : Link spec_FlatOk_ctx LL (Code.fst (Code.fst (Code.snd (bodyOf Tryd.f33)))) (Ann.fst (Ann.fst (Ann.snd spec_FlatOk_an))) (⟨mkE 21 0 [(0, .dat (.list (.int .i64)) x3413)], []⟩ : St) (spec_FlatOk_n2) (fun (t : Unit) => (Exit.normal, (⟨mkE 21 0 [(0, .dat (.list (.int .i64)) x3413), (3, .dat (.int .i64) 1)], []⟩ : St))) := by
  refine Link.of fun K h => ?_
  simp only [spec_FlatOk_n2, wpO_bind, wpO_cond, wpO_map, wpO_some] at h
  exact Awp.of (by kernel_rfl) h

theorem spec_FlatOk_n3_l (x3413 : List Int) (x3664 : Int) : Link spec_FlatOk_ctx LL (Code.fst (Code.fst (Code.snd (Code.fst (Code.snd (bodyOf Tryd.f33)))))) (Ann.fst (Ann.fst (Ann.snd (Ann.fst (Ann.snd spec_FlatOk_an))))) (⟨mkE 21 0 [(0, .dat (.list (.int .i64)) x3413), (3, .dat (.int .i64) x3664)], []⟩ : St) (spec_FlatOk_n3 x3413 x3664) (Sum.elim (fun (t : Int) => (Exit.normal, (⟨mkE 21 0 [(0, .dat (.list (.int .i64)) x3413), (3, .dat (.int .i64) t)], []⟩ : St))) (Sum.elim (fun (t : Bool) => (Exit.ret, (⟨mkE 21 0 [(2, .dat .bool t)], []⟩ : St))) (fun (t : Unit) => ((Exit.exit 0), (⟨mkE 21 0 [(0, .dat (.list (.int .i64)) x3413)], []⟩ : St))))) := by
  refine Link.of fun K h => ?_
  simp only [spec_FlatOk_n3, wpO_bind, wpO_cond, wpO_map, wpO_some] at h
  exact Awp.of (by kernel_rfl) h

theorem spec_FlatOk_n4_l (x3413 : List Int) : Link spec_FlatOk_ctx LL (Code.fst (Code.snd (Code.fst (Code.snd (bodyOf Tryd.f33))))) (Ann.fst (Ann.snd (Ann.fst (Ann.snd spec_FlatOk_an)))) (⟨mkE 21 0 [(0, .dat (.list (.int .i64)) x3413), (3, .dat (.int .i64) 1)], []⟩ : St) (spec_FlatOk_n4 x3413) (Sum.elim (fun (t : Bool) => (Exit.ret, (⟨mkE 21 0 [(2, .dat .bool t)], []⟩ : St))) (fun (t : Unit) => ((Exit.exit 0), (⟨mkE 21 0 [(0, .dat (.list (.int .i64)) x3413)], []⟩ : St)))) := by
  unfold spec_FlatOk_n4
  exact Link.cast (by kernel_rfl) (by kernel_rfl) (link_loop (mk := fun (s : Int) => (⟨mkE 21 0 [(0, .dat (.list (.int .i64)) x3413), (3, .dat (.int .i64) s)], []⟩ : St)) (fin := (Sum.elim (fun (t : Bool) => (Exit.ret, (⟨mkE 21 0 [(2, .dat .bool t)], []⟩ : St))) (fun (t : Unit) => ((Exit.exit 0), (⟨mkE 21 0 [(0, .dat (.list (.int .i64)) x3413)], []⟩ : St))))) (by
  rintro (t | t) f K h
  · exact h
  · exact h) (fun s => link_map (spec_FlatOk_n3_l x3413 s) (Sum.elim (fun (t : Int) => Sum.inl t) (Sum.elim (fun (t : Bool) => Sum.inr (Sum.inl t)) (fun (t : Unit) => Sum.inr (Sum.inr t)))) (by
  rintro (t | t | t)
  · kernel_rfl
  · kernel_rfl
  · kernel_rfl)) 1)

theorem spec_FlatOk_n5_l (x3413 : List Int) : Link spec_FlatOk_ctx LL (Code.snd (Code.fst (Code.snd (bodyOf Tryd.f33)))) (Ann.snd (Ann.fst (Ann.snd spec_FlatOk_an))) (⟨mkE 21 0 [(0, .dat (.list (.int .i64)) x3413), (3, .dat (.int .i64) 1)], []⟩ : St) (spec_FlatOk_n5 x3413) (Sum.elim (fun (t : Unit) => (Exit.normal, (⟨mkE 21 0 [(0, .dat (.list (.int .i64)) x3413)], []⟩ : St))) (fun (t : Bool) => (Exit.ret, (⟨mkE 21 0 [(2, .dat .bool t)], []⟩ : St)))) := by
  unfold spec_FlatOk_n5
  exact Link.cast (by kernel_rfl) (by kernel_rfl) (link_block (id := 0) (spec_FlatOk_n4_l x3413) (Sum.elim (fun (t : Bool) => (Sum.inr t)) (fun (t : Unit) => (Sum.inl ()))) (by
  rintro (t | t) K h
  · exact Eq.mp (by kernel_rfl) h
  · exact Eq.mp (by kernel_rfl) h))

theorem spec_FlatOk_n6_l (x3413 : List Int) : Link spec_FlatOk_ctx LL (Code.fst (Code.snd (bodyOf Tryd.f33))) (Ann.fst (Ann.snd spec_FlatOk_an)) (⟨mkE 21 0 [(0, .dat (.list (.int .i64)) x3413)], []⟩ : St) (spec_FlatOk_n6 x3413) (Sum.elim (fun (t : Unit) => (Exit.normal, (⟨mkE 21 0 [(0, .dat (.list (.int .i64)) x3413)], []⟩ : St))) (fun (t : Bool) => (Exit.ret, (⟨mkE 21 0 [(2, .dat .bool t)], []⟩ : St)))) := by
  unfold spec_FlatOk_n6
  exact Link.cast (by kernel_rfl) (by kernel_rfl) (link_seq (b := (Code.snd (Code.fst (Code.snd (bodyOf Tryd.f33))))) (y := (Ann.snd (Ann.fst (Ann.snd spec_FlatOk_an)))) (spec_FlatOk_n2_l x3413) (fun (t : Unit) => (spec_FlatOk_n5_l x3413)))

theorem spec_FlatOk_n7_l (x3413 : List Int) : Link spec_FlatOk_ctx LL (Code.snd (Code.snd (bodyOf Tryd.f33))) (Ann.snd (Ann.snd spec_FlatOk_an)) (⟨mkE 21 0 [(0, .dat (.list (.int .i64)) x3413)], []⟩ : St) (spec_FlatOk_n7 x3413) (fun (t : Bool) => (Exit.ret, (⟨mkE 21 0 [(2, .dat .bool t)], []⟩ : St))) := by
  refine Link.of fun K h => ?_
  simp only [spec_FlatOk_n7, wpO_bind, wpO_cond, wpO_map, wpO_some] at h
  exact Awp.of (by kernel_rfl) h

theorem spec_FlatOk_n8_l (x3413 : List Int) : Link spec_FlatOk_ctx LL (Code.snd (bodyOf Tryd.f33)) (Ann.snd spec_FlatOk_an) (⟨mkE 21 0 [(0, .dat (.list (.int .i64)) x3413)], []⟩ : St) (spec_FlatOk_n8 x3413) (fun (t : Bool) => (Exit.ret, (⟨mkE 21 0 [(2, .dat .bool t)], []⟩ : St))) := by
  unfold spec_FlatOk_n8
  exact Link.cast (by kernel_rfl) (by kernel_rfl) (link_seq2 (b := (Code.snd (Code.snd (bodyOf Tryd.f33)))) (y := (Ann.snd (Ann.snd spec_FlatOk_an))) (spec_FlatOk_n6_l x3413) (fun (t : Unit) => (spec_FlatOk_n7_l x3413)) (fun (t : Bool) => t) (by
  rintro t
  · kernel_rfl) (by
  rintro t f K h
  · exact h))

theorem spec_FlatOk_n9_l (x3413 : List Int) : Link spec_FlatOk_ctx LL (bodyOf Tryd.f33) spec_FlatOk_an (⟨mkE 21 0 [(0, .dat (.list (.int .i64)) x3413)], []⟩ : St) (spec_FlatOk_n9 x3413) (fun (t : Bool) => (Exit.ret, (⟨mkE 21 0 [(2, .dat .bool t)], []⟩ : St))) := by
  unfold spec_FlatOk_n9
  exact Link.cast (by kernel_rfl) (by kernel_rfl) (link_seq (b := (Code.snd (bodyOf Tryd.f33))) (y := (Ann.snd spec_FlatOk_an)) (spec_FlatOk_n1_l x3413) (fun (t : Unit) => (spec_FlatOk_n8_l x3413)))

theorem spec_FlatOk_e (x3413 : List Int) {r : AV} {H' : Heap} (h : (Ans.mk _ (spec_FlatOk x3413) (fun (t : Bool) => (.dat .bool t, []))).run = some (r, H')) : Awp spec_FlatOk_ctx LL (bodyOf Tryd.f33) spec_FlatOk_an (⟨mkE 21 0 [(0, .dat (.list (.int .i64)) x3413)], []⟩ : St) (Ret (tlook tys) Tryd.f33.results.toList r H') :=
  ret_of' (spec_FlatOk_n9_l x3413) (by unfold spec_FlatOk; kernel_rfl) (by
  intro t
  exact ret_mk [.dat .bool t] (by kernel_rfl) (by kernel_rfl) (by kernel_rfl) (by kernel_rfl)) h

def F_spec_FlatOk : Fun := fun avs H =>
  match avs, H with
  | [.dat (.list (.int .i64)) x3413], [] => ⟨_, spec_FlatOk x3413, fun (t : Bool) => (.dat .bool t, [])⟩
  | _, _ => Ans.no

theorem spec_FlatOk_sound : Sound Tryd.prog 33 F_spec_FlatOk := by
  refine fn_sound' (C := spec_FlatOk_ctx) (c := bodyOf Tryd.f33) (cok_of tys_ok (List.forall_mem_cons.2 ⟨spec_TreeOk_sound, List.forall_mem_cons.2 ⟨spec_l2Yield_sound, List.forall_mem_cons.2 ⟨spec_l3Row_sound, by simp⟩⟩⟩) (List.forall_mem_cons.2 ⟨Tryd.call53, List.forall_mem_cons.2 ⟨Tryd.call55, List.forall_mem_cons.2 ⟨Tryd.call54, by simp⟩⟩⟩) (by kernel_rfl)) Tryd.func33 (by kernel_rfl) LL spec_FlatOk_an ?_
  intro avs H r H' h
  unfold F_spec_FlatOk at h
  split at h
  · refine Awp.cast ?_ ?_ ?_ (spec_FlatOk_e _ h) <;> kernel_rfl
  · simp [Ans.no, Ans.run] at h

/-! loop.example/headtrees/spec.RootOf -/

def spec_RootOf_an : Ann := (.seq (.leaf [0]) (.seq (.seq (.leaf [0, 3]) (.block (.loop (.seq (.seq (.leaf [0, 3, 11]) (.cond (.leaf [0, 3]) (.leaf []))) (.seq (.block (.seq (.leaf [0, 3, 18]) (.cond (.seq (.leaf [2]) (.leaf [2])) (.leaf [0, 3])))) (.leaf [0, 3])))))) (.seq (.leaf [2]) (.leaf [2]))))

noncomputable def spec_RootOf_ctx : Ctx := ⟨tlook tys, olook [(53, F_spec_TreeOk)], ioF, 0⟩

theorem spec_RootOf_n1_l (x3693 : List Int) : Link spec_RootOf_ctx LL (Code.fst (bodyOf Tryd.f35)) (Ann.fst spec_RootOf_an) (⟨mkE 21 0 [(0, .dat (.list (.int .i64)) x3693)], []⟩ : St) (spec_RootOf_n1) (fun (t : Unit) => (Exit.normal, (⟨mkE 21 0 [(0, .dat (.list (.int .i64)) x3693)], []⟩ : St))) := by
  refine Link.of fun K h => ?_
  simp only [spec_RootOf_n1, wpO_bind, wpO_cond, wpO_map, wpO_some] at h
  exact Awp.of (by kernel_rfl) h

theorem spec_RootOf_n2_l (x3693 : List Int) : Link spec_RootOf_ctx LL (Code.fst (Code.fst (Code.snd (bodyOf Tryd.f35)))) (Ann.fst (Ann.fst (Ann.snd spec_RootOf_an))) (⟨mkE 21 0 [(0, .dat (.list (.int .i64)) x3693)], []⟩ : St) (spec_RootOf_n2) (fun (t : Unit) => (Exit.normal, (⟨mkE 21 0 [(0, .dat (.list (.int .i64)) x3693), (3, .dat (.int .i64) 0)], []⟩ : St))) := by
  refine Link.of fun K h => ?_
  simp only [spec_RootOf_n2, wpO_bind, wpO_cond, wpO_map, wpO_some] at h
  exact Awp.of (by kernel_rfl) h

theorem spec_RootOf_n3_l (x3693 : List Int) (x3710 : Int) : Link spec_RootOf_ctx LL (Code.fst (Code.fst (Code.snd (Code.fst (Code.snd (bodyOf Tryd.f35)))))) (Ann.fst (Ann.fst (Ann.snd (Ann.fst (Ann.snd spec_RootOf_an))))) (⟨mkE 21 0 [(0, .dat (.list (.int .i64)) x3693), (3, .dat (.int .i64) x3710)], []⟩ : St) (spec_RootOf_n3 x3693 x3710) (Sum.elim (fun (t : Int) => (Exit.normal, (⟨mkE 21 0 [(0, .dat (.list (.int .i64)) x3693), (3, .dat (.int .i64) t)], []⟩ : St))) (Sum.elim (fun (t : Int) => (Exit.ret, (⟨mkE 21 0 [(2, .dat (.int .i64) t)], []⟩ : St))) (fun (t : Unit) => ((Exit.exit 0), (⟨mkE 21 0 [], []⟩ : St))))) := by
  refine Link.of fun K h => ?_
  simp only [spec_RootOf_n3, wpO_bind, wpO_cond, wpO_map, wpO_some] at h
  exact Awp.of (by kernel_rfl) h

theorem spec_RootOf_n4_l (x3693 : List Int) : Link spec_RootOf_ctx LL (Code.fst (Code.snd (Code.fst (Code.snd (bodyOf Tryd.f35))))) (Ann.fst (Ann.snd (Ann.fst (Ann.snd spec_RootOf_an)))) (⟨mkE 21 0 [(0, .dat (.list (.int .i64)) x3693), (3, .dat (.int .i64) 0)], []⟩ : St) (spec_RootOf_n4 x3693) (Sum.elim (fun (t : Int) => (Exit.ret, (⟨mkE 21 0 [(2, .dat (.int .i64) t)], []⟩ : St))) (fun (t : Unit) => ((Exit.exit 0), (⟨mkE 21 0 [], []⟩ : St)))) := by
  unfold spec_RootOf_n4
  exact Link.cast (by kernel_rfl) (by kernel_rfl) (link_loop (mk := fun (s : Int) => (⟨mkE 21 0 [(0, .dat (.list (.int .i64)) x3693), (3, .dat (.int .i64) s)], []⟩ : St)) (fin := (Sum.elim (fun (t : Int) => (Exit.ret, (⟨mkE 21 0 [(2, .dat (.int .i64) t)], []⟩ : St))) (fun (t : Unit) => ((Exit.exit 0), (⟨mkE 21 0 [], []⟩ : St))))) (by
  rintro (t | t) f K h
  · exact h
  · exact h) (fun s => link_map (spec_RootOf_n3_l x3693 s) (Sum.elim (fun (t : Int) => Sum.inl t) (Sum.elim (fun (t : Int) => Sum.inr (Sum.inl t)) (fun (t : Unit) => Sum.inr (Sum.inr t)))) (by
  rintro (t | t | t)
  · kernel_rfl
  · kernel_rfl
  · kernel_rfl)) 0)

theorem spec_RootOf_n5_l (x3693 : List Int) : Link spec_RootOf_ctx LL (Code.snd (Code.fst (Code.snd (bodyOf Tryd.f35)))) (Ann.snd (Ann.fst (Ann.snd spec_RootOf_an))) (⟨mkE 21 0 [(0, .dat (.list (.int .i64)) x3693), (3, .dat (.int .i64) 0)], []⟩ : St) (spec_RootOf_n5 x3693) (Sum.elim (fun (t : Unit) => (Exit.normal, (⟨mkE 21 0 [], []⟩ : St))) (fun (t : Int) => (Exit.ret, (⟨mkE 21 0 [(2, .dat (.int .i64) t)], []⟩ : St)))) := by
  unfold spec_RootOf_n5
  exact Link.cast (by kernel_rfl) (by kernel_rfl) (link_block (id := 0) (spec_RootOf_n4_l x3693) (Sum.elim (fun (t : Int) => (Sum.inr t)) (fun (t : Unit) => (Sum.inl ()))) (by
  rintro (t | t) K h
  · exact Eq.mp (by kernel_rfl) h
  · exact Eq.mp (by kernel_rfl) h))

theorem spec_RootOf_n6_l (x3693 : List Int) : Link spec_RootOf_ctx LL (Code.fst (Code.snd (bodyOf Tryd.f35))) (Ann.fst (Ann.snd spec_RootOf_an)) (⟨mkE 21 0 [(0, .dat (.list (.int .i64)) x3693)], []⟩ : St) (spec_RootOf_n6 x3693) (Sum.elim (fun (t : Unit) => (Exit.normal, (⟨mkE 21 0 [], []⟩ : St))) (fun (t : Int) => (Exit.ret, (⟨mkE 21 0 [(2, .dat (.int .i64) t)], []⟩ : St)))) := by
  unfold spec_RootOf_n6
  exact Link.cast (by kernel_rfl) (by kernel_rfl) (link_seq (b := (Code.snd (Code.fst (Code.snd (bodyOf Tryd.f35))))) (y := (Ann.snd (Ann.fst (Ann.snd spec_RootOf_an)))) (spec_RootOf_n2_l x3693) (fun (t : Unit) => (spec_RootOf_n5_l x3693)))

theorem spec_RootOf_n7_l : Link spec_RootOf_ctx LL (Code.snd (Code.snd (bodyOf Tryd.f35))) (Ann.snd (Ann.snd spec_RootOf_an)) (⟨mkE 21 0 [], []⟩ : St) (spec_RootOf_n7) (fun (t : Int) => (Exit.ret, (⟨mkE 21 0 [(2, .dat (.int .i64) t)], []⟩ : St))) := by
  refine Link.of fun K h => ?_
  simp only [spec_RootOf_n7, wpO_bind, wpO_cond, wpO_map, wpO_some] at h
  exact Awp.of (by kernel_rfl) h

theorem spec_RootOf_n8_l (x3693 : List Int) : Link spec_RootOf_ctx LL (Code.snd (bodyOf Tryd.f35)) (Ann.snd spec_RootOf_an) (⟨mkE 21 0 [(0, .dat (.list (.int .i64)) x3693)], []⟩ : St) (spec_RootOf_n8 x3693) (fun (t : Int) => (Exit.ret, (⟨mkE 21 0 [(2, .dat (.int .i64) t)], []⟩ : St))) := by
  unfold spec_RootOf_n8
  exact Link.cast (by kernel_rfl) (by kernel_rfl) (link_seq2 (b := (Code.snd (Code.snd (bodyOf Tryd.f35)))) (y := (Ann.snd (Ann.snd spec_RootOf_an))) (spec_RootOf_n6_l x3693) (fun (t : Unit) => (spec_RootOf_n7_l)) (fun (t : Int) => t) (by
  rintro t
  · kernel_rfl) (by
  rintro t f K h
  · exact h))

theorem spec_RootOf_n9_l (x3693 : List Int) : Link spec_RootOf_ctx LL (bodyOf Tryd.f35) spec_RootOf_an (⟨mkE 21 0 [(0, .dat (.list (.int .i64)) x3693)], []⟩ : St) (spec_RootOf_n9 x3693) (fun (t : Int) => (Exit.ret, (⟨mkE 21 0 [(2, .dat (.int .i64) t)], []⟩ : St))) := by
  unfold spec_RootOf_n9
  exact Link.cast (by kernel_rfl) (by kernel_rfl) (link_seq (b := (Code.snd (bodyOf Tryd.f35))) (y := (Ann.snd spec_RootOf_an)) (spec_RootOf_n1_l x3693) (fun (t : Unit) => (spec_RootOf_n8_l x3693)))

theorem spec_RootOf_e (x3693 : List Int) {r : AV} {H' : Heap} (h : (Ans.mk _ (spec_RootOf x3693) (fun (t : Int) => (.dat (.int .i64) t, []))).run = some (r, H')) : Awp spec_RootOf_ctx LL (bodyOf Tryd.f35) spec_RootOf_an (⟨mkE 21 0 [(0, .dat (.list (.int .i64)) x3693)], []⟩ : St) (Ret (tlook tys) Tryd.f35.results.toList r H') :=
  ret_of' (spec_RootOf_n9_l x3693) (by unfold spec_RootOf; kernel_rfl) (by
  intro t
  exact ret_mk [.dat (.int .i64) t] (by kernel_rfl) (by kernel_rfl) (by kernel_rfl) (by kernel_rfl)) h

def F_spec_RootOf : Fun := fun avs H =>
  match avs, H with
  | [.dat (.list (.int .i64)) x3693], [] => ⟨_, spec_RootOf x3693, fun (t : Int) => (.dat (.int .i64) t, [])⟩
  | _, _ => Ans.no

theorem spec_RootOf_sound : Sound Tryd.prog 35 F_spec_RootOf := by
  refine fn_sound' (C := spec_RootOf_ctx) (c := bodyOf Tryd.f35) (cok_of tys_ok (List.forall_mem_cons.2 ⟨spec_TreeOk_sound, by simp⟩) (List.forall_mem_cons.2 ⟨Tryd.call53, by simp⟩) (by kernel_rfl)) Tryd.func35 (by kernel_rfl) LL spec_RootOf_an ?_
  intro avs H r H' h
  unfold F_spec_RootOf at h
  split at h
  · refine Awp.cast ?_ ?_ ?_ (spec_RootOf_e _ h) <;> kernel_rfl
  · simp [Ans.no, Ans.run] at h

/-! loop.example/headtrees/spec.l4TreeRank, loop.example/headtrees/spec.l4RowRank -/

def spec_l4TreeRank_an : Ann := (.seq (.leaf [0, 1, 2, 3]) (.seq (.leaf [0, 1, 2, 3, 9]) (.seq (.seq (.leaf [0, 1, 2, 3, 9, 10]) (.block (.loop (.seq (.seq (.leaf [0, 1, 2, 3, 9, 10, 14]) (.cond (.leaf [0, 1, 2, 3, 9, 10]) (.leaf [0, 1, 2, 3, 9]))) (.seq (.block (.leaf [0, 1, 2, 3, 9, 10])) (.leaf [0, 1, 2, 3, 9, 10])))))) (.seq (.leaf [8]) (.leaf [8])))))

def spec_l4RowRank_an : Ann := (.seq (.leaf [0, 1, 2, 3]) (.seq (.seq (.leaf [0, 1, 2, 3, 15]) (.cond (.seq (.leaf [8]) (.leaf [8])) (.leaf [0, 1, 2, 3]))) (.seq (.leaf [0, 1, 2, 3, 9]) (.seq (.block (.loop (.seq (.seq (.leaf [0, 1, 2, 3, 9, 23]) (.cond (.leaf [0, 1, 2, 3, 9]) (.leaf [0, 1, 2, 3, 9]))) (.block (.leaf [0, 1, 2, 3, 9]))))) (.seq (.leaf [0, 1, 2, 3, 9, 10]) (.seq (.block (.loop (.seq (.seq (.leaf [0, 1, 2, 3, 9, 10, 38]) (.cond (.leaf [0, 1, 2, 3, 9, 10]) (.leaf [0, 1, 2, 3, 9, 10]))) (.block (.leaf [0, 1, 2, 3, 9, 10]))))) (.seq (.leaf [0, 1, 2, 3, 9, 10, 11]) (.seq (.seq (.leaf [0, 1, 2, 3, 9, 10, 11, 12]) (.block (.loop (.seq (.seq (.leaf [0, 1, 2, 3, 9, 10, 11, 12, 44]) (.cond (.leaf [0, 1, 2, 3, 9, 10, 11, 12]) (.leaf [0, 1, 2, 3, 9, 10, 11]))) (.seq (.block (.leaf [0, 1, 2, 3, 9, 10, 11, 12])) (.leaf [0, 1, 2, 3, 9, 10, 11, 12])))))) (.seq (.leaf [8]) (.leaf [8]))))))))))

def F_spec_l4TreeRank_fuel (n : Nat) : Fun := fun avs H =>
  match avs, H with
  | [.dat (.list (.int .i64)) x3729, .dat (.int .i64) x3730, .dat (.int .i64) x3731, .dat (.int .i64) x3732], [] => ⟨_, spec_l4TreeRank_fuel n x3729 x3730 x3731 x3732, fun (t : Int) => (.dat (.int .i64) t, [])⟩
  | _, _ => Ans.no

def F_spec_l4RowRank_fuel (n : Nat) : Fun := fun avs H =>
  match avs, H with
  | [.dat (.list (.int .i64)) x3980, .dat (.int .i64) x3981, .dat (.int .i64) x3982, .dat (.int .i64) x3983], [] => ⟨_, spec_l4RowRank_fuel n x3980 x3981 x3982 x3983, fun (t : Int) => (.dat (.int .i64) t, [])⟩
  | _, _ => Ans.no

noncomputable def spec_l4TreeRank_ctx (n : Nat) : Ctx := ⟨tlook tys, olook [(41, F_spec_l4Rows), (56, F_spec_l4RowRank_fuel n)], ioF, 0⟩

noncomputable def spec_l4RowRank_ctx (n : Nat) : Ctx := ⟨tlook tys, olook [(55, F_spec_l2Yield), (25, F_spec_l4Flat), (41, F_spec_l4Rows), (34, F_spec_l4TreeRank_fuel n), (56, F_spec_l4RowRank_fuel n)], ioF, 0⟩

theorem spec_l4TreeRank_n1_l (n : Nat) (x3729 : List Int) (x3730 : Int) (x3731 : Int) (x3732 : Int) : Link (spec_l4TreeRank_ctx n) LL (Code.seq (Code.fst (bodyOf Tryd.f34)) (Code.fst (Code.snd (bodyOf Tryd.f34)))) (Ann.seq (Ann.fst spec_l4TreeRank_an) (Ann.fst (Ann.snd spec_l4TreeRank_an))) (⟨mkE 48 0 [(0, .dat (.list (.int .i64)) x3729), (1, .dat (.int .i64) x3730), (2, .dat (.int .i64) x3731), (3, .dat (.int .i64) x3732)], []⟩ : St) (spec_l4TreeRank_n1 (spec_l4TreeRank_fuel n) (spec_l4RowRank_fuel n)) (fun (t : Unit) => (Exit.normal, (⟨mkE 48 0 [(0, .dat (.list (.int .i64)) x3729), (1, .dat (.int .i64) x3730), (2, .dat (.int .i64) x3731), (3, .dat (.int .i64) x3732), (9, .dat (.int .i64) 0)], []⟩ : St))) := by
  refine Link.of fun K h => ?_
  simp only [spec_l4TreeRank_n1, wpO_bind, wpO_cond, wpO_map, wpO_some] at h
  exact Awp.of (by kernel_rfl) h

theorem spec_l4TreeRank_n2_l (n : Nat) (x3729 : List Int) (x3730 : Int) (x3731 : Int) (x3732 : Int) : Link (spec_l4TreeRank_ctx n) LL (Code.fst (Code.fst (Code.snd (Code.snd (bodyOf Tryd.f34))))) (Ann.fst (Ann.fst (Ann.snd (Ann.snd spec_l4TreeRank_an)))) (⟨mkE 48 0 [(0, .dat (.list (.int .i64)) x3729), (1, .dat (.int .i64) x3730), (2, .dat (.int .i64) x3731), (3, .dat (.int .i64) x3732), (9, .dat (.int .i64) 0)], []⟩ : St) (spec_l4TreeRank_n2 (spec_l4TreeRank_fuel n) (spec_l4RowRank_fuel n)) (fun (t : Unit) => (Exit.normal, (⟨mkE 48 0 [(0, .dat (.list (.int .i64)) x3729), (1, .dat (.int .i64) x3730), (2, .dat (.int .i64) x3731), (3, .dat (.int .i64) x3732), (9, .dat (.int .i64) 0), (10, .dat (.int .i64) x3730)], []⟩ : St))) := by
  refine Link.of fun K h => ?_
  simp only [spec_l4TreeRank_n2, wpO_bind, wpO_cond, wpO_map, wpO_some] at h
  exact Awp.of (by kernel_rfl) h

theorem spec_l4TreeRank_n3_l (n : Nat) (x3729 : List Int) (x3730 : Int) (x3731 : Int) (x3732 : Int) (x3961 : Int) (x3962 : Int) : Link (spec_l4TreeRank_ctx n) LL (Code.fst (Code.fst (Code.snd (Code.fst (Code.snd (Code.snd (bodyOf Tryd.f34))))))) (Ann.fst (Ann.fst (Ann.snd (Ann.fst (Ann.snd (Ann.snd spec_l4TreeRank_an)))))) (⟨mkE 48 0 [(0, .dat (.list (.int .i64)) x3729), (1, .dat (.int .i64) x3730), (2, .dat (.int .i64) x3731), (3, .dat (.int .i64) x3732), (9, .dat (.int .i64) x3961), (10, .dat (.int .i64) x3962)], []⟩ : St) (spec_l4TreeRank_n3 (spec_l4TreeRank_fuel n) (spec_l4RowRank_fuel n) x3730 x3731 x3732 x3961 x3962) (Sum.elim (fun (t : Int × Int) => (Exit.normal, (⟨mkE 48 0 [(0, .dat (.list (.int .i64)) x3729), (1, .dat (.int .i64) x3730), (2, .dat (.int .i64) x3731), (3, .dat (.int .i64) x3732), (9, .dat (.int .i64) t.1), (10, .dat (.int .i64) t.2)], []⟩ : St))) (fun (t : Int) => ((Exit.exit 0), (⟨mkE 48 0 [(0, .dat (.list (.int .i64)) x3729), (1, .dat (.int .i64) x3730), (2, .dat (.int .i64) x3731), (3, .dat (.int .i64) x3732), (9, .dat (.int .i64) t)], []⟩ : St)))) := by
  refine Link.of fun K h => ?_
  simp only [spec_l4TreeRank_n3, wpO_bind, wpO_cond, wpO_map, wpO_some] at h
  exact Awp.of (by kernel_rfl) h

theorem spec_l4TreeRank_n4_l (n : Nat) (x3729 : List Int) (x3730 : Int) (x3731 : Int) (x3732 : Int) : Link (spec_l4TreeRank_ctx n) LL (Code.fst (Code.snd (Code.fst (Code.snd (Code.snd (bodyOf Tryd.f34)))))) (Ann.fst (Ann.snd (Ann.fst (Ann.snd (Ann.snd spec_l4TreeRank_an))))) (⟨mkE 48 0 [(0, .dat (.list (.int .i64)) x3729), (1, .dat (.int .i64) x3730), (2, .dat (.int .i64) x3731), (3, .dat (.int .i64) x3732), (9, .dat (.int .i64) 0), (10, .dat (.int .i64) x3730)], []⟩ : St) (spec_l4TreeRank_n4 (spec_l4TreeRank_fuel n) (spec_l4RowRank_fuel n) x3730 x3731 x3732) (fun (t : Int) => ((Exit.exit 0), (⟨mkE 48 0 [(0, .dat (.list (.int .i64)) x3729), (1, .dat (.int .i64) x3730), (2, .dat (.int .i64) x3731), (3, .dat (.int .i64) x3732), (9, .dat (.int .i64) t)], []⟩ : St))) := by
  unfold spec_l4TreeRank_n4
  exact Link.cast (by kernel_rfl) (by kernel_rfl) (link_loop (mk := fun (s : Int × Int) => (⟨mkE 48 0 [(0, .dat (.list (.int .i64)) x3729), (1, .dat (.int .i64) x3730), (2, .dat (.int .i64) x3731), (3, .dat (.int .i64) x3732), (9, .dat (.int .i64) s.1), (10, .dat (.int .i64) s.2)], []⟩ : St)) (fin := (fun (t : Int) => ((Exit.exit 0), (⟨mkE 48 0 [(0, .dat (.list (.int .i64)) x3729), (1, .dat (.int .i64) x3730), (2, .dat (.int .i64) x3731), (3, .dat (.int .i64) x3732), (9, .dat (.int .i64) t)], []⟩ : St)))) (by
  rintro t f K h
  · exact h) (fun s => link_map (spec_l4TreeRank_n3_l n x3729 x3730 x3731 x3732 s.1 s.2) (Sum.elim (fun (t : Int × Int) => Sum.inl (t.1, t.2)) (fun (t : Int) => Sum.inr t)) (by
  rintro (t | t)
  · kernel_rfl
  · kernel_rfl)) (0, x3730))

theorem spec_l4TreeRank_n5_l (n : Nat) (x3729 : List Int) (x3730 : Int) (x3731 : Int) (x3732 : Int) : Link (spec_l4TreeRank_ctx n) LL (Code.snd (Code.fst (Code.snd (Code.snd (bodyOf Tryd.f34))))) (Ann.snd (Ann.fst (Ann.snd (Ann.snd spec_l4TreeRank_an)))) (⟨mkE 48 0 [(0, .dat (.list (.int .i64)) x3729), (1, .dat (.int .i64) x3730), (2, .dat (.int .i64) x3731), (3, .dat (.int .i64) x3732), (9, .dat (.int .i64) 0), (10, .dat (.int .i64) x3730)], []⟩ : St) (spec_l4TreeRank_n5 (spec_l4TreeRank_fuel n) (spec_l4RowRank_fuel n) x3730 x3731 x3732) (fun (t : Int) => (Exit.normal, (⟨mkE 48 0 [(0, .dat (.list (.int .i64)) x3729), (1, .dat (.int .i64) x3730), (2, .dat (.int .i64) x3731), (3, .dat (.int .i64) x3732), (9, .dat (.int .i64) t)], []⟩ : St))) := by
  unfold spec_l4TreeRank_n5
  exact Link.cast (by kernel_rfl) (by kernel_rfl) (link_block (id := 0) (spec_l4TreeRank_n4_l n x3729 x3730 x3731 x3732) (fun (t : Int) => t) (by
  rintro t K h
  · exact Eq.mp (by kernel_rfl) h))

theorem spec_l4TreeRank_n6_l (n : Nat) (x3729 : List Int) (x3730 : Int) (x3731 : Int) (x3732 : Int) : Link (spec_l4TreeRank_ctx n) LL (Code.fst (Code.snd (Code.snd (bodyOf Tryd.f34)))) (Ann.fst (Ann.snd (Ann.snd spec_l4TreeRank_an))) (⟨mkE 48 0 [(0, .dat (.list (.int .i64)) x3729), (1, .dat (.int .i64) x3730), (2, .dat (.int .i64) x3731), (3, .dat (.int .i64) x3732), (9, .dat (.int .i64) 0)], []⟩ : St) (spec_l4TreeRank_n6 (spec_l4TreeRank_fuel n) (spec_l4RowRank_fuel n) x3730 x3731 x3732) (fun (t : Int) => (Exit.normal, (⟨mkE 48 0 [(0, .dat (.list (.int .i64)) x3729), (1, .dat (.int .i64) x3730), (2, .dat (.int .i64) x3731), (3, .dat (.int .i64) x3732), (9, .dat (.int .i64) t)], []⟩ : St))) := by
  unfold spec_l4TreeRank_n6
  exact Link.cast (by kernel_rfl) (by kernel_rfl) (link_seq (b := (Code.snd (Code.fst (Code.snd (Code.snd (bodyOf Tryd.f34)))))) (y := (Ann.snd (Ann.fst (Ann.snd (Ann.snd spec_l4TreeRank_an))))) (spec_l4TreeRank_n2_l n x3729 x3730 x3731 x3732) (fun (t : Unit) => (spec_l4TreeRank_n5_l n x3729 x3730 x3731 x3732)))

theorem spec_l4TreeRank_n7_l (n : Nat) (x3729 : List Int) (x3730 : Int) (x3731 : Int) (x3732 : Int) (x3961 : Int) : Link (spec_l4TreeRank_ctx n) LL (Code.snd (Code.snd (Code.snd (bodyOf Tryd.f34)))) (Ann.snd (Ann.snd (Ann.snd spec_l4TreeRank_an))) (⟨mkE 48 0 [(0, .dat (.list (.int .i64)) x3729), (1, .dat (.int .i64) x3730), (2, .dat (.int .i64) x3731), (3, .dat (.int .i64) x3732), (9, .dat (.int .i64) x3961)], []⟩ : St) (spec_l4TreeRank_n7 (spec_l4TreeRank_fuel n) (spec_l4RowRank_fuel n) x3729 x3730 x3731 x3732 x3961) (fun (t : Int) => (Exit.ret, (⟨mkE 48 0 [(8, .dat (.int .i64) t)], []⟩ : St))) := by
  refine Link.of fun K h => ?_
  simp only [spec_l4TreeRank_n7, wpO_bind, wpO_cond, wpO_map, wpO_some] at h
  exact Awp.of (by kernel_rfl) h

theorem spec_l4TreeRank_n8_l (n : Nat) (x3729 : List Int) (x3730 : Int) (x3731 : Int) (x3732 : Int) : Link (spec_l4TreeRank_ctx n) LL (Code.snd (Code.snd (bodyOf Tryd.f34))) (Ann.snd (Ann.snd spec_l4TreeRank_an)) (⟨mkE 48 0 [(0, .dat (.list (.int .i64)) x3729), (1, .dat (.int .i64) x3730), (2, .dat (.int .i64) x3731), (3, .dat (.int .i64) x3732), (9, .dat (.int .i64) 0)], []⟩ : St) (spec_l4TreeRank_n8 (spec_l4TreeRank_fuel n) (spec_l4RowRank_fuel n) x3729 x3730 x3731 x3732) (fun (t : Int) => (Exit.ret, (⟨mkE 48 0 [(8, .dat (.int .i64) t)], []⟩ : St))) := by
  unfold spec_l4TreeRank_n8
  exact Link.cast (by kernel_rfl) (by kernel_rfl) (link_seq (b := (Code.snd (Code.snd (Code.snd (bodyOf Tryd.f34))))) (y := (Ann.snd (Ann.snd (Ann.snd spec_l4TreeRank_an)))) (spec_l4TreeRank_n6_l n x3729 x3730 x3731 x3732) (fun (t : Int) => (spec_l4TreeRank_n7_l n x3729 x3730 x3731 x3732 t)))

theorem spec_l4TreeRank_n9_l (n : Nat) (x3729 : List Int) (x3730 : Int) (x3731 : Int) (x3732 : Int) : Link (spec_l4TreeRank_ctx n) LL (bodyOf Tryd.f34) spec_l4TreeRank_an (⟨mkE 48 0 [(0, .dat (.list (.int .i64)) x3729), (1, .dat (.int .i64) x3730), (2, .dat (.int .i64) x3731), (3, .dat (.int .i64) x3732)], []⟩ : St) (spec_l4TreeRank_n9 (spec_l4TreeRank_fuel n) (spec_l4RowRank_fuel n) x3729 x3730 x3731 x3732) (fun (t : Int) => (Exit.ret, (⟨mkE 48 0 [(8, .dat (.int .i64) t)], []⟩ : St))) := by
  unfold spec_l4TreeRank_n9
  exact Link.cast (by kernel_rfl) (by kernel_rfl) (link_group (c := (Code.fst (Code.snd (bodyOf Tryd.f34)))) (a := (Ann.fst (Ann.snd spec_l4TreeRank_an))) [(Code.fst (bodyOf Tryd.f34))] [(Ann.fst spec_l4TreeRank_an)] rfl (link_seq (b := (Code.snd (Code.snd (bodyOf Tryd.f34)))) (y := (Ann.snd (Ann.snd spec_l4TreeRank_an))) (spec_l4TreeRank_n1_l n x3729 x3730 x3731 x3732) (fun (t : Unit) => (spec_l4TreeRank_n8_l n x3729 x3730 x3731 x3732))))

theorem spec_l4TreeRank_e (n : Nat) (x3729 : List Int) (x3730 : Int) (x3731 : Int) (x3732 : Int) {r : AV} {H' : Heap} (h : (Ans.mk _ (spec_l4TreeRank_fuel (n + 1) x3729 x3730 x3731 x3732) (fun (t : Int) => (.dat (.int .i64) t, []))).run = some (r, H')) : Awp (spec_l4TreeRank_ctx n) LL (bodyOf Tryd.f34) spec_l4TreeRank_an (⟨mkE 48 0 [(0, .dat (.list (.int .i64)) x3729), (1, .dat (.int .i64) x3730), (2, .dat (.int .i64) x3731), (3, .dat (.int .i64) x3732)], []⟩ : St) (Ret (tlook tys) Tryd.f34.results.toList r H') :=
  ret_of' (spec_l4TreeRank_n9_l n x3729 x3730 x3731 x3732) (by (show _ = _); kernel_rfl) (by
  intro t
  exact ret_mk [.dat (.int .i64) t] (by kernel_rfl) (by kernel_rfl) (by kernel_rfl) (by kernel_rfl)) h

theorem spec_l4RowRank_n1_l (n : Nat) (x3980 : List Int) (x3981 : Int) (x3982 : Int) (x3983 : Int) : Link (spec_l4RowRank_ctx n) LL (Code.seq (Code.fst (bodyOf Tryd.f56)) (Code.seq (Code.fst (Code.snd (bodyOf Tryd.f56))) (Code.fst (Code.snd (Code.snd (bodyOf Tryd.f56)))))) (Ann.seq (Ann.fst spec_l4RowRank_an) (Ann.seq (Ann.fst (Ann.snd spec_l4RowRank_an)) (Ann.fst (Ann.snd (Ann.snd spec_l4RowRank_an))))) (⟨mkE 78 0 [(0, .dat (.list (.int .i64)) x3980), (1, .dat (.int .i64) x3981), (2, .dat (.int .i64) x3982), (3, .dat (.int .i64) x3983)], []⟩ : St) (spec_l4RowRank_n1 (spec_l4TreeRank_fuel n) (spec_l4RowRank_fuel n) x3981 x3982) (Sum.elim (fun (t : Unit) => (Exit.normal, (⟨mkE 78 0 [(0, .dat (.list (.int .i64)) x3980), (1, .dat (.int .i64) x3981), (2, .dat (.int .i64) x3982), (3, .dat (.int .i64) x3983), (9, .dat (.int .i64) x3981)], []⟩ : St))) (fun (t : Int) => (Exit.ret, (⟨mkE 78 0 [(8, .dat (.int .i64) t)], []⟩ : St)))) := by
  refine Link.of fun K h => ?_
  simp only [spec_l4RowRank_n1, wpO_bind, wpO_cond, wpO_map, wpO_some] at h
  exact Awp.of (by kernel_rfl) h

theorem spec_l4RowRank_n2_l (n : Nat) (x3980 : List Int) (x3981 : Int) (x3982 : Int) (x3983 : Int) (x4172 : Int) : Link (spec_l4RowRank_ctx n) LL (Code.fst (Code.fst (Code.fst (Code.snd (Code.snd (Code.snd (bodyOf Tryd.f56))))))) (Ann.fst (Ann.fst (Ann.fst (Ann.snd (Ann.snd (Ann.snd spec_l4RowRank_an)))))) (⟨mkE 78 0 [(0, .dat (.list (.int .i64)) x3980), (1, .dat (.int .i64) x3981), (2, .dat (.int .i64) x3982), (3, .dat (.int .i64) x3983), (9, .dat (.int .i64) x4172)], []⟩ : St) (spec_l4RowRank_n2 (spec_l4TreeRank_fuel n) (spec_l4RowRank_fuel n) x3980 x3983 x4172) (Sum.elim (fun (t : Int) => (Exit.normal, (⟨mkE 78 0 [(0, .dat (.list (.int .i64)) x3980), (1, .dat (.int .i64) x3981), (2, .dat (.int .i64) x3982), (3, .dat (.int .i64) x3983), (9, .dat (.int .i64) t)], []⟩ : St))) (fun (t : Int) => ((Exit.exit 0), (⟨mkE 78 0 [(0, .dat (.list (.int .i64)) x3980), (1, .dat (.int .i64) x3981), (2, .dat (.int .i64) x3982), (3, .dat (.int .i64) x3983), (9, .dat (.int .i64) t)], []⟩ : St)))) := by
  refine Link.of fun K h => ?_
  simp only [spec_l4RowRank_n2, wpO_bind, wpO_cond, wpO_map, wpO_some] at h
  exact Awp.of (by kernel_rfl) h

theorem spec_l4RowRank_n3_l (n : Nat) (x3980 : List Int) (x3981 : Int) (x3982 : Int) (x3983 : Int) : Link (spec_l4RowRank_ctx n) LL (Code.fst (Code.fst (Code.snd (Code.snd (Code.snd (bodyOf Tryd.f56)))))) (Ann.fst (Ann.fst (Ann.snd (Ann.snd (Ann.snd spec_l4RowRank_an))))) (⟨mkE 78 0 [(0, .dat (.list (.int .i64)) x3980), (1, .dat (.int .i64) x3981), (2, .dat (.int .i64) x3982), (3, .dat (.int .i64) x3983), (9, .dat (.int .i64) x3981)], []⟩ : St) (spec_l4RowRank_n3 (spec_l4TreeRank_fuel n) (spec_l4RowRank_fuel n) x3980 x3981 x3983) (fun (t : Int) => ((Exit.exit 0), (⟨mkE 78 0 [(0, .dat (.list (.int .i64)) x3980), (1, .dat (.int .i64) x3981), (2, .dat (.int .i64) x3982), (3, .dat (.int .i64) x3983), (9, .dat (.int .i64) t)], []⟩ : St))) := by
  unfold spec_l4RowRank_n3
  exact Link.cast (by kernel_rfl) (by kernel_rfl) (link_loop (mk := fun (s : Int) => (⟨mkE 78 0 [(0, .dat (.list (.int .i64)) x3980), (1, .dat (.int .i64) x3981), (2, .dat (.int .i64) x3982), (3, .dat (.int .i64) x3983), (9, .dat (.int .i64) s)], []⟩ : St)) (fin := (fun (t : Int) => ((Exit.exit 0), (⟨mkE 78 0 [(0, .dat (.list (.int .i64)) x3980), (1, .dat (.int .i64) x3981), (2, .dat (.int .i64) x3982), (3, .dat (.int .i64) x3983), (9, .dat (.int .i64) t)], []⟩ : St)))) (by
  rintro t f K h
  · exact h) (fun s => link_map (spec_l4RowRank_n2_l n x3980 x3981 x3982 x3983 s) (Sum.elim (fun (t : Int) => Sum.inl t) (fun (t : Int) => Sum.inr t)) (by
  rintro (t | t)
  · kernel_rfl
  · kernel_rfl)) x3981)

theorem spec_l4RowRank_n4_l (n : Nat) (x3980 : List Int) (x3981 : Int) (x3982 : Int) (x3983 : Int) : Link (spec_l4RowRank_ctx n) LL (Code.fst (Code.snd (Code.snd (Code.snd (bodyOf Tryd.f56))))) (Ann.fst (Ann.snd (Ann.snd (Ann.snd spec_l4RowRank_an)))) (⟨mkE 78 0 [(0, .dat (.list (.int .i64)) x3980), (1, .dat (.int .i64) x3981), (2, .dat (.int .i64) x3982), (3, .dat (.int .i64) x3983), (9, .dat (.int .i64) x3981)], []⟩ : St) (spec_l4RowRank_n4 (spec_l4TreeRank_fuel n) (spec_l4RowRank_fuel n) x3980 x3981 x3983) (fun (t : Int) => (Exit.normal, (⟨mkE 78 0 [(0, .dat (.list (.int .i64)) x3980), (1, .dat (.int .i64) x3981), (2, .dat (.int .i64) x3982), (3, .dat (.int .i64) x3983), (9, .dat (.int .i64) t)], []⟩ : St))) := by
  unfold spec_l4RowRank_n4
  exact Link.cast (by kernel_rfl) (by kernel_rfl) (link_block (id := 0) (spec_l4RowRank_n3_l n x3980 x3981 x3982 x3983) (fun (t : Int) => t) (by
  rintro t K h
  · exact Eq.mp (by kernel_rfl) h))

theorem spec_l4RowRank_n5_l (n : Nat) (x3980 : List Int) (x3981 : Int) (x3982 : Int) (x3983 : Int) (x4172 : Int) : Link (spec_l4RowRank_ctx n) LL (Code.fst (Code.snd (Code.snd (Code.snd (Code.snd (bodyOf Tryd.f56)))))) (Ann.fst (Ann.snd (Ann.snd (Ann.snd (Ann.snd spec_l4RowRank_an))))) (⟨mkE 78 0 [(0, .dat (.list (.int .i64)) x3980), (1, .dat (.int .i64) x3981), (2, .dat (.int .i64) x3982), (3, .dat (.int .i64) x3983), (9, .dat (.int .i64) x4172)], []⟩ : St) (spec_l4RowRank_n5 (spec_l4TreeRank_fuel n) (spec_l4RowRank_fuel n)) (fun (t : Unit) => (Exit.normal, (⟨mkE 78 0 [(0, .dat (.list (.int .i64)) x3980), (1, .dat (.int .i64) x3981), (2, .dat (.int .i64) x3982), (3, .dat (.int .i64) x3983), (9, .dat (.int .i64) x4172), (10, .dat (.int .i64) x3981)], []⟩ : St))) := by
  refine Link.of fun K h => ?_
  simp only [spec_l4RowRank_n5, wpO_bind, wpO_cond, wpO_map, wpO_some] at h
  exact Awp.of (by kernel_rfl) h

theorem spec_l4RowRank_n6_l (n : Nat) (x3980 : List Int) (x3981 : Int) (x3982 : Int) (x3983 : Int) (x4172 : Int) (x4191 : Int) : Link (spec_l4RowRank_ctx n) LL (Code.fst (Code.fst (Code.fst (Code.snd (Code.snd (Code.snd (Code.snd (Code.snd (bodyOf Tryd.f56))))))))) (Ann.fst (Ann.fst (Ann.fst (Ann.snd (Ann.snd (Ann.snd (Ann.snd (Ann.snd spec_l4RowRank_an)))))))) (⟨mkE 78 0 [(0, .dat (.list (.int .i64)) x3980), (1, .dat (.int .i64) x3981), (2, .dat (.int .i64) x3982), (3, .dat (.int .i64) x3983), (9, .dat (.int .i64) x4172), (10, .dat (.int .i64) x4191)], []⟩ : St) (spec_l4RowRank_n6 (spec_l4TreeRank_fuel n) (spec_l4RowRank_fuel n) x3980 x3982 x4172 x4191) (Sum.elim (fun (t : Int) => (Exit.normal, (⟨mkE 78 0 [(0, .dat (.list (.int .i64)) x3980), (1, .dat (.int .i64) x3981), (2, .dat (.int .i64) x3982), (3, .dat (.int .i64) x3983), (9, .dat (.int .i64) x4172), (10, .dat (.int .i64) t)], []⟩ : St))) (fun (t : Int) => ((Exit.exit 2), (⟨mkE 78 0 [(0, .dat (.list (.int .i64)) x3980), (1, .dat (.int .i64) x3981), (2, .dat (.int .i64) x3982), (3, .dat (.int .i64) x3983), (9, .dat (.int .i64) x4172), (10, .dat (.int .i64) t)], []⟩ : St)))) := by
  refine Link.of fun K h => ?_
  simp only [spec_l4RowRank_n6, wpO_bind, wpO_cond, wpO_map, wpO_some] at h
  exact Awp.of (by kernel_rfl) h

theorem spec_l4RowRank_n7_l (n : Nat) (x3980 : List Int) (x3981 : Int) (x3982 : Int) (x3983 : Int) (x4172 : Int) : Link (spec_l4RowRank_ctx n) LL (Code.fst (Code.fst (Code.snd (Code.snd (Code.snd (Code.snd (Code.snd (bodyOf Tryd.f56)))))))) (Ann.fst (Ann.fst (Ann.snd (Ann.snd (Ann.snd (Ann.snd (Ann.snd spec_l4RowRank_an))))))) (⟨mkE 78 0 [(0, .dat (.list (.int .i64)) x3980), (1, .dat (.int .i64) x3981), (2, .dat (.int .i64) x3982), (3, .dat (.int .i64) x3983), (9, .dat (.int .i64) x4172), (10, .dat (.int .i64) x3981)], []⟩ : St) (spec_l4RowRank_n7 (spec_l4TreeRank_fuel n) (spec_l4RowRank_fuel n) x3980 x3981 x3982 x4172) (fun (t : Int) => ((Exit.exit 2), (⟨mkE 78 0 [(0, .dat (.list (.int .i64)) x3980), (1, .dat (.int .i64) x3981), (2, .dat (.int .i64) x3982), (3, .dat (.int .i64) x3983), (9, .dat (.int .i64) x4172), (10, .dat (.int .i64) t)], []⟩ : St))) := by
  unfold spec_l4RowRank_n7
  exact Link.cast (by kernel_rfl) (by kernel_rfl) (link_loop (mk := fun (s : Int) => (⟨mkE 78 0 [(0, .dat (.list (.int .i64)) x3980), (1, .dat (.int .i64) x3981), (2, .dat (.int .i64) x3982), (3, .dat (.int .i64) x3983), (9, .dat (.int .i64) x4172), (10, .dat (.int .i64) s)], []⟩ : St)) (fin := (fun (t : Int) => ((Exit.exit 2), (⟨mkE 78 0 [(0, .dat (.list (.int .i64)) x3980), (1, .dat (.int .i64) x3981), (2, .dat (.int .i64) x3982), (3, .dat (.int .i64) x3983), (9, .dat (.int .i64) x4172), (10, .dat (.int .i64) t)], []⟩ : St)))) (by
  rintro t f K h
  · exact h) (fun s => link_map (spec_l4RowRank_n6_l n x3980 x3981 x3982 x3983 x4172 s) (Sum.elim (fun (t : Int) => Sum.inl t) (fun (t : Int) => Sum.inr t)) (by
  rintro (t | t)
  · kernel_rfl
  · kernel_rfl)) x3981)

theorem spec_l4RowRank_n8_l (n : Nat) (x3980 : List Int) (x3981 : Int) (x3982 : Int) (x3983 : Int) (x4172 : Int) : Link (spec_l4RowRank_ctx n) LL (Code.fst (Code.snd (Code.snd (Code.snd (Code.snd (Code.snd (bodyOf Tryd.f56))))))) (Ann.fst (Ann.snd (Ann.snd (Ann.snd (Ann.snd (Ann.snd spec_l4RowRank_an)))))) (⟨mkE 78 0 [(0, .dat (.list (.int .i64)) x3980), (1, .dat (.int .i64) x3981), (2, .dat (.int .i64) x3982), (3, .dat (.int .i64) x3983), (9, .dat (.int .i64) x4172), (10, .dat (.int .i64) x3981)], []⟩ : St) (spec_l4RowRank_n8 (spec_l4TreeRank_fuel n) (spec_l4RowRank_fuel n) x3980 x3981 x3982 x4172) (fun (t : Int) => (Exit.normal, (⟨mkE 78 0 [(0, .dat (.list (.int .i64)) x3980), (1, .dat (.int .i64) x3981), (2, .dat (.int .i64) x3982), (3, .dat (.int .i64) x3983), (9, .dat (.int .i64) x4172), (10, .dat (.int .i64) t)], []⟩ : St))) := by
  unfold spec_l4RowRank_n8
  exact Link.cast (by kernel_rfl) (by kernel_rfl) (link_block (id := 2) (spec_l4RowRank_n7_l n x3980 x3981 x3982 x3983 x4172) (fun (t : Int) => t) (by
  rintro t K h
  · exact Eq.mp (by kernel_rfl) h))

theorem spec_l4RowRank_n9_l (n : Nat) (x3980 : List Int) (x3981 : Int) (x3982 : Int) (x3983 : Int) (x4172 : Int) (x4191 : Int) : Link (spec_l4RowRank_ctx n) LL (Code.fst (Code.snd (Code.snd (Code.snd (Code.snd (Code.snd (Code.snd (bodyOf Tryd.f56)))))))) (Ann.fst (Ann.snd (Ann.snd (Ann.snd (Ann.snd (Ann.snd (Ann.snd spec_l4RowRank_an))))))) (⟨mkE 78 0 [(0, .dat (.list (.int .i64)) x3980), (1, .dat (.int .i64) x3981), (2, .dat (.int .i64) x3982), (3, .dat (.int .i64) x3983), (9, .dat (.int .i64) x4172), (10, .dat (.int .i64) x4191)], []⟩ : St) (spec_l4RowRank_n9 (spec_l4TreeRank_fuel n) (spec_l4RowRank_fuel n)) (fun (t : Unit) => (Exit.normal, (⟨mkE 78 0 [(0, .dat (.list (.int .i64)) x3980), (1, .dat (.int .i64) x3981), (2, .dat (.int .i64) x3982), (3, .dat (.int .i64) x3983), (9, .dat (.int .i64) x4172), (10, .dat (.int .i64) x4191), (11, .dat (.int .i64) 0)], []⟩ : St))) := by
  refine Link.of fun K h => ?_
  simp only [spec_l4RowRank_n9, wpO_bind, wpO_cond, wpO_map, wpO_some] at h
  exact Awp.of (by kernel_rfl) h

theorem spec_l4RowRank_n10_l (n : Nat) (x3980 : List Int) (x3981 : Int) (x3982 : Int) (x3983 : Int) (x4172 : Int) (x4191 : Int) : Link (spec_l4RowRank_ctx n) LL (Code.fst (Code.fst (Code.snd (Code.snd (Code.snd (Code.snd (Code.snd (Code.snd (Code.snd (bodyOf Tryd.f56)))))))))) (Ann.fst (Ann.fst (Ann.snd (Ann.snd (Ann.snd (Ann.snd (Ann.snd (Ann.snd (Ann.snd spec_l4RowRank_an))))))))) (⟨mkE 78 0 [(0, .dat (.list (.int .i64)) x3980), (1, .dat (.int .i64) x3981), (2, .dat (.int .i64) x3982), (3, .dat (.int .i64) x3983), (9, .dat (.int .i64) x4172), (10, .dat (.int .i64) x4191), (11, .dat (.int .i64) 0)], []⟩ : St) (spec_l4RowRank_n10 (spec_l4TreeRank_fuel n) (spec_l4RowRank_fuel n)) (fun (t : Unit) => (Exit.normal, (⟨mkE 78 0 [(0, .dat (.list (.int .i64)) x3980), (1, .dat (.int .i64) x3981), (2, .dat (.int .i64) x3982), (3, .dat (.int .i64) x3983), (9, .dat (.int .i64) x4172), (10, .dat (.int .i64) x4191), (11, .dat (.int .i64) 0), (12, .dat (.int .i64) x3981)], []⟩ : St))) := by
  refine Link.of fun K h => ?_
  simp only [spec_l4RowRank_n10, wpO_bind, wpO_cond, wpO_map, wpO_some] at h
  exact Awp.of (by kernel_rfl) h

theorem spec_l4RowRank_n11_l (n : Nat) (x3980 : List Int) (x3981 : Int) (x3982 : Int) (x3983 : Int) (x4172 : Int) (x4191 : Int) (x4221 : Int) (x4222 : Int) : Link (spec_l4RowRank_ctx n) LL (Code.fst (Code.fst (Code.snd (Code.fst (Code.snd (Code.snd (Code.snd (Code.snd (Code.snd (Code.snd (Code.snd (bodyOf Tryd.f56)))))))))))) (Ann.fst (Ann.fst (Ann.snd (Ann.fst (Ann.snd (Ann.snd (Ann.snd (Ann.snd (Ann.snd (Ann.snd (Ann.snd spec_l4RowRank_an))))))))))) (⟨mkE 78 0 [(0, .dat (.list (.int .i64)) x3980), (1, .dat (.int .i64) x3981), (2, .dat (.int .i64) x3982), (3, .dat (.int .i64) x3983), (9, .dat (.int .i64) x4172), (10, .dat (.int .i64) x4191), (11, .dat (.int .i64) x4221), (12, .dat (.int .i64) x4222)], []⟩ : St) (spec_l4RowRank_n11 (spec_l4TreeRank_fuel n) (spec_l4RowRank_fuel n) x3981 x3982 x4191 x4221 x4222) (Sum.elim (fun (t : Int × Int) => (Exit.normal, (⟨mkE 78 0 [(0, .dat (.list (.int .i64)) x3980), (1, .dat (.int .i64) x3981), (2, .dat (.int .i64) x3982), (3, .dat (.int .i64) x3983), (9, .dat (.int .i64) x4172), (10, .dat (.int .i64) x4191), (11, .dat (.int .i64) t.1), (12, .dat (.int .i64) t.2)], []⟩ : St))) (fun (t : Int) => ((Exit.exit 4), (⟨mkE 78 0 [(0, .dat (.list (.int .i64)) x3980), (1, .dat (.int .i64) x3981), (2, .dat (.int .i64) x3982), (3, .dat (.int .i64) x3983), (9, .dat (.int .i64) x4172), (10, .dat (.int .i64) x4191), (11, .dat (.int .i64) t)], []⟩ : St)))) := by
  refine Link.of fun K h => ?_
  simp only [spec_l4RowRank_n11, wpO_bind, wpO_cond, wpO_map, wpO_some] at h
  exact Awp.of (by kernel_rfl) h

theorem spec_l4RowRank_n12_l (n : Nat) (x3980 : List Int) (x3981 : Int) (x3982 : Int) (x3983 : Int) (x4172 : Int) (x4191 : Int) : Link (spec_l4RowRank_ctx n) LL (Code.fst (Code.snd (Code.fst (Code.snd (Code.snd (Code.snd (Code.snd (Code.snd (Code.snd (Code.snd (bodyOf Tryd.f56))))))))))) (Ann.fst (Ann.snd (Ann.fst (Ann.snd (Ann.snd (Ann.snd (Ann.snd (Ann.snd (Ann.snd (Ann.snd spec_l4RowRank_an)))))))))) (⟨mkE 78 0 [(0, .dat (.list (.int .i64)) x3980), (1, .dat (.int .i64) x3981), (2, .dat (.int .i64) x3982), (3, .dat (.int .i64) x3983), (9, .dat (.int .i64) x4172), (10, .dat (.int .i64) x4191), (11, .dat (.int .i64) 0), (12, .dat (.int .i64) x3981)], []⟩ : St) (spec_l4RowRank_n12 (spec_l4TreeRank_fuel n) (spec_l4RowRank_fuel n) x3981 x3982 x4191) (fun (t : Int) => ((Exit.exit 4), (⟨mkE 78 0 [(0, .dat (.list (.int .i64)) x3980), (1, .dat (.int .i64) x3981), (2, .dat (.int .i64) x3982), (3, .dat (.int .i64) x3983), (9, .dat (.int .i64) x4172), (10, .dat (.int .i64) x4191), (11, .dat (.int .i64) t)], []⟩ : St))) := by
  unfold spec_l4RowRank_n12
  exact Link.cast (by kernel_rfl) (by kernel_rfl) (link_loop (mk := fun (s : Int × Int) => (⟨mkE 78 0 [(0, .dat (.list (.int .i64)) x3980), (1, .dat (.int .i64) x3981), (2, .dat (.int .i64) x3982), (3, .dat (.int .i64) x3983), (9, .dat (.int .i64) x4172), (10, .dat (.int .i64) x4191), (11, .dat (.int .i64) s.1), (12, .dat (.int .i64) s.2)], []⟩ : St)) (fin := (fun (t : Int) => ((Exit.exit 4), (⟨mkE 78 0 [(0, .dat (.list (.int .i64)) x3980), (1, .dat (.int .i64) x3981), (2, .dat (.int .i64) x3982), (3, .dat (.int .i64) x3983), (9, .dat (.int .i64) x4172), (10, .dat (.int .i64) x4191), (11, .dat (.int .i64) t)], []⟩ : St)))) (by
  rintro t f K h
  · exact h) (fun s => link_map (spec_l4RowRank_n11_l n x3980 x3981 x3982 x3983 x4172 x4191 s.1 s.2) (Sum.elim (fun (t : Int × Int) => Sum.inl (t.1, t.2)) (fun (t : Int) => Sum.inr t)) (by
  rintro (t | t)
  · kernel_rfl
  · kernel_rfl)) (0, x3981))

theorem spec_l4RowRank_n13_l (n : Nat) (x3980 : List Int) (x3981 : Int) (x3982 : Int) (x3983 : Int) (x4172 : Int) (x4191 : Int) : Link (spec_l4RowRank_ctx n) LL (Code.snd (Code.fst (Code.snd (Code.snd (Code.snd (Code.snd (Code.snd (Code.snd (Code.snd (bodyOf Tryd.f56)))))))))) (Ann.snd (Ann.fst (Ann.snd (Ann.snd (Ann.snd (Ann.snd (Ann.snd (Ann.snd (Ann.snd spec_l4RowRank_an))))))))) (⟨mkE 78 0 [(0, .dat (.list (.int .i64)) x3980), (1, .dat (.int .i64) x3981), (2, .dat (.int .i64) x3982), (3, .dat (.int .i64) x3983), (9, .dat (.int .i64) x4172), (10, .dat (.int .i64) x4191), (11, .dat (.int .i64) 0), (12, .dat (.int .i64) x3981)], []⟩ : St) (spec_l4RowRank_n13 (spec_l4TreeRank_fuel n) (spec_l4RowRank_fuel n) x3981 x3982 x4191) (fun (t : Int) => (Exit.normal, (⟨mkE 78 0 [(0, .dat (.list (.int .i64)) x3980), (1, .dat (.int .i64) x3981), (2, .dat (.int .i64) x3982), (3, .dat (.int .i64) x3983), (9, .dat (.int .i64) x4172), (10, .dat (.int .i64) x4191), (11, .dat (.int .i64) t)], []⟩ : St))) := by
  unfold spec_l4RowRank_n13
  exact Link.cast (by kernel_rfl) (by kernel_rfl) (link_block (id := 4) (spec_l4RowRank_n12_l n x3980 x3981 x3982 x3983 x4172 x4191) (fun (t : Int) => t) (by
  rintro t K h
  · exact Eq.mp (by kernel_rfl) h))

theorem spec_l4RowRank_n14_l (n : Nat) (x3980 : List Int) (x3981 : Int) (x3982 : Int) (x3983 : Int) (x4172 : Int) (x4191 : Int) : Link (spec_l4RowRank_ctx n) LL (Code.fst (Code.snd (Code.snd (Code.snd (Code.snd (Code.snd (Code.snd (Code.snd (bodyOf Tryd.f56))))))))) (Ann.fst (Ann.snd (Ann.snd (Ann.snd (Ann.snd (Ann.snd (Ann.snd (Ann.snd spec_l4RowRank_an)))))))) (⟨mkE 78 0 [(0, .dat (.list (.int .i64)) x3980), (1, .dat (.int .i64) x3981), (2, .dat (.int .i64) x3982), (3, .dat (.int .i64) x3983), (9, .dat (.int .i64) x4172), (10, .dat (.int .i64) x4191), (11, .dat (.int .i64) 0)], []⟩ : St) (spec_l4RowRank_n14 (spec_l4TreeRank_fuel n) (spec_l4RowRank_fuel n) x3981 x3982 x4191) (fun (t : Int) => (Exit.normal, (⟨mkE 78 0 [(0, .dat (.list (.int .i64)) x3980), (1, .dat (.int .i64) x3981), (2, .dat (.int .i64) x3982), (3, .dat (.int .i64) x3983), (9, .dat (.int .i64) x4172), (10, .dat (.int .i64) x4191), (11, .dat (.int .i64) t)], []⟩ : St))) := by
  unfold spec_l4RowRank_n14
  exact Link.cast (by kernel_rfl) (by kernel_rfl) (link_seq (b := (Code.snd (Code.fst (Code.snd (Code.snd (Code.snd (Code.snd (Code.snd (Code.snd (Code.snd (bodyOf Tryd.f56))))))))))) (y := (Ann.snd (Ann.fst (Ann.snd (Ann.snd (Ann.snd (Ann.snd (Ann.snd (Ann.snd (Ann.snd spec_l4RowRank_an)))))))))) (spec_l4RowRank_n10_l n x3980 x3981 x3982 x3983 x4172 x4191) (fun (t : Unit) => (spec_l4RowRank_n13_l n x3980 x3981 x3982 x3983 x4172 x4191)))

theorem spec_l4RowRank_n15_l (n : Nat) (x3980 : List Int) (x3981 : Int) (x3982 : Int) (x3983 : Int) (x4172 : Int) (x4191 : Int) (x4221 : Int) : Link (spec_l4RowRank_ctx n) LL (Code.snd (Code.snd (Code.snd (Code.snd (Code.snd (Code.snd (Code.snd (Code.snd (bodyOf Tryd.f56))))))))) (Ann.snd (Ann.snd (Ann.snd (Ann.snd (Ann.snd (Ann.snd (Ann.snd (Ann.snd spec_l4RowRank_an)))))))) (⟨mkE 78 0 [(0, .dat (.list (.int .i64)) x3980), (1, .dat (.int .i64) x3981), (2, .dat (.int .i64) x3982), (3, .dat (.int .i64) x3983), (9, .dat (.int .i64) x4172), (10, .dat (.int .i64) x4191), (11, .dat (.int .i64) x4221)], []⟩ : St) (spec_l4RowRank_n15 (spec_l4TreeRank_fuel n) (spec_l4RowRank_fuel n) x3980 x3981 x3982 x3983 x4172 x4191 x4221) (fun (t : Int) => (Exit.ret, (⟨mkE 78 0 [(8, .dat (.int .i64) t)], []⟩ : St))) := by
  refine Link.of fun K h => ?_
  simp only [spec_l4RowRank_n15, wpO_bind, wpO_cond, wpO_map, wpO_some] at h
  exact Awp.of (by kernel_rfl) h

theorem spec_l4RowRank_n16_l (n : Nat) (x3980 : List Int) (x3981 : Int) (x3982 : Int) (x3983 : Int) (x4172 : Int) (x4191 : Int) : Link (spec_l4RowRank_ctx n) LL (Code.snd (Code.snd (Code.snd (Code.snd (Code.snd (Code.snd (Code.snd (bodyOf Tryd.f56)))))))) (Ann.snd (Ann.snd (Ann.snd (Ann.snd (Ann.snd (Ann.snd (Ann.snd spec_l4RowRank_an))))))) (⟨mkE 78 0 [(0, .dat (.list (.int .i64)) x3980), (1, .dat (.int .i64) x3981), (2, .dat (.int .i64) x3982), (3, .dat (.int .i64) x3983), (9, .dat (.int .i64) x4172), (10, .dat (.int .i64) x4191), (11, .dat (.int .i64) 0)], []⟩ : St) (spec_l4RowRank_n16 (spec_l4TreeRank_fuel n) (spec_l4RowRank_fuel n) x3980 x3981 x3982 x3983 x4172 x4191) (fun (t : Int) => (Exit.ret, (⟨mkE 78 0 [(8, .dat (.int .i64) t)], []⟩ : St))) := by
  unfold spec_l4RowRank_n16
  exact Link.cast (by kernel_rfl) (by kernel_rfl) (link_seq (b := (Code.snd (Code.snd (Code.snd (Code.snd (Code.snd (Code.snd (Code.snd (Code.snd (bodyOf Tryd.f56)))))))))) (y := (Ann.snd (Ann.snd (Ann.snd (Ann.snd (Ann.snd (Ann.snd (Ann.snd (Ann.snd spec_l4RowRank_an))))))))) (spec_l4RowRank_n14_l n x3980 x3981 x3982 x3983 x4172 x4191) (fun (t : Int) => (spec_l4RowRank_n15_l n x3980 x3981 x3982 x3983 x4172 x4191 t)))

theorem spec_l4RowRank_n17_l (n : Nat) (x3980 : List Int) (x3981 : Int) (x3982 : Int) (x3983 : Int) (x4172 : Int) (x4191 : Int) : Link (spec_l4RowRank_ctx n) LL (Code.snd (Code.snd (Code.snd (Code.snd (Code.snd (Code.snd (bodyOf Tryd.f56))))))) (Ann.snd (Ann.snd (Ann.snd (Ann.snd (Ann.snd (Ann.snd spec_l4RowRank_an)))))) (⟨mkE 78 0 [(0, .dat (.list (.int .i64)) x3980), (1, .dat (.int .i64) x3981), (2, .dat (.int .i64) x3982), (3, .dat (.int .i64) x3983), (9, .dat (.int .i64) x4172), (10, .dat (.int .i64) x4191)], []⟩ : St) (spec_l4RowRank_n17 (spec_l4TreeRank_fuel n) (spec_l4RowRank_fuel n) x3980 x3981 x3982 x3983 x4172 x4191) (fun (t : Int) => (Exit.ret, (⟨mkE 78 0 [(8, .dat (.int .i64) t)], []⟩ : St))) := by
  unfold spec_l4RowRank_n17
  exact Link.cast (by kernel_rfl) (by kernel_rfl) (link_seq (b := (Code.snd (Code.snd (Code.snd (Code.snd (Code.snd (Code.snd (Code.snd (bodyOf Tryd.f56))))))))) (y := (Ann.snd (Ann.snd (Ann.snd (Ann.snd (Ann.snd (Ann.snd (Ann.snd spec_l4RowRank_an)))))))) (spec_l4RowRank_n9_l n x3980 x3981 x3982 x3983 x4172 x4191) (fun (t : Unit) => (spec_l4RowRank_n16_l n x3980 x3981 x3982 x3983 x4172 x4191)))

theorem spec_l4RowRank_n18_l (n : Nat) (x3980 : List Int) (x3981 : Int) (x3982 : Int) (x3983 : Int) (x4172 : Int) : Link (spec_l4RowRank_ctx n) LL (Code.snd (Code.snd (Code.snd (Code.snd (Code.snd (bodyOf Tryd.f56)))))) (Ann.snd (Ann.snd (Ann.snd (Ann.snd (Ann.snd spec_l4RowRank_an))))) (⟨mkE 78 0 [(0, .dat (.list (.int .i64)) x3980), (1, .dat (.int .i64) x3981), (2, .dat (.int .i64) x3982), (3, .dat (.int .i64) x3983), (9, .dat (.int .i64) x4172), (10, .dat (.int .i64) x3981)], []⟩ : St) (spec_l4RowRank_n18 (spec_l4TreeRank_fuel n) (spec_l4RowRank_fuel n) x3980 x3981 x3982 x3983 x4172) (fun (t : Int) => (Exit.ret, (⟨mkE 78 0 [(8, .dat (.int .i64) t)], []⟩ : St))) := by
  unfold spec_l4RowRank_n18
  exact Link.cast (by kernel_rfl) (by kernel_rfl) (link_seq (b := (Code.snd (Code.snd (Code.snd (Code.snd (Code.snd (Code.snd (bodyOf Tryd.f56)))))))) (y := (Ann.snd (Ann.snd (Ann.snd (Ann.snd (Ann.snd (Ann.snd spec_l4RowRank_an))))))) (spec_l4RowRank_n8_l n x3980 x3981 x3982 x3983 x4172) (fun (t : Int) => (spec_l4RowRank_n17_l n x3980 x3981 x3982 x3983 x4172 t)))

theorem spec_l4RowRank_n19_l (n : Nat) (x3980 : List Int) (x3981 : Int) (x3982 : Int) (x3983 : Int) (x4172 : Int) : Link (spec_l4RowRank_ctx n) LL (Code.snd (Code.snd (Code.snd (Code.snd (bodyOf Tryd.f56))))) (Ann.snd (Ann.snd (Ann.snd (Ann.snd spec_l4RowRank_an)))) (⟨mkE 78 0 [(0, .dat (.list (.int .i64)) x3980), (1, .dat (.int .i64) x3981), (2, .dat (.int .i64) x3982), (3, .dat (.int .i64) x3983), (9, .dat (.int .i64) x4172)], []⟩ : St) (spec_l4RowRank_n19 (spec_l4TreeRank_fuel n) (spec_l4RowRank_fuel n) x3980 x3981 x3982 x3983 x4172) (fun (t : Int) => (Exit.ret, (⟨mkE 78 0 [(8, .dat (.int .i64) t)], []⟩ : St))) := by
  unfold spec_l4RowRank_n19
  exact Link.cast (by kernel_rfl) (by kernel_rfl) (link_seq (b := (Code.snd (Code.snd (Code.snd (Code.snd (Code.snd (bodyOf Tryd.f56))))))) (y := (Ann.snd (Ann.snd (Ann.snd (Ann.snd (Ann.snd spec_l4RowRank_an)))))) (spec_l4RowRank_n5_l n x3980 x3981 x3982 x3983 x4172) (fun (t : Unit) => (spec_l4RowRank_n18_l n x3980 x3981 x3982 x3983 x4172)))

theorem spec_l4RowRank_n20_l (n : Nat) (x3980 : List Int) (x3981 : Int) (x3982 : Int) (x3983 : Int) : Link (spec_l4RowRank_ctx n) LL (Code.snd (Code.snd (Code.snd (bodyOf Tryd.f56)))) (Ann.snd (Ann.snd (Ann.snd spec_l4RowRank_an))) (⟨mkE 78 0 [(0, .dat (.list (.int .i64)) x3980), (1, .dat (.int .i64) x3981), (2, .dat (.int .i64) x3982), (3, .dat (.int .i64) x3983), (9, .dat (.int .i64) x3981)], []⟩ : St) (spec_l4RowRank_n20 (spec_l4TreeRank_fuel n) (spec_l4RowRank_fuel n) x3980 x3981 x3982 x3983) (fun (t : Int) => (Exit.ret, (⟨mkE 78 0 [(8, .dat (.int .i64) t)], []⟩ : St))) := by
  unfold spec_l4RowRank_n20
  exact Link.cast (by kernel_rfl) (by kernel_rfl) (link_seq (b := (Code.snd (Code.snd (Code.snd (Code.snd (bodyOf Tryd.f56)))))) (y := (Ann.snd (Ann.snd (Ann.snd (Ann.snd spec_l4RowRank_an))))) (spec_l4RowRank_n4_l n x3980 x3981 x3982 x3983) (fun (t : Int) => (spec_l4RowRank_n19_l n x3980 x3981 x3982 x3983 t)))

theorem spec_l4RowRank_n21_l (n : Nat) (x3980 : List Int) (x3981 : Int) (x3982 : Int) (x3983 : Int) : Link (spec_l4RowRank_ctx n) LL (bodyOf Tryd.f56) spec_l4RowRank_an (⟨mkE 78 0 [(0, .dat (.list (.int .i64)) x3980), (1, .dat (.int .i64) x3981), (2, .dat (.int .i64) x3982), (3, .dat (.int .i64) x3983)], []⟩ : St) (spec_l4RowRank_n21 (spec_l4TreeRank_fuel n) (spec_l4RowRank_fuel n) x3980 x3981 x3982 x3983) (fun (t : Int) => (Exit.ret, (⟨mkE 78 0 [(8, .dat (.int .i64) t)], []⟩ : St))) := by
  unfold spec_l4RowRank_n21
  exact Link.cast (by kernel_rfl) (by kernel_rfl) (link_group (c := (Code.fst (Code.snd (Code.snd (bodyOf Tryd.f56))))) (a := (Ann.fst (Ann.snd (Ann.snd spec_l4RowRank_an)))) [(Code.fst (bodyOf Tryd.f56)), (Code.fst (Code.snd (bodyOf Tryd.f56)))] [(Ann.fst spec_l4RowRank_an), (Ann.fst (Ann.snd spec_l4RowRank_an))] rfl (link_seq2 (b := (Code.snd (Code.snd (Code.snd (bodyOf Tryd.f56))))) (y := (Ann.snd (Ann.snd (Ann.snd spec_l4RowRank_an)))) (spec_l4RowRank_n1_l n x3980 x3981 x3982 x3983) (fun (t : Unit) => (spec_l4RowRank_n20_l n x3980 x3981 x3982 x3983)) (fun (t : Int) => t) (by
  rintro t
  · kernel_rfl) (by
  rintro t f K h
  · exact h)))

theorem spec_l4RowRank_e (n : Nat) (x3980 : List Int) (x3981 : Int) (x3982 : Int) (x3983 : Int) {r : AV} {H' : Heap} (h : (Ans.mk _ (spec_l4RowRank_fuel (n + 1) x3980 x3981 x3982 x3983) (fun (t : Int) => (.dat (.int .i64) t, []))).run = some (r, H')) : Awp (spec_l4RowRank_ctx n) LL (bodyOf Tryd.f56) spec_l4RowRank_an (⟨mkE 78 0 [(0, .dat (.list (.int .i64)) x3980), (1, .dat (.int .i64) x3981), (2, .dat (.int .i64) x3982), (3, .dat (.int .i64) x3983)], []⟩ : St) (Ret (tlook tys) Tryd.f56.results.toList r H') :=
  ret_of' (spec_l4RowRank_n21_l n x3980 x3981 x3982 x3983) (by (show _ = _); kernel_rfl) (by
  intro t
  exact ret_mk [.dat (.int .i64) t] (by kernel_rfl) (by kernel_rfl) (by kernel_rfl) (by kernel_rfl)) h

theorem spec_l4TreeRank_step (n : Nat) (h34 : Sound Tryd.prog 34 (F_spec_l4TreeRank_fuel n)) (h56 : Sound Tryd.prog 56 (F_spec_l4RowRank_fuel n)) : Sound Tryd.prog 34 (F_spec_l4TreeRank_fuel (n + 1)) := by
  refine fn_sound' (C := spec_l4TreeRank_ctx n) (c := bodyOf Tryd.f34) (cok_of tys_ok (List.forall_mem_cons.2 ⟨spec_l4Rows_sound, List.forall_mem_cons.2 ⟨h56, by simp⟩⟩) (List.forall_mem_cons.2 ⟨Tryd.call41, List.forall_mem_cons.2 ⟨Tryd.call56, by simp⟩⟩) (by kernel_rfl)) Tryd.func34 (by kernel_rfl) LL spec_l4TreeRank_an ?_
  intro avs H r H' h
  unfold F_spec_l4TreeRank_fuel at h
  split at h
  · refine Awp.cast ?_ ?_ ?_ (spec_l4TreeRank_e n _ _ _ _ h) <;> kernel_rfl
  · simp [Ans.no, Ans.run] at h

theorem spec_l4TreeRank_null : Sound Tryd.prog 34 (F_spec_l4TreeRank_fuel 0) := by
  intro avs H r H' h
  unfold F_spec_l4TreeRank_fuel at h
  split at h
  · simp [spec_l4TreeRank_fuel, spec_l4TreeRank_knot, Ans.run] at h
  · simp [Ans.no, Ans.run] at h

theorem spec_l4RowRank_step (n : Nat) (h34 : Sound Tryd.prog 34 (F_spec_l4TreeRank_fuel n)) (h56 : Sound Tryd.prog 56 (F_spec_l4RowRank_fuel n)) : Sound Tryd.prog 56 (F_spec_l4RowRank_fuel (n + 1)) := by
  refine fn_sound' (C := spec_l4RowRank_ctx n) (c := bodyOf Tryd.f56) (cok_of tys_ok (List.forall_mem_cons.2 ⟨spec_l2Yield_sound, List.forall_mem_cons.2 ⟨spec_l4Flat_sound, List.forall_mem_cons.2 ⟨spec_l4Rows_sound, List.forall_mem_cons.2 ⟨h34, List.forall_mem_cons.2 ⟨h56, by simp⟩⟩⟩⟩⟩) (List.forall_mem_cons.2 ⟨Tryd.call55, List.forall_mem_cons.2 ⟨Tryd.call25, List.forall_mem_cons.2 ⟨Tryd.call41, List.forall_mem_cons.2 ⟨Tryd.call34, List.forall_mem_cons.2 ⟨Tryd.call56, by simp⟩⟩⟩⟩⟩) (by kernel_rfl)) Tryd.func56 (by kernel_rfl) LL spec_l4RowRank_an ?_
  intro avs H r H' h
  unfold F_spec_l4RowRank_fuel at h
  split at h
  · refine Awp.cast ?_ ?_ ?_ (spec_l4RowRank_e n _ _ _ _ h) <;> kernel_rfl
  · simp [Ans.no, Ans.run] at h

theorem spec_l4RowRank_null : Sound Tryd.prog 56 (F_spec_l4RowRank_fuel 0) := by
  intro avs H r H' h
  unfold F_spec_l4RowRank_fuel at h
  split at h
  · simp [spec_l4RowRank_fuel, spec_l4TreeRank_knot, Ans.run] at h
  · simp [Ans.no, Ans.run] at h

theorem spec_l4TreeRank_knot_all : ∀ n, Sound Tryd.prog 34 (F_spec_l4TreeRank_fuel n) ∧ Sound Tryd.prog 56 (F_spec_l4RowRank_fuel n)
  | 0 => ⟨spec_l4TreeRank_null, spec_l4RowRank_null⟩
  | n + 1 => by
    obtain ⟨h34, h56⟩ := spec_l4TreeRank_knot_all n
    exact ⟨spec_l4TreeRank_step n h34 h56, spec_l4RowRank_step n h34 h56⟩

def F_spec_l4TreeRank : Fun := fun avs H =>
  match avs, H with
  | [.dat (.list (.int .i64)) x3729, .dat (.int .i64) x3730, .dat (.int .i64) x3731, .dat (.int .i64) x3732], [] => ⟨_, spec_l4TreeRank x3729 x3730 x3731 x3732, fun (t : Int) => (.dat (.int .i64) t, [])⟩
  | _, _ => Ans.no

theorem spec_l4TreeRank_sound : Sound Tryd.prog 34 F_spec_l4TreeRank := by
  have e : F_spec_l4TreeRank = F_spec_l4TreeRank_fuel RR := by
    funext avs H
    unfold F_spec_l4TreeRank F_spec_l4TreeRank_fuel
    split <;> first | rfl | (simp only [spec_l4TreeRank])
  rw [e]
  exact (spec_l4TreeRank_knot_all RR).1

def F_spec_l4RowRank : Fun := fun avs H =>
  match avs, H with
  | [.dat (.list (.int .i64)) x3980, .dat (.int .i64) x3981, .dat (.int .i64) x3982, .dat (.int .i64) x3983], [] => ⟨_, spec_l4RowRank x3980 x3981 x3982 x3983, fun (t : Int) => (.dat (.int .i64) t, [])⟩
  | _, _ => Ans.no

theorem spec_l4RowRank_sound : Sound Tryd.prog 56 F_spec_l4RowRank := by
  have e : F_spec_l4RowRank = F_spec_l4RowRank_fuel RR := by
    funext avs H
    unfold F_spec_l4RowRank F_spec_l4RowRank_fuel
    split <;> first | rfl | (simp only [spec_l4RowRank])
  rw [e]
  exact (spec_l4TreeRank_knot_all RR).2

/-! loop.example/headtrees/spec.PlaceOf -/

def spec_PlaceOf_an : Ann := (.seq (.leaf [0]) (.seq (.seq (.leaf [0, 10]) (.cond (.seq (.leaf [2]) (.leaf [2])) (.leaf [0]))) (.seq (.leaf [2]) (.leaf [2]))))

noncomputable def spec_PlaceOf_ctx : Ctx := ⟨tlook tys, olook [(33, F_spec_FlatOk), (35, F_spec_RootOf), (34, F_spec_l4TreeRank)], ioF, 0⟩

theorem spec_PlaceOf_n1_l (x3412 : List Int) : Link spec_PlaceOf_ctx LL (bodyOf Tryd.f15) spec_PlaceOf_an (⟨mkE 17 0 [(0, .dat (.list (.int .i64)) x3412)], []⟩ : St) (spec_PlaceOf_n1 x3412) (fun (t : Int) => (Exit.ret, (⟨mkE 17 0 [(2, .dat (.int .i64) t)], []⟩ : St))) := by
  refine Link.of fun K h => ?_
  simp only [spec_PlaceOf_n1, wpO_bind, wpO_cond, wpO_map, wpO_some] at h
  exact Awp.of (by kernel_rfl) h

theorem spec_PlaceOf_e (x3412 : List Int) {r : AV} {H' : Heap} (h : (Ans.mk _ (spec_PlaceOf x3412) (fun (t : Int) => (.dat (.int .i64) t, []))).run = some (r, H')) : Awp spec_PlaceOf_ctx LL (bodyOf Tryd.f15) spec_PlaceOf_an (⟨mkE 17 0 [(0, .dat (.list (.int .i64)) x3412)], []⟩ : St) (Ret (tlook tys) Tryd.f15.results.toList r H') :=
  ret_of' (spec_PlaceOf_n1_l x3412) (by unfold spec_PlaceOf; kernel_rfl) (by
  intro t
  exact ret_mk [.dat (.int .i64) t] (by kernel_rfl) (by kernel_rfl) (by kernel_rfl) (by kernel_rfl)) h

def F_spec_PlaceOf : Fun := fun avs H =>
  match avs, H with
  | [.dat (.list (.int .i64)) x3412], [] => ⟨_, spec_PlaceOf x3412, fun (t : Int) => (.dat (.int .i64) t, [])⟩
  | _, _ => Ans.no

theorem spec_PlaceOf_sound : Sound Tryd.prog 15 F_spec_PlaceOf := by
  refine fn_sound' (C := spec_PlaceOf_ctx) (c := bodyOf Tryd.f15) (cok_of tys_ok (List.forall_mem_cons.2 ⟨spec_FlatOk_sound, List.forall_mem_cons.2 ⟨spec_RootOf_sound, List.forall_mem_cons.2 ⟨spec_l4TreeRank_sound, by simp⟩⟩⟩) (List.forall_mem_cons.2 ⟨Tryd.call33, List.forall_mem_cons.2 ⟨Tryd.call35, List.forall_mem_cons.2 ⟨Tryd.call34, by simp⟩⟩⟩) (by kernel_rfl)) Tryd.func15 (by kernel_rfl) LL spec_PlaceOf_an ?_
  intro avs H r H' h
  unfold F_spec_PlaceOf at h
  split at h
  · refine Awp.cast ?_ ?_ ?_ (spec_PlaceOf_e _ h) <;> kernel_rfl
  · simp [Ans.no, Ans.run] at h

/-! loop.example/headtrees/laws.FnPlaceOf -/

def laws_FnPlaceOf_an : Ann := (.seq (.leaf [0]) (.seq (.seq (.leaf [0, 9]) (.cond (.seq (.leaf [2]) (.leaf [2])) (.leaf [0]))) (.seq (.leaf [3]) (.seq (.leaf [3, 4]) (.seq (.seq (.leaf [3, 4, 17]) (.cond (.seq (.leaf [2]) (.leaf [2])) (.leaf [3, 4]))) (.seq (.seq (.leaf [3, 4, 19]) (.cond (.seq (.leaf [2]) (.leaf [2])) (.leaf [3, 4]))) (.seq (.leaf [3, 4, 5, 6]) (.seq (.leaf [2]) (.leaf [2])))))))))

noncomputable def laws_FnPlaceOf_ctx : Ctx := ⟨tlook tys, olook [(14, F_spec_DrawPlaceOf), (12, F_impl_PlaceOf), (15, F_spec_PlaceOf), (11, F_impl_FlatOk), (10, F_laws_alive), (7, F_impl_FlatAt), (16, F_impl_CountFlat), (9, F_laws_sameInts)], ioF, 0⟩

theorem laws_FnPlaceOf_n1_l (x2599 : List Int) : Link laws_FnPlaceOf_ctx LL (bodyOf Tryd.f4) laws_FnPlaceOf_an (⟨mkE 55 0 [(0, .dat (.list (.int .u8)) x2599)], []⟩ : St) (laws_FnPlaceOf_n1 x2599) (fun (t : Bool) => (Exit.ret, (⟨mkE 55 0 [(2, .dat .bool t)], []⟩ : St))) := by
  refine Link.of fun K h => ?_
  simp only [laws_FnPlaceOf_n1, wpO_bind, wpO_cond, wpO_map, wpO_some] at h
  exact Awp.of (by kernel_rfl) h

theorem laws_FnPlaceOf_e (x2599 : List Int) {r : AV} {H' : Heap} (h : (Ans.mk _ (laws_FnPlaceOf x2599) (fun (t : Bool) => (.dat .bool t, []))).run = some (r, H')) : Awp laws_FnPlaceOf_ctx LL (bodyOf Tryd.f4) laws_FnPlaceOf_an (⟨mkE 55 0 [(0, .dat (.list (.int .u8)) x2599)], []⟩ : St) (Ret (tlook tys) Tryd.f4.results.toList r H') :=
  ret_of' (laws_FnPlaceOf_n1_l x2599) (by unfold laws_FnPlaceOf; kernel_rfl) (by
  intro t
  exact ret_mk [.dat .bool t] (by kernel_rfl) (by kernel_rfl) (by kernel_rfl) (by kernel_rfl)) h

def F_laws_FnPlaceOf : Fun := fun avs H =>
  match avs, H with
  | [.dat (.list (.int .u8)) x2599], [] => ⟨_, laws_FnPlaceOf x2599, fun (t : Bool) => (.dat .bool t, [])⟩
  | _, _ => Ans.no

theorem laws_FnPlaceOf_sound : Sound Tryd.prog 4 F_laws_FnPlaceOf := by
  refine fn_sound' (C := laws_FnPlaceOf_ctx) (c := bodyOf Tryd.f4) (cok_of tys_ok (List.forall_mem_cons.2 ⟨spec_DrawPlaceOf_sound, List.forall_mem_cons.2 ⟨impl_PlaceOf_sound, List.forall_mem_cons.2 ⟨spec_PlaceOf_sound, List.forall_mem_cons.2 ⟨impl_FlatOk_sound, List.forall_mem_cons.2 ⟨laws_alive_sound, List.forall_mem_cons.2 ⟨impl_FlatAt_sound, List.forall_mem_cons.2 ⟨impl_CountFlat_sound, List.forall_mem_cons.2 ⟨laws_sameInts_sound, by simp⟩⟩⟩⟩⟩⟩⟩⟩) (List.forall_mem_cons.2 ⟨Tryd.call14, List.forall_mem_cons.2 ⟨Tryd.call12, List.forall_mem_cons.2 ⟨Tryd.call15, List.forall_mem_cons.2 ⟨Tryd.call11, List.forall_mem_cons.2 ⟨Tryd.call10, List.forall_mem_cons.2 ⟨Tryd.call7, List.forall_mem_cons.2 ⟨Tryd.call16, List.forall_mem_cons.2 ⟨Tryd.call9, by simp⟩⟩⟩⟩⟩⟩⟩⟩) (by kernel_rfl)) Tryd.func4 (by kernel_rfl) LL laws_FnPlaceOf_an ?_
  intro avs H r H' h
  unfold F_laws_FnPlaceOf at h
  split at h
  · refine Awp.cast ?_ ?_ ?_ (laws_FnPlaceOf_e _ h) <;> kernel_rfl
  · simp [Ans.no, Ans.run] at h

/-! loop.example/headtrees/laws.toIntS -/

def laws_toIntS_an : Ann := (.seq (.leaf [0]) (.seq (.leaf [0, 3]) (.seq (.seq (.leaf [0, 3, 4]) (.block (.loop (.seq (.seq (.leaf [0, 3, 4, 11]) (.cond (.leaf [0, 3, 4]) (.leaf [3]))) (.seq (.block (.leaf [0, 3, 4])) (.leaf [0, 3, 4])))))) (.seq (.leaf [2]) (.leaf [2])))))

noncomputable def laws_toIntS_ctx : Ctx := ⟨tlook tys, olook [], ioF, 0⟩

theorem laws_toIntS_n1_l (x4369 : List Int) : Link laws_toIntS_ctx LL (Code.seq (Code.fst (bodyOf Tryd.f17)) (Code.fst (Code.snd (bodyOf Tryd.f17)))) (Ann.seq (Ann.fst laws_toIntS_an) (Ann.fst (Ann.snd laws_toIntS_an))) (⟨mkE 22 0 [(0, .dat (.list (.int .i64)) x4369)], []⟩ : St) (laws_toIntS_n1 x4369) (fun (t : (List Int)) => (Exit.normal, (⟨mkE 22 0 [(0, .dat (.list (.int .i64)) x4369), (3, .slc 0)], [some (.seq (.int .i64) t)]⟩ : St))) := by
  refine Link.of fun K h => ?_
  simp only [laws_toIntS_n1, wpO_bind, wpO_cond, wpO_map, wpO_some] at h
  exact Awp.of (by kernel_rfl) h

theorem laws_toIntS_n2_l (x4369 : List Int) (x4372 : List Int) : Link laws_toIntS_ctx LL (Code.fst (Code.fst (Code.snd (Code.snd (bodyOf Tryd.f17))))) (Ann.fst (Ann.fst (Ann.snd (Ann.snd laws_toIntS_an)))) (⟨mkE 22 0 [(0, .dat (.list (.int .i64)) x4369), (3, .slc 0)], [some (.seq (.int .i64) x4372)]⟩ : St) (laws_toIntS_n2) (fun (t : Unit) => (Exit.normal, (⟨mkE 22 0 [(0, .dat (.list (.int .i64)) x4369), (3, .slc 0), (4, .dat (.int .i64) 0)], [some (.seq (.int .i64) x4372)]⟩ : St))) := by
  refine Link.of fun K h => ?_
  simp only [laws_toIntS_n2, wpO_bind, wpO_cond, wpO_map, wpO_some] at h
  exact Awp.of (by kernel_rfl) h

theorem laws_toIntS_n3_l (x4369 : List Int) (x4386 : Int) (x4387 : List Int) : Link laws_toIntS_ctx LL (Code.fst (Code.fst (Code.snd (Code.fst (Code.snd (Code.snd (bodyOf Tryd.f17))))))) (Ann.fst (Ann.fst (Ann.snd (Ann.fst (Ann.snd (Ann.snd laws_toIntS_an)))))) (⟨mkE 22 0 [(0, .dat (.list (.int .i64)) x4369), (3, .slc 0), (4, .dat (.int .i64) x4386)], [some (.seq (.int .i64) x4387)]⟩ : St) (laws_toIntS_n3 x4369 x4386 x4387) (Sum.elim (fun (t : Int × (List Int)) => (Exit.normal, (⟨mkE 22 0 [(0, .dat (.list (.int .i64)) x4369), (3, .slc 0), (4, .dat (.int .i64) t.1)], [some (.seq (.int .i64) t.2)]⟩ : St))) (fun (t : (List Int)) => ((Exit.exit 0), (⟨mkE 22 0 [(3, .slc 0)], [some (.seq (.int .i64) t)]⟩ : St)))) := by
  refine Link.of fun K h => ?_
  simp only [laws_toIntS_n3, wpO_bind, wpO_cond, wpO_map, wpO_some] at h
  exact Awp.of (by kernel_rfl) h

theorem laws_toIntS_n4_l (x4369 : List Int) (x4372 : List Int) : Link laws_toIntS_ctx LL (Code.fst (Code.snd (Code.fst (Code.snd (Code.snd (bodyOf Tryd.f17)))))) (Ann.fst (Ann.snd (Ann.fst (Ann.snd (Ann.snd laws_toIntS_an))))) (⟨mkE 22 0 [(0, .dat (.list (.int .i64)) x4369), (3, .slc 0), (4, .dat (.int .i64) 0)], [some (.seq (.int .i64) x4372)]⟩ : St) (laws_toIntS_n4 x4369 x4372) (fun (t : (List Int)) => ((Exit.exit 0), (⟨mkE 22 0 [(3, .slc 0)], [some (.seq (.int .i64) t)]⟩ : St))) := by
  unfold laws_toIntS_n4
  exact Link.cast (by kernel_rfl) (by kernel_rfl) (link_loop (mk := fun (s : Int × (List Int)) => (⟨mkE 22 0 [(0, .dat (.list (.int .i64)) x4369), (3, .slc 0), (4, .dat (.int .i64) s.1)], [some (.seq (.int .i64) s.2)]⟩ : St)) (fin := (fun (t : (List Int)) => ((Exit.exit 0), (⟨mkE 22 0 [(3, .slc 0)], [some (.seq (.int .i64) t)]⟩ : St)))) (by
  rintro t f K h
  · exact h) (fun s => link_map (laws_toIntS_n3_l x4369 s.1 s.2) (Sum.elim (fun (t : Int × (List Int)) => Sum.inl (t.1, t.2)) (fun (t : (List Int)) => Sum.inr t)) (by
  rintro (t | t)
  · kernel_rfl
  · kernel_rfl)) (0, x4372))

theorem laws_toIntS_n5_l (x4369 : List Int) (x4372 : List Int) : Link laws_toIntS_ctx LL (Code.snd (Code.fst (Code.snd (Code.snd (bodyOf Tryd.f17))))) (Ann.snd (Ann.fst (Ann.snd (Ann.snd laws_toIntS_an)))) (⟨mkE 22 0 [(0, .dat (.list (.int .i64)) x4369), (3, .slc 0), (4, .dat (.int .i64) 0)], [some (.seq (.int .i64) x4372)]⟩ : St) (laws_toIntS_n5 x4369 x4372) (fun (t : (List Int)) => (Exit.normal, (⟨mkE 22 0 [(3, .slc 0)], [some (.seq (.int .i64) t)]⟩ : St))) := by
  unfold laws_toIntS_n5
  exact Link.cast (by kernel_rfl) (by kernel_rfl) (link_block (id := 0) (laws_toIntS_n4_l x4369 x4372) (fun (t : (List Int)) => t) (by
  rintro t K h
  · exact Eq.mp (by kernel_rfl) h))

theorem laws_toIntS_n6_l (x4369 : List Int) (x4372 : List Int) : Link laws_toIntS_ctx LL (Code.fst (Code.snd (Code.snd (bodyOf Tryd.f17)))) (Ann.fst (Ann.snd (Ann.snd laws_toIntS_an))) (⟨mkE 22 0 [(0, .dat (.list (.int .i64)) x4369), (3, .slc 0)], [some (.seq (.int .i64) x4372)]⟩ : St) (laws_toIntS_n6 x4369 x4372) (fun (t : (List Int)) => (Exit.normal, (⟨mkE 22 0 [(3, .slc 0)], [some (.seq (.int .i64) t)]⟩ : St))) := by
  unfold laws_toIntS_n6
  exact Link.cast (by kernel_rfl) (by kernel_rfl) (link_seq (b := (Code.snd (Code.fst (Code.snd (Code.snd (bodyOf Tryd.f17)))))) (y := (Ann.snd (Ann.fst (Ann.snd (Ann.snd laws_toIntS_an))))) (laws_toIntS_n2_l x4369 x4372) (fun (t : Unit) => (laws_toIntS_n5_l x4369 x4372)))

theorem laws_toIntS_n7_l (x4387 : List Int) : Link laws_toIntS_ctx LL (Code.snd (Code.snd (Code.snd (bodyOf Tryd.f17)))) (Ann.snd (Ann.snd (Ann.snd laws_toIntS_an))) (⟨mkE 22 0 [(3, .slc 0)], [some (.seq (.int .i64) x4387)]⟩ : St) (laws_toIntS_n7 x4387) (fun (t : (List Int)) => (Exit.ret, (⟨mkE 22 0 [(2, .slc 0)], [some (.seq (.int .i64) t)]⟩ : St))) := by
  refine Link.of fun K h => ?_
  simp only [laws_toIntS_n7, wpO_bind, wpO_cond, wpO_map, wpO_some] at h
  exact Awp.of (by kernel_rfl) h

theorem laws_toIntS_n8_l (x4369 : List Int) (x4372 : List Int) : Link laws_toIntS_ctx LL (Code.snd (Code.snd (bodyOf Tryd.f17))) (Ann.snd (Ann.snd laws_toIntS_an)) (⟨mkE 22 0 [(0, .dat (.list (.int .i64)) x4369), (3, .slc 0)], [some (.seq (.int .i64) x4372)]⟩ : St) (laws_toIntS_n8 x4369 x4372) (fun (t : (List Int)) => (Exit.ret, (⟨mkE 22 0 [(2, .slc 0)], [some (.seq (.int .i64) t)]⟩ : St))) := by
  unfold laws_toIntS_n8
  exact Link.cast (by kernel_rfl) (by kernel_rfl) (link_seq (b := (Code.snd (Code.snd (Code.snd (bodyOf Tryd.f17))))) (y := (Ann.snd (Ann.snd (Ann.snd laws_toIntS_an)))) (laws_toIntS_n6_l x4369 x4372) (fun (t : (List Int)) => (laws_toIntS_n7_l t)))

theorem laws_toIntS_n9_l (x4369 : List Int) : Link laws_toIntS_ctx LL (bodyOf Tryd.f17) laws_toIntS_an (⟨mkE 22 0 [(0, .dat (.list (.int .i64)) x4369)], []⟩ : St) (laws_toIntS_n9 x4369) (fun (t : (List Int)) => (Exit.ret, (⟨mkE 22 0 [(2, .slc 0)], [some (.seq (.int .i64) t)]⟩ : St))) := by
  unfold laws_toIntS_n9
  exact Link.cast (by kernel_rfl) (by kernel_rfl) (link_group (c := (Code.fst (Code.snd (bodyOf Tryd.f17)))) (a := (Ann.fst (Ann.snd laws_toIntS_an))) [(Code.fst (bodyOf Tryd.f17))] [(Ann.fst laws_toIntS_an)] rfl (link_seq (b := (Code.snd (Code.snd (bodyOf Tryd.f17)))) (y := (Ann.snd (Ann.snd laws_toIntS_an))) (laws_toIntS_n1_l x4369) (fun (t : (List Int)) => (laws_toIntS_n8_l x4369 t))))

theorem laws_toIntS_e (x4369 : List Int) {r : AV} {H' : Heap} (h : (Ans.mk _ (laws_toIntS x4369) (fun (t : (List Int)) => (.slc 0, [some (.seq (.int .i64) t)]))).run = some (r, H')) : Awp laws_toIntS_ctx LL (bodyOf Tryd.f17) laws_toIntS_an (⟨mkE 22 0 [(0, .dat (.list (.int .i64)) x4369)], []⟩ : St) (Ret (tlook tys) Tryd.f17.results.toList r H') :=
  ret_of' (laws_toIntS_n9_l x4369) (by unfold laws_toIntS; kernel_rfl) (by
  intro t
  exact ret_mk [.slc 0] (by kernel_rfl) (by kernel_rfl) (by kernel_rfl) (by kernel_rfl)) h

def F_laws_toIntS : Fun := fun avs H =>
  match avs, H with
  | [.dat (.list (.int .i64)) x4369], [] => ⟨_, laws_toIntS x4369, fun (t : (List Int)) => (.slc 0, [some (.seq (.int .i64) t)])⟩
  | _, _ => Ans.no

theorem laws_toIntS_sound : Sound Tryd.prog 17 F_laws_toIntS := by
  refine fn_sound' (C := laws_toIntS_ctx) (c := bodyOf Tryd.f17) (cok_of tys_ok (by simp) (by simp) (by kernel_rfl)) Tryd.func17 (by kernel_rfl) LL laws_toIntS_an ?_
  intro avs H r H' h
  unfold F_laws_toIntS at h
  split at h
  · refine Awp.cast ?_ ?_ ?_ (laws_toIntS_e _ h) <;> kernel_rfl
  · simp [Ans.no, Ans.run] at h

/-! loop.example/headtrees/laws.eqIntS -/

def laws_eqIntS_an : Ann := (.seq (.leaf [0, 1]) (.seq (.seq (.leaf [0, 1, 10]) (.cond (.seq (.leaf [4]) (.leaf [4])) (.leaf [0, 1]))) (.seq (.seq (.leaf [0, 1, 5]) (.block (.loop (.seq (.seq (.leaf [0, 1, 5, 14]) (.cond (.leaf [0, 1, 5]) (.leaf []))) (.seq (.block (.seq (.draw [] [0, 1, 2, 3, 4, 5, 6, 7, 8] [] [0, 1, 5, 25]) (.cond (.seq (.leaf [4]) (.leaf [4])) (.leaf [0, 1, 5])))) (.leaf [0, 1, 5])))))) (.seq (.leaf [4]) (.leaf [4])))))

noncomputable def laws_eqIntS_ctx : Ctx := ⟨tlook tys, olook [], ioF, 0⟩

theorem laws_eqIntS_n1_l (x4429 : List Int) (x4430 : List Int) : Link laws_eqIntS_ctx LL (Code.seq (Code.fst (bodyOf Tryd.f18)) (Code.fst (Code.snd (bodyOf Tryd.f18)))) (Ann.seq (Ann.fst laws_eqIntS_an) (Ann.fst (Ann.snd laws_eqIntS_an))) (⟨mkE 26 0 [(0, .dat (.list (.int .i64)) x4429), (1, .dat (.list (.int .i64)) x4430)], []⟩ : St) (laws_eqIntS_n1 x4429 x4430) (Sum.elim (fun (t : Unit) => (Exit.normal, (⟨mkE 26 0 [(0, .dat (.list (.int .i64)) x4429), (1, .dat (.list (.int .i64)) x4430)], []⟩ : St))) (fun (t : Bool) => (Exit.ret, (⟨mkE 26 0 [(4, .dat .bool t)], []⟩ : St)))) := by
  refine Link.of fun K h => ?_
  simp only [laws_eqIntS_n1, wpO_bind, wpO_cond, wpO_map, wpO_some] at h
  exact Awp.of (by kernel_rfl) h

theorem laws_eqIntS_n2_l (x4429 : List Int) (x4430 : List Int) : Link laws_eqIntS_ctx LL (Code.fst (Code.fst (Code.snd (Code.snd (bodyOf Tryd.f18))))) (Ann.fst (Ann.fst (Ann.snd (Ann.snd laws_eqIntS_an)))) (⟨mkE 26 0 [(0, .dat (.list (.int .i64)) x4429), (1, .dat (.list (.int .i64)) x4430)], []⟩ : St) (laws_eqIntS_n2) (fun (t : Unit) => (Exit.normal, (⟨mkE 26 0 [(0, .dat (.list (.int .i64)) x4429), (1, .dat (.list (.int .i64)) x4430), (5, .dat (.int .i64) 0)], []⟩ : St))) := by
  refine Link.of fun K h => ?_
  simp only [laws_eqIntS_n2, wpO_bind, wpO_cond, wpO_map, wpO_some] at h
  exact Awp.of (by kernel_rfl) h

theorem laws_eqIntS_n3_l (x4429 : List Int) (x4430 : List Int) (x4447 : Int) : Link laws_eqIntS_ctx LL (Code.fst (Code.fst (Code.snd (Code.fst (Code.snd (Code.snd (bodyOf Tryd.f18))))))) (Ann.fst (Ann.fst (Ann.snd (Ann.fst (Ann.snd (Ann.snd laws_eqIntS_an)))))) (⟨mkE 26 0 [(0, .dat (.list (.int .i64)) x4429), (1, .dat (.list (.int .i64)) x4430), (5, .dat (.int .i64) x4447)], []⟩ : St) (laws_eqIntS_n3 x4429 x4430 x4447) (Sum.elim (fun (t : Int) => (Exit.normal, (⟨mkE 26 0 [(0, .dat (.list (.int .i64)) x4429), (1, .dat (.list (.int .i64)) x4430), (5, .dat (.int .i64) t)], []⟩ : St))) (Sum.elim (fun (t : Bool) => (Exit.ret, (⟨mkE 26 0 [(4, .dat .bool t)], []⟩ : St))) (fun (t : Unit) => ((Exit.exit 0), (⟨mkE 26 0 [], []⟩ : St))))) := by
  refine Link.of fun K h => ?_
  simp only [laws_eqIntS_n3, wpO_bind, wpO_cond, wpO_map, wpO_some] at h
  exact Awp.of (by kernel_rfl) h

theorem laws_eqIntS_n4_l (x4429 : List Int) (x4430 : List Int) : Link laws_eqIntS_ctx LL (Code.fst (Code.snd (Code.fst (Code.snd (Code.snd (bodyOf Tryd.f18)))))) (Ann.fst (Ann.snd (Ann.fst (Ann.snd (Ann.snd laws_eqIntS_an))))) (⟨mkE 26 0 [(0, .dat (.list (.int .i64)) x4429), (1, .dat (.list (.int .i64)) x4430), (5, .dat (.int .i64) 0)], []⟩ : St) (laws_eqIntS_n4 x4429 x4430) (Sum.elim (fun (t : Bool) => (Exit.ret, (⟨mkE 26 0 [(4, .dat .bool t)], []⟩ : St))) (fun (t : Unit) => ((Exit.exit 0), (⟨mkE 26 0 [], []⟩ : St)))) := by
  unfold laws_eqIntS_n4
  exact Link.cast (by kernel_rfl) (by kernel_rfl) (link_loop (mk := fun (s : Int) => (⟨mkE 26 0 [(0, .dat (.list (.int .i64)) x4429), (1, .dat (.list (.int .i64)) x4430), (5, .dat (.int .i64) s)], []⟩ : St)) (fin := (Sum.elim (fun (t : Bool) => (Exit.ret, (⟨mkE 26 0 [(4, .dat .bool t)], []⟩ : St))) (fun (t : Unit) => ((Exit.exit 0), (⟨mkE 26 0 [], []⟩ : St))))) (by
  rintro (t | t) f K h
  · exact h
  · exact h) (fun s => link_map (laws_eqIntS_n3_l x4429 x4430 s) (Sum.elim (fun (t : Int) => Sum.inl t) (Sum.elim (fun (t : Bool) => Sum.inr (Sum.inl t)) (fun (t : Unit) => Sum.inr (Sum.inr t)))) (by
  rintro (t | t | t)
  · kernel_rfl
  · kernel_rfl
  · kernel_rfl)) 0)

theorem laws_eqIntS_n5_l (x4429 : List Int) (x4430 : List Int) : Link laws_eqIntS_ctx LL (Code.snd (Code.fst (Code.snd (Code.snd (bodyOf Tryd.f18))))) (Ann.snd (Ann.fst (Ann.snd (Ann.snd laws_eqIntS_an)))) (⟨mkE 26 0 [(0, .dat (.list (.int .i64)) x4429), (1, .dat (.list (.int .i64)) x4430), (5, .dat (.int .i64) 0)], []⟩ : St) (laws_eqIntS_n5 x4429 x4430) (Sum.elim (fun (t : Unit) => (Exit.normal, (⟨mkE 26 0 [], []⟩ : St))) (fun (t : Bool) => (Exit.ret, (⟨mkE 26 0 [(4, .dat .bool t)], []⟩ : St)))) := by
  unfold laws_eqIntS_n5
  exact Link.cast (by kernel_rfl) (by kernel_rfl) (link_block (id := 0) (laws_eqIntS_n4_l x4429 x4430) (Sum.elim (fun (t : Bool) => (Sum.inr t)) (fun (t : Unit) => (Sum.inl ()))) (by
  rintro (t | t) K h
  · exact Eq.mp (by kernel_rfl) h
  · exact Eq.mp (by kernel_rfl) h))

theorem laws_eqIntS_n6_l (x4429 : List Int) (x4430 : List Int) : Link laws_eqIntS_ctx LL (Code.fst (Code.snd (Code.snd (bodyOf Tryd.f18)))) (Ann.fst (Ann.snd (Ann.snd laws_eqIntS_an))) (⟨mkE 26 0 [(0, .dat (.list (.int .i64)) x4429), (1, .dat (.list (.int .i64)) x4430)], []⟩ : St) (laws_eqIntS_n6 x4429 x4430) (Sum.elim (fun (t : Unit) => (Exit.normal, (⟨mkE 26 0 [], []⟩ : St))) (fun (t : Bool) => (Exit.ret, (⟨mkE 26 0 [(4, .dat .bool t)], []⟩ : St)))) := by
  unfold laws_eqIntS_n6
  exact Link.cast (by kernel_rfl) (by kernel_rfl) (link_seq (b := (Code.snd (Code.fst (Code.snd (Code.snd (bodyOf Tryd.f18)))))) (y := (Ann.snd (Ann.fst (Ann.snd (Ann.snd laws_eqIntS_an))))) (laws_eqIntS_n2_l x4429 x4430) (fun (t : Unit) => (laws_eqIntS_n5_l x4429 x4430)))

theorem laws_eqIntS_n7_l : Link laws_eqIntS_ctx LL (Code.snd (Code.snd (Code.snd (bodyOf Tryd.f18)))) (Ann.snd (Ann.snd (Ann.snd laws_eqIntS_an))) (⟨mkE 26 0 [], []⟩ : St) (laws_eqIntS_n7) (fun (t : Bool) => (Exit.ret, (⟨mkE 26 0 [(4, .dat .bool t)], []⟩ : St))) := by
  refine Link.of fun K h => ?_
  simp only [laws_eqIntS_n7, wpO_bind, wpO_cond, wpO_map, wpO_some] at h
  exact Awp.of (by kernel_rfl) h

theorem laws_eqIntS_n8_l (x4429 : List Int) (x4430 : List Int) : Link laws_eqIntS_ctx LL (Code.snd (Code.snd (bodyOf Tryd.f18))) (Ann.snd (Ann.snd laws_eqIntS_an)) (⟨mkE 26 0 [(0, .dat (.list (.int .i64)) x4429), (1, .dat (.list (.int .i64)) x4430)], []⟩ : St) (laws_eqIntS_n8 x4429 x4430) (fun (t : Bool) => (Exit.ret, (⟨mkE 26 0 [(4, .dat .bool t)], []⟩ : St))) := by
  unfold laws_eqIntS_n8
  exact Link.cast (by kernel_rfl) (by kernel_rfl) (link_seq2 (b := (Code.snd (Code.snd (Code.snd (bodyOf Tryd.f18))))) (y := (Ann.snd (Ann.snd (Ann.snd laws_eqIntS_an)))) (laws_eqIntS_n6_l x4429 x4430) (fun (t : Unit) => (laws_eqIntS_n7_l)) (fun (t : Bool) => t) (by
  rintro t
  · kernel_rfl) (by
  rintro t f K h
  · exact h))

theorem laws_eqIntS_n9_l (x4429 : List Int) (x4430 : List Int) : Link laws_eqIntS_ctx LL (bodyOf Tryd.f18) laws_eqIntS_an (⟨mkE 26 0 [(0, .dat (.list (.int .i64)) x4429), (1, .dat (.list (.int .i64)) x4430)], []⟩ : St) (laws_eqIntS_n9 x4429 x4430) (fun (t : Bool) => (Exit.ret, (⟨mkE 26 0 [(4, .dat .bool t)], []⟩ : St))) := by
  unfold laws_eqIntS_n9
  exact Link.cast (by kernel_rfl) (by kernel_rfl) (link_group (c := (Code.fst (Code.snd (bodyOf Tryd.f18)))) (a := (Ann.fst (Ann.snd laws_eqIntS_an))) [(Code.fst (bodyOf Tryd.f18))] [(Ann.fst laws_eqIntS_an)] rfl (link_seq2 (b := (Code.snd (Code.snd (bodyOf Tryd.f18)))) (y := (Ann.snd (Ann.snd laws_eqIntS_an))) (laws_eqIntS_n1_l x4429 x4430) (fun (t : Unit) => (laws_eqIntS_n8_l x4429 x4430)) (fun (t : Bool) => t) (by
  rintro t
  · kernel_rfl) (by
  rintro t f K h
  · exact h)))

theorem laws_eqIntS_e (x4429 : List Int) (x4430 : List Int) {r : AV} {H' : Heap} (h : (Ans.mk _ (laws_eqIntS x4429 x4430) (fun (t : Bool) => (.dat .bool t, []))).run = some (r, H')) : Awp laws_eqIntS_ctx LL (bodyOf Tryd.f18) laws_eqIntS_an (⟨mkE 26 0 [(0, .dat (.list (.int .i64)) x4429), (1, .dat (.list (.int .i64)) x4430)], []⟩ : St) (Ret (tlook tys) Tryd.f18.results.toList r H') :=
  ret_of' (laws_eqIntS_n9_l x4429 x4430) (by unfold laws_eqIntS; kernel_rfl) (by
  intro t
  exact ret_mk [.dat .bool t] (by kernel_rfl) (by kernel_rfl) (by kernel_rfl) (by kernel_rfl)) h

def F_laws_eqIntS : Fun := fun avs H =>
  match avs, H with
  | [.dat (.list (.int .i64)) x4429, .dat (.list (.int .i64)) x4430], [] => ⟨_, laws_eqIntS x4429 x4430, fun (t : Bool) => (.dat .bool t, [])⟩
  | _, _ => Ans.no

theorem laws_eqIntS_sound : Sound Tryd.prog 18 F_laws_eqIntS := by
  refine fn_sound' (C := laws_eqIntS_ctx) (c := bodyOf Tryd.f18) (cok_of tys_ok (by simp) (by simp) (by kernel_rfl)) Tryd.func18 (by kernel_rfl) LL laws_eqIntS_an ?_
  intro avs H r H' h
  unfold F_laws_eqIntS at h
  split at h
  · refine Awp.cast ?_ ?_ ?_ (laws_eqIntS_e _ _ h) <;> kernel_rfl
  · simp [Ans.no, Ans.run] at h

/-! loop.example/headtrees/laws.FnExactPlaceOf -/

def laws_FnExactPlaceOf_an : Ann := (.seq (.leaf [0]) (.seq (.seq (.leaf [0, 8]) (.cond (.seq (.leaf [2]) (.leaf [2])) (.leaf [0]))) (.seq (.leaf [0, 3]) (.seq (.leaf [0, 3, 4]) (.seq (.leaf [0, 3, 4, 5]) (.seq (.seq (.leaf [0, 4, 18]) (.cond (.seq (.leaf [2]) (.leaf [2])) (.leaf [0, 4]))) (.seq (.seq (.leaf [23]) (.cond (.seq (.leaf [2]) (.leaf [2])) (.leaf []))) (.seq (.leaf [2]) (.leaf [2])))))))))

noncomputable def laws_FnExactPlaceOf_ctx : Ctx := ⟨tlook tys, olook [(17, F_laws_toIntS), (15, F_spec_PlaceOf), (12, F_impl_PlaceOf), (18, F_laws_eqIntS)], ioF, 0⟩

theorem laws_FnExactPlaceOf_n1_l (x4364 : List Int) : Link laws_FnExactPlaceOf_ctx LL (bodyOf Tryd.f5) laws_FnExactPlaceOf_an (⟨mkE 24 0 [(0, .dat (.list (.int .i64)) x4364)], []⟩ : St) (laws_FnExactPlaceOf_n1 x4364) (fun (t : Bool) => (Exit.ret, (⟨mkE 24 0 [(2, .dat .bool t)], []⟩ : St))) := by
  refine Link.of fun K h => ?_
  simp only [laws_FnExactPlaceOf_n1, wpO_bind, wpO_cond, wpO_map, wpO_some] at h
  exact Awp.of (by kernel_rfl) h

theorem laws_FnExactPlaceOf_e (x4364 : List Int) {r : AV} {H' : Heap} (h : (Ans.mk _ (laws_FnExactPlaceOf x4364) (fun (t : Bool) => (.dat .bool t, []))).run = some (r, H')) : Awp laws_FnExactPlaceOf_ctx LL (bodyOf Tryd.f5) laws_FnExactPlaceOf_an (⟨mkE 24 0 [(0, .dat (.list (.int .i64)) x4364)], []⟩ : St) (Ret (tlook tys) Tryd.f5.results.toList r H') :=
  ret_of' (laws_FnExactPlaceOf_n1_l x4364) (by unfold laws_FnExactPlaceOf; kernel_rfl) (by
  intro t
  exact ret_mk [.dat .bool t] (by kernel_rfl) (by kernel_rfl) (by kernel_rfl) (by kernel_rfl)) h

def F_laws_FnExactPlaceOf : Fun := fun avs H =>
  match avs, H with
  | [.dat (.list (.int .i64)) x4364], [] => ⟨_, laws_FnExactPlaceOf x4364, fun (t : Bool) => (.dat .bool t, [])⟩
  | _, _ => Ans.no

theorem laws_FnExactPlaceOf_sound : Sound Tryd.prog 5 F_laws_FnExactPlaceOf := by
  refine fn_sound' (C := laws_FnExactPlaceOf_ctx) (c := bodyOf Tryd.f5) (cok_of tys_ok (List.forall_mem_cons.2 ⟨laws_toIntS_sound, List.forall_mem_cons.2 ⟨spec_PlaceOf_sound, List.forall_mem_cons.2 ⟨impl_PlaceOf_sound, List.forall_mem_cons.2 ⟨laws_eqIntS_sound, by simp⟩⟩⟩⟩) (List.forall_mem_cons.2 ⟨Tryd.call17, List.forall_mem_cons.2 ⟨Tryd.call15, List.forall_mem_cons.2 ⟨Tryd.call12, List.forall_mem_cons.2 ⟨Tryd.call18, by simp⟩⟩⟩⟩) (by kernel_rfl)) Tryd.func5 (by kernel_rfl) LL laws_FnExactPlaceOf_an ?_
  intro avs H r H' h
  unfold F_laws_FnExactPlaceOf at h
  split at h
  · refine Awp.cast ?_ ?_ ?_ (laws_FnExactPlaceOf_e _ h) <;> kernel_rfl
  · simp [Ans.no, Ans.run] at h

end Go.Rv
