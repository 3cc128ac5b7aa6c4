/-
  The checked code answers as the plain functions do; written by program. Conditions: none.
-/
import Derived.Test.YtiokdplogigiaaaDoorKFnEagerFora
set_option linter.unusedVariables false
set_option linter.unusedSimpArgs false
set_option maxRecDepth 100000
namespace Go.Rv
open Go.Proofs
/-! loop.example/headtrees/spec.l7Step -/

def spec_l7Step_an : Ann := (.seq (.leaf [0, 1, 2, 3]) (.seq (.leaf [0, 1, 2, 3, 11]) (.seq (.block (.seq (.leaf [0, 1, 2, 3, 11, 15]) (.cond (.seq (.leaf [8, 9, 10]) (.leafF [⟨0, 8, false, none, none⟩] [8, 9, 10])) (.seq (.leaf [0, 1, 2, 3, 11, 32]) (.cond (.seq (.leaf [1, 2, 11]) (.seq (.leaf [8, 9, 10]) (.leafF [⟨0, 8, false, none, none⟩] [8, 9, 10]))) (.seq (.leaf [0, 1, 2, 3, 11, 70]) (.cond (.seq (.leaf [1, 2]) (.seq (.leaf [8, 9, 10]) (.leafF [⟨0, 8, false, none, none⟩] [8, 9, 10]))) (.seq (.leaf [1, 2, 11, 99]) (.cond (.seq (.leaf [8, 9, 10]) (.leafF [⟨0, 8, false, none, none⟩] [8, 9, 10])) (.leaf [1, 2])))))))))) (.seq (.leaf [8, 9, 10]) (.leaf [8, 9, 10])))))

noncomputable def spec_l7Step_ctx : Ctx := ⟨tlook tys, olook [], ioF, 1, false, []⟩

theorem spec_l7Step_n1_l (x6663 : List Int) (x6664 : Int) (x6665 : Int) (x6666 : List Int) : Link spec_l7Step_ctx LL (Code.seq (Code.fst (bodyOf Tryd.f46)) (Code.fst (Code.snd (bodyOf Tryd.f46)))) (Ann.seq (Ann.fst spec_l7Step_an) (Ann.fst (Ann.snd spec_l7Step_an))) (⟨mkE 125 0 [(0, .slc 0), (1, .dat (.list (.int .i64)) x6663), (2, .dat (.int .i64) x6664), (3, .dat (.int .u8) x6665)], [some (.seq (.int .i64) x6666)]⟩ : St) (spec_l7Step_n1 x6663) (fun (t : Int) => (Exit.normal, (⟨mkE 125 0 [(0, .slc 0), (1, .dat (.list (.int .i64)) x6663), (2, .dat (.int .i64) x6664), (3, .dat (.int .u8) x6665), (11, .dat (.int .i64) t)], [some (.seq (.int .i64) x6666)]⟩ : St))) := by
  refine Link.of fun K h => ?_
  simp only [spec_l7Step_n1, wpO_bind, wpO_cond, wpO_map, wpO_some] at h
  exact Awp.of (by kernel_rfl) h

theorem spec_l7Step_n2_l (x6663 : List Int) (x6664 : Int) (x6665 : Int) (x7195 : Int) (x6666 : List Int) : Link spec_l7Step_ctx LL (Code.fst (Code.fst (Code.fst (Code.snd (Code.snd (bodyOf Tryd.f46)))))) (Ann.fst (Ann.fst (Ann.fst (Ann.snd (Ann.snd spec_l7Step_an))))) (⟨mkE 125 0 [(0, .slc 0), (1, .dat (.list (.int .i64)) x6663), (2, .dat (.int .i64) x6664), (3, .dat (.int .u8) x6665), (11, .dat (.int .i64) x7195)], [some (.seq (.int .i64) x6666)]⟩ : St) (spec_l7Step_n2 x6664 x6665 x6666) (fun (t : Bool) => (Exit.normal, (⟨mkE 125 0 [(0, .slc 0), (1, .dat (.list (.int .i64)) x6663), (2, .dat (.int .i64) x6664), (3, .dat (.int .u8) x6665), (11, .dat (.int .i64) x7195), (15, .dat .bool t)], [some (.seq (.int .i64) x6666)]⟩ : St))) := by
  refine Link.of fun K h => ?_
  simp only [spec_l7Step_n2, wpO_bind, wpO_cond, wpO_map, wpO_some] at h
  exact Awp.of (by kernel_rfl) h

theorem spec_l7Step_n3_l (x6663 : List Int) (x6664 : Int) (x6665 : Int) (x7195 : Int) (x7456 : Bool) (x6666 : List Int) : Link spec_l7Step_ctx LL (Code.fst (Code.snd (Code.fst (Code.fst (Code.snd (Code.snd (bodyOf Tryd.f46))))))) (Ann.fst (Ann.snd (Ann.fst (Ann.fst (Ann.snd (Ann.snd spec_l7Step_an)))))) (⟨mkE 125 0 [(0, .slc 0), (1, .dat (.list (.int .i64)) x6663), (2, .dat (.int .i64) x6664), (3, .dat (.int .u8) x6665), (11, .dat (.int .i64) x7195), (15, .dat .bool x7456)], [some (.seq (.int .i64) x6666)]⟩ : St) (spec_l7Step_n3 x6663 x6664 x6666) (fun (t : (List Int) × Int × Bool × (List Int)) => (Exit.ret, (⟨mkE 125 0 [(8, .dat (.list (.int .i64)) t.1), (9, .dat (.int .i64) t.2.1), (10, .dat .bool t.2.2.1)], [some (.seq (.int .i64) t.2.2.2)]⟩ : St))) := by
  refine Link.of fun K h => ?_
  simp only [spec_l7Step_n3, wpO_bind, wpO_cond, wpO_map, wpO_some] at h
  exact Awp.of (by kernel_rfl) h

theorem spec_l7Step_n4_l (x6663 : List Int) (x6664 : Int) (x6665 : Int) (x7195 : Int) (x7456 : Bool) (x6666 : List Int) : Link spec_l7Step_ctx LL (Code.fst (Code.snd (Code.snd (Code.fst (Code.fst (Code.snd (Code.snd (bodyOf Tryd.f46)))))))) (Ann.fst (Ann.snd (Ann.snd (Ann.fst (Ann.fst (Ann.snd (Ann.snd spec_l7Step_an))))))) (⟨mkE 125 0 [(0, .slc 0), (1, .dat (.list (.int .i64)) x6663), (2, .dat (.int .i64) x6664), (3, .dat (.int .u8) x6665), (11, .dat (.int .i64) x7195), (15, .dat .bool x7456)], [some (.seq (.int .i64) x6666)]⟩ : St) (spec_l7Step_n4 x6663 x6664 x6665 x7195 x6666) (fun (t : Bool) => (Exit.normal, (⟨mkE 125 0 [(0, .slc 0), (1, .dat (.list (.int .i64)) x6663), (2, .dat (.int .i64) x6664), (3, .dat (.int .u8) x6665), (11, .dat (.int .i64) x7195), (32, .dat .bool t)], [some (.seq (.int .i64) x6666)]⟩ : St))) := by
  refine Link.of fun K h => ?_
  simp only [spec_l7Step_n4, wpO_bind, wpO_cond, wpO_map, wpO_some] at h
  exact Awp.of (by kernel_rfl) h

theorem spec_l7Step_n5_l (x6663 : List Int) (x6664 : Int) (x6665 : Int) (x7195 : Int) (x7654 : Bool) (x6666 : List Int) : Link spec_l7Step_ctx LL (Code.snd (Code.snd (Code.snd (Code.fst (Code.fst (Code.snd (Code.snd (bodyOf Tryd.f46)))))))) (Ann.snd (Ann.snd (Ann.snd (Ann.fst (Ann.fst (Ann.snd (Ann.snd spec_l7Step_an))))))) (⟨mkE 125 0 [(0, .slc 0), (1, .dat (.list (.int .i64)) x6663), (2, .dat (.int .i64) x6664), (3, .dat (.int .u8) x6665), (11, .dat (.int .i64) x7195), (32, .dat .bool x7654)], [some (.seq (.int .i64) x6666)]⟩ : St) (spec_l7Step_n5 x6663 x6664 x6665 x7195 x7654 x6666) (Sum.elim (fun (t : Unit) => (Exit.normal, (⟨mkE 125 0 [(1, .dat (.list (.int .i64)) x6663), (2, .dat (.int .i64) x6664)], [some (.seq (.int .i64) x6666)]⟩ : St))) (fun (t : (List Int) × Int × Bool × (List Int)) => (Exit.ret, (⟨mkE 125 0 [(8, .dat (.list (.int .i64)) t.1), (9, .dat (.int .i64) t.2.1), (10, .dat .bool t.2.2.1)], [some (.seq (.int .i64) t.2.2.2)]⟩ : St)))) := by
  refine Link.of fun K h => ?_
  simp only [spec_l7Step_n5, wpO_bind, wpO_cond, wpO_map, wpO_some] at h
  exact Awp.of (by kernel_rfl) h

theorem spec_l7Step_n6_l (x6663 : List Int) (x6664 : Int) (x6665 : Int) (x7195 : Int) (x7456 : Bool) (x6666 : List Int) : Link spec_l7Step_ctx LL (Code.snd (Code.snd (Code.fst (Code.fst (Code.snd (Code.snd (bodyOf Tryd.f46))))))) (Ann.snd (Ann.snd (Ann.fst (Ann.fst (Ann.snd (Ann.snd spec_l7Step_an)))))) (⟨mkE 125 0 [(0, .slc 0), (1, .dat (.list (.int .i64)) x6663), (2, .dat (.int .i64) x6664), (3, .dat (.int .u8) x6665), (11, .dat (.int .i64) x7195), (15, .dat .bool x7456)], [some (.seq (.int .i64) x6666)]⟩ : St) (spec_l7Step_n6 x6663 x6664 x6665 x7195 x6666) (Sum.elim (fun (t : Unit) => (Exit.normal, (⟨mkE 125 0 [(1, .dat (.list (.int .i64)) x6663), (2, .dat (.int .i64) x6664)], [some (.seq (.int .i64) x6666)]⟩ : St))) (fun (t : (List Int) × Int × Bool × (List Int)) => (Exit.ret, (⟨mkE 125 0 [(8, .dat (.list (.int .i64)) t.1), (9, .dat (.int .i64) t.2.1), (10, .dat .bool t.2.2.1)], [some (.seq (.int .i64) t.2.2.2)]⟩ : St)))) := by
  unfold spec_l7Step_n6
  exact Link.cast (by kernel_rfl) (by kernel_rfl) (link_seq (b := (Code.snd (Code.snd (Code.snd (Code.fst (Code.fst (Code.snd (Code.snd (bodyOf Tryd.f46))))))))) (y := (Ann.snd (Ann.snd (Ann.snd (Ann.fst (Ann.fst (Ann.snd (Ann.snd spec_l7Step_an)))))))) (spec_l7Step_n4_l x6663 x6664 x6665 x7195 x7456 x6666) (fun (t : Bool) => (spec_l7Step_n5_l x6663 x6664 x6665 x7195 t x6666)))

theorem spec_l7Step_n7_l (x6663 : List Int) (x6664 : Int) (x6665 : Int) (x7195 : Int) (x7456 : Bool) (x6666 : List Int) : Link spec_l7Step_ctx LL (Code.snd (Code.fst (Code.fst (Code.snd (Code.snd (bodyOf Tryd.f46)))))) (Ann.snd (Ann.fst (Ann.fst (Ann.snd (Ann.snd spec_l7Step_an))))) (⟨mkE 125 0 [(0, .slc 0), (1, .dat (.list (.int .i64)) x6663), (2, .dat (.int .i64) x6664), (3, .dat (.int .u8) x6665), (11, .dat (.int .i64) x7195), (15, .dat .bool x7456)], [some (.seq (.int .i64) x6666)]⟩ : St) (spec_l7Step_n7 x6663 x6664 x6665 x7195 x7456 x6666) (Sum.elim (fun (t : Unit) => (Exit.normal, (⟨mkE 125 0 [(1, .dat (.list (.int .i64)) x6663), (2, .dat (.int .i64) x6664)], [some (.seq (.int .i64) x6666)]⟩ : St))) (fun (t : (List Int) × Int × Bool × (List Int)) => (Exit.ret, (⟨mkE 125 0 [(8, .dat (.list (.int .i64)) t.1), (9, .dat (.int .i64) t.2.1), (10, .dat .bool t.2.2.1)], [some (.seq (.int .i64) t.2.2.2)]⟩ : St)))) := by
  unfold spec_l7Step_n7
  exact Link.cast (by kernel_rfl) (by kernel_rfl) (link_cond (c := .tmp 15) (by kernel_rfl) ((link_map (spec_l7Step_n3_l x6663 x6664 x6665 x7195 x7456 x6666) (fun (t : (List Int) × Int × Bool × (List Int)) => (Sum.inr t)) (by
  rintro t
  · kernel_rfl))) ((spec_l7Step_n6_l x6663 x6664 x6665 x7195 x7456 x6666)))

theorem spec_l7Step_n8_l (x6663 : List Int) (x6664 : Int) (x6665 : Int) (x7195 : Int) (x6666 : List Int) : Link spec_l7Step_ctx LL (Code.fst (Code.fst (Code.snd (Code.snd (bodyOf Tryd.f46))))) (Ann.fst (Ann.fst (Ann.snd (Ann.snd spec_l7Step_an)))) (⟨mkE 125 0 [(0, .slc 0), (1, .dat (.list (.int .i64)) x6663), (2, .dat (.int .i64) x6664), (3, .dat (.int .u8) x6665), (11, .dat (.int .i64) x7195)], [some (.seq (.int .i64) x6666)]⟩ : St) (spec_l7Step_n8 x6663 x6664 x6665 x7195 x6666) (Sum.elim (fun (t : Unit) => (Exit.normal, (⟨mkE 125 0 [(1, .dat (.list (.int .i64)) x6663), (2, .dat (.int .i64) x6664)], [some (.seq (.int .i64) x6666)]⟩ : St))) (fun (t : (List Int) × Int × Bool × (List Int)) => (Exit.ret, (⟨mkE 125 0 [(8, .dat (.list (.int .i64)) t.1), (9, .dat (.int .i64) t.2.1), (10, .dat .bool t.2.2.1)], [some (.seq (.int .i64) t.2.2.2)]⟩ : St)))) := by
  unfold spec_l7Step_n8
  exact Link.cast (by kernel_rfl) (by kernel_rfl) (link_seq (b := (Code.snd (Code.fst (Code.fst (Code.snd (Code.snd (bodyOf Tryd.f46))))))) (y := (Ann.snd (Ann.fst (Ann.fst (Ann.snd (Ann.snd spec_l7Step_an)))))) (spec_l7Step_n2_l x6663 x6664 x6665 x7195 x6666) (fun (t : Bool) => (spec_l7Step_n7_l x6663 x6664 x6665 x7195 t x6666)))

theorem spec_l7Step_n9_l (x6663 : List Int) (x6664 : Int) (x6665 : Int) (x7195 : Int) (x6666 : List Int) : Link spec_l7Step_ctx LL (Code.fst (Code.snd (Code.snd (bodyOf Tryd.f46)))) (Ann.fst (Ann.snd (Ann.snd spec_l7Step_an))) (⟨mkE 125 0 [(0, .slc 0), (1, .dat (.list (.int .i64)) x6663), (2, .dat (.int .i64) x6664), (3, .dat (.int .u8) x6665), (11, .dat (.int .i64) x7195)], [some (.seq (.int .i64) x6666)]⟩ : St) (spec_l7Step_n9 x6663 x6664 x6665 x7195 x6666) (Sum.elim (fun (t : Unit) => (Exit.normal, (⟨mkE 125 0 [(1, .dat (.list (.int .i64)) x6663), (2, .dat (.int .i64) x6664)], [some (.seq (.int .i64) x6666)]⟩ : St))) (fun (t : (List Int) × Int × Bool × (List Int)) => (Exit.ret, (⟨mkE 125 0 [(8, .dat (.list (.int .i64)) t.1), (9, .dat (.int .i64) t.2.1), (10, .dat .bool t.2.2.1)], [some (.seq (.int .i64) t.2.2.2)]⟩ : St)))) := by
  unfold spec_l7Step_n9
  exact Link.cast (by kernel_rfl) (by kernel_rfl) (link_block (id := 0) (spec_l7Step_n8_l x6663 x6664 x6665 x7195 x6666) (Sum.elim (fun (t : Unit) => (Sum.inl ())) (fun (t : (List Int) × Int × Bool × (List Int)) => (Sum.inr t))) (by
  rintro (t | t) K h
  · exact Eq.mp (by kernel_rfl) h
  · exact Eq.mp (by kernel_rfl) h))

theorem spec_l7Step_n10_l (x6663 : List Int) (x6664 : Int) (x6666 : List Int) : Link spec_l7Step_ctx LL (Code.snd (Code.snd (Code.snd (bodyOf Tryd.f46)))) (Ann.snd (Ann.snd (Ann.snd spec_l7Step_an))) (⟨mkE 125 0 [(1, .dat (.list (.int .i64)) x6663), (2, .dat (.int .i64) x6664)], [some (.seq (.int .i64) x6666)]⟩ : St) (spec_l7Step_n10 x6663 x6664 x6666) (fun (t : (List Int) × Int × Bool × (List Int)) => (Exit.ret, (⟨mkE 125 0 [(8, .dat (.list (.int .i64)) t.1), (9, .dat (.int .i64) t.2.1), (10, .dat .bool t.2.2.1)], [some (.seq (.int .i64) t.2.2.2)]⟩ : St))) := by
  refine Link.of fun K h => ?_
  simp only [spec_l7Step_n10, wpO_bind, wpO_cond, wpO_map, wpO_some] at h
  exact Awp.of (by kernel_rfl) h

theorem spec_l7Step_n11_l (x6663 : List Int) (x6664 : Int) (x6665 : Int) (x7195 : Int) (x6666 : List Int) : Link spec_l7Step_ctx LL (Code.snd (Code.snd (bodyOf Tryd.f46))) (Ann.snd (Ann.snd spec_l7Step_an)) (⟨mkE 125 0 [(0, .slc 0), (1, .dat (.list (.int .i64)) x6663), (2, .dat (.int .i64) x6664), (3, .dat (.int .u8) x6665), (11, .dat (.int .i64) x7195)], [some (.seq (.int .i64) x6666)]⟩ : St) (spec_l7Step_n11 x6663 x6664 x6665 x7195 x6666) (fun (t : (List Int) × Int × Bool × (List Int)) => (Exit.ret, (⟨mkE 125 0 [(8, .dat (.list (.int .i64)) t.1), (9, .dat (.int .i64) t.2.1), (10, .dat .bool t.2.2.1)], [some (.seq (.int .i64) t.2.2.2)]⟩ : St))) := by
  unfold spec_l7Step_n11
  exact Link.cast (by kernel_rfl) (by kernel_rfl) (link_seq2 (b := (Code.snd (Code.snd (Code.snd (bodyOf Tryd.f46))))) (y := (Ann.snd (Ann.snd (Ann.snd spec_l7Step_an)))) (spec_l7Step_n9_l x6663 x6664 x6665 x7195 x6666) (fun (t : Unit) => (spec_l7Step_n10_l x6663 x6664 x6666)) (fun (t : (List Int) × Int × Bool × (List Int)) => t) (by
  rintro t
  · kernel_rfl) (by
  rintro t f K h
  · exact h))

theorem spec_l7Step_n12_l (x6663 : List Int) (x6664 : Int) (x6665 : Int) (x6666 : List Int) : Link spec_l7Step_ctx LL (bodyOf Tryd.f46) spec_l7Step_an (⟨mkE 125 0 [(0, .slc 0), (1, .dat (.list (.int .i64)) x6663), (2, .dat (.int .i64) x6664), (3, .dat (.int .u8) x6665)], [some (.seq (.int .i64) x6666)]⟩ : St) (spec_l7Step_n12 x6663 x6664 x6665 x6666) (fun (t : (List Int) × Int × Bool × (List Int)) => (Exit.ret, (⟨mkE 125 0 [(8, .dat (.list (.int .i64)) t.1), (9, .dat (.int .i64) t.2.1), (10, .dat .bool t.2.2.1)], [some (.seq (.int .i64) t.2.2.2)]⟩ : St))) := by
  unfold spec_l7Step_n12
  exact Link.cast (by kernel_rfl) (by kernel_rfl) (link_group (c := (Code.fst (Code.snd (bodyOf Tryd.f46)))) (a := (Ann.fst (Ann.snd spec_l7Step_an))) [(Code.fst (bodyOf Tryd.f46))] [(Ann.fst spec_l7Step_an)] rfl (link_seq (b := (Code.snd (Code.snd (bodyOf Tryd.f46)))) (y := (Ann.snd (Ann.snd spec_l7Step_an))) (spec_l7Step_n1_l x6663 x6664 x6665 x6666) (fun (t : Int) => (spec_l7Step_n11_l x6663 x6664 x6665 t x6666))))

theorem spec_l7Step_e (x6663 : List Int) (x6664 : Int) (x6665 : Int) (x6666 : List Int) {r : AV} {H' : Heap} (h : (Ans.mk _ (spec_l7Step x6663 x6664 x6665 x6666) (fun (t : (List Int) × Int × Bool × (List Int)) => (.tup [.dat (.list (.int .i64)) t.1, .dat (.int .i64) t.2.1, .dat .bool t.2.2.1], [some (.seq (.int .i64) t.2.2.2)])) [] none).run = some (r, H')) : Awp spec_l7Step_ctx LL (bodyOf Tryd.f46) spec_l7Step_an (⟨mkE 125 0 [(0, .slc 0), (1, .dat (.list (.int .i64)) x6663), (2, .dat (.int .i64) x6664), (3, .dat (.int .u8) x6665)], [some (.seq (.int .i64) x6666)]⟩ : St) (Ret (tlook tys) Tryd.f46.results.toList r H') :=
  ret_of' (spec_l7Step_n12_l x6663 x6664 x6665 x6666) (by unfold spec_l7Step; kernel_rfl) (by
  intro t
  exact ret_mk [.dat (.list (.int .i64)) t.1, .dat (.int .i64) t.2.1, .dat .bool t.2.2.1] (by kernel_rfl) (by kernel_rfl) (by kernel_rfl) (by kernel_rfl)) h

def F_spec_l7Step : Fun := fun avs H =>
  match avs, H with
  | [.slc 0, .dat (.list (.int .i64)) x6663, .dat (.int .i64) x6664, .dat (.int .u8) x6665], [some (.seq (.int .i64) x6666)] => ⟨_, spec_l7Step x6663 x6664 x6665 x6666, fun (t : (List Int) × Int × Bool × (List Int)) => (.tup [.dat (.list (.int .i64)) t.1, .dat (.int .i64) t.2.1, .dat .bool t.2.2.1], [some (.seq (.int .i64) t.2.2.2)]), [], none⟩
  | _, _ => Ans.no

theorem spec_l7Step_sound : Sound Tryd.prog 46 F_spec_l7Step := by
  refine fn_sound' (C := spec_l7Step_ctx) (c := bodyOf Tryd.f46) (cok_of tys_ok (by simp) (by simp) (by kernel_rfl)) Tryd.func46 (by kernel_rfl) LL spec_l7Step_an ?_
  intro avs H r H' h
  unfold F_spec_l7Step at h
  split at h
  · refine Awp.cast ?_ ?_ ?_ (spec_l7Step_e _ _ _ _ h) <;> kernel_rfl
  · simp [Ans.no, Ans.run] at h


/-! loop.example/headtrees/spec.EagerFor -/

def spec_EagerFor_an : Ann := (.seq (.leaf [0]) (.seq (.seq (.leaf [0, 15]) (.cond (.seq (.leaf [2, 3]) (.leaf [2, 3])) (.leaf [0]))) (.seq (.leaf [0, 4]) (.seq (.seq (.leaf [0, 4, 5]) (.block (.loop (.seq (.seq (.leaf [0, 4, 5, 20]) (.cond (.leaf [0, 4, 5]) (.leaf [0, 4]))) (.seq (.block (.leaf [0, 4, 5])) (.leaf [0, 4, 5])))))) (.seq (.leaf [0, 4, 6]) (.seq (.leaf [0, 4, 6, 7]) (.seq (.leafF [⟨1, 6, false, none, none⟩] [0, 4, 6, 7, 8]) (.seq (.block (.loop (.seq (.seq (.leaf [0, 4, 6, 7, 8, 30]) (.cond (.leaf [0, 4, 6, 7, 8]) (.leaf [7]))) (.block (.seq (.leaf [0, 4, 6, 7, 8, 9]) (.seq (.leafF [⟨5, 37, false, none, none⟩] [0, 4, 7, 9, 10, 11, 12]) (.seq (.seq (.leaf [0, 4, 7, 9, 10, 11, 46]) (.cond (.seq (.leaf [2, 3]) (.leaf [2, 3])) (.leaf [0, 4, 7, 9, 10, 11]))) (.seq (.leaf [0, 4, 6, 7, 9, 11]) (.seq (.leaf [0, 4, 6, 7, 8, 9]) (.leaf [0, 4, 6, 7, 8])))))))))) (.seq (.leaf [2, 3]) (.leaf [2, 3]))))))))))

noncomputable def spec_EagerFor_ctx : Ctx := ⟨tlook tys, olook [(39, F_spec_FlatOk), (48, F_spec_l7Rule), (46, F_spec_l7Step)], ioF, 0, false, []⟩

theorem spec_EagerFor_n1_l (x6555 : List Int) : Link spec_EagerFor_ctx LL (Code.seq (Code.fst (bodyOf Tryd.f23)) (Code.seq (Code.fst (Code.snd (bodyOf Tryd.f23))) (Code.fst (Code.snd (Code.snd (bodyOf Tryd.f23)))))) (Ann.seq (Ann.fst spec_EagerFor_an) (Ann.seq (Ann.fst (Ann.snd spec_EagerFor_an)) (Ann.fst (Ann.snd (Ann.snd spec_EagerFor_an))))) (⟨mkE 53 0 [(0, .dat (.list (.int .i64)) x6555)], []⟩ : St) (spec_EagerFor_n1 x6555) (Sum.elim (fun (t : Unit) => (Exit.normal, (⟨mkE 53 0 [(0, .dat (.list (.int .i64)) x6555), (4, .slc 0)], [some (.seq (.int .i64) ([] : List Int))]⟩ : St))) (fun (t : ByteArray × Bool) => (Exit.ret, (⟨mkE 53 0 [(2, .dat .str t.1), (3, .dat .bool t.2)], []⟩ : St)))) := by
  refine Link.of fun K h => ?_
  simp only [spec_EagerFor_n1, wpO_bind, wpO_cond, wpO_map, wpO_some] at h
  exact Awp.of (by kernel_rfl) h

theorem spec_EagerFor_n2_l (x6555 : List Int) : Link spec_EagerFor_ctx LL (Code.fst (Code.fst (Code.snd (Code.snd (Code.snd (bodyOf Tryd.f23)))))) (Ann.fst (Ann.fst (Ann.snd (Ann.snd (Ann.snd spec_EagerFor_an))))) (⟨mkE 53 0 [(0, .dat (.list (.int .i64)) x6555), (4, .slc 0)], [some (.seq (.int .i64) ([] : List Int))]⟩ : St) (spec_EagerFor_n2) (fun (t : Unit) => (Exit.normal, (⟨mkE 53 0 [(0, .dat (.list (.int .i64)) x6555), (4, .slc 0), (5, .dat (.int .i64) 0)], [some (.seq (.int .i64) ([] : List Int))]⟩ : St))) := by
  refine Link.of fun K h => ?_
  simp only [spec_EagerFor_n2, wpO_bind, wpO_cond, wpO_map, wpO_some] at h
  exact Awp.of (by kernel_rfl) h

theorem spec_EagerFor_n3_l (x6555 : List Int) (x7792 : Int) (x7793 : List Int) : Link spec_EagerFor_ctx LL (Code.fst (Code.fst (Code.snd (Code.fst (Code.snd (Code.snd (Code.snd (bodyOf Tryd.f23)))))))) (Ann.fst (Ann.fst (Ann.snd (Ann.fst (Ann.snd (Ann.snd (Ann.snd spec_EagerFor_an))))))) (⟨mkE 53 0 [(0, .dat (.list (.int .i64)) x6555), (4, .slc 0), (5, .dat (.int .i64) x7792)], [some (.seq (.int .i64) x7793)]⟩ : St) (spec_EagerFor_n3 x6555 x7792 x7793) (Sum.elim (fun (t : Int × (List Int)) => (Exit.normal, (⟨mkE 53 0 [(0, .dat (.list (.int .i64)) x6555), (4, .slc 0), (5, .dat (.int .i64) t.1)], [some (.seq (.int .i64) t.2)]⟩ : St))) (fun (t : (List Int)) => ((Exit.exit 0), (⟨mkE 53 0 [(0, .dat (.list (.int .i64)) x6555), (4, .slc 0)], [some (.seq (.int .i64) t)]⟩ : St)))) := by
  refine Link.of fun K h => ?_
  simp only [spec_EagerFor_n3, wpO_bind, wpO_cond, wpO_map, wpO_some] at h
  exact Awp.of (by kernel_rfl) h

theorem spec_EagerFor_n4_l (x6555 : List Int) : Link spec_EagerFor_ctx LL (Code.fst (Code.snd (Code.fst (Code.snd (Code.snd (Code.snd (bodyOf Tryd.f23))))))) (Ann.fst (Ann.snd (Ann.fst (Ann.snd (Ann.snd (Ann.snd spec_EagerFor_an)))))) (⟨mkE 53 0 [(0, .dat (.list (.int .i64)) x6555), (4, .slc 0), (5, .dat (.int .i64) 0)], [some (.seq (.int .i64) ([] : List Int))]⟩ : St) (spec_EagerFor_n4 x6555) (fun (t : (List Int)) => ((Exit.exit 0), (⟨mkE 53 0 [(0, .dat (.list (.int .i64)) x6555), (4, .slc 0)], [some (.seq (.int .i64) t)]⟩ : St))) := by
  unfold spec_EagerFor_n4
  exact Link.cast (by kernel_rfl) (by kernel_rfl) (link_loop (mk := fun (s : Int × (List Int)) => (⟨mkE 53 0 [(0, .dat (.list (.int .i64)) x6555), (4, .slc 0), (5, .dat (.int .i64) s.1)], [some (.seq (.int .i64) s.2)]⟩ : St)) (fin := (fun (t : (List Int)) => ((Exit.exit 0), (⟨mkE 53 0 [(0, .dat (.list (.int .i64)) x6555), (4, .slc 0)], [some (.seq (.int .i64) t)]⟩ : St)))) (by
  rintro t f K h
  · exact h) (fun s => link_map (spec_EagerFor_n3_l x6555 s.1 s.2) (Sum.elim (fun (t : Int × (List Int)) => Sum.inl (t.1, t.2)) (fun (t : (List Int)) => Sum.inr t)) (by
  rintro (t | t)
  · kernel_rfl
  · kernel_rfl)) (0, ([] : List Int)))

theorem spec_EagerFor_n5_l (x6555 : List Int) : Link spec_EagerFor_ctx LL (Code.snd (Code.fst (Code.snd (Code.snd (Code.snd (bodyOf Tryd.f23)))))) (Ann.snd (Ann.fst (Ann.snd (Ann.snd (Ann.snd spec_EagerFor_an))))) (⟨mkE 53 0 [(0, .dat (.list (.int .i64)) x6555), (4, .slc 0), (5, .dat (.int .i64) 0)], [some (.seq (.int .i64) ([] : List Int))]⟩ : St) (spec_EagerFor_n5 x6555) (fun (t : (List Int)) => (Exit.normal, (⟨mkE 53 0 [(0, .dat (.list (.int .i64)) x6555), (4, .slc 0)], [some (.seq (.int .i64) t)]⟩ : St))) := by
  unfold spec_EagerFor_n5
  exact Link.cast (by kernel_rfl) (by kernel_rfl) (link_block (id := 0) (spec_EagerFor_n4_l x6555) (fun (t : (List Int)) => t) (by
  rintro t K h
  · exact Eq.mp (by kernel_rfl) h))

theorem spec_EagerFor_n6_l (x6555 : List Int) : Link spec_EagerFor_ctx LL (Code.fst (Code.snd (Code.snd (Code.snd (bodyOf Tryd.f23))))) (Ann.fst (Ann.snd (Ann.snd (Ann.snd spec_EagerFor_an)))) (⟨mkE 53 0 [(0, .dat (.list (.int .i64)) x6555), (4, .slc 0)], [some (.seq (.int .i64) ([] : List Int))]⟩ : St) (spec_EagerFor_n6 x6555) (fun (t : (List Int)) => (Exit.normal, (⟨mkE 53 0 [(0, .dat (.list (.int .i64)) x6555), (4, .slc 0)], [some (.seq (.int .i64) t)]⟩ : St))) := by
  unfold spec_EagerFor_n6
  exact Link.cast (by kernel_rfl) (by kernel_rfl) (link_seq (b := (Code.snd (Code.fst (Code.snd (Code.snd (Code.snd (bodyOf Tryd.f23))))))) (y := (Ann.snd (Ann.fst (Ann.snd (Ann.snd (Ann.snd spec_EagerFor_an)))))) (spec_EagerFor_n2_l x6555) (fun (t : Unit) => (spec_EagerFor_n5_l x6555)))

theorem spec_EagerFor_n7_l (x6555 : List Int) (x7793 : List Int) : Link spec_EagerFor_ctx LL (Code.seq (Code.fst (Code.snd (Code.snd (Code.snd (Code.snd (bodyOf Tryd.f23)))))) (Code.seq (Code.fst (Code.snd (Code.snd (Code.snd (Code.snd (Code.snd (bodyOf Tryd.f23))))))) (Code.fst (Code.snd (Code.snd (Code.snd (Code.snd (Code.snd (Code.snd (bodyOf Tryd.f23)))))))))) (Ann.seq (Ann.fst (Ann.snd (Ann.snd (Ann.snd (Ann.snd spec_EagerFor_an))))) (Ann.seq (Ann.fst (Ann.snd (Ann.snd (Ann.snd (Ann.snd (Ann.snd spec_EagerFor_an)))))) (Ann.fst (Ann.snd (Ann.snd (Ann.snd (Ann.snd (Ann.snd (Ann.snd spec_EagerFor_an))))))))) (⟨mkE 53 0 [(0, .dat (.list (.int .i64)) x6555), (4, .slc 0)], [some (.seq (.int .i64) x7793)]⟩ : St) (spec_EagerFor_n7) (fun (t : Unit) => (Exit.normal, (⟨mkE 53 0 [(0, .dat (.list (.int .i64)) x6555), (4, .slc 0), (6, .dat (.list (.int .i64)) ([] : List Int)), (7, .dat .str ByteArray.empty), (8, .dat (.int .i64) 1)], [some (.seq (.int .i64) x7793)]⟩ : St))) := by
  refine Link.of fun K h => ?_
  simp only [spec_EagerFor_n7, wpO_bind, wpO_cond, wpO_map, wpO_some] at h
  exact Awp.of (by kernel_rfl) h

theorem spec_EagerFor_n8_l (x6555 : List Int) (x7822 : List Int) (x7823 : ByteArray) (x7824 : Int) (x7825 : List Int) : Link spec_EagerFor_ctx LL (Code.fst (Code.fst (Code.fst (Code.snd (Code.snd (Code.snd (Code.snd (Code.snd (Code.snd (Code.snd (bodyOf Tryd.f23))))))))))) (Ann.fst (Ann.fst (Ann.fst (Ann.snd (Ann.snd (Ann.snd (Ann.snd (Ann.snd (Ann.snd (Ann.snd spec_EagerFor_an)))))))))) (⟨mkE 53 0 [(0, .dat (.list (.int .i64)) x6555), (4, .slc 0), (6, .dat (.list (.int .i64)) x7822), (7, .dat .str x7823), (8, .dat (.int .i64) x7824)], [some (.seq (.int .i64) x7825)]⟩ : St) (spec_EagerFor_n8 x6555 x7822 x7823 x7824 x7825) (Sum.elim (fun (t : (List Int) × ByteArray × Int × (List Int)) => (Exit.normal, (⟨mkE 53 0 [(0, .dat (.list (.int .i64)) x6555), (4, .slc 0), (6, .dat (.list (.int .i64)) t.1), (7, .dat .str t.2.1), (8, .dat (.int .i64) t.2.2.1)], [some (.seq (.int .i64) t.2.2.2)]⟩ : St))) (Sum.elim (fun (t : ByteArray × Bool) => (Exit.ret, (⟨mkE 53 0 [(2, .dat .str t.1), (3, .dat .bool t.2)], []⟩ : St))) (fun (t : ByteArray) => ((Exit.exit 2), (⟨mkE 53 0 [(7, .dat .str t)], []⟩ : St))))) := by
  refine Link.of fun K h => ?_
  simp only [spec_EagerFor_n8, wpO_bind, wpO_cond, wpO_map, wpO_some] at h
  exact Awp.of (by kernel_rfl) h

theorem spec_EagerFor_n9_l (x6555 : List Int) (x7793 : List Int) : Link spec_EagerFor_ctx LL (Code.fst (Code.fst (Code.snd (Code.snd (Code.snd (Code.snd (Code.snd (Code.snd (Code.snd (bodyOf Tryd.f23)))))))))) (Ann.fst (Ann.fst (Ann.snd (Ann.snd (Ann.snd (Ann.snd (Ann.snd (Ann.snd (Ann.snd spec_EagerFor_an))))))))) (⟨mkE 53 0 [(0, .dat (.list (.int .i64)) x6555), (4, .slc 0), (6, .dat (.list (.int .i64)) ([] : List Int)), (7, .dat .str ByteArray.empty), (8, .dat (.int .i64) 1)], [some (.seq (.int .i64) x7793)]⟩ : St) (spec_EagerFor_n9 x6555 x7793) (Sum.elim (fun (t : ByteArray × Bool) => (Exit.ret, (⟨mkE 53 0 [(2, .dat .str t.1), (3, .dat .bool t.2)], []⟩ : St))) (fun (t : ByteArray) => ((Exit.exit 2), (⟨mkE 53 0 [(7, .dat .str t)], []⟩ : St)))) := by
  unfold spec_EagerFor_n9
  exact Link.cast (by kernel_rfl) (by kernel_rfl) (link_loop (mk := fun (s : (List Int) × ByteArray × Int × (List Int)) => (⟨mkE 53 0 [(0, .dat (.list (.int .i64)) x6555), (4, .slc 0), (6, .dat (.list (.int .i64)) s.1), (7, .dat .str s.2.1), (8, .dat (.int .i64) s.2.2.1)], [some (.seq (.int .i64) s.2.2.2)]⟩ : St)) (fin := (Sum.elim (fun (t : ByteArray × Bool) => (Exit.ret, (⟨mkE 53 0 [(2, .dat .str t.1), (3, .dat .bool t.2)], []⟩ : St))) (fun (t : ByteArray) => ((Exit.exit 2), (⟨mkE 53 0 [(7, .dat .str t)], []⟩ : St))))) (by
  rintro (t | t) f K h
  · exact h
  · exact h) (fun s => link_map (spec_EagerFor_n8_l x6555 s.1 s.2.1 s.2.2.1 s.2.2.2) (Sum.elim (fun (t : (List Int) × ByteArray × Int × (List Int)) => Sum.inl (t.1, t.2.1, t.2.2.1, t.2.2.2)) (Sum.elim (fun (t : ByteArray × Bool) => Sum.inr (Sum.inl t)) (fun (t : ByteArray) => Sum.inr (Sum.inr t)))) (by
  rintro (t | t | t)
  · kernel_rfl
  · kernel_rfl
  · kernel_rfl)) (([] : List Int), ByteArray.empty, 1, x7793))

theorem spec_EagerFor_n10_l (x6555 : List Int) (x7793 : List Int) : Link spec_EagerFor_ctx LL (Code.fst (Code.snd (Code.snd (Code.snd (Code.snd (Code.snd (Code.snd (Code.snd (bodyOf Tryd.f23))))))))) (Ann.fst (Ann.snd (Ann.snd (Ann.snd (Ann.snd (Ann.snd (Ann.snd (Ann.snd spec_EagerFor_an)))))))) (⟨mkE 53 0 [(0, .dat (.list (.int .i64)) x6555), (4, .slc 0), (6, .dat (.list (.int .i64)) ([] : List Int)), (7, .dat .str ByteArray.empty), (8, .dat (.int .i64) 1)], [some (.seq (.int .i64) x7793)]⟩ : St) (spec_EagerFor_n10 x6555 x7793) (Sum.elim (fun (t : ByteArray) => (Exit.normal, (⟨mkE 53 0 [(7, .dat .str t)], []⟩ : St))) (fun (t : ByteArray × Bool) => (Exit.ret, (⟨mkE 53 0 [(2, .dat .str t.1), (3, .dat .bool t.2)], []⟩ : St)))) := by
  unfold spec_EagerFor_n10
  exact Link.cast (by kernel_rfl) (by kernel_rfl) (link_block (id := 2) (spec_EagerFor_n9_l x6555 x7793) (Sum.elim (fun (t : ByteArray × Bool) => (Sum.inr t)) (fun (t : ByteArray) => (Sum.inl t))) (by
  rintro (t | t) K h
  · exact Eq.mp (by kernel_rfl) h
  · exact Eq.mp (by kernel_rfl) h))

theorem spec_EagerFor_n11_l (x7823 : ByteArray) : Link spec_EagerFor_ctx LL (Code.snd (Code.snd (Code.snd (Code.snd (Code.snd (Code.snd (Code.snd (Code.snd (bodyOf Tryd.f23))))))))) (Ann.snd (Ann.snd (Ann.snd (Ann.snd (Ann.snd (Ann.snd (Ann.snd (Ann.snd spec_EagerFor_an)))))))) (⟨mkE 53 0 [(7, .dat .str x7823)], []⟩ : St) (spec_EagerFor_n11 x7823) (fun (t : ByteArray × Bool) => (Exit.ret, (⟨mkE 53 0 [(2, .dat .str t.1), (3, .dat .bool t.2)], []⟩ : St))) := by
  refine Link.of fun K h => ?_
  simp only [spec_EagerFor_n11, wpO_bind, wpO_cond, wpO_map, wpO_some] at h
  exact Awp.of (by kernel_rfl) h

theorem spec_EagerFor_n12_l (x6555 : List Int) (x7793 : List Int) : Link spec_EagerFor_ctx LL (Code.snd (Code.snd (Code.snd (Code.snd (Code.snd (Code.snd (Code.snd (bodyOf Tryd.f23)))))))) (Ann.snd (Ann.snd (Ann.snd (Ann.snd (Ann.snd (Ann.snd (Ann.snd spec_EagerFor_an))))))) (⟨mkE 53 0 [(0, .dat (.list (.int .i64)) x6555), (4, .slc 0), (6, .dat (.list (.int .i64)) ([] : List Int)), (7, .dat .str ByteArray.empty), (8, .dat (.int .i64) 1)], [some (.seq (.int .i64) x7793)]⟩ : St) (spec_EagerFor_n12 x6555 x7793) (fun (t : ByteArray × Bool) => (Exit.ret, (⟨mkE 53 0 [(2, .dat .str t.1), (3, .dat .bool t.2)], []⟩ : St))) := by
  unfold spec_EagerFor_n12
  exact Link.cast (by kernel_rfl) (by kernel_rfl) (link_seq2 (b := (Code.snd (Code.snd (Code.snd (Code.snd (Code.snd (Code.snd (Code.snd (Code.snd (bodyOf Tryd.f23)))))))))) (y := (Ann.snd (Ann.snd (Ann.snd (Ann.snd (Ann.snd (Ann.snd (Ann.snd (Ann.snd spec_EagerFor_an))))))))) (spec_EagerFor_n10_l x6555 x7793) (fun (t : ByteArray) => (spec_EagerFor_n11_l t)) (fun (t : ByteArray × Bool) => t) (by
  rintro t
  · kernel_rfl) (by
  rintro t f K h
  · exact h))

theorem spec_EagerFor_n13_l (x6555 : List Int) (x7793 : List Int) : Link spec_EagerFor_ctx LL (Code.snd (Code.snd (Code.snd (Code.snd (bodyOf Tryd.f23))))) (Ann.snd (Ann.snd (Ann.snd (Ann.snd spec_EagerFor_an)))) (⟨mkE 53 0 [(0, .dat (.list (.int .i64)) x6555), (4, .slc 0)], [some (.seq (.int .i64) x7793)]⟩ : St) (spec_EagerFor_n13 x6555 x7793) (fun (t : ByteArray × Bool) => (Exit.ret, (⟨mkE 53 0 [(2, .dat .str t.1), (3, .dat .bool t.2)], []⟩ : St))) := by
  unfold spec_EagerFor_n13
  exact Link.cast (by kernel_rfl) (by kernel_rfl) (link_group (c := (Code.fst (Code.snd (Code.snd (Code.snd (Code.snd (Code.snd (Code.snd (bodyOf Tryd.f23))))))))) (a := (Ann.fst (Ann.snd (Ann.snd (Ann.snd (Ann.snd (Ann.snd (Ann.snd spec_EagerFor_an)))))))) [(Code.fst (Code.snd (Code.snd (Code.snd (Code.snd (bodyOf Tryd.f23)))))), (Code.fst (Code.snd (Code.snd (Code.snd (Code.snd (Code.snd (bodyOf Tryd.f23)))))))] [(Ann.fst (Ann.snd (Ann.snd (Ann.snd (Ann.snd spec_EagerFor_an))))), (Ann.fst (Ann.snd (Ann.snd (Ann.snd (Ann.snd (Ann.snd spec_EagerFor_an))))))] rfl (link_seq (b := (Code.snd (Code.snd (Code.snd (Code.snd (Code.snd (Code.snd (Code.snd (bodyOf Tryd.f23))))))))) (y := (Ann.snd (Ann.snd (Ann.snd (Ann.snd (Ann.snd (Ann.snd (Ann.snd spec_EagerFor_an)))))))) (spec_EagerFor_n7_l x6555 x7793) (fun (t : Unit) => (spec_EagerFor_n12_l x6555 x7793))))

theorem spec_EagerFor_n14_l (x6555 : List Int) : Link spec_EagerFor_ctx LL (Code.snd (Code.snd (Code.snd (bodyOf Tryd.f23)))) (Ann.snd (Ann.snd (Ann.snd spec_EagerFor_an))) (⟨mkE 53 0 [(0, .dat (.list (.int .i64)) x6555), (4, .slc 0)], [some (.seq (.int .i64) ([] : List Int))]⟩ : St) (spec_EagerFor_n14 x6555) (fun (t : ByteArray × Bool) => (Exit.ret, (⟨mkE 53 0 [(2, .dat .str t.1), (3, .dat .bool t.2)], []⟩ : St))) := by
  unfold spec_EagerFor_n14
  exact Link.cast (by kernel_rfl) (by kernel_rfl) (link_seq (b := (Code.snd (Code.snd (Code.snd (Code.snd (bodyOf Tryd.f23)))))) (y := (Ann.snd (Ann.snd (Ann.snd (Ann.snd spec_EagerFor_an))))) (spec_EagerFor_n6_l x6555) (fun (t : (List Int)) => (spec_EagerFor_n13_l x6555 t)))

theorem spec_EagerFor_n15_l (x6555 : List Int) : Link spec_EagerFor_ctx LL (bodyOf Tryd.f23) spec_EagerFor_an (⟨mkE 53 0 [(0, .dat (.list (.int .i64)) x6555)], []⟩ : St) (spec_EagerFor_n15 x6555) (fun (t : ByteArray × Bool) => (Exit.ret, (⟨mkE 53 0 [(2, .dat .str t.1), (3, .dat .bool t.2)], []⟩ : St))) := by
  unfold spec_EagerFor_n15
  exact Link.cast (by kernel_rfl) (by kernel_rfl) (link_group (c := (Code.fst (Code.snd (Code.snd (bodyOf Tryd.f23))))) (a := (Ann.fst (Ann.snd (Ann.snd spec_EagerFor_an)))) [(Code.fst (bodyOf Tryd.f23)), (Code.fst (Code.snd (bodyOf Tryd.f23)))] [(Ann.fst spec_EagerFor_an), (Ann.fst (Ann.snd spec_EagerFor_an))] rfl (link_seq2 (b := (Code.snd (Code.snd (Code.snd (bodyOf Tryd.f23))))) (y := (Ann.snd (Ann.snd (Ann.snd spec_EagerFor_an)))) (spec_EagerFor_n1_l x6555) (fun (t : Unit) => (spec_EagerFor_n14_l x6555)) (fun (t : ByteArray × Bool) => t) (by
  rintro t
  · kernel_rfl) (by
  rintro t f K h
  · exact h)))

theorem spec_EagerFor_e (x6555 : List Int) {r : AV} {H' : Heap} (h : (Ans.mk _ (spec_EagerFor x6555) (fun (t : ByteArray × Bool) => (.tup [.dat .str t.1, .dat .bool t.2], [])) [] none).run = some (r, H')) : Awp spec_EagerFor_ctx LL (bodyOf Tryd.f23) spec_EagerFor_an (⟨mkE 53 0 [(0, .dat (.list (.int .i64)) x6555)], []⟩ : St) (Ret (tlook tys) Tryd.f23.results.toList r H') :=
  ret_of' (spec_EagerFor_n15_l x6555) (by unfold spec_EagerFor; kernel_rfl) (by
  intro t
  exact ret_mk [.dat .str t.1, .dat .bool t.2] (by kernel_rfl) (by kernel_rfl) (by kernel_rfl) (by kernel_rfl)) h

def F_spec_EagerFor : Fun := fun avs H =>
  match avs, H with
  | [.dat (.list (.int .i64)) x6555], [] => ⟨_, spec_EagerFor x6555, fun (t : ByteArray × Bool) => (.tup [.dat .str t.1, .dat .bool t.2], []), [], none⟩
  | _, _ => Ans.no

theorem spec_EagerFor_sound : Sound Tryd.prog 23 F_spec_EagerFor := by
  refine fn_sound' (C := spec_EagerFor_ctx) (c := bodyOf Tryd.f23) (cok_of tys_ok (List.forall_mem_cons.2 ⟨spec_FlatOk_sound, List.forall_mem_cons.2 ⟨spec_l7Rule_sound, List.forall_mem_cons.2 ⟨spec_l7Step_sound, by simp⟩⟩⟩) (List.forall_mem_cons.2 ⟨Tryd.call39, List.forall_mem_cons.2 ⟨Tryd.call48, List.forall_mem_cons.2 ⟨Tryd.call46, by simp⟩⟩⟩) (by kernel_rfl)) Tryd.func23 (by kernel_rfl) LL spec_EagerFor_an ?_
  intro avs H r H' h
  unfold F_spec_EagerFor at h
  split at h
  · refine Awp.cast ?_ ?_ ?_ (spec_EagerFor_e _ h) <;> kernel_rfl
  · simp [Ans.no, Ans.run] at h


/-! loop.example/headtrees/impl.newEagerMachine -/

def impl_newEagerMachine_an : Ann := (.seq (.leaf [0]) (.seq (.leaf [2]) (.leaf [2])))

noncomputable def impl_newEagerMachine_ctx : Ctx := ⟨tlook tys, olook [(33, F_impl_newStackMachine)], ioF, 0, false, []⟩

theorem impl_newEagerMachine_n1_l (x11260 : Int) : Link impl_newEagerMachine_ctx LL (bodyOf Tryd.f42) impl_newEagerMachine_an (⟨mkE 9 0 [(0, .dat (.int .i64) x11260)], []⟩ : St) (impl_newEagerMachine_n1 x11260) (fun (t : (List Int)) => (Exit.ret, (⟨mkE 9 0 [(2, .ptr 0 0)], [some (.box [.slc 1, .nils, .dat (.int .i64) 0, .dat (.int .i64) 0, .dat (.int .u64) 0]), some (.seq (.int .i64) t)]⟩ : St))) := by
  refine Link.of fun K h => ?_
  simp only [impl_newEagerMachine_n1, wpO_bind, wpO_cond, wpO_map, wpO_some] at h
  exact Awp.of (by kernel_rfl) h

theorem impl_newEagerMachine_e (x11260 : Int) {r : AV} {H' : Heap} (h : (Ans.mk _ (impl_newEagerMachine x11260) (fun (t : (List Int)) => (.ptr 0 0, [some (.box [.slc 1, .nils, .dat (.int .i64) 0, .dat (.int .i64) 0, .dat (.int .u64) 0]), some (.seq (.int .i64) t)])) [] none).run = some (r, H')) : Awp impl_newEagerMachine_ctx LL (bodyOf Tryd.f42) impl_newEagerMachine_an (⟨mkE 9 0 [(0, .dat (.int .i64) x11260)], []⟩ : St) (Ret (tlook tys) Tryd.f42.results.toList r H') :=
  ret_of' (impl_newEagerMachine_n1_l x11260) (by unfold impl_newEagerMachine; kernel_rfl) (by
  intro t
  exact ret_mk [.ptr 0 0] (by kernel_rfl) (by kernel_rfl) (by kernel_rfl) (by kernel_rfl)) h

def F_impl_newEagerMachine : Fun := fun avs H =>
  match avs, H with
  | [.dat (.int .i64) x11260], [] => ⟨_, impl_newEagerMachine x11260, fun (t : (List Int)) => (.ptr 0 0, [some (.box [.slc 1, .nils, .dat (.int .i64) 0, .dat (.int .i64) 0, .dat (.int .u64) 0]), some (.seq (.int .i64) t)]), [], none⟩
  | _, _ => Ans.no

theorem impl_newEagerMachine_sound : Sound Tryd.prog 42 F_impl_newEagerMachine := by
  refine fn_sound' (C := impl_newEagerMachine_ctx) (c := bodyOf Tryd.f42) (cok_of tys_ok (List.forall_mem_cons.2 ⟨impl_newStackMachine_sound, by simp⟩) (List.forall_mem_cons.2 ⟨Tryd.call33, by simp⟩) (by kernel_rfl)) Tryd.func42 (by kernel_rfl) LL impl_newEagerMachine_an ?_
  intro avs H r H' h
  unfold F_impl_newEagerMachine at h
  split at h
  · refine Awp.cast ?_ ?_ ?_ (impl_newEagerMachine_e _ h) <;> kernel_rfl
  · simp [Ans.no, Ans.run] at h


/-! loop.example/headtrees/impl.eagerMoves -/

def F_impl_eagerMoves : Fun := F_map [(.int .u8 83, .methodOf 59 "loop.example/headtrees/impl.putNext"), (.int .u8 76, .func 68), (.int .u8 82, .func 69), (.int .u8 68, .func 70)]

theorem impl_eagerMoves_sound : Sound Tryd.prog 44 F_impl_eagerMoves :=
  mapfn_sound (mt := 62) (kt := 5) (et := 69) (d := .int .u8) Tryd.func44 (by kernel_rfl) (by kernel_rfl) (by kernel_rfl) (by kernel_rfl) (by kernel_rfl)


/-! (*loop.example/headtrees/impl.eagerMachine).upperAndNext -/

def impl_eagerMachine_upperAndNext_an : Ann := (.seq (.leaf [0]) (.seq (.leaf [0, 5]) (.seq (.seq (.draw [] [0, 1, 2, 3, 4, 5, 6, 7, 8, 9, 10, 11, 12, 13, 14, 15] [] [0, 5, 27]) (.cond (.seq (.leaf [2, 3, 4]) (.leaf [2, 3, 4])) (.leaf [0, 5]))) (.seq (.draw [] [0, 1, 2, 3, 4, 5, 6, 7, 8, 9, 10, 11, 12, 13, 14, 15, 16, 17] [] [2, 3, 4]) (.leaf [2, 3, 4])))))

noncomputable def impl_eagerMachine_upperAndNext_ctx : Ctx := ⟨tlook tys, olook [], ioF, 3, false, []⟩

theorem impl_eagerMachine_upperAndNext_n1_l (x12471 : Nat) (x12472 : Nat) (x12473 : Int) (x12474 : Int) (x12475 : Int) (x12476 : List Int) (x12477 : List Int) : Link impl_eagerMachine_upperAndNext_ctx LL (bodyOf Tryd.f72) impl_eagerMachine_upperAndNext_an (⟨mkE 43 0 [(0, .ptr 0 0)], [some (.box [.slc 1, .win 2 x12471 x12472, .dat (.int .i64) x12473, .dat (.int .i64) x12474, .dat (.int .u64) x12475]), some (.seq (.int .i64) x12476), some (.seq (.int .i64) x12477)]⟩ : St) (impl_eagerMachine_upperAndNext_n1 x12471 x12472 x12473 x12476 x12477) (fun (t : Int × Int × Bool) => (Exit.ret, (⟨mkE 43 0 [(2, .dat (.int .i64) t.1), (3, .dat (.int .i64) t.2.1), (4, .dat .bool t.2.2)], [some (.box [.slc 1, .win 2 x12471 x12472, .dat (.int .i64) x12473, .dat (.int .i64) x12474, .dat (.int .u64) x12475]), some (.seq (.int .i64) x12476), some (.seq (.int .i64) x12477)]⟩ : St))) := by
  refine Link.of fun K h => ?_
  simp only [impl_eagerMachine_upperAndNext_n1, wpO_bind, wpO_cond, wpO_map, wpO_some] at h
  exact Awp.of (by kernel_rfl) h

theorem impl_eagerMachine_upperAndNext_e (x12471 : Nat) (x12472 : Nat) (x12473 : Int) (x12474 : Int) (x12475 : Int) (x12476 : List Int) (x12477 : List Int) {r : AV} {H' : Heap} (h : (Ans.mk _ (impl_eagerMachine_upperAndNext x12471 x12472 x12473 x12474 x12475 x12476 x12477) (fun (t : Int × Int × Bool) => (.tup [.dat (.int .i64) t.1, .dat (.int .i64) t.2.1, .dat .bool t.2.2], [some (.box [.slc 1, .win 2 x12471 x12472, .dat (.int .i64) x12473, .dat (.int .i64) x12474, .dat (.int .u64) x12475]), some (.seq (.int .i64) x12476), some (.seq (.int .i64) x12477)])) [] none).run = some (r, H')) : Awp impl_eagerMachine_upperAndNext_ctx LL (bodyOf Tryd.f72) impl_eagerMachine_upperAndNext_an (⟨mkE 43 0 [(0, .ptr 0 0)], [some (.box [.slc 1, .win 2 x12471 x12472, .dat (.int .i64) x12473, .dat (.int .i64) x12474, .dat (.int .u64) x12475]), some (.seq (.int .i64) x12476), some (.seq (.int .i64) x12477)]⟩ : St) (Ret (tlook tys) Tryd.f72.results.toList r H') :=
  ret_of' (impl_eagerMachine_upperAndNext_n1_l x12471 x12472 x12473 x12474 x12475 x12476 x12477) (by unfold impl_eagerMachine_upperAndNext; kernel_rfl) (by
  intro t
  exact ret_mk [.dat (.int .i64) t.1, .dat (.int .i64) t.2.1, .dat .bool t.2.2] (by kernel_rfl) (by kernel_rfl) (by kernel_rfl) (by kernel_rfl)) h

def F_impl_eagerMachine_upperAndNext : Fun := fun avs H =>
  match avs, H with
  | [.ptr 0 0], [some (.box [.slc 1, .win 2 x12471 x12472, .dat (.int .i64) x12473, .dat (.int .i64) x12474, .dat (.int .u64) x12475]), some (.seq (.int .i64) x12476), some (.seq (.int .i64) x12477)] => ⟨_, impl_eagerMachine_upperAndNext x12471 x12472 x12473 x12474 x12475 x12476 x12477, fun (t : Int × Int × Bool) => (.tup [.dat (.int .i64) t.1, .dat (.int .i64) t.2.1, .dat .bool t.2.2], [some (.box [.slc 1, .win 2 x12471 x12472, .dat (.int .i64) x12473, .dat (.int .i64) x12474, .dat (.int .u64) x12475]), some (.seq (.int .i64) x12476), some (.seq (.int .i64) x12477)]), [], none⟩
  | _, _ => Ans.no

theorem impl_eagerMachine_upperAndNext_sound : Sound Tryd.prog 72 F_impl_eagerMachine_upperAndNext := by
  refine fn_sound' (C := impl_eagerMachine_upperAndNext_ctx) (c := bodyOf Tryd.f72) (cok_of tys_ok (by simp) (by simp) (by kernel_rfl)) Tryd.func72 (by kernel_rfl) LL impl_eagerMachine_upperAndNext_an ?_
  intro avs H r H' h
  unfold F_impl_eagerMachine_upperAndNext at h
  split at h
  · refine Awp.cast ?_ ?_ ?_ (impl_eagerMachine_upperAndNext_e _ _ _ _ _ _ _ h) <;> kernel_rfl
  · simp [Ans.no, Ans.run] at h


/-! (loop.example/headtrees/impl.wordSet).hasAll -/

def impl_wordSet_hasAll_an : Ann := (.seq (.leaf [0, 1]) (.seq (.leaf [4]) (.leaf [4])))

noncomputable def impl_wordSet_hasAll_ctx : Ctx := ⟨tlook tys, olook [], ioF, 0, false, []⟩

theorem impl_wordSet_hasAll_n1_l (x11447 : Int) (x11448 : Int) : Link impl_wordSet_hasAll_ctx LL (bodyOf Tryd.f86) impl_wordSet_hasAll_an (⟨mkE 10 0 [(0, .dat (.int .u64) x11447), (1, .dat (.int .u64) x11448)], []⟩ : St) (impl_wordSet_hasAll_n1 x11447 x11448) (fun (t : Bool) => (Exit.ret, (⟨mkE 10 0 [(4, .dat .bool t)], []⟩ : St))) := by
  refine Link.of fun K h => ?_
  simp only [impl_wordSet_hasAll_n1, wpO_bind, wpO_cond, wpO_map, wpO_some] at h
  exact Awp.of (by kernel_rfl) h

theorem impl_wordSet_hasAll_e (x11447 : Int) (x11448 : Int) {r : AV} {H' : Heap} (h : (Ans.mk _ (impl_wordSet_hasAll x11447 x11448) (fun (t : Bool) => (.dat .bool t, [])) [] none).run = some (r, H')) : Awp impl_wordSet_hasAll_ctx LL (bodyOf Tryd.f86) impl_wordSet_hasAll_an (⟨mkE 10 0 [(0, .dat (.int .u64) x11447), (1, .dat (.int .u64) x11448)], []⟩ : St) (Ret (tlook tys) Tryd.f86.results.toList r H') :=
  ret_of' (impl_wordSet_hasAll_n1_l x11447 x11448) (by unfold impl_wordSet_hasAll; kernel_rfl) (by
  intro t
  exact ret_mk [.dat .bool t] (by kernel_rfl) (by kernel_rfl) (by kernel_rfl) (by kernel_rfl)) h

def F_impl_wordSet_hasAll : Fun := fun avs H =>
  match avs, H with
  | [.dat (.int .u64) x11447, .dat (.int .u64) x11448], [] => ⟨_, impl_wordSet_hasAll x11447 x11448, fun (t : Bool) => (.dat .bool t, []), [], none⟩
  | _, _ => Ans.no

theorem impl_wordSet_hasAll_sound : Sound Tryd.prog 86 F_impl_wordSet_hasAll := by
  refine fn_sound' (C := impl_wordSet_hasAll_ctx) (c := bodyOf Tryd.f86) (cok_of tys_ok (by simp) (by simp) (by kernel_rfl)) Tryd.func86 (by kernel_rfl) LL impl_wordSet_hasAll_an ?_
  intro avs H r H' h
  unfold F_impl_wordSet_hasAll at h
  split at h
  · refine Awp.cast ?_ ?_ ?_ (impl_wordSet_hasAll_e _ _ h) <;> kernel_rfl
  · simp [Ans.no, Ans.run] at h


/-! (*loop.example/headtrees/impl.eagerMachine).hasHead -/

def impl_eagerMachine_hasHead_an : Ann := (.seq (.leaf [0, 1]) (.seq (.draw [5, 6] [0, 1, 2, 3, 4, 5, 6, 7] [] [4]) (.leaf [4])))

noncomputable def impl_eagerMachine_hasHead_ctx : Ctx := ⟨tlook tys, olook [(76, F_impl_only), (86, F_impl_wordSet_hasAll)], ioF, 3, false, []⟩

theorem impl_eagerMachine_hasHead_n1_l (x12513 : Int) (x12514 : Nat) (x12515 : Nat) (x12516 : Int) (x12517 : Int) (x12518 : Int) (x12519 : List Int) (x12520 : List Int) : Link impl_eagerMachine_hasHead_ctx LL (bodyOf Tryd.f79) impl_eagerMachine_hasHead_an (⟨mkE 12 0 [(0, .ptr 0 0), (1, .dat (.int .i64) x12513)], [some (.box [.slc 1, .win 2 x12514 x12515, .dat (.int .i64) x12516, .dat (.int .i64) x12517, .dat (.int .u64) x12518]), some (.seq (.int .i64) x12519), some (.seq (.int .i64) x12520)]⟩ : St) (impl_eagerMachine_hasHead_n1 x12513 x12518) (fun (t : Bool) => (Exit.ret, (⟨mkE 12 0 [(4, .dat .bool t)], [some (.box [.slc 1, .win 2 x12514 x12515, .dat (.int .i64) x12516, .dat (.int .i64) x12517, .dat (.int .u64) x12518]), some (.seq (.int .i64) x12519), some (.seq (.int .i64) x12520)]⟩ : St))) := by
  refine Link.of fun K h => ?_
  simp only [impl_eagerMachine_hasHead_n1, wpO_bind, wpO_cond, wpO_map, wpO_some] at h
  exact Awp.of (by kernel_rfl) h

theorem impl_eagerMachine_hasHead_e (x12513 : Int) (x12514 : Nat) (x12515 : Nat) (x12516 : Int) (x12517 : Int) (x12518 : Int) (x12519 : List Int) (x12520 : List Int) {r : AV} {H' : Heap} (h : (Ans.mk _ (impl_eagerMachine_hasHead x12513 x12514 x12515 x12516 x12517 x12518 x12519 x12520) (fun (t : Bool) => (.dat .bool t, [some (.box [.slc 1, .win 2 x12514 x12515, .dat (.int .i64) x12516, .dat (.int .i64) x12517, .dat (.int .u64) x12518]), some (.seq (.int .i64) x12519), some (.seq (.int .i64) x12520)])) [] none).run = some (r, H')) : Awp impl_eagerMachine_hasHead_ctx LL (bodyOf Tryd.f79) impl_eagerMachine_hasHead_an (⟨mkE 12 0 [(0, .ptr 0 0), (1, .dat (.int .i64) x12513)], [some (.box [.slc 1, .win 2 x12514 x12515, .dat (.int .i64) x12516, .dat (.int .i64) x12517, .dat (.int .u64) x12518]), some (.seq (.int .i64) x12519), some (.seq (.int .i64) x12520)]⟩ : St) (Ret (tlook tys) Tryd.f79.results.toList r H') :=
  ret_of' (impl_eagerMachine_hasHead_n1_l x12513 x12514 x12515 x12516 x12517 x12518 x12519 x12520) (by unfold impl_eagerMachine_hasHead; kernel_rfl) (by
  intro t
  exact ret_mk [.dat .bool t] (by kernel_rfl) (by kernel_rfl) (by kernel_rfl) (by kernel_rfl)) h

def F_impl_eagerMachine_hasHead : Fun := fun avs H =>
  match avs, H with
  | [.ptr 0 0, .dat (.int .i64) x12513], [some (.box [.slc 1, .win 2 x12514 x12515, .dat (.int .i64) x12516, .dat (.int .i64) x12517, .dat (.int .u64) x12518]), some (.seq (.int .i64) x12519), some (.seq (.int .i64) x12520)] => ⟨_, impl_eagerMachine_hasHead x12513 x12514 x12515 x12516 x12517 x12518 x12519 x12520, fun (t : Bool) => (.dat .bool t, [some (.box [.slc 1, .win 2 x12514 x12515, .dat (.int .i64) x12516, .dat (.int .i64) x12517, .dat (.int .u64) x12518]), some (.seq (.int .i64) x12519), some (.seq (.int .i64) x12520)]), [], none⟩
  | _, _ => Ans.no

theorem impl_eagerMachine_hasHead_sound : Sound Tryd.prog 79 F_impl_eagerMachine_hasHead := by
  refine fn_sound' (C := impl_eagerMachine_hasHead_ctx) (c := bodyOf Tryd.f79) (cok_of tys_ok (List.forall_mem_cons.2 ⟨impl_only_sound, List.forall_mem_cons.2 ⟨impl_wordSet_hasAll_sound, by simp⟩⟩) (List.forall_mem_cons.2 ⟨Tryd.call76, List.forall_mem_cons.2 ⟨Tryd.call86, by simp⟩⟩) (by kernel_rfl)) Tryd.func79 (by kernel_rfl) LL impl_eagerMachine_hasHead_an ?_
  intro avs H r H' h
  unfold F_impl_eagerMachine_hasHead at h
  split at h
  · refine Awp.cast ?_ ?_ ?_ (impl_eagerMachine_hasHead_e _ _ _ _ _ _ _ _ h) <;> kernel_rfl
  · simp [Ans.no, Ans.run] at h


/-! (*loop.example/headtrees/impl.eagerMachine).giveHead -/

def impl_eagerMachine_giveHead_an : Ann := (.seq (.leaf [0, 1]) (.draw [5] [0, 1, 2, 3, 4, 5, 6, 7, 8, 9] [] []))

noncomputable def impl_eagerMachine_giveHead_ctx : Ctx := ⟨tlook tys, olook [(76, F_impl_only)], ioF, 3, false, []⟩

theorem impl_eagerMachine_giveHead_n1_l (x12532 : Int) (x12533 : Int) (x12534 : Nat) (x12535 : Nat) (x12536 : Int) (x12537 : Int) (x12538 : Int) (x12539 : List Int) (x12540 : List Int) : Link impl_eagerMachine_giveHead_ctx LL (bodyOf Tryd.f80) impl_eagerMachine_giveHead_an (⟨mkE 24 0 [(0, .ptr 0 0), (1, .dat (.int .i64) x12532), (2, .dat (.int .i64) x12533)], [some (.box [.slc 1, .win 2 x12534 x12535, .dat (.int .i64) x12536, .dat (.int .i64) x12537, .dat (.int .u64) x12538]), some (.seq (.int .i64) x12539), some (.seq (.int .i64) x12540)]⟩ : St) (impl_eagerMachine_giveHead_n1 x12532 x12533 x12538 x12539) (fun (t : Int × (List Int)) => (Exit.normal, (⟨mkE 24 0 [], [some (.box [.slc 1, .win 2 x12534 x12535, .dat (.int .i64) x12536, .dat (.int .i64) x12537, .dat (.int .u64) t.1]), some (.seq (.int .i64) t.2), some (.seq (.int .i64) x12540)]⟩ : St))) := by
  refine Link.of fun K h => ?_
  simp only [impl_eagerMachine_giveHead_n1, wpO_bind, wpO_cond, wpO_map, wpO_some] at h
  exact Awp.of (by kernel_rfl) h

theorem impl_eagerMachine_giveHead_e (x12532 : Int) (x12533 : Int) (x12534 : Nat) (x12535 : Nat) (x12536 : Int) (x12537 : Int) (x12538 : Int) (x12539 : List Int) (x12540 : List Int) {r : AV} {H' : Heap} (h : (Ans.mk _ (impl_eagerMachine_giveHead x12532 x12533 x12534 x12535 x12536 x12537 x12538 x12539 x12540) (fun (t : Int × (List Int)) => (.tup [], [some (.box [.slc 1, .win 2 x12534 x12535, .dat (.int .i64) x12536, .dat (.int .i64) x12537, .dat (.int .u64) t.1]), some (.seq (.int .i64) t.2), some (.seq (.int .i64) x12540)])) [] none).run = some (r, H')) : Awp impl_eagerMachine_giveHead_ctx LL (bodyOf Tryd.f80) impl_eagerMachine_giveHead_an (⟨mkE 24 0 [(0, .ptr 0 0), (1, .dat (.int .i64) x12532), (2, .dat (.int .i64) x12533)], [some (.box [.slc 1, .win 2 x12534 x12535, .dat (.int .i64) x12536, .dat (.int .i64) x12537, .dat (.int .u64) x12538]), some (.seq (.int .i64) x12539), some (.seq (.int .i64) x12540)]⟩ : St) (Ret (tlook tys) Tryd.f80.results.toList r H') :=
  ret_of (impl_eagerMachine_giveHead_n1_l x12532 x12533 x12534 x12535 x12536 x12537 x12538 x12539 x12540) (fun (t : Int × (List Int)) => (t.1, t.2)) (by unfold impl_eagerMachine_giveHead; kernel_rfl) (by
  rintro t
  · exact ret_mk [] (by kernel_rfl) (by kernel_rfl) (by kernel_rfl) (by kernel_rfl)) h

def F_impl_eagerMachine_giveHead : Fun := fun avs H =>
  match avs, H with
  | [.ptr 0 0, .dat (.int .i64) x12532, .dat (.int .i64) x12533], [some (.box [.slc 1, .win 2 x12534 x12535, .dat (.int .i64) x12536, .dat (.int .i64) x12537, .dat (.int .u64) x12538]), some (.seq (.int .i64) x12539), some (.seq (.int .i64) x12540)] => ⟨_, impl_eagerMachine_giveHead x12532 x12533 x12534 x12535 x12536 x12537 x12538 x12539 x12540, fun (t : Int × (List Int)) => (.tup [], [some (.box [.slc 1, .win 2 x12534 x12535, .dat (.int .i64) x12536, .dat (.int .i64) x12537, .dat (.int .u64) t.1]), some (.seq (.int .i64) t.2), some (.seq (.int .i64) x12540)]), [], none⟩
  | _, _ => Ans.no

theorem impl_eagerMachine_giveHead_sound : Sound Tryd.prog 80 F_impl_eagerMachine_giveHead := by
  refine fn_sound' (C := impl_eagerMachine_giveHead_ctx) (c := bodyOf Tryd.f80) (cok_of tys_ok (List.forall_mem_cons.2 ⟨impl_only_sound, by simp⟩) (List.forall_mem_cons.2 ⟨Tryd.call76, by simp⟩) (by kernel_rfl)) Tryd.func80 (by kernel_rfl) LL impl_eagerMachine_giveHead_an ?_
  intro avs H r H' h
  unfold F_impl_eagerMachine_giveHead at h
  split at h
  · refine Awp.cast ?_ ?_ ?_ (impl_eagerMachine_giveHead_e _ _ _ _ _ _ _ _ _ h) <;> kernel_rfl
  · simp [Ans.no, Ans.run] at h


/-! (*loop.example/headtrees/impl.eagerMachine).takeAway -/

def impl_eagerMachine_takeAway_an : Ann := (.draw [] [0, 1, 2, 3, 4, 5, 6, 7, 8, 9, 10, 11, 12, 13, 14, 15, 16, 17] [] [])

noncomputable def impl_eagerMachine_takeAway_ctx : Ctx := ⟨tlook tys, olook [], ioF, 3, false, []⟩

theorem impl_eagerMachine_takeAway_n1_l (x12561 : Nat) (x12562 : Nat) (x12563 : Int) (x12564 : Int) (x12565 : Int) (x12566 : List Int) (x12567 : List Int) : Link impl_eagerMachine_takeAway_ctx LL (bodyOf Tryd.f81) impl_eagerMachine_takeAway_an (⟨mkE 19 0 [(0, .ptr 0 0)], [some (.box [.slc 1, .win 2 x12561 x12562, .dat (.int .i64) x12563, .dat (.int .i64) x12564, .dat (.int .u64) x12565]), some (.seq (.int .i64) x12566), some (.seq (.int .i64) x12567)]⟩ : St) (impl_eagerMachine_takeAway_n1 x12561 x12562) (fun (t : Nat × Nat) => (Exit.normal, (⟨mkE 19 0 [], [some (.box [.slc 1, .win 2 t.1 t.2, .dat (.int .i64) x12563, .dat (.int .i64) x12564, .dat (.int .u64) x12565]), some (.seq (.int .i64) x12566), some (.seq (.int .i64) x12567)]⟩ : St))) := by
  refine Link.of fun K h => ?_
  simp only [impl_eagerMachine_takeAway_n1, wpO_bind, wpO_cond, wpO_map, wpO_some] at h
  exact Awp.of (by kernel_rfl) h

theorem impl_eagerMachine_takeAway_e (x12561 : Nat) (x12562 : Nat) (x12563 : Int) (x12564 : Int) (x12565 : Int) (x12566 : List Int) (x12567 : List Int) {r : AV} {H' : Heap} (h : (Ans.mk _ (impl_eagerMachine_takeAway x12561 x12562 x12563 x12564 x12565 x12566 x12567) (fun (t : Nat × Nat) => (.tup [], [some (.box [.slc 1, .win 2 t.1 t.2, .dat (.int .i64) x12563, .dat (.int .i64) x12564, .dat (.int .u64) x12565]), some (.seq (.int .i64) x12566), some (.seq (.int .i64) x12567)])) [] none).run = some (r, H')) : Awp impl_eagerMachine_takeAway_ctx LL (bodyOf Tryd.f81) impl_eagerMachine_takeAway_an (⟨mkE 19 0 [(0, .ptr 0 0)], [some (.box [.slc 1, .win 2 x12561 x12562, .dat (.int .i64) x12563, .dat (.int .i64) x12564, .dat (.int .u64) x12565]), some (.seq (.int .i64) x12566), some (.seq (.int .i64) x12567)]⟩ : St) (Ret (tlook tys) Tryd.f81.results.toList r H') :=
  ret_of (impl_eagerMachine_takeAway_n1_l x12561 x12562 x12563 x12564 x12565 x12566 x12567) (fun (t : Nat × Nat) => (t.1, t.2)) (by unfold impl_eagerMachine_takeAway; kernel_rfl) (by
  rintro t
  · exact ret_mk [] (by kernel_rfl) (by kernel_rfl) (by kernel_rfl) (by kernel_rfl)) h

def F_impl_eagerMachine_takeAway : Fun := fun avs H =>
  match avs, H with
  | [.ptr 0 0], [some (.box [.slc 1, .win 2 x12561 x12562, .dat (.int .i64) x12563, .dat (.int .i64) x12564, .dat (.int .u64) x12565]), some (.seq (.int .i64) x12566), some (.seq (.int .i64) x12567)] => ⟨_, impl_eagerMachine_takeAway x12561 x12562 x12563 x12564 x12565 x12566 x12567, fun (t : Nat × Nat) => (.tup [], [some (.box [.slc 1, .win 2 t.1 t.2, .dat (.int .i64) x12563, .dat (.int .i64) x12564, .dat (.int .u64) x12565]), some (.seq (.int .i64) x12566), some (.seq (.int .i64) x12567)]), [], none⟩
  | _, _ => Ans.no

theorem impl_eagerMachine_takeAway_sound : Sound Tryd.prog 81 F_impl_eagerMachine_takeAway := by
  refine fn_sound' (C := impl_eagerMachine_takeAway_ctx) (c := bodyOf Tryd.f81) (cok_of tys_ok (by simp) (by simp) (by kernel_rfl)) Tryd.func81 (by kernel_rfl) LL impl_eagerMachine_takeAway_an ?_
  intro avs H r H' h
  unfold F_impl_eagerMachine_takeAway at h
  split at h
  · refine Awp.cast ?_ ?_ ?_ (impl_eagerMachine_takeAway_e _ _ _ _ _ _ _ h) <;> kernel_rfl
  · simp [Ans.no, Ans.run] at h


/-! (*loop.example/headtrees/impl.eagerMachine).takeUnderNext -/

def impl_eagerMachine_takeUnderNext_an : Ann := (.seq (.leaf [0]) (.seq (.leaf [0, 3, 4, 5]) (.seq (.seq (.leaf [0, 3, 4, 18]) (.cond (.seq (.leaf [2]) (.leaf [2])) (.leaf [0, 3, 4]))) (.seq (.leaf [0]) (.seq (.leaf []) (.seq (.leaf [2]) (.leaf [2])))))))

noncomputable def impl_eagerMachine_takeUnderNext_ctx : Ctx := ⟨tlook tys, olook [(72, F_impl_eagerMachine_upperAndNext), (79, F_impl_eagerMachine_hasHead), (80, F_impl_eagerMachine_giveHead), (81, F_impl_eagerMachine_takeAway)], ioF, 3, false, []⟩

theorem impl_eagerMachine_takeUnderNext_n1_l (x12464 : Nat) (x12465 : Nat) (x12466 : Int) (x12467 : Int) (x12468 : Int) (x12469 : List Int) (x12470 : List Int) : Link impl_eagerMachine_takeUnderNext_ctx LL (bodyOf Tryd.f68) impl_eagerMachine_takeUnderNext_an (⟨mkE 25 0 [(0, .ptr 0 0)], [some (.box [.slc 1, .win 2 x12464 x12465, .dat (.int .i64) x12466, .dat (.int .i64) x12467, .dat (.int .u64) x12468]), some (.seq (.int .i64) x12469), some (.seq (.int .i64) x12470)]⟩ : St) (impl_eagerMachine_takeUnderNext_n1 x12464 x12465 x12466 x12467 x12468 x12469 x12470) (fun (t : Bool × Nat × Nat × Int × (List Int)) => (Exit.ret, (⟨mkE 25 0 [(2, .dat .bool t.1)], [some (.box [.slc 1, .win 2 t.2.1 t.2.2.1, .dat (.int .i64) x12466, .dat (.int .i64) x12467, .dat (.int .u64) t.2.2.2.1]), some (.seq (.int .i64) t.2.2.2.2), some (.seq (.int .i64) x12470)]⟩ : St))) := by
  refine Link.of fun K h => ?_
  simp only [impl_eagerMachine_takeUnderNext_n1, wpO_bind, wpO_cond, wpO_map, wpO_some] at h
  exact Awp.of (by kernel_rfl) h

theorem impl_eagerMachine_takeUnderNext_e (x12464 : Nat) (x12465 : Nat) (x12466 : Int) (x12467 : Int) (x12468 : Int) (x12469 : List Int) (x12470 : List Int) {r : AV} {H' : Heap} (h : (Ans.mk _ (impl_eagerMachine_takeUnderNext x12464 x12465 x12466 x12467 x12468 x12469 x12470) (fun (t : Bool × Nat × Nat × Int × (List Int)) => (.dat .bool t.1, [some (.box [.slc 1, .win 2 t.2.1 t.2.2.1, .dat (.int .i64) x12466, .dat (.int .i64) x12467, .dat (.int .u64) t.2.2.2.1]), some (.seq (.int .i64) t.2.2.2.2), some (.seq (.int .i64) x12470)])) [] none).run = some (r, H')) : Awp impl_eagerMachine_takeUnderNext_ctx LL (bodyOf Tryd.f68) impl_eagerMachine_takeUnderNext_an (⟨mkE 25 0 [(0, .ptr 0 0)], [some (.box [.slc 1, .win 2 x12464 x12465, .dat (.int .i64) x12466, .dat (.int .i64) x12467, .dat (.int .u64) x12468]), some (.seq (.int .i64) x12469), some (.seq (.int .i64) x12470)]⟩ : St) (Ret (tlook tys) Tryd.f68.results.toList r H') :=
  ret_of' (impl_eagerMachine_takeUnderNext_n1_l x12464 x12465 x12466 x12467 x12468 x12469 x12470) (by unfold impl_eagerMachine_takeUnderNext; kernel_rfl) (by
  intro t
  exact ret_mk [.dat .bool t.1] (by kernel_rfl) (by kernel_rfl) (by kernel_rfl) (by kernel_rfl)) h

def F_impl_eagerMachine_takeUnderNext : Fun := fun avs H =>
  match avs, H with
  | [.ptr 0 0], [some (.box [.slc 1, .win 2 x12464 x12465, .dat (.int .i64) x12466, .dat (.int .i64) x12467, .dat (.int .u64) x12468]), some (.seq (.int .i64) x12469), some (.seq (.int .i64) x12470)] => ⟨_, impl_eagerMachine_takeUnderNext x12464 x12465 x12466 x12467 x12468 x12469 x12470, fun (t : Bool × Nat × Nat × Int × (List Int)) => (.dat .bool t.1, [some (.box [.slc 1, .win 2 t.2.1 t.2.2.1, .dat (.int .i64) x12466, .dat (.int .i64) x12467, .dat (.int .u64) t.2.2.2.1]), some (.seq (.int .i64) t.2.2.2.2), some (.seq (.int .i64) x12470)]), [], none⟩
  | _, _ => Ans.no

theorem impl_eagerMachine_takeUnderNext_sound : Sound Tryd.prog 68 F_impl_eagerMachine_takeUnderNext := by
  refine fn_sound' (C := impl_eagerMachine_takeUnderNext_ctx) (c := bodyOf Tryd.f68) (cok_of tys_ok (List.forall_mem_cons.2 ⟨impl_eagerMachine_upperAndNext_sound, List.forall_mem_cons.2 ⟨impl_eagerMachine_hasHead_sound, List.forall_mem_cons.2 ⟨impl_eagerMachine_giveHead_sound, List.forall_mem_cons.2 ⟨impl_eagerMachine_takeAway_sound, by simp⟩⟩⟩⟩) (List.forall_mem_cons.2 ⟨Tryd.call72, List.forall_mem_cons.2 ⟨Tryd.call79, List.forall_mem_cons.2 ⟨Tryd.call80, List.forall_mem_cons.2 ⟨Tryd.call81, by simp⟩⟩⟩⟩) (by kernel_rfl)) Tryd.func68 (by kernel_rfl) LL impl_eagerMachine_takeUnderNext_an ?_
  intro avs H r H' h
  unfold F_impl_eagerMachine_takeUnderNext at h
  split at h
  · refine Awp.cast ?_ ?_ ?_ (impl_eagerMachine_takeUnderNext_e _ _ _ _ _ _ _ h) <;> kernel_rfl
  · simp [Ans.no, Ans.run] at h


/-! (*loop.example/headtrees/impl.eagerMachine).putUnderUpper -/

def impl_eagerMachine_putUnderUpper_an : Ann := (.seq (.leaf [0]) (.seq (.leaf [0, 3, 4, 5]) (.seq (.seq (.leaf [0, 3, 4, 13]) (.cond (.seq (.leaf [2]) (.leaf [2])) (.leaf [0, 3, 4]))) (.seq (.leaf [0]) (.seq (.leaf [2]) (.leaf [2]))))))

noncomputable def impl_eagerMachine_putUnderUpper_ctx : Ctx := ⟨tlook tys, olook [(72, F_impl_eagerMachine_upperAndNext), (80, F_impl_eagerMachine_giveHead), (54, F_impl_stackMachine_putNext_v2)], ioF, 3, false, [2]⟩

theorem impl_eagerMachine_putUnderUpper_n1_l (x12613 : Nat) (x12614 : Nat) (x12615 : Int) (x12616 : Int) (x12617 : Int) (x12618 : List Int) (x12619 : List Int) : Link impl_eagerMachine_putUnderUpper_ctx LL (bodyOf Tryd.f69) impl_eagerMachine_putUnderUpper_an (⟨mkE 22 0 [(0, .ptr 0 0)], [some (.box [.slc 1, .win 2 x12613 x12614, .dat (.int .i64) x12615, .dat (.int .i64) x12616, .dat (.int .u64) x12617]), some (.seq (.int .i64) x12618), some (.seq (.int .i64) x12619)]⟩ : St) (impl_eagerMachine_putUnderUpper_n1 x12613 x12614 x12615 x12616 x12617 x12618 x12619) (fun (t : Bool × Nat × Nat × Int × Int × Int × (List Int) × (List Int)) => (Exit.ret, (⟨mkE 22 0 [(2, .dat .bool t.1)], [some (.box [.slc 1, .win 2 t.2.1 t.2.2.1, .dat (.int .i64) t.2.2.2.1, .dat (.int .i64) t.2.2.2.2.1, .dat (.int .u64) t.2.2.2.2.2.1]), some (.seq (.int .i64) t.2.2.2.2.2.2.1), some (.seq (.int .i64) t.2.2.2.2.2.2.2)]⟩ : St))) := by
  refine Link.of fun K h => ?_
  simp only [impl_eagerMachine_putUnderUpper_n1, wpO_bind, wpO_cond, wpO_map, wpO_some] at h
  exact Awp.of (by kernel_rfl) h

theorem impl_eagerMachine_putUnderUpper_e (x12613 : Nat) (x12614 : Nat) (x12615 : Int) (x12616 : Int) (x12617 : Int) (x12618 : List Int) (x12619 : List Int) {r : AV} {H' : Heap} (h : (Ans.mk _ (impl_eagerMachine_putUnderUpper x12613 x12614 x12615 x12616 x12617 x12618 x12619) (fun (t : Bool × Nat × Nat × Int × Int × Int × (List Int) × (List Int)) => (.dat .bool t.1, [some (.box [.slc 1, .win 2 t.2.1 t.2.2.1, .dat (.int .i64) t.2.2.2.1, .dat (.int .i64) t.2.2.2.2.1, .dat (.int .u64) t.2.2.2.2.2.1]), some (.seq (.int .i64) t.2.2.2.2.2.2.1), some (.seq (.int .i64) t.2.2.2.2.2.2.2)])) [2] none).run = some (r, H')) : Awp impl_eagerMachine_putUnderUpper_ctx LL (bodyOf Tryd.f69) impl_eagerMachine_putUnderUpper_an (⟨mkE 22 0 [(0, .ptr 0 0)], [some (.box [.slc 1, .win 2 x12613 x12614, .dat (.int .i64) x12615, .dat (.int .i64) x12616, .dat (.int .u64) x12617]), some (.seq (.int .i64) x12618), some (.seq (.int .i64) x12619)]⟩ : St) (Ret (tlook tys) Tryd.f69.results.toList r H') :=
  ret_of' (impl_eagerMachine_putUnderUpper_n1_l x12613 x12614 x12615 x12616 x12617 x12618 x12619) (by unfold impl_eagerMachine_putUnderUpper; kernel_rfl) (by
  intro t
  exact ret_mk [.dat .bool t.1] (by kernel_rfl) (by kernel_rfl) (by kernel_rfl) (by kernel_rfl)) h

def F_impl_eagerMachine_putUnderUpper : Fun := fun avs H =>
  match avs, H with
  | [.ptr 0 0], [some (.box [.slc 1, .win 2 x12613 x12614, .dat (.int .i64) x12615, .dat (.int .i64) x12616, .dat (.int .u64) x12617]), some (.seq (.int .i64) x12618), some (.seq (.int .i64) x12619)] => ⟨_, impl_eagerMachine_putUnderUpper x12613 x12614 x12615 x12616 x12617 x12618 x12619, fun (t : Bool × Nat × Nat × Int × Int × Int × (List Int) × (List Int)) => (.dat .bool t.1, [some (.box [.slc 1, .win 2 t.2.1 t.2.2.1, .dat (.int .i64) t.2.2.2.1, .dat (.int .i64) t.2.2.2.2.1, .dat (.int .u64) t.2.2.2.2.2.1]), some (.seq (.int .i64) t.2.2.2.2.2.2.1), some (.seq (.int .i64) t.2.2.2.2.2.2.2)]), [2], none⟩
  | _, _ => Ans.no

theorem impl_eagerMachine_putUnderUpper_sound : Sound Tryd.prog 69 F_impl_eagerMachine_putUnderUpper := by
  refine fn_sound' (C := impl_eagerMachine_putUnderUpper_ctx) (c := bodyOf Tryd.f69) (cok_of tys_ok (List.forall_mem_cons.2 ⟨impl_eagerMachine_upperAndNext_sound, List.forall_mem_cons.2 ⟨impl_eagerMachine_giveHead_sound, List.forall_mem_cons.2 ⟨impl_stackMachine_putNext_v2_sound, by simp⟩⟩⟩) (List.forall_mem_cons.2 ⟨Tryd.call72, List.forall_mem_cons.2 ⟨Tryd.call80, List.forall_mem_cons.2 ⟨Tryd.call54, by simp⟩⟩⟩) (by kernel_rfl)) Tryd.func69 (by kernel_rfl) LL impl_eagerMachine_putUnderUpper_an ?_
  intro avs H r H' h
  unfold F_impl_eagerMachine_putUnderUpper at h
  split at h
  · refine Awp.cast ?_ ?_ ?_ (impl_eagerMachine_putUnderUpper_e _ _ _ _ _ _ _ h) <;> kernel_rfl
  · simp [Ans.no, Ans.run] at h


/-! (*loop.example/headtrees/impl.eagerMachine).takeHeaded -/

def impl_eagerMachine_takeHeaded_an : Ann := (.seq (.leaf [0]) (.seq (.leaf [0, 3]) (.seq (.seq (.leaf [0, 25]) (.cond (.seq (.leaf [2]) (.leaf [2])) (.leaf [0]))) (.seq (.leaf []) (.seq (.leaf [2]) (.leaf [2]))))))

noncomputable def impl_eagerMachine_takeHeaded_ctx : Ctx := ⟨tlook tys, olook [(79, F_impl_eagerMachine_hasHead), (81, F_impl_eagerMachine_takeAway)], ioF, 3, false, []⟩

theorem impl_eagerMachine_takeHeaded_n1_l (x12686 : Nat) (x12687 : Nat) (x12688 : Int) (x12689 : Int) (x12690 : Int) (x12691 : List Int) (x12692 : List Int) : Link impl_eagerMachine_takeHeaded_ctx LL (bodyOf Tryd.f70) impl_eagerMachine_takeHeaded_an (⟨mkE 28 0 [(0, .ptr 0 0)], [some (.box [.slc 1, .win 2 x12686 x12687, .dat (.int .i64) x12688, .dat (.int .i64) x12689, .dat (.int .u64) x12690]), some (.seq (.int .i64) x12691), some (.seq (.int .i64) x12692)]⟩ : St) (impl_eagerMachine_takeHeaded_n1 x12686 x12687 x12688 x12689 x12690 x12691 x12692) (fun (t : Bool × Nat × Nat) => (Exit.ret, (⟨mkE 28 0 [(2, .dat .bool t.1)], [some (.box [.slc 1, .win 2 t.2.1 t.2.2, .dat (.int .i64) x12688, .dat (.int .i64) x12689, .dat (.int .u64) x12690]), some (.seq (.int .i64) x12691), some (.seq (.int .i64) x12692)]⟩ : St))) := by
  refine Link.of fun K h => ?_
  simp only [impl_eagerMachine_takeHeaded_n1, wpO_bind, wpO_cond, wpO_map, wpO_some] at h
  exact Awp.of (by kernel_rfl) h

theorem impl_eagerMachine_takeHeaded_e (x12686 : Nat) (x12687 : Nat) (x12688 : Int) (x12689 : Int) (x12690 : Int) (x12691 : List Int) (x12692 : List Int) {r : AV} {H' : Heap} (h : (Ans.mk _ (impl_eagerMachine_takeHeaded x12686 x12687 x12688 x12689 x12690 x12691 x12692) (fun (t : Bool × Nat × Nat) => (.dat .bool t.1, [some (.box [.slc 1, .win 2 t.2.1 t.2.2, .dat (.int .i64) x12688, .dat (.int .i64) x12689, .dat (.int .u64) x12690]), some (.seq (.int .i64) x12691), some (.seq (.int .i64) x12692)])) [] none).run = some (r, H')) : Awp impl_eagerMachine_takeHeaded_ctx LL (bodyOf Tryd.f70) impl_eagerMachine_takeHeaded_an (⟨mkE 28 0 [(0, .ptr 0 0)], [some (.box [.slc 1, .win 2 x12686 x12687, .dat (.int .i64) x12688, .dat (.int .i64) x12689, .dat (.int .u64) x12690]), some (.seq (.int .i64) x12691), some (.seq (.int .i64) x12692)]⟩ : St) (Ret (tlook tys) Tryd.f70.results.toList r H') :=
  ret_of' (impl_eagerMachine_takeHeaded_n1_l x12686 x12687 x12688 x12689 x12690 x12691 x12692) (by unfold impl_eagerMachine_takeHeaded; kernel_rfl) (by
  intro t
  exact ret_mk [.dat .bool t.1] (by kernel_rfl) (by kernel_rfl) (by kernel_rfl) (by kernel_rfl)) h

def F_impl_eagerMachine_takeHeaded : Fun := fun avs H =>
  match avs, H with
  | [.ptr 0 0], [some (.box [.slc 1, .win 2 x12686 x12687, .dat (.int .i64) x12688, .dat (.int .i64) x12689, .dat (.int .u64) x12690]), some (.seq (.int .i64) x12691), some (.seq (.int .i64) x12692)] => ⟨_, impl_eagerMachine_takeHeaded x12686 x12687 x12688 x12689 x12690 x12691 x12692, fun (t : Bool × Nat × Nat) => (.dat .bool t.1, [some (.box [.slc 1, .win 2 t.2.1 t.2.2, .dat (.int .i64) x12688, .dat (.int .i64) x12689, .dat (.int .u64) x12690]), some (.seq (.int .i64) x12691), some (.seq (.int .i64) x12692)]), [], none⟩
  | _, _ => Ans.no

theorem impl_eagerMachine_takeHeaded_sound : Sound Tryd.prog 70 F_impl_eagerMachine_takeHeaded := by
  refine fn_sound' (C := impl_eagerMachine_takeHeaded_ctx) (c := bodyOf Tryd.f70) (cok_of tys_ok (List.forall_mem_cons.2 ⟨impl_eagerMachine_hasHead_sound, List.forall_mem_cons.2 ⟨impl_eagerMachine_takeAway_sound, by simp⟩⟩) (List.forall_mem_cons.2 ⟨Tryd.call79, List.forall_mem_cons.2 ⟨Tryd.call81, by simp⟩⟩) (by kernel_rfl)) Tryd.func70 (by kernel_rfl) LL impl_eagerMachine_takeHeaded_an ?_
  intro avs H r H' h
  unfold F_impl_eagerMachine_takeHeaded at h
  split at h
  · refine Awp.cast ?_ ?_ ?_ (impl_eagerMachine_takeHeaded_e _ _ _ _ _ _ _ h) <;> kernel_rfl
  · simp [Ans.no, Ans.run] at h


/-! loop.example/headtrees/impl.allDone[*loop.example/headtrees/impl.eagerMachine] -/

def impl_allDone_impl_eagerMachine_an : Ann := (.seq (.leaf [0, 1, 2]) (.seq (.seq (.leafF [⟨3, 0, false, some 1, some (.int .i64)⟩, ⟨3, 0, true, some 1, none⟩] [0, 1, 2, 11, 12]) (.block (.loop (.seq (.leaf [0, 1, 2, 11, 12, 13]) (.seq (.cond (.leaf [0, 1, 2, 11, 12]) (.leaf [])) (.seq (.block (.seq (.leaf [0, 1, 2, 7, 11, 12]) (.seq (.leaf [0, 1, 2, 8, 9, 11, 12]) (.seq (.leafF [⟨5, 0, false, some 1, some (.int .i64)⟩] [0, 1, 2, 11, 12, 30]) (.cond (.seq (.leaf [6]) (.leaf [6])) (.leaf [0, 1, 2, 11, 12])))))) (.leafF [⟨2, 0, true, some 1, none⟩] [0, 1, 2, 11, 12]))))))) (.seq (.leaf [6]) (.leaf [6]))))

noncomputable def impl_allDone_impl_eagerMachine_ctx : Ctx := ⟨tlook tys, olook [(54, F_impl_stackMachine_putNext_v2), (68, F_impl_eagerMachine_takeUnderNext), (69, F_impl_eagerMachine_putUnderUpper), (70, F_impl_eagerMachine_takeHeaded)], ioF, 2, false, []⟩

theorem impl_allDone_impl_eagerMachine_n1_l (x11268 : ByteArray) (x11269 : Int) (x11270 : Int) (x11271 : Int) (x11272 : List Int) : Link impl_allDone_impl_eagerMachine_ctx LL (Code.fst (bodyOf Tryd.f43)) (Ann.fst impl_allDone_impl_eagerMachine_an) (⟨mkE 32 0 [(0, .ptr 0 0), (1, .fmap [(.int .u8 83, .methodOf 59 "loop.example/headtrees/impl.putNext"), (.int .u8 76, .func 68), (.int .u8 82, .func 69), (.int .u8 68, .func 70)]), (2, .dat .str x11268)], [some (.box [.slc 1, .nils, .dat (.int .i64) x11269, .dat (.int .i64) x11270, .dat (.int .u64) x11271]), some (.seq (.int .i64) x11272)]⟩ : St) (impl_allDone_impl_eagerMachine_n1) (fun (t : Unit) => (Exit.normal, (⟨mkE 32 0 [(0, .ptr 0 0), (1, .fmap [(.int .u8 83, .methodOf 59 "loop.example/headtrees/impl.putNext"), (.int .u8 76, .func 68), (.int .u8 82, .func 69), (.int .u8 68, .func 70)]), (2, .dat .str x11268)], [some (.box [.slc 1, .nils, .dat (.int .i64) x11269, .dat (.int .i64) x11270, .dat (.int .u64) x11271]), some (.seq (.int .i64) x11272)]⟩ : St))) := by
  refine Link.of fun K h => ?_
  simp only [impl_allDone_impl_eagerMachine_n1, wpO_bind, wpO_cond, wpO_map, wpO_some] at h
  exact Awp.of (by kernel_rfl) h

theorem impl_allDone_impl_eagerMachine_n2_l (x11268 : ByteArray) (x11269 : Int) (x11270 : Int) (x11271 : Int) (x11272 : List Int) : Link impl_allDone_impl_eagerMachine_ctx LL (Code.fst (Code.fst (Code.snd (bodyOf Tryd.f43)))) (Ann.fst (Ann.fst (Ann.snd impl_allDone_impl_eagerMachine_an))) (⟨mkE 32 0 [(0, .ptr 0 0), (1, .fmap [(.int .u8 83, .methodOf 59 "loop.example/headtrees/impl.putNext"), (.int .u8 76, .func 68), (.int .u8 82, .func 69), (.int .u8 68, .func 70)]), (2, .dat .str x11268)], [some (.box [.slc 1, .nils, .dat (.int .i64) x11269, .dat (.int .i64) x11270, .dat (.int .u64) x11271]), some (.seq (.int .i64) x11272)]⟩ : St) (impl_allDone_impl_eagerMachine_n2 x11268) (fun (t : Int × Nat) => (Exit.normal, (⟨mkE 32 0 [(0, .ptr 0 0), (1, .fmap [(.int .u8 83, .methodOf 59 "loop.example/headtrees/impl.putNext"), (.int .u8 76, .func 68), (.int .u8 82, .func 69), (.int .u8 68, .func 70)]), (2, .dat .str x11268), (11, .dat (.int .i64) t.1), (12, .dat (.int .i64) 0)], [some (.box [.slc 1, .win 2 0 t.2, .dat (.int .i64) x11269, .dat (.int .i64) x11270, .dat (.int .u64) x11271]), some (.seq (.int .i64) x11272), some (.seq (.int .i64) ([] : List Int))]⟩ : St))) := by
  refine Link.of fun K h => ?_
  simp only [impl_allDone_impl_eagerMachine_n2, wpO_bind, wpO_cond, wpO_map, wpO_some] at h
  exact Awp.of (by kernel_rfl) h

theorem impl_allDone_impl_eagerMachine_n3_l (x11268 : ByteArray) (x12317 : Int) (x12791 : Int) (x12792 : Nat) (x12793 : Nat) (x12794 : Int) (x12795 : Int) (x12796 : Int) (x12797 : List Int) (x12798 : List Int) : Link impl_allDone_impl_eagerMachine_ctx LL (Code.fst (Code.fst (Code.snd (Code.fst (Code.snd (bodyOf Tryd.f43)))))) (Ann.fst (Ann.fst (Ann.snd (Ann.fst (Ann.snd impl_allDone_impl_eagerMachine_an))))) (⟨mkE 32 0 [(0, .ptr 0 0), (1, .fmap [(.int .u8 83, .methodOf 59 "loop.example/headtrees/impl.putNext"), (.int .u8 76, .func 68), (.int .u8 82, .func 69), (.int .u8 68, .func 70)]), (2, .dat .str x11268), (11, .dat (.int .i64) x12317), (12, .dat (.int .i64) x12791)], [some (.box [.slc 1, .win 2 x12792 x12793, .dat (.int .i64) x12794, .dat (.int .i64) x12795, .dat (.int .u64) x12796]), some (.seq (.int .i64) x12797), some (.seq (.int .i64) x12798)]⟩ : St) (impl_allDone_impl_eagerMachine_n3 x11268 x12317 x12791 x12792 x12793 x12794 x12795 x12796 x12797 x12798) (Sum.elim (fun (t : Int × Nat × Nat × Int × Int × Int × (List Int) × (List Int)) => (Exit.normal, (⟨mkE 32 0 [(0, .ptr 0 0), (1, .fmap [(.int .u8 83, .methodOf 59 "loop.example/headtrees/impl.putNext"), (.int .u8 76, .func 68), (.int .u8 82, .func 69), (.int .u8 68, .func 70)]), (2, .dat .str x11268), (11, .dat (.int .i64) x12317), (12, .dat (.int .i64) t.1)], [some (.box [.slc 1, .win 2 t.2.1 t.2.2.1, .dat (.int .i64) t.2.2.2.1, .dat (.int .i64) t.2.2.2.2.1, .dat (.int .u64) t.2.2.2.2.2.1]), some (.seq (.int .i64) t.2.2.2.2.2.2.1), some (.seq (.int .i64) t.2.2.2.2.2.2.2)]⟩ : St))) (Sum.elim (fun (t : Bool × Nat × Nat × Int × Int × Int × (List Int) × (List Int)) => (Exit.ret, (⟨mkE 32 0 [(6, .dat .bool t.1)], [some (.box [.slc 1, .win 2 t.2.1 t.2.2.1, .dat (.int .i64) t.2.2.2.1, .dat (.int .i64) t.2.2.2.2.1, .dat (.int .u64) t.2.2.2.2.2.1]), some (.seq (.int .i64) t.2.2.2.2.2.2.1), some (.seq (.int .i64) t.2.2.2.2.2.2.2)]⟩ : St))) (fun (t : Nat × Nat × Int × Int × Int × (List Int) × (List Int)) => ((Exit.exit 0), (⟨mkE 32 0 [], [some (.box [.slc 1, .win 2 t.1 t.2.1, .dat (.int .i64) t.2.2.1, .dat (.int .i64) t.2.2.2.1, .dat (.int .u64) t.2.2.2.2.1]), some (.seq (.int .i64) t.2.2.2.2.2.1), some (.seq (.int .i64) t.2.2.2.2.2.2)]⟩ : St))))) := by
  refine Link.of fun K h => ?_
  simp only [impl_allDone_impl_eagerMachine_n3, wpO_bind, wpO_cond, wpO_map, wpO_some] at h
  exact Awp.of (by kernel_rfl) h

theorem impl_allDone_impl_eagerMachine_n4_l (x11268 : ByteArray) (x12317 : Int) (x12318 : Nat) (x11269 : Int) (x11270 : Int) (x11271 : Int) (x11272 : List Int) : Link impl_allDone_impl_eagerMachine_ctx LL (Code.fst (Code.snd (Code.fst (Code.snd (bodyOf Tryd.f43))))) (Ann.fst (Ann.snd (Ann.fst (Ann.snd impl_allDone_impl_eagerMachine_an)))) (⟨mkE 32 0 [(0, .ptr 0 0), (1, .fmap [(.int .u8 83, .methodOf 59 "loop.example/headtrees/impl.putNext"), (.int .u8 76, .func 68), (.int .u8 82, .func 69), (.int .u8 68, .func 70)]), (2, .dat .str x11268), (11, .dat (.int .i64) x12317), (12, .dat (.int .i64) 0)], [some (.box [.slc 1, .win 2 0 x12318, .dat (.int .i64) x11269, .dat (.int .i64) x11270, .dat (.int .u64) x11271]), some (.seq (.int .i64) x11272), some (.seq (.int .i64) ([] : List Int))]⟩ : St) (impl_allDone_impl_eagerMachine_n4 x11268 x12317 x12318 x11269 x11270 x11271 x11272) (Sum.elim (fun (t : Bool × Nat × Nat × Int × Int × Int × (List Int) × (List Int)) => (Exit.ret, (⟨mkE 32 0 [(6, .dat .bool t.1)], [some (.box [.slc 1, .win 2 t.2.1 t.2.2.1, .dat (.int .i64) t.2.2.2.1, .dat (.int .i64) t.2.2.2.2.1, .dat (.int .u64) t.2.2.2.2.2.1]), some (.seq (.int .i64) t.2.2.2.2.2.2.1), some (.seq (.int .i64) t.2.2.2.2.2.2.2)]⟩ : St))) (fun (t : Nat × Nat × Int × Int × Int × (List Int) × (List Int)) => ((Exit.exit 0), (⟨mkE 32 0 [], [some (.box [.slc 1, .win 2 t.1 t.2.1, .dat (.int .i64) t.2.2.1, .dat (.int .i64) t.2.2.2.1, .dat (.int .u64) t.2.2.2.2.1]), some (.seq (.int .i64) t.2.2.2.2.2.1), some (.seq (.int .i64) t.2.2.2.2.2.2)]⟩ : St)))) := by
  unfold impl_allDone_impl_eagerMachine_n4
  exact Link.cast (by kernel_rfl) (by kernel_rfl) (link_loop (mk := fun (s : Int × Nat × Nat × Int × Int × Int × (List Int) × (List Int)) => (⟨mkE 32 0 [(0, .ptr 0 0), (1, .fmap [(.int .u8 83, .methodOf 59 "loop.example/headtrees/impl.putNext"), (.int .u8 76, .func 68), (.int .u8 82, .func 69), (.int .u8 68, .func 70)]), (2, .dat .str x11268), (11, .dat (.int .i64) x12317), (12, .dat (.int .i64) s.1)], [some (.box [.slc 1, .win 2 s.2.1 s.2.2.1, .dat (.int .i64) s.2.2.2.1, .dat (.int .i64) s.2.2.2.2.1, .dat (.int .u64) s.2.2.2.2.2.1]), some (.seq (.int .i64) s.2.2.2.2.2.2.1), some (.seq (.int .i64) s.2.2.2.2.2.2.2)]⟩ : St)) (fin := (Sum.elim (fun (t : Bool × Nat × Nat × Int × Int × Int × (List Int) × (List Int)) => (Exit.ret, (⟨mkE 32 0 [(6, .dat .bool t.1)], [some (.box [.slc 1, .win 2 t.2.1 t.2.2.1, .dat (.int .i64) t.2.2.2.1, .dat (.int .i64) t.2.2.2.2.1, .dat (.int .u64) t.2.2.2.2.2.1]), some (.seq (.int .i64) t.2.2.2.2.2.2.1), some (.seq (.int .i64) t.2.2.2.2.2.2.2)]⟩ : St))) (fun (t : Nat × Nat × Int × Int × Int × (List Int) × (List Int)) => ((Exit.exit 0), (⟨mkE 32 0 [], [some (.box [.slc 1, .win 2 t.1 t.2.1, .dat (.int .i64) t.2.2.1, .dat (.int .i64) t.2.2.2.1, .dat (.int .u64) t.2.2.2.2.1]), some (.seq (.int .i64) t.2.2.2.2.2.1), some (.seq (.int .i64) t.2.2.2.2.2.2)]⟩ : St))))) (by
  rintro (t | t) f K h
  · exact h
  · exact h) (fun s => link_map (impl_allDone_impl_eagerMachine_n3_l x11268 x12317 s.1 s.2.1 s.2.2.1 s.2.2.2.1 s.2.2.2.2.1 s.2.2.2.2.2.1 s.2.2.2.2.2.2.1 s.2.2.2.2.2.2.2) (Sum.elim (fun (t : Int × Nat × Nat × Int × Int × Int × (List Int) × (List Int)) => Sum.inl (t.1, t.2.1, t.2.2.1, t.2.2.2.1, t.2.2.2.2.1, t.2.2.2.2.2.1, t.2.2.2.2.2.2.1, t.2.2.2.2.2.2.2)) (Sum.elim (fun (t : Bool × Nat × Nat × Int × Int × Int × (List Int) × (List Int)) => Sum.inr (Sum.inl t)) (fun (t : Nat × Nat × Int × Int × Int × (List Int) × (List Int)) => Sum.inr (Sum.inr t)))) (by
  rintro (t | t | t)
  · kernel_rfl
  · kernel_rfl
  · kernel_rfl)) (0, 0, x12318, x11269, x11270, x11271, x11272, ([] : List Int)))

theorem impl_allDone_impl_eagerMachine_n5_l (x11268 : ByteArray) (x12317 : Int) (x12318 : Nat) (x11269 : Int) (x11270 : Int) (x11271 : Int) (x11272 : List Int) : Link impl_allDone_impl_eagerMachine_ctx LL (Code.snd (Code.fst (Code.snd (bodyOf Tryd.f43)))) (Ann.snd (Ann.fst (Ann.snd impl_allDone_impl_eagerMachine_an))) (⟨mkE 32 0 [(0, .ptr 0 0), (1, .fmap [(.int .u8 83, .methodOf 59 "loop.example/headtrees/impl.putNext"), (.int .u8 76, .func 68), (.int .u8 82, .func 69), (.int .u8 68, .func 70)]), (2, .dat .str x11268), (11, .dat (.int .i64) x12317), (12, .dat (.int .i64) 0)], [some (.box [.slc 1, .win 2 0 x12318, .dat (.int .i64) x11269, .dat (.int .i64) x11270, .dat (.int .u64) x11271]), some (.seq (.int .i64) x11272), some (.seq (.int .i64) ([] : List Int))]⟩ : St) (impl_allDone_impl_eagerMachine_n5 x11268 x12317 x12318 x11269 x11270 x11271 x11272) (Sum.elim (fun (t : Nat × Nat × Int × Int × Int × (List Int) × (List Int)) => (Exit.normal, (⟨mkE 32 0 [], [some (.box [.slc 1, .win 2 t.1 t.2.1, .dat (.int .i64) t.2.2.1, .dat (.int .i64) t.2.2.2.1, .dat (.int .u64) t.2.2.2.2.1]), some (.seq (.int .i64) t.2.2.2.2.2.1), some (.seq (.int .i64) t.2.2.2.2.2.2)]⟩ : St))) (fun (t : Bool × Nat × Nat × Int × Int × Int × (List Int) × (List Int)) => (Exit.ret, (⟨mkE 32 0 [(6, .dat .bool t.1)], [some (.box [.slc 1, .win 2 t.2.1 t.2.2.1, .dat (.int .i64) t.2.2.2.1, .dat (.int .i64) t.2.2.2.2.1, .dat (.int .u64) t.2.2.2.2.2.1]), some (.seq (.int .i64) t.2.2.2.2.2.2.1), some (.seq (.int .i64) t.2.2.2.2.2.2.2)]⟩ : St)))) := by
  unfold impl_allDone_impl_eagerMachine_n5
  exact Link.cast (by kernel_rfl) (by kernel_rfl) (link_block (id := 0) (impl_allDone_impl_eagerMachine_n4_l x11268 x12317 x12318 x11269 x11270 x11271 x11272) (Sum.elim (fun (t : Bool × Nat × Nat × Int × Int × Int × (List Int) × (List Int)) => (Sum.inr t)) (fun (t : Nat × Nat × Int × Int × Int × (List Int) × (List Int)) => (Sum.inl (t.1, t.2.1, t.2.2.1, t.2.2.2.1, t.2.2.2.2.1, t.2.2.2.2.2.1, t.2.2.2.2.2.2)))) (by
  rintro (t | t) K h
  · exact Eq.mp (by kernel_rfl) h
  · exact Eq.mp (by kernel_rfl) h))

theorem impl_allDone_impl_eagerMachine_n6_l (x11268 : ByteArray) (x11269 : Int) (x11270 : Int) (x11271 : Int) (x11272 : List Int) : Link impl_allDone_impl_eagerMachine_ctx LL (Code.fst (Code.snd (bodyOf Tryd.f43))) (Ann.fst (Ann.snd impl_allDone_impl_eagerMachine_an)) (⟨mkE 32 0 [(0, .ptr 0 0), (1, .fmap [(.int .u8 83, .methodOf 59 "loop.example/headtrees/impl.putNext"), (.int .u8 76, .func 68), (.int .u8 82, .func 69), (.int .u8 68, .func 70)]), (2, .dat .str x11268)], [some (.box [.slc 1, .nils, .dat (.int .i64) x11269, .dat (.int .i64) x11270, .dat (.int .u64) x11271]), some (.seq (.int .i64) x11272)]⟩ : St) (impl_allDone_impl_eagerMachine_n6 x11268 x11269 x11270 x11271 x11272) (Sum.elim (fun (t : Nat × Nat × Int × Int × Int × (List Int) × (List Int)) => (Exit.normal, (⟨mkE 32 0 [], [some (.box [.slc 1, .win 2 t.1 t.2.1, .dat (.int .i64) t.2.2.1, .dat (.int .i64) t.2.2.2.1, .dat (.int .u64) t.2.2.2.2.1]), some (.seq (.int .i64) t.2.2.2.2.2.1), some (.seq (.int .i64) t.2.2.2.2.2.2)]⟩ : St))) (fun (t : Bool × Nat × Nat × Int × Int × Int × (List Int) × (List Int)) => (Exit.ret, (⟨mkE 32 0 [(6, .dat .bool t.1)], [some (.box [.slc 1, .win 2 t.2.1 t.2.2.1, .dat (.int .i64) t.2.2.2.1, .dat (.int .i64) t.2.2.2.2.1, .dat (.int .u64) t.2.2.2.2.2.1]), some (.seq (.int .i64) t.2.2.2.2.2.2.1), some (.seq (.int .i64) t.2.2.2.2.2.2.2)]⟩ : St)))) := by
  unfold impl_allDone_impl_eagerMachine_n6
  exact Link.cast (by kernel_rfl) (by kernel_rfl) (link_seq (b := (Code.snd (Code.fst (Code.snd (bodyOf Tryd.f43))))) (y := (Ann.snd (Ann.fst (Ann.snd impl_allDone_impl_eagerMachine_an)))) (impl_allDone_impl_eagerMachine_n2_l x11268 x11269 x11270 x11271 x11272) (fun (t : Int × Nat) => (impl_allDone_impl_eagerMachine_n5_l x11268 t.1 t.2 x11269 x11270 x11271 x11272)))

theorem impl_allDone_impl_eagerMachine_n7_l (x12792 : Nat) (x12793 : Nat) (x12794 : Int) (x12795 : Int) (x12796 : Int) (x12797 : List Int) (x12798 : List Int) : Link impl_allDone_impl_eagerMachine_ctx LL (Code.snd (Code.snd (bodyOf Tryd.f43))) (Ann.snd (Ann.snd impl_allDone_impl_eagerMachine_an)) (⟨mkE 32 0 [], [some (.box [.slc 1, .win 2 x12792 x12793, .dat (.int .i64) x12794, .dat (.int .i64) x12795, .dat (.int .u64) x12796]), some (.seq (.int .i64) x12797), some (.seq (.int .i64) x12798)]⟩ : St) (impl_allDone_impl_eagerMachine_n7 x12792 x12793 x12794 x12795 x12796 x12797 x12798) (fun (t : Bool × Nat × Nat × Int × Int × Int × (List Int) × (List Int)) => (Exit.ret, (⟨mkE 32 0 [(6, .dat .bool t.1)], [some (.box [.slc 1, .win 2 t.2.1 t.2.2.1, .dat (.int .i64) t.2.2.2.1, .dat (.int .i64) t.2.2.2.2.1, .dat (.int .u64) t.2.2.2.2.2.1]), some (.seq (.int .i64) t.2.2.2.2.2.2.1), some (.seq (.int .i64) t.2.2.2.2.2.2.2)]⟩ : St))) := by
  refine Link.of fun K h => ?_
  simp only [impl_allDone_impl_eagerMachine_n7, wpO_bind, wpO_cond, wpO_map, wpO_some] at h
  exact Awp.of (by kernel_rfl) h

theorem impl_allDone_impl_eagerMachine_n8_l (x11268 : ByteArray) (x11269 : Int) (x11270 : Int) (x11271 : Int) (x11272 : List Int) : Link impl_allDone_impl_eagerMachine_ctx LL (Code.snd (bodyOf Tryd.f43)) (Ann.snd impl_allDone_impl_eagerMachine_an) (⟨mkE 32 0 [(0, .ptr 0 0), (1, .fmap [(.int .u8 83, .methodOf 59 "loop.example/headtrees/impl.putNext"), (.int .u8 76, .func 68), (.int .u8 82, .func 69), (.int .u8 68, .func 70)]), (2, .dat .str x11268)], [some (.box [.slc 1, .nils, .dat (.int .i64) x11269, .dat (.int .i64) x11270, .dat (.int .u64) x11271]), some (.seq (.int .i64) x11272)]⟩ : St) (impl_allDone_impl_eagerMachine_n8 x11268 x11269 x11270 x11271 x11272) (fun (t : Bool × Nat × Nat × Int × Int × Int × (List Int) × (List Int)) => (Exit.ret, (⟨mkE 32 0 [(6, .dat .bool t.1)], [some (.box [.slc 1, .win 2 t.2.1 t.2.2.1, .dat (.int .i64) t.2.2.2.1, .dat (.int .i64) t.2.2.2.2.1, .dat (.int .u64) t.2.2.2.2.2.1]), some (.seq (.int .i64) t.2.2.2.2.2.2.1), some (.seq (.int .i64) t.2.2.2.2.2.2.2)]⟩ : St))) := by
  unfold impl_allDone_impl_eagerMachine_n8
  exact Link.cast (by kernel_rfl) (by kernel_rfl) (link_seq2 (b := (Code.snd (Code.snd (bodyOf Tryd.f43)))) (y := (Ann.snd (Ann.snd impl_allDone_impl_eagerMachine_an))) (impl_allDone_impl_eagerMachine_n6_l x11268 x11269 x11270 x11271 x11272) (fun (t : Nat × Nat × Int × Int × Int × (List Int) × (List Int)) => (impl_allDone_impl_eagerMachine_n7_l t.1 t.2.1 t.2.2.1 t.2.2.2.1 t.2.2.2.2.1 t.2.2.2.2.2.1 t.2.2.2.2.2.2)) (fun (t : Bool × Nat × Nat × Int × Int × Int × (List Int) × (List Int)) => t) (by
  rintro t
  · kernel_rfl) (by
  rintro t f K h
  · exact h))

theorem impl_allDone_impl_eagerMachine_n9_l (x11268 : ByteArray) (x11269 : Int) (x11270 : Int) (x11271 : Int) (x11272 : List Int) : Link impl_allDone_impl_eagerMachine_ctx LL (bodyOf Tryd.f43) impl_allDone_impl_eagerMachine_an (⟨mkE 32 0 [(0, .ptr 0 0), (1, .fmap [(.int .u8 83, .methodOf 59 "loop.example/headtrees/impl.putNext"), (.int .u8 76, .func 68), (.int .u8 82, .func 69), (.int .u8 68, .func 70)]), (2, .dat .str x11268)], [some (.box [.slc 1, .nils, .dat (.int .i64) x11269, .dat (.int .i64) x11270, .dat (.int .u64) x11271]), some (.seq (.int .i64) x11272)]⟩ : St) (impl_allDone_impl_eagerMachine_n9 x11268 x11269 x11270 x11271 x11272) (fun (t : Bool × Nat × Nat × Int × Int × Int × (List Int) × (List Int)) => (Exit.ret, (⟨mkE 32 0 [(6, .dat .bool t.1)], [some (.box [.slc 1, .win 2 t.2.1 t.2.2.1, .dat (.int .i64) t.2.2.2.1, .dat (.int .i64) t.2.2.2.2.1, .dat (.int .u64) t.2.2.2.2.2.1]), some (.seq (.int .i64) t.2.2.2.2.2.2.1), some (.seq (.int .i64) t.2.2.2.2.2.2.2)]⟩ : St))) := by
  unfold impl_allDone_impl_eagerMachine_n9
  exact Link.cast (by kernel_rfl) (by kernel_rfl) (link_seq (b := (Code.snd (bodyOf Tryd.f43))) (y := (Ann.snd impl_allDone_impl_eagerMachine_an)) (impl_allDone_impl_eagerMachine_n1_l x11268 x11269 x11270 x11271 x11272) (fun (t : Unit) => (impl_allDone_impl_eagerMachine_n8_l x11268 x11269 x11270 x11271 x11272)))

theorem impl_allDone_impl_eagerMachine_e (x11268 : ByteArray) (x11269 : Int) (x11270 : Int) (x11271 : Int) (x11272 : List Int) {r : AV} {H' : Heap} (h : (Ans.mk _ (impl_allDone_impl_eagerMachine x11268 x11269 x11270 x11271 x11272) (fun (t : Bool × Nat × Nat × Int × Int × Int × (List Int) × (List Int)) => (.dat .bool t.1, [some (.box [.slc 1, .win 2 t.2.1 t.2.2.1, .dat (.int .i64) t.2.2.2.1, .dat (.int .i64) t.2.2.2.2.1, .dat (.int .u64) t.2.2.2.2.2.1]), some (.seq (.int .i64) t.2.2.2.2.2.2.1), some (.seq (.int .i64) t.2.2.2.2.2.2.2)])) [] none).run = some (r, H')) : Awp impl_allDone_impl_eagerMachine_ctx LL (bodyOf Tryd.f43) impl_allDone_impl_eagerMachine_an (⟨mkE 32 0 [(0, .ptr 0 0), (1, .fmap [(.int .u8 83, .methodOf 59 "loop.example/headtrees/impl.putNext"), (.int .u8 76, .func 68), (.int .u8 82, .func 69), (.int .u8 68, .func 70)]), (2, .dat .str x11268)], [some (.box [.slc 1, .nils, .dat (.int .i64) x11269, .dat (.int .i64) x11270, .dat (.int .u64) x11271]), some (.seq (.int .i64) x11272)]⟩ : St) (Ret (tlook tys) Tryd.f43.results.toList r H') :=
  ret_of' (impl_allDone_impl_eagerMachine_n9_l x11268 x11269 x11270 x11271 x11272) (by unfold impl_allDone_impl_eagerMachine; kernel_rfl) (by
  intro t
  exact ret_mk [.dat .bool t.1] (by kernel_rfl) (by kernel_rfl) (by kernel_rfl) (by kernel_rfl)) h

def F_impl_allDone_impl_eagerMachine : Fun := fun avs H =>
  match avs, H with
  | [.ptr 0 0, .fmap [(.int .u8 83, .methodOf 59 "loop.example/headtrees/impl.putNext"), (.int .u8 76, .func 68), (.int .u8 82, .func 69), (.int .u8 68, .func 70)], .dat .str x11268], [some (.box [.slc 1, .nils, .dat (.int .i64) x11269, .dat (.int .i64) x11270, .dat (.int .u64) x11271]), some (.seq (.int .i64) x11272)] => ⟨_, impl_allDone_impl_eagerMachine x11268 x11269 x11270 x11271 x11272, fun (t : Bool × Nat × Nat × Int × Int × Int × (List Int) × (List Int)) => (.dat .bool t.1, [some (.box [.slc 1, .win 2 t.2.1 t.2.2.1, .dat (.int .i64) t.2.2.2.1, .dat (.int .i64) t.2.2.2.2.1, .dat (.int .u64) t.2.2.2.2.2.1]), some (.seq (.int .i64) t.2.2.2.2.2.2.1), some (.seq (.int .i64) t.2.2.2.2.2.2.2)]), [], none⟩
  | _, _ => Ans.no

theorem impl_allDone_impl_eagerMachine_sound : Sound Tryd.prog 43 F_impl_allDone_impl_eagerMachine := by
  refine fn_sound' (C := impl_allDone_impl_eagerMachine_ctx) (c := bodyOf Tryd.f43) (cok_of tys_ok (List.forall_mem_cons.2 ⟨impl_stackMachine_putNext_v2_sound, List.forall_mem_cons.2 ⟨impl_eagerMachine_takeUnderNext_sound, List.forall_mem_cons.2 ⟨impl_eagerMachine_putUnderUpper_sound, List.forall_mem_cons.2 ⟨impl_eagerMachine_takeHeaded_sound, by simp⟩⟩⟩⟩) (List.forall_mem_cons.2 ⟨Tryd.call54, List.forall_mem_cons.2 ⟨Tryd.call68, List.forall_mem_cons.2 ⟨Tryd.call69, List.forall_mem_cons.2 ⟨Tryd.call70, by simp⟩⟩⟩⟩) (by kernel_rfl)) Tryd.func43 (by kernel_rfl) LL impl_allDone_impl_eagerMachine_an ?_
  intro avs H r H' h
  unfold F_impl_allDone_impl_eagerMachine at h
  split at h
  · refine Awp.cast ?_ ?_ ?_ (impl_allDone_impl_eagerMachine_e _ _ _ _ _ h) <;> kernel_rfl
  · simp [Ans.no, Ans.run] at h


/-! (*loop.example/headtrees/impl.eagerMachine).ended -/

def impl_eagerMachine_ended_an : Ann := (.seq (.leaf [0]) (.seq (.draw [17] [0, 1, 2, 3, 4, 5, 6, 7, 8, 9, 10, 11, 12, 13, 14, 15, 16, 18, 19, 20, 21, 22, 23, 24, 17, 25, 26, 27] [] [2]) (.leaf [2])))

noncomputable def impl_eagerMachine_ended_ctx : Ctx := ⟨tlook tys, olook [(71, F_impl_wordSet_count)], ioF, 3, false, []⟩

theorem impl_eagerMachine_ended_n1_l (x12903 : Nat) (x12904 : Nat) (x12905 : Int) (x12906 : Int) (x12907 : Int) (x12908 : List Int) (x12909 : List Int) : Link impl_eagerMachine_ended_ctx LL (bodyOf Tryd.f45) impl_eagerMachine_ended_an (⟨mkE 30 0 [(0, .ptr 0 0)], [some (.box [.slc 1, .win 2 x12903 x12904, .dat (.int .i64) x12905, .dat (.int .i64) x12906, .dat (.int .u64) x12907]), some (.seq (.int .i64) x12908), some (.seq (.int .i64) x12909)]⟩ : St) (impl_eagerMachine_ended_n1 x12905 x12907 x12908) (fun (t : Bool) => (Exit.ret, (⟨mkE 30 0 [(2, .dat .bool t)], [some (.box [.slc 1, .win 2 x12903 x12904, .dat (.int .i64) x12905, .dat (.int .i64) x12906, .dat (.int .u64) x12907]), some (.seq (.int .i64) x12908), some (.seq (.int .i64) x12909)]⟩ : St))) := by
  refine Link.of fun K h => ?_
  simp only [impl_eagerMachine_ended_n1, wpO_bind, wpO_cond, wpO_map, wpO_some] at h
  exact Awp.of (by kernel_rfl) h

theorem impl_eagerMachine_ended_e (x12903 : Nat) (x12904 : Nat) (x12905 : Int) (x12906 : Int) (x12907 : Int) (x12908 : List Int) (x12909 : List Int) {r : AV} {H' : Heap} (h : (Ans.mk _ (impl_eagerMachine_ended x12903 x12904 x12905 x12906 x12907 x12908 x12909) (fun (t : Bool) => (.dat .bool t, [some (.box [.slc 1, .win 2 x12903 x12904, .dat (.int .i64) x12905, .dat (.int .i64) x12906, .dat (.int .u64) x12907]), some (.seq (.int .i64) x12908), some (.seq (.int .i64) x12909)])) [] none).run = some (r, H')) : Awp impl_eagerMachine_ended_ctx LL (bodyOf Tryd.f45) impl_eagerMachine_ended_an (⟨mkE 30 0 [(0, .ptr 0 0)], [some (.box [.slc 1, .win 2 x12903 x12904, .dat (.int .i64) x12905, .dat (.int .i64) x12906, .dat (.int .u64) x12907]), some (.seq (.int .i64) x12908), some (.seq (.int .i64) x12909)]⟩ : St) (Ret (tlook tys) Tryd.f45.results.toList r H') :=
  ret_of' (impl_eagerMachine_ended_n1_l x12903 x12904 x12905 x12906 x12907 x12908 x12909) (by unfold impl_eagerMachine_ended; kernel_rfl) (by
  intro t
  exact ret_mk [.dat .bool t] (by kernel_rfl) (by kernel_rfl) (by kernel_rfl) (by kernel_rfl)) h

def F_impl_eagerMachine_ended : Fun := fun avs H =>
  match avs, H with
  | [.ptr 0 0], [some (.box [.slc 1, .win 2 x12903 x12904, .dat (.int .i64) x12905, .dat (.int .i64) x12906, .dat (.int .u64) x12907]), some (.seq (.int .i64) x12908), some (.seq (.int .i64) x12909)] => ⟨_, impl_eagerMachine_ended x12903 x12904 x12905 x12906 x12907 x12908 x12909, fun (t : Bool) => (.dat .bool t, [some (.box [.slc 1, .win 2 x12903 x12904, .dat (.int .i64) x12905, .dat (.int .i64) x12906, .dat (.int .u64) x12907]), some (.seq (.int .i64) x12908), some (.seq (.int .i64) x12909)]), [], none⟩
  | _, _ => Ans.no

theorem impl_eagerMachine_ended_sound : Sound Tryd.prog 45 F_impl_eagerMachine_ended := by
  refine fn_sound' (C := impl_eagerMachine_ended_ctx) (c := bodyOf Tryd.f45) (cok_of tys_ok (List.forall_mem_cons.2 ⟨impl_wordSet_count_sound, by simp⟩) (List.forall_mem_cons.2 ⟨Tryd.call71, by simp⟩) (by kernel_rfl)) Tryd.func45 (by kernel_rfl) LL impl_eagerMachine_ended_an ?_
  intro avs H r H' h
  unfold F_impl_eagerMachine_ended at h
  split at h
  · refine Awp.cast ?_ ?_ ?_ (impl_eagerMachine_ended_e _ _ _ _ _ _ _ h) <;> kernel_rfl
  · simp [Ans.no, Ans.run] at h


/-! loop.example/headtrees/impl.RunEager -/

def impl_RunEager_an : Ann := (.seq (.leaf [0, 1]) (.seq (.seq (.leaf [0, 1, 12]) (.cond (.seq (.leaf [4, 5]) (.leaf [4, 5])) (.leaf [0, 1]))) (.seq (.leaf [1, 6]) (.seq (.seq (.leaf [6, 24]) (.cond (.seq (.leaf [4, 5]) (.leaf [4, 5])) (.leaf [6]))) (.seq (.leaf [4, 5]) (.leaf [4, 5]))))))

noncomputable def impl_RunEager_ctx : Ctx := ⟨tlook tys, olook [(42, F_impl_newEagerMachine), (44, F_impl_eagerMoves), (43, F_impl_allDone_impl_eagerMachine), (45, F_impl_eagerMachine_ended)], ioF, 0, false, []⟩

theorem impl_RunEager_n1_l (x11254 : Int) (x11255 : ByteArray) : Link impl_RunEager_ctx LL (bodyOf Tryd.f19) impl_RunEager_an (⟨mkE 30 0 [(0, .dat (.int .i64) x11254), (1, .dat .str x11255)], []⟩ : St) (impl_RunEager_n1 x11254 x11255) (fun (t : Bool × (List Int)) => (Exit.ret, (⟨mkE 30 0 [(4, .slc 0), (5, .dat .bool t.1)], [some (.seq (.int .i64) t.2)]⟩ : St))) := by
  refine Link.of fun K h => ?_
  simp only [impl_RunEager_n1, wpO_bind, wpO_cond, wpO_map, wpO_some] at h
  exact Awp.of (by kernel_rfl) h

theorem impl_RunEager_e (x11254 : Int) (x11255 : ByteArray) {r : AV} {H' : Heap} (h : (Ans.mk _ (impl_RunEager x11254 x11255) (fun (t : Bool × (List Int)) => (.tup [.slc 0, .dat .bool t.1], [some (.seq (.int .i64) t.2)])) [] none).run = some (r, H')) : Awp impl_RunEager_ctx LL (bodyOf Tryd.f19) impl_RunEager_an (⟨mkE 30 0 [(0, .dat (.int .i64) x11254), (1, .dat .str x11255)], []⟩ : St) (Ret (tlook tys) Tryd.f19.results.toList r H') :=
  ret_of' (impl_RunEager_n1_l x11254 x11255) (by unfold impl_RunEager; kernel_rfl) (by
  intro t
  exact ret_mk [.slc 0, .dat .bool t.1] (by kernel_rfl) (by kernel_rfl) (by kernel_rfl) (by kernel_rfl)) h

def F_impl_RunEager : Fun := fun avs H =>
  match avs, H with
  | [.dat (.int .i64) x11254, .dat .str x11255], [] => ⟨_, impl_RunEager x11254 x11255, fun (t : Bool × (List Int)) => (.tup [.slc 0, .dat .bool t.1], [some (.seq (.int .i64) t.2)]), [], none⟩
  | _, _ => Ans.no

theorem impl_RunEager_sound : Sound Tryd.prog 19 F_impl_RunEager := by
  refine fn_sound' (C := impl_RunEager_ctx) (c := bodyOf Tryd.f19) (cok_of tys_ok (List.forall_mem_cons.2 ⟨impl_newEagerMachine_sound, List.forall_mem_cons.2 ⟨impl_eagerMoves_sound, List.forall_mem_cons.2 ⟨impl_allDone_impl_eagerMachine_sound, List.forall_mem_cons.2 ⟨impl_eagerMachine_ended_sound, by simp⟩⟩⟩⟩) (List.forall_mem_cons.2 ⟨Tryd.call42, List.forall_mem_cons.2 ⟨Tryd.call44, List.forall_mem_cons.2 ⟨Tryd.call43, List.forall_mem_cons.2 ⟨Tryd.call45, by simp⟩⟩⟩⟩) (by kernel_rfl)) Tryd.func19 (by kernel_rfl) LL impl_RunEager_an ?_
  intro avs H r H' h
  unfold F_impl_RunEager at h
  split at h
  · refine Awp.cast ?_ ?_ ?_ (impl_RunEager_e _ _ h) <;> kernel_rfl
  · simp [Ans.no, Ans.run] at h


/-! (*loop.example/headtrees/impl.eagerMachine).waitsBelow$1 -/

def impl_eagerMachine_waitsBelow_1_an : Ann := (.seq (.leaf [0, 1, 2]) (.seq (.draw [] [0, 1, 2, 3, 4, 5, 6, 7, 8, 9, 10, 11, 12, 13, 14, 15, 16] [] [4]) (.leaf [4])))

noncomputable def impl_eagerMachine_waitsBelow_1_ctx : Ctx := ⟨tlook tys, olook [], ioF, 2, false, []⟩

theorem impl_eagerMachine_waitsBelow_1_n1_l (x13316 : Int) (x13317 : List Int) (x13318 : Int) : Link impl_eagerMachine_waitsBelow_1_ctx LL (bodyOf Tryd.f84) impl_eagerMachine_waitsBelow_1_an (⟨mkE 21 0 [(0, .dat (.int .i64) x13316), (1, .ptr 0 0), (2, .ptr 1 0)], [some (.box [.dat (.list (.int .i64)) x13317]), some (.box [.dat (.int .i64) x13318])]⟩ : St) (impl_eagerMachine_waitsBelow_1_n1 x13316 x13317 x13318) (fun (t : Bool) => (Exit.ret, (⟨mkE 21 0 [(4, .dat .bool t)], [some (.box [.dat (.list (.int .i64)) x13317]), some (.box [.dat (.int .i64) x13318])]⟩ : St))) := by
  refine Link.of fun K h => ?_
  simp only [impl_eagerMachine_waitsBelow_1_n1, wpO_bind, wpO_cond, wpO_map, wpO_some] at h
  exact Awp.of (by kernel_rfl) h

theorem impl_eagerMachine_waitsBelow_1_e (x13316 : Int) (x13317 : List Int) (x13318 : Int) {r : AV} {H' : Heap} (h : (Ans.mk _ (impl_eagerMachine_waitsBelow_1 x13316 x13317 x13318) (fun (t : Bool) => (.dat .bool t, [some (.box [.dat (.list (.int .i64)) x13317]), some (.box [.dat (.int .i64) x13318])])) [] none).run = some (r, H')) : Awp impl_eagerMachine_waitsBelow_1_ctx LL (bodyOf Tryd.f84) impl_eagerMachine_waitsBelow_1_an (⟨mkE 21 0 [(0, .dat (.int .i64) x13316), (1, .ptr 0 0), (2, .ptr 1 0)], [some (.box [.dat (.list (.int .i64)) x13317]), some (.box [.dat (.int .i64) x13318])]⟩ : St) (Ret (tlook tys) Tryd.f84.results.toList r H') :=
  ret_of' (impl_eagerMachine_waitsBelow_1_n1_l x13316 x13317 x13318) (by unfold impl_eagerMachine_waitsBelow_1; kernel_rfl) (by
  intro t
  exact ret_mk [.dat .bool t] (by kernel_rfl) (by kernel_rfl) (by kernel_rfl) (by kernel_rfl)) h

def F_impl_eagerMachine_waitsBelow_1 : Fun := fun avs H =>
  match avs, H with
  | [.dat (.int .i64) x13316, .ptr 0 0, .ptr 1 0], [some (.box [.dat (.list (.int .i64)) x13317]), some (.box [.dat (.int .i64) x13318])] => ⟨_, impl_eagerMachine_waitsBelow_1 x13316 x13317 x13318, fun (t : Bool) => (.dat .bool t, [some (.box [.dat (.list (.int .i64)) x13317]), some (.box [.dat (.int .i64) x13318])]), [], none⟩
  | _, _ => Ans.no

theorem impl_eagerMachine_waitsBelow_1_sound : Sound Tryd.prog 84 F_impl_eagerMachine_waitsBelow_1 := by
  refine fn_sound' (C := impl_eagerMachine_waitsBelow_1_ctx) (c := bodyOf Tryd.f84) (cok_of tys_ok (by simp) (by simp) (by kernel_rfl)) Tryd.func84 (by kernel_rfl) LL impl_eagerMachine_waitsBelow_1_an ?_
  intro avs H r H' h
  unfold F_impl_eagerMachine_waitsBelow_1 at h
  split at h
  · refine Awp.cast ?_ ?_ ?_ (impl_eagerMachine_waitsBelow_1_e _ _ _ h) <;> kernel_rfl
  · simp [Ans.no, Ans.run] at h


/-! slices.IndexFunc[[]int,int] -/

def slices_IndexFunc_int_int_an : Ann := (.seq (.leaf [0, 1]) (.seq (.seq (.leaf [0, 1, 7, 8]) (.block (.loop (.seq (.leaf [0, 1, 7, 8, 9]) (.seq (.cond (.leaf [0, 1, 7, 8]) (.leaf [])) (.seq (.block (.seq (.leaf [0, 1, 5, 7, 8]) (.seq (.leaf [0, 1, 5, 7, 8, 16]) (.cond (.seq (.leaf [4]) (.leaf [4])) (.leaf [0, 1, 7, 8]))))) (.leaf [0, 1, 7, 8]))))))) (.seq (.leaf [4]) (.leaf [4]))))

noncomputable def slices_IndexFunc_int_int_ctx : Ctx := ⟨tlook tys, olook [(84, F_impl_eagerMachine_waitsBelow_1)], ioF, 2, false, []⟩

theorem slices_IndexFunc_int_int_n1_l (x13308 : List Int) (x13309 : List Int) (x13310 : Int) : Link slices_IndexFunc_int_int_ctx LL (Code.fst (bodyOf Tryd.f89)) (Ann.fst slices_IndexFunc_int_int_an) (⟨mkE 19 0 [(0, .dat (.list (.int .i64)) x13308), (1, .fn 84 [] [.ptr 0 0, .ptr 1 0])], [some (.box [.dat (.list (.int .i64)) x13309]), some (.box [.dat (.int .i64) x13310])]⟩ : St) (slices_IndexFunc_int_int_n1) (fun (t : Unit) => (Exit.normal, (⟨mkE 19 0 [(0, .dat (.list (.int .i64)) x13308), (1, .fn 84 [] [.ptr 0 0, .ptr 1 0])], [some (.box [.dat (.list (.int .i64)) x13309]), some (.box [.dat (.int .i64) x13310])]⟩ : St))) := by
  refine Link.of fun K h => ?_
  simp only [slices_IndexFunc_int_int_n1, wpO_bind, wpO_cond, wpO_map, wpO_some] at h
  exact Awp.of (by kernel_rfl) h

theorem slices_IndexFunc_int_int_n2_l (x13308 : List Int) (x13309 : List Int) (x13310 : Int) : Link slices_IndexFunc_int_int_ctx LL (Code.fst (Code.fst (Code.snd (bodyOf Tryd.f89)))) (Ann.fst (Ann.fst (Ann.snd slices_IndexFunc_int_int_an))) (⟨mkE 19 0 [(0, .dat (.list (.int .i64)) x13308), (1, .fn 84 [] [.ptr 0 0, .ptr 1 0])], [some (.box [.dat (.list (.int .i64)) x13309]), some (.box [.dat (.int .i64) x13310])]⟩ : St) (slices_IndexFunc_int_int_n2 x13308) (fun (t : Int) => (Exit.normal, (⟨mkE 19 0 [(0, .dat (.list (.int .i64)) x13308), (1, .fn 84 [] [.ptr 0 0, .ptr 1 0]), (7, .dat (.int .i64) t), (8, .dat (.int .i64) 0)], [some (.box [.dat (.list (.int .i64)) x13309]), some (.box [.dat (.int .i64) x13310])]⟩ : St))) := by
  refine Link.of fun K h => ?_
  simp only [slices_IndexFunc_int_int_n2, wpO_bind, wpO_cond, wpO_map, wpO_some] at h
  exact Awp.of (by kernel_rfl) h

theorem slices_IndexFunc_int_int_n3_l (x13308 : List Int) (x13311 : Int) (x13337 : Int) (x13309 : List Int) (x13310 : Int) : Link slices_IndexFunc_int_int_ctx LL (Code.fst (Code.fst (Code.snd (Code.fst (Code.snd (bodyOf Tryd.f89)))))) (Ann.fst (Ann.fst (Ann.snd (Ann.fst (Ann.snd slices_IndexFunc_int_int_an))))) (⟨mkE 19 0 [(0, .dat (.list (.int .i64)) x13308), (1, .fn 84 [] [.ptr 0 0, .ptr 1 0]), (7, .dat (.int .i64) x13311), (8, .dat (.int .i64) x13337)], [some (.box [.dat (.list (.int .i64)) x13309]), some (.box [.dat (.int .i64) x13310])]⟩ : St) (slices_IndexFunc_int_int_n3 x13308 x13311 x13337 x13309 x13310) (Sum.elim (fun (t : Int) => (Exit.normal, (⟨mkE 19 0 [(0, .dat (.list (.int .i64)) x13308), (1, .fn 84 [] [.ptr 0 0, .ptr 1 0]), (7, .dat (.int .i64) x13311), (8, .dat (.int .i64) t)], [some (.box [.dat (.list (.int .i64)) x13309]), some (.box [.dat (.int .i64) x13310])]⟩ : St))) (Sum.elim (fun (t : Int) => (Exit.ret, (⟨mkE 19 0 [(4, .dat (.int .i64) t)], [some (.box [.dat (.list (.int .i64)) x13309]), some (.box [.dat (.int .i64) x13310])]⟩ : St))) (fun (t : Unit) => ((Exit.exit 0), (⟨mkE 19 0 [], [some (.box [.dat (.list (.int .i64)) x13309]), some (.box [.dat (.int .i64) x13310])]⟩ : St))))) := by
  refine Link.of fun K h => ?_
  simp only [slices_IndexFunc_int_int_n3, wpO_bind, wpO_cond, wpO_map, wpO_some] at h
  exact Awp.of (by kernel_rfl) h

theorem slices_IndexFunc_int_int_n4_l (x13308 : List Int) (x13311 : Int) (x13309 : List Int) (x13310 : Int) : Link slices_IndexFunc_int_int_ctx LL (Code.fst (Code.snd (Code.fst (Code.snd (bodyOf Tryd.f89))))) (Ann.fst (Ann.snd (Ann.fst (Ann.snd slices_IndexFunc_int_int_an)))) (⟨mkE 19 0 [(0, .dat (.list (.int .i64)) x13308), (1, .fn 84 [] [.ptr 0 0, .ptr 1 0]), (7, .dat (.int .i64) x13311), (8, .dat (.int .i64) 0)], [some (.box [.dat (.list (.int .i64)) x13309]), some (.box [.dat (.int .i64) x13310])]⟩ : St) (slices_IndexFunc_int_int_n4 x13308 x13311 x13309 x13310) (Sum.elim (fun (t : Int) => (Exit.ret, (⟨mkE 19 0 [(4, .dat (.int .i64) t)], [some (.box [.dat (.list (.int .i64)) x13309]), some (.box [.dat (.int .i64) x13310])]⟩ : St))) (fun (t : Unit) => ((Exit.exit 0), (⟨mkE 19 0 [], [some (.box [.dat (.list (.int .i64)) x13309]), some (.box [.dat (.int .i64) x13310])]⟩ : St)))) := by
  unfold slices_IndexFunc_int_int_n4
  exact Link.cast (by kernel_rfl) (by kernel_rfl) (link_loop (mk := fun (s : Int) => (⟨mkE 19 0 [(0, .dat (.list (.int .i64)) x13308), (1, .fn 84 [] [.ptr 0 0, .ptr 1 0]), (7, .dat (.int .i64) x13311), (8, .dat (.int .i64) s)], [some (.box [.dat (.list (.int .i64)) x13309]), some (.box [.dat (.int .i64) x13310])]⟩ : St)) (fin := (Sum.elim (fun (t : Int) => (Exit.ret, (⟨mkE 19 0 [(4, .dat (.int .i64) t)], [some (.box [.dat (.list (.int .i64)) x13309]), some (.box [.dat (.int .i64) x13310])]⟩ : St))) (fun (t : Unit) => ((Exit.exit 0), (⟨mkE 19 0 [], [some (.box [.dat (.list (.int .i64)) x13309]), some (.box [.dat (.int .i64) x13310])]⟩ : St))))) (by
  rintro (t | t) f K h
  · exact h
  · exact h) (fun s => link_map (slices_IndexFunc_int_int_n3_l x13308 x13311 s x13309 x13310) (Sum.elim (fun (t : Int) => Sum.inl t) (Sum.elim (fun (t : Int) => Sum.inr (Sum.inl t)) (fun (t : Unit) => Sum.inr (Sum.inr t)))) (by
  rintro (t | t | t)
  · kernel_rfl
  · kernel_rfl
  · kernel_rfl)) 0)

theorem slices_IndexFunc_int_int_n5_l (x13308 : List Int) (x13311 : Int) (x13309 : List Int) (x13310 : Int) : Link slices_IndexFunc_int_int_ctx LL (Code.snd (Code.fst (Code.snd (bodyOf Tryd.f89)))) (Ann.snd (Ann.fst (Ann.snd slices_IndexFunc_int_int_an))) (⟨mkE 19 0 [(0, .dat (.list (.int .i64)) x13308), (1, .fn 84 [] [.ptr 0 0, .ptr 1 0]), (7, .dat (.int .i64) x13311), (8, .dat (.int .i64) 0)], [some (.box [.dat (.list (.int .i64)) x13309]), some (.box [.dat (.int .i64) x13310])]⟩ : St) (slices_IndexFunc_int_int_n5 x13308 x13311 x13309 x13310) (Sum.elim (fun (t : Unit) => (Exit.normal, (⟨mkE 19 0 [], [some (.box [.dat (.list (.int .i64)) x13309]), some (.box [.dat (.int .i64) x13310])]⟩ : St))) (fun (t : Int) => (Exit.ret, (⟨mkE 19 0 [(4, .dat (.int .i64) t)], [some (.box [.dat (.list (.int .i64)) x13309]), some (.box [.dat (.int .i64) x13310])]⟩ : St)))) := by
  unfold slices_IndexFunc_int_int_n5
  exact Link.cast (by kernel_rfl) (by kernel_rfl) (link_block (id := 0) (slices_IndexFunc_int_int_n4_l x13308 x13311 x13309 x13310) (Sum.elim (fun (t : Int) => (Sum.inr t)) (fun (t : Unit) => (Sum.inl ()))) (by
  rintro (t | t) K h
  · exact Eq.mp (by kernel_rfl) h
  · exact Eq.mp (by kernel_rfl) h))

theorem slices_IndexFunc_int_int_n6_l (x13308 : List Int) (x13309 : List Int) (x13310 : Int) : Link slices_IndexFunc_int_int_ctx LL (Code.fst (Code.snd (bodyOf Tryd.f89))) (Ann.fst (Ann.snd slices_IndexFunc_int_int_an)) (⟨mkE 19 0 [(0, .dat (.list (.int .i64)) x13308), (1, .fn 84 [] [.ptr 0 0, .ptr 1 0])], [some (.box [.dat (.list (.int .i64)) x13309]), some (.box [.dat (.int .i64) x13310])]⟩ : St) (slices_IndexFunc_int_int_n6 x13308 x13309 x13310) (Sum.elim (fun (t : Unit) => (Exit.normal, (⟨mkE 19 0 [], [some (.box [.dat (.list (.int .i64)) x13309]), some (.box [.dat (.int .i64) x13310])]⟩ : St))) (fun (t : Int) => (Exit.ret, (⟨mkE 19 0 [(4, .dat (.int .i64) t)], [some (.box [.dat (.list (.int .i64)) x13309]), some (.box [.dat (.int .i64) x13310])]⟩ : St)))) := by
  unfold slices_IndexFunc_int_int_n6
  exact Link.cast (by kernel_rfl) (by kernel_rfl) (link_seq (b := (Code.snd (Code.fst (Code.snd (bodyOf Tryd.f89))))) (y := (Ann.snd (Ann.fst (Ann.snd slices_IndexFunc_int_int_an)))) (slices_IndexFunc_int_int_n2_l x13308 x13309 x13310) (fun (t : Int) => (slices_IndexFunc_int_int_n5_l x13308 t x13309 x13310)))

theorem slices_IndexFunc_int_int_n7_l (x13309 : List Int) (x13310 : Int) : Link slices_IndexFunc_int_int_ctx LL (Code.snd (Code.snd (bodyOf Tryd.f89))) (Ann.snd (Ann.snd slices_IndexFunc_int_int_an)) (⟨mkE 19 0 [], [some (.box [.dat (.list (.int .i64)) x13309]), some (.box [.dat (.int .i64) x13310])]⟩ : St) (slices_IndexFunc_int_int_n7) (fun (t : Int) => (Exit.ret, (⟨mkE 19 0 [(4, .dat (.int .i64) t)], [some (.box [.dat (.list (.int .i64)) x13309]), some (.box [.dat (.int .i64) x13310])]⟩ : St))) := by
  refine Link.of fun K h => ?_
  simp only [slices_IndexFunc_int_int_n7, wpO_bind, wpO_cond, wpO_map, wpO_some] at h
  exact Awp.of (by kernel_rfl) h

theorem slices_IndexFunc_int_int_n8_l (x13308 : List Int) (x13309 : List Int) (x13310 : Int) : Link slices_IndexFunc_int_int_ctx LL (Code.snd (bodyOf Tryd.f89)) (Ann.snd slices_IndexFunc_int_int_an) (⟨mkE 19 0 [(0, .dat (.list (.int .i64)) x13308), (1, .fn 84 [] [.ptr 0 0, .ptr 1 0])], [some (.box [.dat (.list (.int .i64)) x13309]), some (.box [.dat (.int .i64) x13310])]⟩ : St) (slices_IndexFunc_int_int_n8 x13308 x13309 x13310) (fun (t : Int) => (Exit.ret, (⟨mkE 19 0 [(4, .dat (.int .i64) t)], [some (.box [.dat (.list (.int .i64)) x13309]), some (.box [.dat (.int .i64) x13310])]⟩ : St))) := by
  unfold slices_IndexFunc_int_int_n8
  exact Link.cast (by kernel_rfl) (by kernel_rfl) (link_seq2 (b := (Code.snd (Code.snd (bodyOf Tryd.f89)))) (y := (Ann.snd (Ann.snd slices_IndexFunc_int_int_an))) (slices_IndexFunc_int_int_n6_l x13308 x13309 x13310) (fun (t : Unit) => (slices_IndexFunc_int_int_n7_l x13309 x13310)) (fun (t : Int) => t) (by
  rintro t
  · kernel_rfl) (by
  rintro t f K h
  · exact h))

theorem slices_IndexFunc_int_int_n9_l (x13308 : List Int) (x13309 : List Int) (x13310 : Int) : Link slices_IndexFunc_int_int_ctx LL (bodyOf Tryd.f89) slices_IndexFunc_int_int_an (⟨mkE 19 0 [(0, .dat (.list (.int .i64)) x13308), (1, .fn 84 [] [.ptr 0 0, .ptr 1 0])], [some (.box [.dat (.list (.int .i64)) x13309]), some (.box [.dat (.int .i64) x13310])]⟩ : St) (slices_IndexFunc_int_int_n9 x13308 x13309 x13310) (fun (t : Int) => (Exit.ret, (⟨mkE 19 0 [(4, .dat (.int .i64) t)], [some (.box [.dat (.list (.int .i64)) x13309]), some (.box [.dat (.int .i64) x13310])]⟩ : St))) := by
  unfold slices_IndexFunc_int_int_n9
  exact Link.cast (by kernel_rfl) (by kernel_rfl) (link_seq (b := (Code.snd (bodyOf Tryd.f89))) (y := (Ann.snd slices_IndexFunc_int_int_an)) (slices_IndexFunc_int_int_n1_l x13308 x13309 x13310) (fun (t : Unit) => (slices_IndexFunc_int_int_n8_l x13308 x13309 x13310)))

theorem slices_IndexFunc_int_int_e (x13308 : List Int) (x13309 : List Int) (x13310 : Int) {r : AV} {H' : Heap} (h : (Ans.mk _ (slices_IndexFunc_int_int x13308 x13309 x13310) (fun (t : Int) => (.dat (.int .i64) t, [some (.box [.dat (.list (.int .i64)) x13309]), some (.box [.dat (.int .i64) x13310])])) [] none).run = some (r, H')) : Awp slices_IndexFunc_int_int_ctx LL (bodyOf Tryd.f89) slices_IndexFunc_int_int_an (⟨mkE 19 0 [(0, .dat (.list (.int .i64)) x13308), (1, .fn 84 [] [.ptr 0 0, .ptr 1 0])], [some (.box [.dat (.list (.int .i64)) x13309]), some (.box [.dat (.int .i64) x13310])]⟩ : St) (Ret (tlook tys) Tryd.f89.results.toList r H') :=
  ret_of' (slices_IndexFunc_int_int_n9_l x13308 x13309 x13310) (by unfold slices_IndexFunc_int_int; kernel_rfl) (by
  intro t
  exact ret_mk [.dat (.int .i64) t] (by kernel_rfl) (by kernel_rfl) (by kernel_rfl) (by kernel_rfl)) h

def F_slices_IndexFunc_int_int : Fun := fun avs H =>
  match avs, H with
  | [.dat (.list (.int .i64)) x13308, .fn 84 [] [.ptr 0 0, .ptr 1 0]], [some (.box [.dat (.list (.int .i64)) x13309]), some (.box [.dat (.int .i64) x13310])] => ⟨_, slices_IndexFunc_int_int x13308 x13309 x13310, fun (t : Int) => (.dat (.int .i64) t, [some (.box [.dat (.list (.int .i64)) x13309]), some (.box [.dat (.int .i64) x13310])]), [], none⟩
  | _, _ => Ans.no

theorem slices_IndexFunc_int_int_sound : Sound Tryd.prog 89 F_slices_IndexFunc_int_int := by
  refine fn_sound' (C := slices_IndexFunc_int_int_ctx) (c := bodyOf Tryd.f89) (cok_of tys_ok (List.forall_mem_cons.2 ⟨impl_eagerMachine_waitsBelow_1_sound, by simp⟩) (List.forall_mem_cons.2 ⟨Tryd.call84, by simp⟩) (by kernel_rfl)) Tryd.func89 (by kernel_rfl) LL slices_IndexFunc_int_int_an ?_
  intro avs H r H' h
  unfold F_slices_IndexFunc_int_int at h
  split at h
  · refine Awp.cast ?_ ?_ ?_ (slices_IndexFunc_int_int_e _ _ _ h) <;> kernel_rfl
  · simp [Ans.no, Ans.run] at h


/-! slices.ContainsFunc[[]int,int] -/

def slices_ContainsFunc_int_int_an : Ann := (.seq (.leaf [0, 1]) (.seq (.leaf [4]) (.leaf [4])))

noncomputable def slices_ContainsFunc_int_int_ctx : Ctx := ⟨tlook tys, olook [(89, F_slices_IndexFunc_int_int)], ioF, 2, false, []⟩

theorem slices_ContainsFunc_int_int_n1_l (x13305 : List Int) (x13306 : List Int) (x13307 : Int) : Link slices_ContainsFunc_int_int_ctx LL (bodyOf Tryd.f83) slices_ContainsFunc_int_int_an (⟨mkE 9 0 [(0, .dat (.list (.int .i64)) x13305), (1, .fn 84 [] [.ptr 0 0, .ptr 1 0])], [some (.box [.dat (.list (.int .i64)) x13306]), some (.box [.dat (.int .i64) x13307])]⟩ : St) (slices_ContainsFunc_int_int_n1 x13305 x13306 x13307) (fun (t : Bool) => (Exit.ret, (⟨mkE 9 0 [(4, .dat .bool t)], [some (.box [.dat (.list (.int .i64)) x13306]), some (.box [.dat (.int .i64) x13307])]⟩ : St))) := by
  refine Link.of fun K h => ?_
  simp only [slices_ContainsFunc_int_int_n1, wpO_bind, wpO_cond, wpO_map, wpO_some] at h
  exact Awp.of (by kernel_rfl) h

theorem slices_ContainsFunc_int_int_e (x13305 : List Int) (x13306 : List Int) (x13307 : Int) {r : AV} {H' : Heap} (h : (Ans.mk _ (slices_ContainsFunc_int_int x13305 x13306 x13307) (fun (t : Bool) => (.dat .bool t, [some (.box [.dat (.list (.int .i64)) x13306]), some (.box [.dat (.int .i64) x13307])])) [] none).run = some (r, H')) : Awp slices_ContainsFunc_int_int_ctx LL (bodyOf Tryd.f83) slices_ContainsFunc_int_int_an (⟨mkE 9 0 [(0, .dat (.list (.int .i64)) x13305), (1, .fn 84 [] [.ptr 0 0, .ptr 1 0])], [some (.box [.dat (.list (.int .i64)) x13306]), some (.box [.dat (.int .i64) x13307])]⟩ : St) (Ret (tlook tys) Tryd.f83.results.toList r H') :=
  ret_of' (slices_ContainsFunc_int_int_n1_l x13305 x13306 x13307) (by unfold slices_ContainsFunc_int_int; kernel_rfl) (by
  intro t
  exact ret_mk [.dat .bool t] (by kernel_rfl) (by kernel_rfl) (by kernel_rfl) (by kernel_rfl)) h

def F_slices_ContainsFunc_int_int : Fun := fun avs H =>
  match avs, H with
  | [.dat (.list (.int .i64)) x13305, .fn 84 [] [.ptr 0 0, .ptr 1 0]], [some (.box [.dat (.list (.int .i64)) x13306]), some (.box [.dat (.int .i64) x13307])] => ⟨_, slices_ContainsFunc_int_int x13305 x13306 x13307, fun (t : Bool) => (.dat .bool t, [some (.box [.dat (.list (.int .i64)) x13306]), some (.box [.dat (.int .i64) x13307])]), [], none⟩
  | _, _ => Ans.no

theorem slices_ContainsFunc_int_int_sound : Sound Tryd.prog 83 F_slices_ContainsFunc_int_int := by
  refine fn_sound' (C := slices_ContainsFunc_int_int_ctx) (c := bodyOf Tryd.f83) (cok_of tys_ok (List.forall_mem_cons.2 ⟨slices_IndexFunc_int_int_sound, by simp⟩) (List.forall_mem_cons.2 ⟨Tryd.call89, by simp⟩) (by kernel_rfl)) Tryd.func83 (by kernel_rfl) LL slices_ContainsFunc_int_int_an ?_
  intro avs H r H' h
  unfold F_slices_ContainsFunc_int_int at h
  split at h
  · refine Awp.cast ?_ ?_ ?_ (slices_ContainsFunc_int_int_e _ _ _ h) <;> kernel_rfl
  · simp [Ans.no, Ans.run] at h


/-! (*loop.example/headtrees/impl.eagerMachine).waitsBelow -/

def impl_eagerMachine_waitsBelow_an : Ann := (.seq (.leaf [0, 4, 5]) (.seq (.draw [] [0, 1, 2, 3, 4, 5, 6, 7, 8, 9, 10, 11, 12, 13, 14, 15] [] [6]) (.leaf [6])))

noncomputable def impl_eagerMachine_waitsBelow_ctx : Ctx := ⟨tlook tys, olook [(83, forgetF F_slices_ContainsFunc_int_int)], ioF, 3, false, []⟩

theorem impl_eagerMachine_waitsBelow_n1_l (x13652 : List Int) (x13653 : Int) (x13654 : Nat) (x13655 : Nat) (x13656 : Int) (x13657 : Int) (x13658 : Int) (x13659 : List Int) (x13660 : List Int) : Link impl_eagerMachine_waitsBelow_ctx LL (bodyOf Tryd.f73) impl_eagerMachine_waitsBelow_an (⟨mkE 22 0 [(0, .ptr 0 0), (1, .dat (.list (.int .i64)) x13652), (2, .dat (.int .i64) x13653)], [some (.box [.slc 1, .win 2 x13654 x13655, .dat (.int .i64) x13656, .dat (.int .i64) x13657, .dat (.int .u64) x13658]), some (.seq (.int .i64) x13659), some (.seq (.int .i64) x13660)]⟩ : St) (impl_eagerMachine_waitsBelow_n1 x13652 x13653 x13654 x13655 x13660) (fun (t : Bool) => (Exit.ret, (⟨mkE 22 0 [(6, .dat .bool t)], [some (.box [.slc 1, .win 2 x13654 x13655, .dat (.int .i64) x13656, .dat (.int .i64) x13657, .dat (.int .u64) x13658]), some (.seq (.int .i64) x13659), some (.seq (.int .i64) x13660)]⟩ : St))) := by
  refine Link.of fun K h => ?_
  simp only [impl_eagerMachine_waitsBelow_n1, wpO_bind, wpO_cond, wpO_map, wpO_some] at h
  exact Awp.of (by kernel_rfl) h

theorem impl_eagerMachine_waitsBelow_e (x13652 : List Int) (x13653 : Int) (x13654 : Nat) (x13655 : Nat) (x13656 : Int) (x13657 : Int) (x13658 : Int) (x13659 : List Int) (x13660 : List Int) {r : AV} {H' : Heap} (h : (Ans.mk _ (impl_eagerMachine_waitsBelow x13652 x13653 x13654 x13655 x13656 x13657 x13658 x13659 x13660) (fun (t : Bool) => (.dat .bool t, [some (.box [.slc 1, .win 2 x13654 x13655, .dat (.int .i64) x13656, .dat (.int .i64) x13657, .dat (.int .u64) x13658]), some (.seq (.int .i64) x13659), some (.seq (.int .i64) x13660)])) [] none).run = some (r, H')) : Awp impl_eagerMachine_waitsBelow_ctx LL (bodyOf Tryd.f73) impl_eagerMachine_waitsBelow_an (⟨mkE 22 0 [(0, .ptr 0 0), (1, .dat (.list (.int .i64)) x13652), (2, .dat (.int .i64) x13653)], [some (.box [.slc 1, .win 2 x13654 x13655, .dat (.int .i64) x13656, .dat (.int .i64) x13657, .dat (.int .u64) x13658]), some (.seq (.int .i64) x13659), some (.seq (.int .i64) x13660)]⟩ : St) (Ret (tlook tys) Tryd.f73.results.toList r H') :=
  ret_of' (impl_eagerMachine_waitsBelow_n1_l x13652 x13653 x13654 x13655 x13656 x13657 x13658 x13659 x13660) (by unfold impl_eagerMachine_waitsBelow; kernel_rfl) (by
  intro t
  exact ret_mk [.dat .bool t] (by kernel_rfl) (by kernel_rfl) (by kernel_rfl) (by kernel_rfl)) h

def F_impl_eagerMachine_waitsBelow : Fun := fun avs H =>
  match avs, H with
  | [.ptr 0 0, .dat (.list (.int .i64)) x13652, .dat (.int .i64) x13653], [some (.box [.slc 1, .win 2 x13654 x13655, .dat (.int .i64) x13656, .dat (.int .i64) x13657, .dat (.int .u64) x13658]), some (.seq (.int .i64) x13659), some (.seq (.int .i64) x13660)] => ⟨_, impl_eagerMachine_waitsBelow x13652 x13653 x13654 x13655 x13656 x13657 x13658 x13659 x13660, fun (t : Bool) => (.dat .bool t, [some (.box [.slc 1, .win 2 x13654 x13655, .dat (.int .i64) x13656, .dat (.int .i64) x13657, .dat (.int .u64) x13658]), some (.seq (.int .i64) x13659), some (.seq (.int .i64) x13660)]), [], none⟩
  | _, _ => Ans.no

theorem impl_eagerMachine_waitsBelow_sound : Sound Tryd.prog 73 F_impl_eagerMachine_waitsBelow := by
  refine fn_sound' (C := impl_eagerMachine_waitsBelow_ctx) (c := bodyOf Tryd.f73) (cok_of tys_ok (List.forall_mem_cons.2 ⟨(Sound.forget slices_ContainsFunc_int_int_sound), by simp⟩) (List.forall_mem_cons.2 ⟨Tryd.call83, by simp⟩) (by kernel_rfl)) Tryd.func73 (by kernel_rfl) LL impl_eagerMachine_waitsBelow_an ?_
  intro avs H r H' h
  unfold F_impl_eagerMachine_waitsBelow at h
  split at h
  · refine Awp.cast ?_ ?_ ?_ (impl_eagerMachine_waitsBelow_e _ _ _ _ _ _ _ _ _ h) <;> kernel_rfl
  · simp [Ans.no, Ans.run] at h


/-! (*loop.example/headtrees/impl.eagerMachine).letterFor -/

def impl_eagerMachine_letterFor_an : Ann := (.seq (.leaf [0, 1]) (.seq (.leaf [0, 1, 5, 6, 7]) (.seq (.block (.seq (.leaf [0, 1, 5, 6, 14]) (.cond (.seq (.leaf [4]) (.leaf [4])) (.seq (.leaf [0, 1, 5, 6, 17]) (.cond (.seq (.leaf [4]) (.leaf [4])) (.seq (.leaf [0, 1, 6, 25]) (.cond (.seq (.leaf [4]) (.leaf [4])) (.seq (.leaf [33]) (.cond (.seq (.leaf [4]) (.leaf [4])) (.leaf [])))))))))) (.seq (.leaf [4]) (.leaf [4])))))

noncomputable def impl_eagerMachine_letterFor_ctx : Ctx := ⟨tlook tys, olook [(72, F_impl_eagerMachine_upperAndNext), (73, F_impl_eagerMachine_waitsBelow)], ioF, 3, false, []⟩

theorem impl_eagerMachine_letterFor_n1_l (x13629 : List Int) (x13630 : Nat) (x13631 : Nat) (x13632 : Int) (x13633 : Int) (x13634 : Int) (x13635 : List Int) (x13636 : List Int) : Link impl_eagerMachine_letterFor_ctx LL (bodyOf Tryd.f47) impl_eagerMachine_letterFor_an (⟨mkE 38 0 [(0, .ptr 0 0), (1, .dat (.list (.int .i64)) x13629)], [some (.box [.slc 1, .win 2 x13630 x13631, .dat (.int .i64) x13632, .dat (.int .i64) x13633, .dat (.int .u64) x13634]), some (.seq (.int .i64) x13635), some (.seq (.int .i64) x13636)]⟩ : St) (impl_eagerMachine_letterFor_n1 x13629 x13630 x13631 x13632 x13633 x13634 x13635 x13636) (fun (t : Int) => (Exit.ret, (⟨mkE 38 0 [(4, .dat (.int .u8) t)], [some (.box [.slc 1, .win 2 x13630 x13631, .dat (.int .i64) x13632, .dat (.int .i64) x13633, .dat (.int .u64) x13634]), some (.seq (.int .i64) x13635), some (.seq (.int .i64) x13636)]⟩ : St))) := by
  refine Link.of fun K h => ?_
  simp only [impl_eagerMachine_letterFor_n1, wpO_bind, wpO_cond, wpO_map, wpO_some] at h
  exact Awp.of (by kernel_rfl) h

theorem impl_eagerMachine_letterFor_e (x13629 : List Int) (x13630 : Nat) (x13631 : Nat) (x13632 : Int) (x13633 : Int) (x13634 : Int) (x13635 : List Int) (x13636 : List Int) {r : AV} {H' : Heap} (h : (Ans.mk _ (impl_eagerMachine_letterFor x13629 x13630 x13631 x13632 x13633 x13634 x13635 x13636) (fun (t : Int) => (.dat (.int .u8) t, [some (.box [.slc 1, .win 2 x13630 x13631, .dat (.int .i64) x13632, .dat (.int .i64) x13633, .dat (.int .u64) x13634]), some (.seq (.int .i64) x13635), some (.seq (.int .i64) x13636)])) [] none).run = some (r, H')) : Awp impl_eagerMachine_letterFor_ctx LL (bodyOf Tryd.f47) impl_eagerMachine_letterFor_an (⟨mkE 38 0 [(0, .ptr 0 0), (1, .dat (.list (.int .i64)) x13629)], [some (.box [.slc 1, .win 2 x13630 x13631, .dat (.int .i64) x13632, .dat (.int .i64) x13633, .dat (.int .u64) x13634]), some (.seq (.int .i64) x13635), some (.seq (.int .i64) x13636)]⟩ : St) (Ret (tlook tys) Tryd.f47.results.toList r H') :=
  ret_of' (impl_eagerMachine_letterFor_n1_l x13629 x13630 x13631 x13632 x13633 x13634 x13635 x13636) (by unfold impl_eagerMachine_letterFor; kernel_rfl) (by
  intro t
  exact ret_mk [.dat (.int .u8) t] (by kernel_rfl) (by kernel_rfl) (by kernel_rfl) (by kernel_rfl)) h

def F_impl_eagerMachine_letterFor : Fun := fun avs H =>
  match avs, H with
  | [.ptr 0 0, .dat (.list (.int .i64)) x13629], [some (.box [.slc 1, .win 2 x13630 x13631, .dat (.int .i64) x13632, .dat (.int .i64) x13633, .dat (.int .u64) x13634]), some (.seq (.int .i64) x13635), some (.seq (.int .i64) x13636)] => ⟨_, impl_eagerMachine_letterFor x13629 x13630 x13631 x13632 x13633 x13634 x13635 x13636, fun (t : Int) => (.dat (.int .u8) t, [some (.box [.slc 1, .win 2 x13630 x13631, .dat (.int .i64) x13632, .dat (.int .i64) x13633, .dat (.int .u64) x13634]), some (.seq (.int .i64) x13635), some (.seq (.int .i64) x13636)]), [], none⟩
  | _, _ => Ans.no

theorem impl_eagerMachine_letterFor_sound : Sound Tryd.prog 47 F_impl_eagerMachine_letterFor := by
  refine fn_sound' (C := impl_eagerMachine_letterFor_ctx) (c := bodyOf Tryd.f47) (cok_of tys_ok (List.forall_mem_cons.2 ⟨impl_eagerMachine_upperAndNext_sound, List.forall_mem_cons.2 ⟨impl_eagerMachine_waitsBelow_sound, by simp⟩⟩) (List.forall_mem_cons.2 ⟨Tryd.call72, List.forall_mem_cons.2 ⟨Tryd.call73, by simp⟩⟩) (by kernel_rfl)) Tryd.func47 (by kernel_rfl) LL impl_eagerMachine_letterFor_an ?_
  intro avs H r H' h
  unfold F_impl_eagerMachine_letterFor at h
  split at h
  · refine Awp.cast ?_ ?_ ?_ (impl_eagerMachine_letterFor_e _ _ _ _ _ _ _ _ h) <;> kernel_rfl
  · simp [Ans.no, Ans.run] at h


/-! loop.example/headtrees/impl.EagerFor -/

def impl_EagerFor_an : Ann := (.seq (.leaf [0]) (.seq (.seq (.leaf [0, 10]) (.cond (.seq (.leaf [2, 3]) (.leaf [2, 3])) (.leaf [0]))) (.seq (.leaf [0, 4, 5]) (.seq (.leafF [⟨1, 4, false, some 1, some (.int .i64)⟩, ⟨1, 4, true, some 1, none⟩] [0, 4, 5, 6]) (.seq (.block (.loop (.seq (.seq (.leaf [0, 4, 5, 6, 22]) (.cond (.leaf [0, 4, 5, 6]) (.leaf [6]))) (.block (.seq (.leaf [0, 4, 5, 6, 7]) (.seq (.leaf [0, 4, 5, 6, 7]) (.leafF [⟨5, 4, true, some 1, none⟩] [0, 4, 5, 6]))))))) (.seq (.leafF [⟨1, 35, false, none, none⟩] [2, 3]) (.leaf [2, 3])))))))

noncomputable def impl_EagerFor_ctx : Ctx := ⟨tlook tys, olook [(15, F_impl_FlatOk), (42, F_impl_newEagerMachine), (44, F_impl_eagerMoves), (47, F_impl_eagerMachine_letterFor), (54, F_impl_stackMachine_putNext_v2), (68, F_impl_eagerMachine_takeUnderNext), (69, F_impl_eagerMachine_putUnderUpper), (70, F_impl_eagerMachine_takeHeaded)], ioF, 0, false, []⟩

theorem impl_EagerFor_n1_l (x13238 : List Int) : Link impl_EagerFor_ctx LL (Code.seq (Code.fst (bodyOf Tryd.f21)) (Code.seq (Code.fst (Code.snd (bodyOf Tryd.f21))) (Code.seq (Code.fst (Code.snd (Code.snd (bodyOf Tryd.f21)))) (Code.fst (Code.snd (Code.snd (Code.snd (bodyOf Tryd.f21)))))))) (Ann.seq (Ann.fst impl_EagerFor_an) (Ann.seq (Ann.fst (Ann.snd impl_EagerFor_an)) (Ann.seq (Ann.fst (Ann.snd (Ann.snd impl_EagerFor_an))) (Ann.fst (Ann.snd (Ann.snd (Ann.snd impl_EagerFor_an))))))) (⟨mkE 37 0 [(0, .dat (.list (.int .i64)) x13238)], []⟩ : St) (impl_EagerFor_n1 x13238) (Sum.elim (fun (t : Nat × (List Int)) => (Exit.normal, (⟨mkE 37 0 [(0, .dat (.list (.int .i64)) x13238), (4, .ptr 0 0), (5, .fmap [(.int .u8 83, .methodOf 59 "loop.example/headtrees/impl.putNext"), (.int .u8 76, .func 68), (.int .u8 82, .func 69), (.int .u8 68, .func 70)]), (6, .slc 1)], [some (.box [.slc 2, .win 3 0 t.1, .dat (.int .i64) 0, .dat (.int .i64) 0, .dat (.int .u64) 0]), some (.seq (.int .u8) ([] : List Int)), some (.seq (.int .i64) t.2), some (.seq (.int .i64) ([] : List Int))]⟩ : St))) (fun (t : ByteArray × Bool) => (Exit.ret, (⟨mkE 37 0 [(2, .dat .str t.1), (3, .dat .bool t.2)], []⟩ : St)))) := by
  refine Link.of fun K h => ?_
  simp only [impl_EagerFor_n1, wpO_bind, wpO_cond, wpO_map, wpO_some] at h
  exact Awp.of (by kernel_rfl) h

theorem impl_EagerFor_n2_l (x13238 : List Int) (x13901 : Nat) (x13902 : Nat) (x13903 : Int) (x13904 : Int) (x13905 : Int) (x13906 : List Int) (x13907 : List Int) (x13908 : List Int) : Link impl_EagerFor_ctx LL (Code.fst (Code.fst (Code.fst (Code.snd (Code.snd (Code.snd (Code.snd (bodyOf Tryd.f21)))))))) (Ann.fst (Ann.fst (Ann.fst (Ann.snd (Ann.snd (Ann.snd (Ann.snd impl_EagerFor_an))))))) (⟨mkE 37 0 [(0, .dat (.list (.int .i64)) x13238), (4, .ptr 0 0), (5, .fmap [(.int .u8 83, .methodOf 59 "loop.example/headtrees/impl.putNext"), (.int .u8 76, .func 68), (.int .u8 82, .func 69), (.int .u8 68, .func 70)]), (6, .slc 1)], [some (.box [.slc 2, .win 3 x13901 x13902, .dat (.int .i64) x13903, .dat (.int .i64) x13904, .dat (.int .u64) x13905]), some (.seq (.int .u8) x13906), some (.seq (.int .i64) x13907), some (.seq (.int .i64) x13908)]⟩ : St) (impl_EagerFor_n2 x13238 x13901 x13902 x13903 x13904 x13905 x13906 x13907 x13908) (Sum.elim (fun (t : Nat × Nat × Int × Int × Int × (List Int) × (List Int) × (List Int)) => (Exit.normal, (⟨mkE 37 0 [(0, .dat (.list (.int .i64)) x13238), (4, .ptr 0 0), (5, .fmap [(.int .u8 83, .methodOf 59 "loop.example/headtrees/impl.putNext"), (.int .u8 76, .func 68), (.int .u8 82, .func 69), (.int .u8 68, .func 70)]), (6, .slc 1)], [some (.box [.slc 2, .win 3 t.1 t.2.1, .dat (.int .i64) t.2.2.1, .dat (.int .i64) t.2.2.2.1, .dat (.int .u64) t.2.2.2.2.1]), some (.seq (.int .u8) t.2.2.2.2.2.1), some (.seq (.int .i64) t.2.2.2.2.2.2.1), some (.seq (.int .i64) t.2.2.2.2.2.2.2)]⟩ : St))) (fun (t : (List Int)) => ((Exit.exit 0), (⟨mkE 37 0 [(6, .slc 0)], [some (.seq (.int .u8) t)]⟩ : St)))) := by
  refine Link.of fun K h => ?_
  simp only [impl_EagerFor_n2, wpO_bind, wpO_cond, wpO_map, wpO_some, wpO_none] at h
  exact Awp.of (by kernel_rfl) h

theorem impl_EagerFor_n3_l (x13238 : List Int) (x13841 : Nat) (x13839 : List Int) : Link impl_EagerFor_ctx LL (Code.fst (Code.fst (Code.snd (Code.snd (Code.snd (Code.snd (bodyOf Tryd.f21))))))) (Ann.fst (Ann.fst (Ann.snd (Ann.snd (Ann.snd (Ann.snd impl_EagerFor_an)))))) (⟨mkE 37 0 [(0, .dat (.list (.int .i64)) x13238), (4, .ptr 0 0), (5, .fmap [(.int .u8 83, .methodOf 59 "loop.example/headtrees/impl.putNext"), (.int .u8 76, .func 68), (.int .u8 82, .func 69), (.int .u8 68, .func 70)]), (6, .slc 1)], [some (.box [.slc 2, .win 3 0 x13841, .dat (.int .i64) 0, .dat (.int .i64) 0, .dat (.int .u64) 0]), some (.seq (.int .u8) ([] : List Int)), some (.seq (.int .i64) x13839), some (.seq (.int .i64) ([] : List Int))]⟩ : St) (impl_EagerFor_n3 x13238 x13841 x13839) (fun (t : (List Int)) => ((Exit.exit 0), (⟨mkE 37 0 [(6, .slc 0)], [some (.seq (.int .u8) t)]⟩ : St))) := by
  unfold impl_EagerFor_n3
  exact Link.cast (by kernel_rfl) (by kernel_rfl) (link_loop (mk := fun (s : Nat × Nat × Int × Int × Int × (List Int) × (List Int) × (List Int)) => (⟨mkE 37 0 [(0, .dat (.list (.int .i64)) x13238), (4, .ptr 0 0), (5, .fmap [(.int .u8 83, .methodOf 59 "loop.example/headtrees/impl.putNext"), (.int .u8 76, .func 68), (.int .u8 82, .func 69), (.int .u8 68, .func 70)]), (6, .slc 1)], [some (.box [.slc 2, .win 3 s.1 s.2.1, .dat (.int .i64) s.2.2.1, .dat (.int .i64) s.2.2.2.1, .dat (.int .u64) s.2.2.2.2.1]), some (.seq (.int .u8) s.2.2.2.2.2.1), some (.seq (.int .i64) s.2.2.2.2.2.2.1), some (.seq (.int .i64) s.2.2.2.2.2.2.2)]⟩ : St)) (fin := (fun (t : (List Int)) => ((Exit.exit 0), (⟨mkE 37 0 [(6, .slc 0)], [some (.seq (.int .u8) t)]⟩ : St)))) (by
  rintro t f K h
  · exact h) (fun s => link_map (impl_EagerFor_n2_l x13238 s.1 s.2.1 s.2.2.1 s.2.2.2.1 s.2.2.2.2.1 s.2.2.2.2.2.1 s.2.2.2.2.2.2.1 s.2.2.2.2.2.2.2) (Sum.elim (fun (t : Nat × Nat × Int × Int × Int × (List Int) × (List Int) × (List Int)) => Sum.inl (t.1, t.2.1, t.2.2.1, t.2.2.2.1, t.2.2.2.2.1, t.2.2.2.2.2.1, t.2.2.2.2.2.2.1, t.2.2.2.2.2.2.2)) (fun (t : (List Int)) => Sum.inr t)) (by
  rintro (t | t)
  · kernel_rfl
  · kernel_rfl)) (0, x13841, 0, 0, 0, ([] : List Int), x13839, ([] : List Int)))

theorem impl_EagerFor_n4_l (x13238 : List Int) (x13841 : Nat) (x13839 : List Int) : Link impl_EagerFor_ctx LL (Code.fst (Code.snd (Code.snd (Code.snd (Code.snd (bodyOf Tryd.f21)))))) (Ann.fst (Ann.snd (Ann.snd (Ann.snd (Ann.snd impl_EagerFor_an))))) (⟨mkE 37 0 [(0, .dat (.list (.int .i64)) x13238), (4, .ptr 0 0), (5, .fmap [(.int .u8 83, .methodOf 59 "loop.example/headtrees/impl.putNext"), (.int .u8 76, .func 68), (.int .u8 82, .func 69), (.int .u8 68, .func 70)]), (6, .slc 1)], [some (.box [.slc 2, .win 3 0 x13841, .dat (.int .i64) 0, .dat (.int .i64) 0, .dat (.int .u64) 0]), some (.seq (.int .u8) ([] : List Int)), some (.seq (.int .i64) x13839), some (.seq (.int .i64) ([] : List Int))]⟩ : St) (impl_EagerFor_n4 x13238 x13841 x13839) (fun (t : (List Int)) => (Exit.normal, (⟨mkE 37 0 [(6, .slc 0)], [some (.seq (.int .u8) t)]⟩ : St))) := by
  unfold impl_EagerFor_n4
  exact Link.cast (by kernel_rfl) (by kernel_rfl) (link_block (id := 0) (impl_EagerFor_n3_l x13238 x13841 x13839) (fun (t : (List Int)) => t) (by
  rintro t K h
  · exact Eq.mp (by kernel_rfl) h))

theorem impl_EagerFor_n5_l (x13906 : List Int) : Link impl_EagerFor_ctx LL (Code.snd (Code.snd (Code.snd (Code.snd (Code.snd (bodyOf Tryd.f21)))))) (Ann.snd (Ann.snd (Ann.snd (Ann.snd (Ann.snd impl_EagerFor_an))))) (⟨mkE 37 0 [(6, .slc 0)], [some (.seq (.int .u8) x13906)]⟩ : St) (impl_EagerFor_n5 x13906) (fun (t : ByteArray × Bool) => (Exit.ret, (⟨mkE 37 0 [(2, .dat .str t.1), (3, .dat .bool t.2)], []⟩ : St))) := by
  refine Link.of fun K h => ?_
  simp only [impl_EagerFor_n5, wpO_bind, wpO_cond, wpO_map, wpO_some] at h
  exact Awp.of (by kernel_rfl) h

theorem impl_EagerFor_n6_l (x13238 : List Int) (x13841 : Nat) (x13839 : List Int) : Link impl_EagerFor_ctx LL (Code.snd (Code.snd (Code.snd (Code.snd (bodyOf Tryd.f21))))) (Ann.snd (Ann.snd (Ann.snd (Ann.snd impl_EagerFor_an)))) (⟨mkE 37 0 [(0, .dat (.list (.int .i64)) x13238), (4, .ptr 0 0), (5, .fmap [(.int .u8 83, .methodOf 59 "loop.example/headtrees/impl.putNext"), (.int .u8 76, .func 68), (.int .u8 82, .func 69), (.int .u8 68, .func 70)]), (6, .slc 1)], [some (.box [.slc 2, .win 3 0 x13841, .dat (.int .i64) 0, .dat (.int .i64) 0, .dat (.int .u64) 0]), some (.seq (.int .u8) ([] : List Int)), some (.seq (.int .i64) x13839), some (.seq (.int .i64) ([] : List Int))]⟩ : St) (impl_EagerFor_n6 x13238 x13841 x13839) (fun (t : ByteArray × Bool) => (Exit.ret, (⟨mkE 37 0 [(2, .dat .str t.1), (3, .dat .bool t.2)], []⟩ : St))) := by
  unfold impl_EagerFor_n6
  exact Link.cast (by kernel_rfl) (by kernel_rfl) (link_seq (b := (Code.snd (Code.snd (Code.snd (Code.snd (Code.snd (bodyOf Tryd.f21))))))) (y := (Ann.snd (Ann.snd (Ann.snd (Ann.snd (Ann.snd impl_EagerFor_an)))))) (impl_EagerFor_n4_l x13238 x13841 x13839) (fun (t : (List Int)) => (impl_EagerFor_n5_l t)))

theorem impl_EagerFor_n7_l (x13238 : List Int) : Link impl_EagerFor_ctx LL (bodyOf Tryd.f21) impl_EagerFor_an (⟨mkE 37 0 [(0, .dat (.list (.int .i64)) x13238)], []⟩ : St) (impl_EagerFor_n7 x13238) (fun (t : ByteArray × Bool) => (Exit.ret, (⟨mkE 37 0 [(2, .dat .str t.1), (3, .dat .bool t.2)], []⟩ : St))) := by
  unfold impl_EagerFor_n7
  exact Link.cast (by kernel_rfl) (by kernel_rfl) (link_group (c := (Code.fst (Code.snd (Code.snd (Code.snd (bodyOf Tryd.f21)))))) (a := (Ann.fst (Ann.snd (Ann.snd (Ann.snd impl_EagerFor_an))))) [(Code.fst (bodyOf Tryd.f21)), (Code.fst (Code.snd (bodyOf Tryd.f21))), (Code.fst (Code.snd (Code.snd (bodyOf Tryd.f21))))] [(Ann.fst impl_EagerFor_an), (Ann.fst (Ann.snd impl_EagerFor_an)), (Ann.fst (Ann.snd (Ann.snd impl_EagerFor_an)))] rfl (link_seq2 (b := (Code.snd (Code.snd (Code.snd (Code.snd (bodyOf Tryd.f21)))))) (y := (Ann.snd (Ann.snd (Ann.snd (Ann.snd impl_EagerFor_an))))) (impl_EagerFor_n1_l x13238) (fun (t : Nat × (List Int)) => (impl_EagerFor_n6_l x13238 t.1 t.2)) (fun (t : ByteArray × Bool) => t) (by
  rintro t
  · kernel_rfl) (by
  rintro t f K h
  · exact h)))

theorem impl_EagerFor_e (x13238 : List Int) {r : AV} {H' : Heap} (h : (Ans.mk _ (impl_EagerFor x13238) (fun (t : ByteArray × Bool) => (.tup [.dat .str t.1, .dat .bool t.2], [])) [] none).run = some (r, H')) : Awp impl_EagerFor_ctx LL (bodyOf Tryd.f21) impl_EagerFor_an (⟨mkE 37 0 [(0, .dat (.list (.int .i64)) x13238)], []⟩ : St) (Ret (tlook tys) Tryd.f21.results.toList r H') :=
  ret_of' (impl_EagerFor_n7_l x13238) (by unfold impl_EagerFor; kernel_rfl) (by
  intro t
  exact ret_mk [.dat .str t.1, .dat .bool t.2] (by kernel_rfl) (by kernel_rfl) (by kernel_rfl) (by kernel_rfl)) h

def F_impl_EagerFor : Fun := fun avs H =>
  match avs, H with
  | [.dat (.list (.int .i64)) x13238], [] => ⟨_, impl_EagerFor x13238, fun (t : ByteArray × Bool) => (.tup [.dat .str t.1, .dat .bool t.2], []), [], none⟩
  | _, _ => Ans.no

theorem impl_EagerFor_sound : Sound Tryd.prog 21 F_impl_EagerFor := by
  refine fn_sound' (C := impl_EagerFor_ctx) (c := bodyOf Tryd.f21) (cok_of tys_ok (List.forall_mem_cons.2 ⟨impl_FlatOk_sound, List.forall_mem_cons.2 ⟨impl_newEagerMachine_sound, List.forall_mem_cons.2 ⟨impl_eagerMoves_sound, List.forall_mem_cons.2 ⟨impl_eagerMachine_letterFor_sound, List.forall_mem_cons.2 ⟨impl_stackMachine_putNext_v2_sound, List.forall_mem_cons.2 ⟨impl_eagerMachine_takeUnderNext_sound, List.forall_mem_cons.2 ⟨impl_eagerMachine_putUnderUpper_sound, List.forall_mem_cons.2 ⟨impl_eagerMachine_takeHeaded_sound, by simp⟩⟩⟩⟩⟩⟩⟩⟩) (List.forall_mem_cons.2 ⟨Tryd.call15, List.forall_mem_cons.2 ⟨Tryd.call42, List.forall_mem_cons.2 ⟨Tryd.call44, List.forall_mem_cons.2 ⟨Tryd.call47, List.forall_mem_cons.2 ⟨Tryd.call54, List.forall_mem_cons.2 ⟨Tryd.call68, List.forall_mem_cons.2 ⟨Tryd.call69, List.forall_mem_cons.2 ⟨Tryd.call70, by simp⟩⟩⟩⟩⟩⟩⟩⟩) (by kernel_rfl)) Tryd.func21 (by kernel_rfl) LL impl_EagerFor_an ?_
  intro avs H r H' h
  unfold F_impl_EagerFor at h
  split at h
  · refine Awp.cast ?_ ?_ ?_ (impl_EagerFor_e _ h) <;> kernel_rfl
  · simp [Ans.no, Ans.run] at h


/-! loop.example/headtrees/spec.DrawEagerFor -/

def spec_DrawEagerFor_an : Ann := (.seq (.leaf [0]) (.seq (.leaf [2]) (.leaf [2])))

noncomputable def spec_DrawEagerFor_ctx : Ctx := ⟨tlook tys, olook [(26, F_spec_l20Open), (38, F_spec_l20Flat)], ioF, 0, false, []⟩

theorem spec_DrawEagerFor_n1_l (x14129 : List Int) : Link spec_DrawEagerFor_ctx LL (bodyOf Tryd.f22) spec_DrawEagerFor_an (⟨mkE 6 0 [(0, .dat (.list (.int .u8)) x14129)], []⟩ : St) (spec_DrawEagerFor_n1 x14129) (fun (t : (List Int)) => (Exit.ret, (⟨mkE 6 0 [(2, .slc 0)], [some (.seq (.int .i64) t)]⟩ : St))) := by
  refine Link.of fun K h => ?_
  simp only [spec_DrawEagerFor_n1, wpO_bind, wpO_cond, wpO_map, wpO_some] at h
  exact Awp.of (by kernel_rfl) h

theorem spec_DrawEagerFor_e (x14129 : List Int) {r : AV} {H' : Heap} (h : (Ans.mk _ (spec_DrawEagerFor x14129) (fun (t : (List Int)) => (.slc 0, [some (.seq (.int .i64) t)])) [] none).run = some (r, H')) : Awp spec_DrawEagerFor_ctx LL (bodyOf Tryd.f22) spec_DrawEagerFor_an (⟨mkE 6 0 [(0, .dat (.list (.int .u8)) x14129)], []⟩ : St) (Ret (tlook tys) Tryd.f22.results.toList r H') :=
  ret_of' (spec_DrawEagerFor_n1_l x14129) (by unfold spec_DrawEagerFor; kernel_rfl) (by
  intro t
  exact ret_mk [.slc 0] (by kernel_rfl) (by kernel_rfl) (by kernel_rfl) (by kernel_rfl)) h

def F_spec_DrawEagerFor : Fun := fun avs H =>
  match avs, H with
  | [.dat (.list (.int .u8)) x14129], [] => ⟨_, spec_DrawEagerFor x14129, fun (t : (List Int)) => (.slc 0, [some (.seq (.int .i64) t)]), [], none⟩
  | _, _ => Ans.no

theorem spec_DrawEagerFor_sound : Sound Tryd.prog 22 F_spec_DrawEagerFor := by
  refine fn_sound' (C := spec_DrawEagerFor_ctx) (c := bodyOf Tryd.f22) (cok_of tys_ok (List.forall_mem_cons.2 ⟨spec_l20Open_sound, List.forall_mem_cons.2 ⟨spec_l20Flat_sound, by simp⟩⟩) (List.forall_mem_cons.2 ⟨Tryd.call26, List.forall_mem_cons.2 ⟨Tryd.call38, by simp⟩⟩) (by kernel_rfl)) Tryd.func22 (by kernel_rfl) LL spec_DrawEagerFor_an ?_
  intro avs H r H' h
  unfold F_spec_DrawEagerFor at h
  split at h
  · refine Awp.cast ?_ ?_ ?_ (spec_DrawEagerFor_e _ h) <;> kernel_rfl
  · simp [Ans.no, Ans.run] at h


/-! loop.example/headtrees/laws.FnEagerFor -/

def laws_FnEagerFor_an : Ann := (.seq (.leaf [0]) (.seq (.seq (.leaf [0, 15]) (.cond (.seq (.leaf [2]) (.leaf [2])) (.leaf [0]))) (.seq (.leaf [3]) (.seq (.leaf [3, 4, 5]) (.seq (.leaf [3, 4, 5, 6, 7]) (.seq (.seq (.leaf [3, 4, 5, 35]) (.cond (.seq (.leaf [2]) (.leaf [2])) (.leaf [3, 4, 5]))) (.seq (.seq (.leaf [3, 4, 37]) (.cond (.seq (.leaf [2]) (.leaf [2])) (.leaf [3, 4]))) (.seq (.leaf [3, 4, 8]) (.seq (.leaf [3, 4, 8, 9]) (.seq (.seq (.leaf [3, 4, 8, 9, 10]) (.block (.loop (.seq (.seq (.leaf [3, 4, 8, 9, 10, 51]) (.cond (.leaf [3, 4, 8, 9, 10]) (.leaf [3, 4, 8, 9]))) (.seq (.block (.seq (.seq (.leaf [3, 4, 8, 9, 10, 63]) (.cond (.leaf [3, 4, 8, 9, 10]) (.leaf [3, 4, 8, 9, 10]))) (.seq (.leaf [3, 4, 8, 9, 10, 75]) (.cond (.leaf [3, 4, 8, 9, 10]) (.leaf [3, 4, 8, 9, 10]))))) (.leaf [3, 4, 8, 9, 10])))))) (.seq (.leaf [3, 4, 8, 9, 11, 12]) (.seq (.leaf [2]) (.leaf [2])))))))))))))

noncomputable def laws_FnEagerFor_ctx : Ctx := ⟨tlook tys, olook [(22, F_spec_DrawEagerFor), (21, F_impl_EagerFor), (23, F_spec_EagerFor), (15, F_impl_FlatOk), (13, F_laws_alive), (19, F_impl_RunEager), (12, F_laws_sameInts)], ioF, 0, false, []⟩

theorem laws_FnEagerFor_n1_l (x14124 : List Int) : Link laws_FnEagerFor_ctx LL (Code.seq (Code.fst (bodyOf Tryd.f6)) (Code.seq (Code.fst (Code.snd (bodyOf Tryd.f6))) (Code.seq (Code.fst (Code.snd (Code.snd (bodyOf Tryd.f6)))) (Code.seq (Code.fst (Code.snd (Code.snd (Code.snd (bodyOf Tryd.f6))))) (Code.seq (Code.fst (Code.snd (Code.snd (Code.snd (Code.snd (bodyOf Tryd.f6)))))) (Code.seq (Code.fst (Code.snd (Code.snd (Code.snd (Code.snd (Code.snd (bodyOf Tryd.f6))))))) (Code.seq (Code.fst (Code.snd (Code.snd (Code.snd (Code.snd (Code.snd (Code.snd (bodyOf Tryd.f6)))))))) (Code.seq (Code.fst (Code.snd (Code.snd (Code.snd (Code.snd (Code.snd (Code.snd (Code.snd (bodyOf Tryd.f6))))))))) (Code.fst (Code.snd (Code.snd (Code.snd (Code.snd (Code.snd (Code.snd (Code.snd (Code.snd (bodyOf Tryd.f6)))))))))))))))))) (Ann.seq (Ann.fst laws_FnEagerFor_an) (Ann.seq (Ann.fst (Ann.snd laws_FnEagerFor_an)) (Ann.seq (Ann.fst (Ann.snd (Ann.snd laws_FnEagerFor_an))) (Ann.seq (Ann.fst (Ann.snd (Ann.snd (Ann.snd laws_FnEagerFor_an)))) (Ann.seq (Ann.fst (Ann.snd (Ann.snd (Ann.snd (Ann.snd laws_FnEagerFor_an))))) (Ann.seq (Ann.fst (Ann.snd (Ann.snd (Ann.snd (Ann.snd (Ann.snd laws_FnEagerFor_an)))))) (Ann.seq (Ann.fst (Ann.snd (Ann.snd (Ann.snd (Ann.snd (Ann.snd (Ann.snd laws_FnEagerFor_an))))))) (Ann.seq (Ann.fst (Ann.snd (Ann.snd (Ann.snd (Ann.snd (Ann.snd (Ann.snd (Ann.snd laws_FnEagerFor_an)))))))) (Ann.fst (Ann.snd (Ann.snd (Ann.snd (Ann.snd (Ann.snd (Ann.snd (Ann.snd (Ann.snd laws_FnEagerFor_an))))))))))))))))) (⟨mkE 113 0 [(0, .dat (.list (.int .u8)) x14124)], []⟩ : St) (laws_FnEagerFor_n1 x14124) (Sum.elim (fun (t : ByteArray × (List Int)) => (Exit.normal, (⟨mkE 113 0 [(3, .slc 0), (4, .dat .str t.1), (8, .dat (.int .i64) 0), (9, .dat (.int .i64) 0)], [some (.seq (.int .i64) t.2)]⟩ : St))) (fun (t : Bool) => (Exit.ret, (⟨mkE 113 0 [(2, .dat .bool t)], []⟩ : St)))) := by
  refine Link.of fun K h => ?_
  simp only [laws_FnEagerFor_n1, wpO_bind, wpO_cond, wpO_map, wpO_some] at h
  exact Awp.of (by kernel_rfl) h

theorem laws_FnEagerFor_n2_l (x14201 : ByteArray) (x14199 : List Int) : Link laws_FnEagerFor_ctx LL (Code.fst (Code.fst (Code.snd (Code.snd (Code.snd (Code.snd (Code.snd (Code.snd (Code.snd (Code.snd (Code.snd (bodyOf Tryd.f6)))))))))))) (Ann.fst (Ann.fst (Ann.snd (Ann.snd (Ann.snd (Ann.snd (Ann.snd (Ann.snd (Ann.snd (Ann.snd (Ann.snd laws_FnEagerFor_an))))))))))) (⟨mkE 113 0 [(3, .slc 0), (4, .dat .str x14201), (8, .dat (.int .i64) 0), (9, .dat (.int .i64) 0)], [some (.seq (.int .i64) x14199)]⟩ : St) (laws_FnEagerFor_n2) (fun (t : Unit) => (Exit.normal, (⟨mkE 113 0 [(3, .slc 0), (4, .dat .str x14201), (8, .dat (.int .i64) 0), (9, .dat (.int .i64) 0), (10, .dat (.int .i64) 0)], [some (.seq (.int .i64) x14199)]⟩ : St))) := by
  refine Link.of fun K h => ?_
  simp only [laws_FnEagerFor_n2, wpO_bind, wpO_cond, wpO_map, wpO_some] at h
  exact Awp.of (by kernel_rfl) h

theorem laws_FnEagerFor_n3_l (x14201 : ByteArray) (x14279 : Int) (x14280 : Int) (x14281 : Int) (x14199 : List Int) : Link laws_FnEagerFor_ctx LL (Code.fst (Code.fst (Code.snd (Code.fst (Code.snd (Code.snd (Code.snd (Code.snd (Code.snd (Code.snd (Code.snd (Code.snd (Code.snd (bodyOf Tryd.f6)))))))))))))) (Ann.fst (Ann.fst (Ann.snd (Ann.fst (Ann.snd (Ann.snd (Ann.snd (Ann.snd (Ann.snd (Ann.snd (Ann.snd (Ann.snd (Ann.snd laws_FnEagerFor_an))))))))))))) (⟨mkE 113 0 [(3, .slc 0), (4, .dat .str x14201), (8, .dat (.int .i64) x14279), (9, .dat (.int .i64) x14280), (10, .dat (.int .i64) x14281)], [some (.seq (.int .i64) x14199)]⟩ : St) (laws_FnEagerFor_n3 x14201 x14279 x14280 x14281) (Sum.elim (fun (t : Int × Int × Int) => (Exit.normal, (⟨mkE 113 0 [(3, .slc 0), (4, .dat .str x14201), (8, .dat (.int .i64) t.1), (9, .dat (.int .i64) t.2.1), (10, .dat (.int .i64) t.2.2)], [some (.seq (.int .i64) x14199)]⟩ : St))) (fun (t : Int × Int) => ((Exit.exit 0), (⟨mkE 113 0 [(3, .slc 0), (4, .dat .str x14201), (8, .dat (.int .i64) t.1), (9, .dat (.int .i64) t.2)], [some (.seq (.int .i64) x14199)]⟩ : St)))) := by
  refine Link.of fun K h => ?_
  simp only [laws_FnEagerFor_n3, wpO_bind, wpO_cond, wpO_map, wpO_some] at h
  exact Awp.of (by kernel_rfl) h

theorem laws_FnEagerFor_n4_l (x14201 : ByteArray) (x14199 : List Int) : Link laws_FnEagerFor_ctx LL (Code.fst (Code.snd (Code.fst (Code.snd (Code.snd (Code.snd (Code.snd (Code.snd (Code.snd (Code.snd (Code.snd (Code.snd (bodyOf Tryd.f6))))))))))))) (Ann.fst (Ann.snd (Ann.fst (Ann.snd (Ann.snd (Ann.snd (Ann.snd (Ann.snd (Ann.snd (Ann.snd (Ann.snd (Ann.snd laws_FnEagerFor_an)))))))))))) (⟨mkE 113 0 [(3, .slc 0), (4, .dat .str x14201), (8, .dat (.int .i64) 0), (9, .dat (.int .i64) 0), (10, .dat (.int .i64) 0)], [some (.seq (.int .i64) x14199)]⟩ : St) (laws_FnEagerFor_n4 x14201) (fun (t : Int × Int) => ((Exit.exit 0), (⟨mkE 113 0 [(3, .slc 0), (4, .dat .str x14201), (8, .dat (.int .i64) t.1), (9, .dat (.int .i64) t.2)], [some (.seq (.int .i64) x14199)]⟩ : St))) := by
  unfold laws_FnEagerFor_n4
  exact Link.cast (by kernel_rfl) (by kernel_rfl) (link_loop (mk := fun (s : Int × Int × Int) => (⟨mkE 113 0 [(3, .slc 0), (4, .dat .str x14201), (8, .dat (.int .i64) s.1), (9, .dat (.int .i64) s.2.1), (10, .dat (.int .i64) s.2.2)], [some (.seq (.int .i64) x14199)]⟩ : St)) (fin := (fun (t : Int × Int) => ((Exit.exit 0), (⟨mkE 113 0 [(3, .slc 0), (4, .dat .str x14201), (8, .dat (.int .i64) t.1), (9, .dat (.int .i64) t.2)], [some (.seq (.int .i64) x14199)]⟩ : St)))) (by
  rintro t f K h
  · exact h) (fun s => link_map (laws_FnEagerFor_n3_l x14201 s.1 s.2.1 s.2.2 x14199) (Sum.elim (fun (t : Int × Int × Int) => Sum.inl (t.1, t.2.1, t.2.2)) (fun (t : Int × Int) => Sum.inr t)) (by
  rintro (t | t)
  · kernel_rfl
  · kernel_rfl)) (0, 0, 0))

theorem laws_FnEagerFor_n5_l (x14201 : ByteArray) (x14199 : List Int) : Link laws_FnEagerFor_ctx LL (Code.snd (Code.fst (Code.snd (Code.snd (Code.snd (Code.snd (Code.snd (Code.snd (Code.snd (Code.snd (Code.snd (bodyOf Tryd.f6)))))))))))) (Ann.snd (Ann.fst (Ann.snd (Ann.snd (Ann.snd (Ann.snd (Ann.snd (Ann.snd (Ann.snd (Ann.snd (Ann.snd laws_FnEagerFor_an))))))))))) (⟨mkE 113 0 [(3, .slc 0), (4, .dat .str x14201), (8, .dat (.int .i64) 0), (9, .dat (.int .i64) 0), (10, .dat (.int .i64) 0)], [some (.seq (.int .i64) x14199)]⟩ : St) (laws_FnEagerFor_n5 x14201) (fun (t : Int × Int) => (Exit.normal, (⟨mkE 113 0 [(3, .slc 0), (4, .dat .str x14201), (8, .dat (.int .i64) t.1), (9, .dat (.int .i64) t.2)], [some (.seq (.int .i64) x14199)]⟩ : St))) := by
  unfold laws_FnEagerFor_n5
  exact Link.cast (by kernel_rfl) (by kernel_rfl) (link_block (id := 0) (laws_FnEagerFor_n4_l x14201 x14199) (fun (t : Int × Int) => (t.1, t.2)) (by
  rintro t K h
  · exact Eq.mp (by kernel_rfl) h))

theorem laws_FnEagerFor_n6_l (x14201 : ByteArray) (x14199 : List Int) : Link laws_FnEagerFor_ctx LL (Code.fst (Code.snd (Code.snd (Code.snd (Code.snd (Code.snd (Code.snd (Code.snd (Code.snd (Code.snd (bodyOf Tryd.f6))))))))))) (Ann.fst (Ann.snd (Ann.snd (Ann.snd (Ann.snd (Ann.snd (Ann.snd (Ann.snd (Ann.snd (Ann.snd laws_FnEagerFor_an)))))))))) (⟨mkE 113 0 [(3, .slc 0), (4, .dat .str x14201), (8, .dat (.int .i64) 0), (9, .dat (.int .i64) 0)], [some (.seq (.int .i64) x14199)]⟩ : St) (laws_FnEagerFor_n6 x14201) (fun (t : Int × Int) => (Exit.normal, (⟨mkE 113 0 [(3, .slc 0), (4, .dat .str x14201), (8, .dat (.int .i64) t.1), (9, .dat (.int .i64) t.2)], [some (.seq (.int .i64) x14199)]⟩ : St))) := by
  unfold laws_FnEagerFor_n6
  exact Link.cast (by kernel_rfl) (by kernel_rfl) (link_seq (b := (Code.snd (Code.fst (Code.snd (Code.snd (Code.snd (Code.snd (Code.snd (Code.snd (Code.snd (Code.snd (Code.snd (bodyOf Tryd.f6))))))))))))) (y := (Ann.snd (Ann.fst (Ann.snd (Ann.snd (Ann.snd (Ann.snd (Ann.snd (Ann.snd (Ann.snd (Ann.snd (Ann.snd laws_FnEagerFor_an)))))))))))) (laws_FnEagerFor_n2_l x14201 x14199) (fun (t : Unit) => (laws_FnEagerFor_n5_l x14201 x14199)))

theorem laws_FnEagerFor_n7_l (x14201 : ByteArray) (x14279 : Int) (x14280 : Int) (x14199 : List Int) : Link laws_FnEagerFor_ctx LL (Code.snd (Code.snd (Code.snd (Code.snd (Code.snd (Code.snd (Code.snd (Code.snd (Code.snd (Code.snd (bodyOf Tryd.f6))))))))))) (Ann.snd (Ann.snd (Ann.snd (Ann.snd (Ann.snd (Ann.snd (Ann.snd (Ann.snd (Ann.snd (Ann.snd laws_FnEagerFor_an)))))))))) (⟨mkE 113 0 [(3, .slc 0), (4, .dat .str x14201), (8, .dat (.int .i64) x14279), (9, .dat (.int .i64) x14280)], [some (.seq (.int .i64) x14199)]⟩ : St) (laws_FnEagerFor_n7 x14201 x14279 x14280 x14199) (fun (t : Bool) => (Exit.ret, (⟨mkE 113 0 [(2, .dat .bool t)], []⟩ : St))) := by
  refine Link.of fun K h => ?_
  simp only [laws_FnEagerFor_n7, wpO_bind, wpO_cond, wpO_map, wpO_some] at h
  exact Awp.of (by kernel_rfl) h

theorem laws_FnEagerFor_n8_l (x14201 : ByteArray) (x14199 : List Int) : Link laws_FnEagerFor_ctx LL (Code.snd (Code.snd (Code.snd (Code.snd (Code.snd (Code.snd (Code.snd (Code.snd (Code.snd (bodyOf Tryd.f6)))))))))) (Ann.snd (Ann.snd (Ann.snd (Ann.snd (Ann.snd (Ann.snd (Ann.snd (Ann.snd (Ann.snd laws_FnEagerFor_an))))))))) (⟨mkE 113 0 [(3, .slc 0), (4, .dat .str x14201), (8, .dat (.int .i64) 0), (9, .dat (.int .i64) 0)], [some (.seq (.int .i64) x14199)]⟩ : St) (laws_FnEagerFor_n8 x14201 x14199) (fun (t : Bool) => (Exit.ret, (⟨mkE 113 0 [(2, .dat .bool t)], []⟩ : St))) := by
  unfold laws_FnEagerFor_n8
  exact Link.cast (by kernel_rfl) (by kernel_rfl) (link_seq (b := (Code.snd (Code.snd (Code.snd (Code.snd (Code.snd (Code.snd (Code.snd (Code.snd (Code.snd (Code.snd (bodyOf Tryd.f6)))))))))))) (y := (Ann.snd (Ann.snd (Ann.snd (Ann.snd (Ann.snd (Ann.snd (Ann.snd (Ann.snd (Ann.snd (Ann.snd laws_FnEagerFor_an))))))))))) (laws_FnEagerFor_n6_l x14201 x14199) (fun (t : Int × Int) => (laws_FnEagerFor_n7_l x14201 t.1 t.2 x14199)))

theorem laws_FnEagerFor_n9_l (x14124 : List Int) : Link laws_FnEagerFor_ctx LL (bodyOf Tryd.f6) laws_FnEagerFor_an (⟨mkE 113 0 [(0, .dat (.list (.int .u8)) x14124)], []⟩ : St) (laws_FnEagerFor_n9 x14124) (fun (t : Bool) => (Exit.ret, (⟨mkE 113 0 [(2, .dat .bool t)], []⟩ : St))) := by
  unfold laws_FnEagerFor_n9
  exact Link.cast (by kernel_rfl) (by kernel_rfl) (link_group (c := (Code.fst (Code.snd (Code.snd (Code.snd (Code.snd (Code.snd (Code.snd (Code.snd (Code.snd (bodyOf Tryd.f6))))))))))) (a := (Ann.fst (Ann.snd (Ann.snd (Ann.snd (Ann.snd (Ann.snd (Ann.snd (Ann.snd (Ann.snd laws_FnEagerFor_an)))))))))) [(Code.fst (bodyOf Tryd.f6)), (Code.fst (Code.snd (bodyOf Tryd.f6))), (Code.fst (Code.snd (Code.snd (bodyOf Tryd.f6)))), (Code.fst (Code.snd (Code.snd (Code.snd (bodyOf Tryd.f6))))), (Code.fst (Code.snd (Code.snd (Code.snd (Code.snd (bodyOf Tryd.f6)))))), (Code.fst (Code.snd (Code.snd (Code.snd (Code.snd (Code.snd (bodyOf Tryd.f6))))))), (Code.fst (Code.snd (Code.snd (Code.snd (Code.snd (Code.snd (Code.snd (bodyOf Tryd.f6)))))))), (Code.fst (Code.snd (Code.snd (Code.snd (Code.snd (Code.snd (Code.snd (Code.snd (bodyOf Tryd.f6)))))))))] [(Ann.fst laws_FnEagerFor_an), (Ann.fst (Ann.snd laws_FnEagerFor_an)), (Ann.fst (Ann.snd (Ann.snd laws_FnEagerFor_an))), (Ann.fst (Ann.snd (Ann.snd (Ann.snd laws_FnEagerFor_an)))), (Ann.fst (Ann.snd (Ann.snd (Ann.snd (Ann.snd laws_FnEagerFor_an))))), (Ann.fst (Ann.snd (Ann.snd (Ann.snd (Ann.snd (Ann.snd laws_FnEagerFor_an)))))), (Ann.fst (Ann.snd (Ann.snd (Ann.snd (Ann.snd (Ann.snd (Ann.snd laws_FnEagerFor_an))))))), (Ann.fst (Ann.snd (Ann.snd (Ann.snd (Ann.snd (Ann.snd (Ann.snd (Ann.snd laws_FnEagerFor_an))))))))] rfl (link_seq2 (b := (Code.snd (Code.snd (Code.snd (Code.snd (Code.snd (Code.snd (Code.snd (Code.snd (Code.snd (bodyOf Tryd.f6))))))))))) (y := (Ann.snd (Ann.snd (Ann.snd (Ann.snd (Ann.snd (Ann.snd (Ann.snd (Ann.snd (Ann.snd laws_FnEagerFor_an)))))))))) (laws_FnEagerFor_n1_l x14124) (fun (t : ByteArray × (List Int)) => (laws_FnEagerFor_n8_l t.1 t.2)) (fun (t : Bool) => t) (by
  rintro t
  · kernel_rfl) (by
  rintro t f K h
  · exact h)))

theorem laws_FnEagerFor_e (x14124 : List Int) {r : AV} {H' : Heap} (h : (Ans.mk _ (laws_FnEagerFor x14124) (fun (t : Bool) => (.dat .bool t, [])) [] none).run = some (r, H')) : Awp laws_FnEagerFor_ctx LL (bodyOf Tryd.f6) laws_FnEagerFor_an (⟨mkE 113 0 [(0, .dat (.list (.int .u8)) x14124)], []⟩ : St) (Ret (tlook tys) Tryd.f6.results.toList r H') :=
  ret_of' (laws_FnEagerFor_n9_l x14124) (by unfold laws_FnEagerFor; kernel_rfl) (by
  intro t
  exact ret_mk [.dat .bool t] (by kernel_rfl) (by kernel_rfl) (by kernel_rfl) (by kernel_rfl)) h

def F_laws_FnEagerFor : Fun := fun avs H =>
  match avs, H with
  | [.dat (.list (.int .u8)) x14124], [] => ⟨_, laws_FnEagerFor x14124, fun (t : Bool) => (.dat .bool t, []), [], none⟩
  | _, _ => Ans.no

theorem laws_FnEagerFor_sound : Sound Tryd.prog 6 F_laws_FnEagerFor := by
  refine fn_sound' (C := laws_FnEagerFor_ctx) (c := bodyOf Tryd.f6) (cok_of tys_ok (List.forall_mem_cons.2 ⟨spec_DrawEagerFor_sound, List.forall_mem_cons.2 ⟨impl_EagerFor_sound, List.forall_mem_cons.2 ⟨spec_EagerFor_sound, List.forall_mem_cons.2 ⟨impl_FlatOk_sound, List.forall_mem_cons.2 ⟨laws_alive_sound, List.forall_mem_cons.2 ⟨impl_RunEager_sound, List.forall_mem_cons.2 ⟨laws_sameInts_sound, by simp⟩⟩⟩⟩⟩⟩⟩) (List.forall_mem_cons.2 ⟨Tryd.call22, List.forall_mem_cons.2 ⟨Tryd.call21, List.forall_mem_cons.2 ⟨Tryd.call23, List.forall_mem_cons.2 ⟨Tryd.call15, List.forall_mem_cons.2 ⟨Tryd.call13, List.forall_mem_cons.2 ⟨Tryd.call19, List.forall_mem_cons.2 ⟨Tryd.call12, by simp⟩⟩⟩⟩⟩⟩⟩) (by kernel_rfl)) Tryd.func6 (by kernel_rfl) LL laws_FnEagerFor_an ?_
  intro avs H r H' h
  unfold F_laws_FnEagerFor at h
  split at h
  · refine Awp.cast ?_ ?_ ?_ (laws_FnEagerFor_e _ h) <;> kernel_rfl
  · simp [Ans.no, Ans.run] at h


end Go.Rv
