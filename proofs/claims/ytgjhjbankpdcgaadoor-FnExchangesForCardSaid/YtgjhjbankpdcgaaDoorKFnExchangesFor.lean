/-
  The checked code answers as the plain functions do; written by program. Conditions: none.
-/
import Derived.Test.YtgjhjbankpdcgaaDoorKFnExchangesFora
set_option linter.unusedVariables false
set_option linter.unusedSimpArgs false
set_option linter.defProp false
set_option maxRecDepth 100000
namespace Go.Rv
open Go.Proofs
/-! loop.example/headtrees/impl.MadeFlat -/

def impl_MadeFlat_an : Ann := (.seq (.leaf [0]) (.seq (.leaf [3]) (.seq (.leaf [2]) (.leaf [2]))))

noncomputable def impl_MadeFlat_ctx : Ctx := ⟨tlook tys, olook [(29, F_impl_FlatOrder), (32, F_impl_PutInOrder)], ioF, 0, false, []⟩

theorem impl_MadeFlat_n1_l (x6479 : List Int) : Link impl_MadeFlat_ctx LL (bodyOf Tryd.f37) impl_MadeFlat_an ⟨mkE 13 0 [(0, dL x6479)], []⟩ (impl_MadeFlat_n1 x6479) (fun (t : (List Int)) => (Exit.ret, ⟨mkE 13 0 [(2, .slc 0)], [some (sI t)]⟩)) := by
  refine Link.of fun K h => ?_
  simp only [impl_MadeFlat_n1, wpO_bind, wpO_cond, wpO_map, wpO_some] at h
  exact Awp.of (by kernel_rfl) h

theorem impl_MadeFlat_e (x6479 : List Int) {r : AV} {H' : Heap} (h : (Ans.mk _ (impl_MadeFlat x6479) (fun (t : (List Int)) => (.slc 0, [some (sI t)])) [] none).run = some (r, H')) : Awp impl_MadeFlat_ctx LL (bodyOf Tryd.f37) impl_MadeFlat_an ⟨mkE 13 0 [(0, dL x6479)], []⟩ (Ret (tlook tys) Tryd.f37.results.toList r H') :=
  ret_of' (impl_MadeFlat_n1_l x6479) (by unfold impl_MadeFlat; kernel_rfl) (by
  intro t
  exact ret_mk [.slc 0] (by kernel_rfl) (by kernel_rfl) (by kernel_rfl) (by kernel_rfl)) h

def F_impl_MadeFlat : Fun := fun avs H =>
  match avs, H with
  | [.dat (.list (.int .i64)) x6479], [] => ⟨_, impl_MadeFlat x6479, fun (t : (List Int)) => (.slc 0, [some (sI t)]), [], none⟩
  | _, _ => Ans.no

theorem impl_MadeFlat_sound : Sound Tryd.prog 37 F_impl_MadeFlat := by
  refine fn_sound' (C := impl_MadeFlat_ctx) (c := bodyOf Tryd.f37) (cok_of tys_ok (allc impl_FlatOrder_sound (allc impl_PutInOrder_sound alln)) (allc Tryd.call29 (allc Tryd.call32 alln)) (by kernel_rfl)) Tryd.func37 (by kernel_rfl) LL impl_MadeFlat_an ?_
  intro avs H r H' h
  unfold F_impl_MadeFlat at h
  split at h
  · refine Awp.cast ?_ ?_ ?_ (impl_MadeFlat_e _ h) <;> kernel_rfl
  · simp [Ans.no, Ans.run] at h


/-! loop.example/headtrees/laws.FnExchangesFor -/

def laws_FnExchangesFor_an : Ann := (.seq (.leaf [0]) (.seq (.seq (.leaf [0, 7]) (.cond (.seq (.leaf [2]) (.leaf [2])) (.leaf [0]))) (.seq (.leaf [3]) (.seq (.leaf [3, 4]) (.seq (.seq (.leaf [3, 4, 15]) (.cond (.seq (.leaf [2]) (.leaf [2])) (.leaf [3, 4]))) (.seq (.seq (.leaf [3, 4, 17]) (.cond (.seq (.leaf [2]) (.leaf [2])) (.leaf [3, 4]))) (.seq (.leaf [2]) (.leaf [2]))))))))

noncomputable def laws_FnExchangesFor_ctx : Ctx := ⟨tlook tys, olook [(34, F_spec_DrawExchangesFor), (35, F_impl_ExchangesFor), (36, F_spec_ExchangesFor), (31, F_impl_TreeOk), (16, F_laws_alive), (22, F_impl_FlatOk), (37, F_impl_MadeFlat)], ioF, 0, false, []⟩

theorem laws_FnExchangesFor_n1_l (x5671 : List Int) : Link laws_FnExchangesFor_ctx LL (bodyOf Tryd.f7) laws_FnExchangesFor_an ⟨mkE 50 0 [(0, dV x5671)], []⟩ (laws_FnExchangesFor_n1 x5671) (fun (t : Bool) => (Exit.ret, ⟨mkE 50 0 [(2, dB t)], []⟩)) := by
  refine Link.of fun K h => ?_
  simp only [laws_FnExchangesFor_n1, wpO_bind, wpO_cond, wpO_map, wpO_some] at h
  exact Awp.of (by kernel_rfl) h

theorem laws_FnExchangesFor_e (x5671 : List Int) {r : AV} {H' : Heap} (h : (Ans.mk _ (laws_FnExchangesFor x5671) (fun (t : Bool) => (dB t, [])) [] none).run = some (r, H')) : Awp laws_FnExchangesFor_ctx LL (bodyOf Tryd.f7) laws_FnExchangesFor_an ⟨mkE 50 0 [(0, dV x5671)], []⟩ (Ret (tlook tys) Tryd.f7.results.toList r H') :=
  ret_of' (laws_FnExchangesFor_n1_l x5671) (by unfold laws_FnExchangesFor; kernel_rfl) (by
  intro t
  exact ret_mk [dB t] (by kernel_rfl) (by kernel_rfl) (by kernel_rfl) (by kernel_rfl)) h

def F_laws_FnExchangesFor : Fun := fun avs H =>
  match avs, H with
  | [.dat (.list (.int .u8)) x5671], [] => ⟨_, laws_FnExchangesFor x5671, fun (t : Bool) => (dB t, []), [], none⟩
  | _, _ => Ans.no

theorem laws_FnExchangesFor_sound : Sound Tryd.prog 7 F_laws_FnExchangesFor := by
  refine fn_sound' (C := laws_FnExchangesFor_ctx) (c := bodyOf Tryd.f7) (cok_of tys_ok (allc spec_DrawExchangesFor_sound (allc impl_ExchangesFor_sound (allc spec_ExchangesFor_sound (allc impl_TreeOk_sound (allc laws_alive_sound (allc impl_FlatOk_sound (allc impl_MadeFlat_sound alln))))))) (allc Tryd.call34 (allc Tryd.call35 (allc Tryd.call36 (allc Tryd.call31 (allc Tryd.call16 (allc Tryd.call22 (allc Tryd.call37 alln))))))) (by kernel_rfl)) Tryd.func7 (by kernel_rfl) LL laws_FnExchangesFor_an ?_
  intro avs H r H' h
  unfold F_laws_FnExchangesFor at h
  split at h
  · refine Awp.cast ?_ ?_ ?_ (laws_FnExchangesFor_e _ h) <;> kernel_rfl
  · simp [Ans.no, Ans.run] at h


end Go.Rv
