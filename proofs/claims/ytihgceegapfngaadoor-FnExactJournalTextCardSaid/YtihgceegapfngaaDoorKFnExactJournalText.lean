/-
  The checked code answers as the plain functions do; written by program. Conditions: none.
-/
import Derived.Test.YtihgceegapfngaaDoorGFnExactJournalText
import Derived.Test.YtihgceegapfngaaDoorFB
import Derived.Test.YtihgceegapfngaaDoorFB
import Derived.Test.YtihgceegapfngaaDoorProg
set_option linter.unusedVariables false
set_option linter.unusedSimpArgs false
set_option linter.defProp false
set_option maxRecDepth 100000
namespace Go.Rv
open Go.Proofs
theorem ty3 : TIOk Tryd.prog 3 ⟨.int .i64, 1, 8, some (.int .i64), [.int .i64 0], false⟩ := ⟨⟨infoOf (Tryd.prog.info? 3), by kernel_rfl, by kernel_rfl, by kernel_rfl, .int .i64 0, by kernel_rfl, by kernel_rfl⟩, (by kernel_rfl : Tryd.prog.underlying 3 = some (.int .i64)), no_eq⟩
theorem ty5 : TIOk Tryd.prog 5 ⟨.int .u8, 1, 1, some (.int .u8), [.int .u8 0], false⟩ := ⟨⟨infoOf (Tryd.prog.info? 5), by kernel_rfl, by kernel_rfl, by kernel_rfl, .int .u8 0, by kernel_rfl, by kernel_rfl⟩, (by kernel_rfl : Tryd.prog.underlying 5 = some (.int .u8)), no_eq⟩
theorem ty9 : TIOk Tryd.prog 9 ⟨.str, 1, 16, some .str, [.string ByteArray.empty], false⟩ := ⟨⟨infoOf (Tryd.prog.info? 9), by kernel_rfl, by kernel_rfl, by kernel_rfl, .string ByteArray.empty, by kernel_rfl, by kernel_rfl⟩, (by kernel_rfl : Tryd.prog.underlying 9 = some .string), no_eq⟩
theorem ty23 : TIOk Tryd.prog 23 ⟨.strct [(0, 3), (1, 3), (2, 3)], 3, 24, some (.pair (.int .i64) (.pair (.int .i64) (.pair (.int .i64) .unit))), [.int .i64 0, .int .i64 0, .int .i64 0], false⟩ := ⟨⟨infoOf (Tryd.prog.info? 23), by kernel_rfl, by kernel_rfl, by kernel_rfl, .agg #[.int .i64 0, .int .i64 0, .int .i64 0], by kernel_rfl, by kernel_rfl⟩, ⟨fieldsOf (Tryd.prog.underlying 23), by kernel_rfl, by kernel_rfl⟩, no_eq⟩
theorem ty25 : TIOk Tryd.prog 25 ⟨.strct [(0, 3), (1, 3), (2, 3)], 3, 24, some (.pair (.int .i64) (.pair (.int .i64) (.pair (.int .i64) .unit))), [.int .i64 0, .int .i64 0, .int .i64 0], true⟩ := ⟨⟨infoOf (Tryd.prog.info? 25), by kernel_rfl, by kernel_rfl, by kernel_rfl, .agg #[.int .i64 0, .int .i64 0, .int .i64 0], by kernel_rfl, by kernel_rfl⟩, ⟨fieldsOf (Tryd.prog.underlying 25), by kernel_rfl, by kernel_rfl⟩, fun _ => by kernel_rfl⟩
theorem ty32 : TIOk Tryd.prog 32 ⟨.slice 23, 1, 24, some (.list (.pair (.int .i64) (.pair (.int .i64) (.pair (.int .i64) .unit)))), [.slice none 0 0], false⟩ := ⟨⟨infoOf (Tryd.prog.info? 32), by kernel_rfl, by kernel_rfl, by kernel_rfl, .slice none 0 0, by kernel_rfl, by kernel_rfl⟩, (by kernel_rfl : Tryd.prog.underlying 32 = some (.slice 23)), no_eq⟩
theorem ty35 : TIOk Tryd.prog 35 ⟨.slice 25, 1, 24, some (.list (.pair (.int .i64) (.pair (.int .i64) (.pair (.int .i64) .unit)))), [.slice none 0 0], false⟩ := ⟨⟨infoOf (Tryd.prog.info? 35), by kernel_rfl, by kernel_rfl, by kernel_rfl, .slice none 0 0, by kernel_rfl, by kernel_rfl⟩, (by kernel_rfl : Tryd.prog.underlying 35 = some (.slice 25)), no_eq⟩
theorem ty45 : TIOk Tryd.prog 45 ⟨.arr 6 9, 6, 96, none, [.string ByteArray.empty, .string ByteArray.empty, .string ByteArray.empty, .string ByteArray.empty, .string ByteArray.empty, .string ByteArray.empty], false⟩ := ⟨⟨infoOf (Tryd.prog.info? 45), by kernel_rfl, by kernel_rfl, by kernel_rfl, .agg #[.string ByteArray.empty, .string ByteArray.empty, .string ByteArray.empty, .string ByteArray.empty, .string ByteArray.empty, .string ByteArray.empty], by kernel_rfl, by kernel_rfl⟩, (by kernel_rfl : Tryd.prog.underlying 45 = some (.array 6 9)), no_eq⟩
theorem ty46 : TIOk Tryd.prog 46 ⟨.slice 3, 1, 24, some (.list (.int .i64)), [.slice none 0 0], false⟩ := ⟨⟨infoOf (Tryd.prog.info? 46), by kernel_rfl, by kernel_rfl, by kernel_rfl, .slice none 0 0, by kernel_rfl, by kernel_rfl⟩, (by kernel_rfl : Tryd.prog.underlying 46 = some (.slice 3)), no_eq⟩
theorem ty57 : TIOk Tryd.prog 57 ⟨.slice 5, 1, 24, some (.list (.int .u8)), [.slice none 0 0], false⟩ := ⟨⟨infoOf (Tryd.prog.info? 57), by kernel_rfl, by kernel_rfl, by kernel_rfl, .slice none 0 0, by kernel_rfl, by kernel_rfl⟩, (by kernel_rfl : Tryd.prog.underlying 57 = some (.slice 5)), no_eq⟩
def tys : List (TypeId × TI) := [(3, ⟨.int .i64, 1, 8, some (.int .i64), [.int .i64 0], false⟩), (5, ⟨.int .u8, 1, 1, some (.int .u8), [.int .u8 0], false⟩), (9, ⟨.str, 1, 16, some .str, [.string ByteArray.empty], false⟩), (23, ⟨.strct [(0, 3), (1, 3), (2, 3)], 3, 24, some (.pair (.int .i64) (.pair (.int .i64) (.pair (.int .i64) .unit))), [.int .i64 0, .int .i64 0, .int .i64 0], false⟩), (25, ⟨.strct [(0, 3), (1, 3), (2, 3)], 3, 24, some (.pair (.int .i64) (.pair (.int .i64) (.pair (.int .i64) .unit))), [.int .i64 0, .int .i64 0, .int .i64 0], true⟩), (32, ⟨.slice 23, 1, 24, some (.list (.pair (.int .i64) (.pair (.int .i64) (.pair (.int .i64) .unit)))), [.slice none 0 0], false⟩), (35, ⟨.slice 25, 1, 24, some (.list (.pair (.int .i64) (.pair (.int .i64) (.pair (.int .i64) .unit)))), [.slice none 0 0], false⟩), (45, ⟨.arr 6 9, 6, 96, none, [.string ByteArray.empty, .string ByteArray.empty, .string ByteArray.empty, .string ByteArray.empty, .string ByteArray.empty, .string ByteArray.empty], false⟩), (46, ⟨.slice 3, 1, 24, some (.list (.int .i64)), [.slice none 0 0], false⟩), (57, ⟨.slice 5, 1, 24, some (.list (.int .u8)), [.slice none 0 0], false⟩)]
theorem tys_ok : TOk Tryd.prog (tlook tys) := tok_of (allc ty3 (allc ty5 (allc ty9 (allc ty23 (allc ty25 (allc ty32 (allc ty35 (allc ty45 (allc ty46 (allc ty57 alln))))))))))
def ioF (f : FuncId) (i : Nat) : Bool := [].any fun (p : Nat × Nat) => Nat.beq p.1 f && Nat.beq p.2 i


/-! loop.example/headtrees/laws.toDeed -/

def laws_toDeed_an : Ann := (.seq (.leaf [1, 2]) (.seq (.leaf [1, 2, 3]) (.seq (.leaf [1, 2, 3]) (.seq (.leaf [1, 2, 3]) (.seq (.leaf [2, 3]) (.seq (.leaf [2]) (.leaf [2])))))))

noncomputable def laws_toDeed_ctx : Ctx := ⟨tlook tys, olook [], ioF, 0, false, []⟩

theorem laws_toDeed_n1_l (x8 : Int) (x9 : Int) (x10 : Int) : Link laws_toDeed_ctx LL (bodyOf Tryd.f8) laws_toDeed_an ⟨mkE 14 0 [(0, .agg [dI x8, dI x9, dI x10])], []⟩ (laws_toDeed_n1) (fun (t : Unit) => (Exit.ret, ⟨mkE 14 0 [(2, .ptr 0 0)], [some (.box [dI x8, dI x9, dI x10])]⟩)) := .of fun K h => by
  simp only [laws_toDeed_n1, wpW] at h
  exact .of (by kernel_rfl) h

theorem laws_toDeed_e (x8 : Int) (x9 : Int) (x10 : Int) {r : AV} {H' : Heap} (h : (Ans.mk _ (laws_toDeed x8 x9 x10) (fun (t : Unit) => (.agg [dI x8, dI x9, dI x10], [some (.box [dI x8, dI x9, dI x10])])) [] none).run = some (r, H')) : Awp laws_toDeed_ctx LL (bodyOf Tryd.f8) laws_toDeed_an ⟨mkE 14 0 [(0, .agg [dI x8, dI x9, dI x10])], []⟩ (Ret (tlook tys) Tryd.f8.results.toList r H') :=
  ret_of' (laws_toDeed_n1_l x8 x9 x10) (by unfold laws_toDeed; kernel_rfl) (by
  intro t
  exact ret_mk [.agg [dI x8, dI x9, dI x10]] (by kernel_rfl) (by kernel_rfl) (by kernel_rfl) (by kernel_rfl)) h

def F_laws_toDeed : Fun := fun avs H =>
  match avs, H with
  | [.agg [.dat (.int .i64) x8, .dat (.int .i64) x9, .dat (.int .i64) x10]], [] => ⟨_, laws_toDeed x8 x9 x10, fun (t : Unit) => (.agg [dI x8, dI x9, dI x10], [some (.box [dI x8, dI x9, dI x10])]), [], none⟩
  | _, _ => Ans.no

theorem laws_toDeed_sound : Sound Tryd.prog 8 F_laws_toDeed := by
  refine fn_sound' (C := laws_toDeed_ctx) (c := bodyOf Tryd.f8) (cok_of tys_ok (alln) (alln) (by kernel_rfl)) Tryd.func8 (by kernel_rfl) LL laws_toDeed_an ?_
  intro avs H r H' h
  unfold F_laws_toDeed at h
  split at h
  · refine Awp.cast ?_ ?_ ?_ (laws_toDeed_e _ _ _ h) <;> kernel_rfl
  · simp [Ans.no, Ans.run] at h


/-! loop.example/headtrees/spec.l1In -/

def spec_l1In_an : Ann := (.seq (.leaf [0, 1, 2]) (.seq (.leaf [6]) (.leaf [6])))

noncomputable def spec_l1In_ctx : Ctx := ⟨tlook tys, olook [], ioF, 0, false, []⟩

theorem spec_l1In_n1_l (x20 : Int) (x21 : Int) (x22 : Int) : Link spec_l1In_ctx LL (bodyOf Tryd.f22) spec_l1In_an ⟨mkE 15 0 [(0, dI x20), (1, dI x21), (2, dI x22)], []⟩ (spec_l1In_n1 x20 x21 x22) (fun (t : Bool) => (Exit.ret, ⟨mkE 15 0 [(6, dB t)], []⟩)) := .of fun K h => by
  simp only [spec_l1In_n1, wpW] at h
  exact .of (by kernel_rfl) h

theorem spec_l1In_e (x20 : Int) (x21 : Int) (x22 : Int) {r : AV} {H' : Heap} (h : (Ans.mk _ (spec_l1In x20 x21 x22) (fun (t : Bool) => (dB t, [])) [] none).run = some (r, H')) : Awp spec_l1In_ctx LL (bodyOf Tryd.f22) spec_l1In_an ⟨mkE 15 0 [(0, dI x20), (1, dI x21), (2, dI x22)], []⟩ (Ret (tlook tys) Tryd.f22.results.toList r H') :=
  ret_of' (spec_l1In_n1_l x20 x21 x22) (by unfold spec_l1In; kernel_rfl) (by
  intro t
  exact ret_mk [dB t] (by kernel_rfl) (by kernel_rfl) (by kernel_rfl) (by kernel_rfl)) h

def F_spec_l1In : Fun := fun avs H =>
  match avs, H with
  | [.dat (.int .i64) x20, .dat (.int .i64) x21, .dat (.int .i64) x22], [] => ⟨_, spec_l1In x20 x21 x22, fun (t : Bool) => (dB t, []), [], none⟩
  | _, _ => Ans.no

theorem spec_l1In_sound : Sound Tryd.prog 22 F_spec_l1In := by
  refine fn_sound' (C := spec_l1In_ctx) (c := bodyOf Tryd.f22) (cok_of tys_ok (alln) (alln) (by kernel_rfl)) Tryd.func22 (by kernel_rfl) LL spec_l1In_an ?_
  intro avs H r H' h
  unfold F_spec_l1In at h
  split at h
  · refine Awp.cast ?_ ?_ ?_ (spec_l1In_e _ _ _ h) <;> kernel_rfl
  · simp [Ans.no, Ans.run] at h


/-! loop.example/headtrees/spec.l1Number -/

def spec_l1Number_an : Ann := (.seq (.leaf [0]) (.seq (.seq (.leaf [0, 4]) (.cond (.seq (.leafF [⟨5, 9, false, none, none⟩] [2]) (.leaf [2])) (.leaf [0]))) (.seq (.draw [2, 7] [0, 1, 3, 4, 5, 6, 7, 8, 2, 9, 10] [] [2]) (.leaf [2]))))

def F_spec_l1Number_fuel (n : Nat) : Fun := fun avs H =>
  match avs, H with
  | [.dat (.int .i64) x30], [] => ⟨_, spec_l1Number_fuel n x30, fun (t : ByteArray) => (dS t, []), [], none⟩
  | _, _ => Ans.no

noncomputable def spec_l1Number_ctx (n : Nat) : Ctx := ⟨tlook tys, olook [(23, F_spec_l1Number_fuel n)], ioF, 0, false, []⟩

theorem spec_l1Number_n1_l (n : Nat) (x30 : Int) : Link (spec_l1Number_ctx n) LL (bodyOf Tryd.f23) spec_l1Number_an ⟨mkE 21 0 [(0, dI x30)], []⟩ (spec_l1Number_n1 (spec_l1Number_fuel n) x30) (fun (t : ByteArray) => (Exit.ret, ⟨mkE 21 0 [(2, dS t)], []⟩)) := .of fun K h => by
  simp only [spec_l1Number_n1, wpW] at h
  exact .of (by kernel_rfl) h

theorem spec_l1Number_e (n : Nat) (x30 : Int) {r : AV} {H' : Heap} (h : (Ans.mk _ (spec_l1Number_fuel (n + 1) x30) (fun (t : ByteArray) => (dS t, [])) [] none).run = some (r, H')) : Awp (spec_l1Number_ctx n) LL (bodyOf Tryd.f23) spec_l1Number_an ⟨mkE 21 0 [(0, dI x30)], []⟩ (Ret (tlook tys) Tryd.f23.results.toList r H') :=
  ret_of' (spec_l1Number_n1_l n x30) (by (show _ = _); kernel_rfl) (by
  intro t
  exact ret_mk [dS t] (by kernel_rfl) (by kernel_rfl) (by kernel_rfl) (by kernel_rfl)) h

theorem spec_l1Number_step (n : Nat) (h23 : Sound Tryd.prog 23 (F_spec_l1Number_fuel n)) : Sound Tryd.prog 23 (F_spec_l1Number_fuel (n + 1)) := by
  refine fn_sound' (C := spec_l1Number_ctx n) (c := bodyOf Tryd.f23) (cok_of tys_ok (allc h23 alln) (allc Tryd.call23 alln) (by kernel_rfl)) Tryd.func23 (by kernel_rfl) LL spec_l1Number_an ?_
  intro avs H r H' h
  unfold F_spec_l1Number_fuel at h
  split at h
  · refine Awp.cast ?_ ?_ ?_ (spec_l1Number_e n _ h) <;> kernel_rfl
  · simp [Ans.no, Ans.run] at h

theorem spec_l1Number_null : Sound Tryd.prog 23 (F_spec_l1Number_fuel 0) := by
  intro avs H r H' h
  unfold F_spec_l1Number_fuel at h
  split at h
  · simp [spec_l1Number_fuel, spec_l1Number_knot, Ans.run] at h
  · simp [Ans.no, Ans.run] at h

theorem spec_l1Number_knot_all : ∀ n, Sound Tryd.prog 23 (F_spec_l1Number_fuel n)
  | 0 => spec_l1Number_null
  | n + 1 => by
    have h23 := spec_l1Number_knot_all n
    exact spec_l1Number_step n h23

def F_spec_l1Number : Fun := fun avs H =>
  match avs, H with
  | [.dat (.int .i64) x30], [] => ⟨_, spec_l1Number x30, fun (t : ByteArray) => (dS t, []), [], none⟩
  | _, _ => Ans.no

theorem spec_l1Number_sound : Sound Tryd.prog 23 F_spec_l1Number := by
  have e : F_spec_l1Number = F_spec_l1Number_fuel RR := by
    funext avs H
    unfold F_spec_l1Number F_spec_l1Number_fuel
    split <;> first | rfl | (simp only [spec_l1Number])
  rw [e]
  exact (spec_l1Number_knot_all RR)


/-! loop.example/headtrees/spec.DeedText -/

def spec_DeedText_an : Ann := (.seq (.leaf [1]) (.seq (.block (.seq (.leaf [1, 3]) (.cond (.seq (.draw [2, 7] [0, 1, 5, 6, 2, 3, 4, 7, 8, 9] [] [2]) (.leaf [2])) (.seq (.leaf [1, 26]) (.cond (.seq (.leaf [2]) (.leaf [2])) (.seq (.leaf [1, 44]) (.cond (.seq (.leaf [2]) (.leaf [2])) (.seq (.leaf [1, 48]) (.cond (.seq (.leaf [2]) (.leaf [2])) (.seq (.leaf [1, 52]) (.cond (.seq (.leaf [2]) (.leaf [2])) (.seq (.leaf [56]) (.cond (.seq (.leaf [2]) (.leaf [2])) (.leaf [])))))))))))))) (.seq (.leaf [2]) (.leaf [2]))))

noncomputable def spec_DeedText_ctx : Ctx := ⟨tlook tys, olook [(22, F_spec_l1In), (23, F_spec_l1Number)], ioF, 0, false, []⟩

theorem spec_DeedText_n1_l (x13 : Int) (x14 : Int) (x15 : Int) : Link spec_DeedText_ctx LL (cq [0] (bodyOf Tryd.f7)) (aq [0] spec_DeedText_an) ⟨mkE 60 0 [(0, .agg [dI x13, dI x14, dI x15])], []⟩ (spec_DeedText_n1) (fun (t : Unit) => (Exit.normal, ⟨mkE 60 0 [(1, .ptr 0 0)], [some (.box [dI x13, dI x14, dI x15])]⟩)) := .of fun K h => by
  simp only [spec_DeedText_n1, wpW] at h
  exact .of (by kernel_rfl) h

theorem spec_DeedText_n2_l (x13 : Int) (x14 : Int) (x15 : Int) : Link spec_DeedText_ctx LL (cq [0,0,0,1] (bodyOf Tryd.f7)) (aq [0,0,0,1] spec_DeedText_an) ⟨mkE 60 0 [(1, .ptr 0 0)], [some (.box [dI x13, dI x14, dI x15])]⟩ (spec_DeedText_n2 x13 x14 x15) (fun (t : Bool) => (Exit.normal, ⟨mkE 60 0 [(1, .ptr 0 0), (3, dB t)], [some (.box [dI x13, dI x14, dI x15])]⟩)) := .of fun K h => by
  simp only [spec_DeedText_n2, wpW] at h
  exact .of (by kernel_rfl) h

theorem spec_DeedText_n3_l (x253 : Bool) (x13 : Int) (x14 : Int) (x15 : Int) : Link spec_DeedText_ctx LL (cq [0,1,0,0,1] (bodyOf Tryd.f7)) (aq [0,1,0,0,1] spec_DeedText_an) ⟨mkE 60 0 [(1, .ptr 0 0), (3, dB x253)], [some (.box [dI x13, dI x14, dI x15])]⟩ (spec_DeedText_n3 x14 x15) (fun (t : ByteArray) => (Exit.ret, ⟨mkE 60 0 [(2, dS t)], []⟩)) := .of fun K h => by
  simp only [spec_DeedText_n3, wpW] at h
  exact .of (by kernel_rfl) h

theorem spec_DeedText_n4_l (x253 : Bool) (x13 : Int) (x14 : Int) (x15 : Int) : Link spec_DeedText_ctx LL (cq [0,1,1,0,0,1] (bodyOf Tryd.f7)) (aq [0,1,1,0,0,1] spec_DeedText_an) ⟨mkE 60 0 [(1, .ptr 0 0), (3, dB x253)], [some (.box [dI x13, dI x14, dI x15])]⟩ (spec_DeedText_n4 x13 x14 x15) (fun (t : Bool) => (Exit.normal, ⟨mkE 60 0 [(1, .ptr 0 0), (26, dB t)], [some (.box [dI x13, dI x14, dI x15])]⟩)) := .of fun K h => by
  simp only [spec_DeedText_n4, wpW] at h
  exact .of (by kernel_rfl) h

theorem spec_DeedText_n5_l (x351 : Bool) (x13 : Int) (x14 : Int) (x15 : Int) : Link spec_DeedText_ctx LL (cq [1,1,1,0,0,1] (bodyOf Tryd.f7)) (aq [1,1,1,0,0,1] spec_DeedText_an) ⟨mkE 60 0 [(1, .ptr 0 0), (26, dB x351)], [some (.box [dI x13, dI x14, dI x15])]⟩ (spec_DeedText_n5 x351 x13 x14 x15) (Sum.elim (fun (t : Unit) => (Exit.normal, ⟨mkE 60 0 [], []⟩)) (fun (t : ByteArray) => (Exit.ret, ⟨mkE 60 0 [(2, dS t)], []⟩))) := .of fun K h => by
  simp only [spec_DeedText_n5, wpW] at h
  exact .of (by kernel_rfl) h

def spec_DeedText_n6_l (x253 : Bool) (x13 : Int) (x14 : Int) (x15 : Int) := (link_seq (spec_DeedText_n4_l x253 x13 x14 x15) (fun (t : Bool) => (spec_DeedText_n5_l t x13 x14 x15)))

def spec_DeedText_n7_l (x253 : Bool) (x13 : Int) (x14 : Int) (x15 : Int) := (link_cond (c := .tmp 3) (g := x253) (by kernel_rfl) ((link_map (fin2 := (Sum.elim (fun (t : Unit) => (Exit.normal, ⟨mkE 60 0 [], []⟩)) (fun (t : ByteArray) => (Exit.ret, ⟨mkE 60 0 [(2, dS t)], []⟩)))) (spec_DeedText_n3_l x253 x13 x14 x15) (fun (t : ByteArray) => (Sum.inr t)) (by
  rintro t
  · kernel_rfl))) ((spec_DeedText_n6_l x253 x13 x14 x15)))

def spec_DeedText_n8_l (x13 : Int) (x14 : Int) (x15 : Int) := (link_seq (spec_DeedText_n2_l x13 x14 x15) (fun (t : Bool) => (spec_DeedText_n7_l t x13 x14 x15)))

def spec_DeedText_n9_l (x13 : Int) (x14 : Int) (x15 : Int) := (link_block (fin2 := (Sum.elim (fun (t : Unit) => (Exit.normal, ⟨mkE 60 0 [], []⟩)) (fun (t : ByteArray) => (Exit.ret, ⟨mkE 60 0 [(2, dS t)], []⟩)))) (id := 0) (spec_DeedText_n8_l x13 x14 x15) (Sum.elim (fun (t : Unit) => (Sum.inl ())) (fun (t : ByteArray) => (Sum.inr t))) (by
  rintro (t | t) K h
  · exact Eq.mp (by kernel_rfl) h
  · exact Eq.mp (by kernel_rfl) h))

theorem spec_DeedText_n10_l : Link spec_DeedText_ctx LL (cq [1,1] (bodyOf Tryd.f7)) (aq [1,1] spec_DeedText_an) ⟨mkE 60 0 [], []⟩ (spec_DeedText_n10) (fun (t : ByteArray) => (Exit.ret, ⟨mkE 60 0 [(2, dS t)], []⟩)) := .of fun K h => by
  simp only [spec_DeedText_n10, wpW] at h
  exact .of (by kernel_rfl) h

def spec_DeedText_n11_l (x13 : Int) (x14 : Int) (x15 : Int) := (link_seq2 (spec_DeedText_n9_l x13 x14 x15) (fun (t : Unit) => (spec_DeedText_n10_l)) (fun (t : ByteArray) => t) (by
  rintro t
  · kernel_rfl) (by
  rintro t f K h
  · exact h))

def spec_DeedText_n12_l (x13 : Int) (x14 : Int) (x15 : Int) := (link_seq (spec_DeedText_n1_l x13 x14 x15) (fun (t : Unit) => (spec_DeedText_n11_l x13 x14 x15)))

theorem spec_DeedText_e (x13 : Int) (x14 : Int) (x15 : Int) {r : AV} {H' : Heap} (h : (Ans.mk _ (spec_DeedText x13 x14 x15) (fun (t : ByteArray) => (dS t, [])) [] none).run = some (r, H')) : Awp spec_DeedText_ctx LL (bodyOf Tryd.f7) spec_DeedText_an ⟨mkE 60 0 [(0, .agg [dI x13, dI x14, dI x15])], []⟩ (Ret (tlook tys) Tryd.f7.results.toList r H') :=
  ret_of' (Link.cast (by kernel_rfl) (by kernel_rfl) (spec_DeedText_n12_l x13 x14 x15)) (by unfold spec_DeedText; kernel_rfl) (by
  intro t
  exact ret_mk [dS t] (by kernel_rfl) (by kernel_rfl) (by kernel_rfl) (by kernel_rfl)) h

def F_spec_DeedText : Fun := fun avs H =>
  match avs, H with
  | [.agg [.dat (.int .i64) x13, .dat (.int .i64) x14, .dat (.int .i64) x15]], [] => ⟨_, spec_DeedText x13 x14 x15, fun (t : ByteArray) => (dS t, []), [], none⟩
  | _, _ => Ans.no

theorem spec_DeedText_sound : Sound Tryd.prog 7 F_spec_DeedText := by
  refine fn_sound' (C := spec_DeedText_ctx) (c := bodyOf Tryd.f7) (cok_of tys_ok (allc spec_l1In_sound (allc spec_l1Number_sound alln)) (allc Tryd.call22 (allc Tryd.call23 alln)) (by kernel_rfl)) Tryd.func7 (by kernel_rfl) LL spec_DeedText_an ?_
  intro avs H r H' h
  unfold F_spec_DeedText at h
  split at h
  · refine Awp.cast ?_ ?_ ?_ (spec_DeedText_e _ _ _ h) <;> kernel_rfl
  · simp [Ans.no, Ans.run] at h


/-! loop.example/headtrees/impl.numbersIn -/

def impl_numbersIn_an : Ann := (.seq (.leaf [0]) (.seq (.seq (.leaf [3]) (.block (.seq (.leaf [3, 4]) (.cond (.seq (.leaf [2]) (.leaf [2])) (.seq (.leaf [6]) (.cond (.seq (.leaf [2]) (.leaf [2])) (.leaf []))))))) (.seq (.leaf [2]) (.leaf [2]))))

noncomputable def impl_numbersIn_ctx : Ctx := ⟨tlook tys, olook [], ioF, 0, false, []⟩

theorem impl_numbersIn_n1_l (x383 : Int) : Link impl_numbersIn_ctx LL (bodyOf Tryd.f25) impl_numbersIn_an ⟨mkE 8 0 [(0, dI x383)], []⟩ (impl_numbersIn_n1 x383) (fun (t : Int) => (Exit.ret, ⟨mkE 8 0 [(2, dI t)], []⟩)) := .of fun K h => by
  simp only [impl_numbersIn_n1, wpW] at h
  exact .of (by kernel_rfl) h

theorem impl_numbersIn_e (x383 : Int) {r : AV} {H' : Heap} (h : (Ans.mk _ (impl_numbersIn x383) (fun (t : Int) => (dI t, [])) [] none).run = some (r, H')) : Awp impl_numbersIn_ctx LL (bodyOf Tryd.f25) impl_numbersIn_an ⟨mkE 8 0 [(0, dI x383)], []⟩ (Ret (tlook tys) Tryd.f25.results.toList r H') :=
  ret_of' (impl_numbersIn_n1_l x383) (by unfold impl_numbersIn; kernel_rfl) (by
  intro t
  exact ret_mk [dI t] (by kernel_rfl) (by kernel_rfl) (by kernel_rfl) (by kernel_rfl)) h

def F_impl_numbersIn : Fun := fun avs H =>
  match avs, H with
  | [.dat (.int .i64) x383], [] => ⟨_, impl_numbersIn x383, fun (t : Int) => (dI t, []), [], none⟩
  | _, _ => Ans.no

theorem impl_numbersIn_sound : Sound Tryd.prog 25 F_impl_numbersIn := by
  refine fn_sound' (C := impl_numbersIn_ctx) (c := bodyOf Tryd.f25) (cok_of tys_ok (alln) (alln) (by kernel_rfl)) Tryd.func25 (by kernel_rfl) LL impl_numbersIn_an ?_
  intro avs H r H' h
  unfold F_impl_numbersIn at h
  split at h
  · refine Awp.cast ?_ ?_ ?_ (impl_numbersIn_e _ h) <;> kernel_rfl
  · simp [Ans.no, Ans.run] at h


/-! (loop.example/headtrees/impl.Deed).restOk -/

def impl_Deed_restOk_an : Ann := (.seq (.leaf [1]) (.seq (.leaf [1, 3]) (.seq (.leaf [2]) (.leaf [2]))))

noncomputable def impl_Deed_restOk_ctx : Ctx := ⟨tlook tys, olook [(25, F_impl_numbersIn)], ioF, 0, false, []⟩

theorem impl_Deed_restOk_n1_l (x380 : Int) (x381 : Int) (x382 : Int) : Link impl_Deed_restOk_ctx LL (bodyOf Tryd.f35) impl_Deed_restOk_an ⟨mkE 23 0 [(0, .agg [dI x380, dI x381, dI x382])], []⟩ (impl_Deed_restOk_n1 x380 x381 x382) (fun (t : Bool) => (Exit.ret, ⟨mkE 23 0 [(2, dB t)], []⟩)) := .of fun K h => by
  simp only [impl_Deed_restOk_n1, wpW] at h
  exact .of (by kernel_rfl) h

theorem impl_Deed_restOk_e (x380 : Int) (x381 : Int) (x382 : Int) {r : AV} {H' : Heap} (h : (Ans.mk _ (impl_Deed_restOk x380 x381 x382) (fun (t : Bool) => (dB t, [])) [] none).run = some (r, H')) : Awp impl_Deed_restOk_ctx LL (bodyOf Tryd.f35) impl_Deed_restOk_an ⟨mkE 23 0 [(0, .agg [dI x380, dI x381, dI x382])], []⟩ (Ret (tlook tys) Tryd.f35.results.toList r H') :=
  ret_of' (impl_Deed_restOk_n1_l x380 x381 x382) (by unfold impl_Deed_restOk; kernel_rfl) (by
  intro t
  exact ret_mk [dB t] (by kernel_rfl) (by kernel_rfl) (by kernel_rfl) (by kernel_rfl)) h

def F_impl_Deed_restOk : Fun := fun avs H =>
  match avs, H with
  | [.agg [.dat (.int .i64) x380, .dat (.int .i64) x381, .dat (.int .i64) x382]], [] => ⟨_, impl_Deed_restOk x380 x381 x382, fun (t : Bool) => (dB t, []), [], none⟩
  | _, _ => Ans.no

theorem impl_Deed_restOk_sound : Sound Tryd.prog 35 F_impl_Deed_restOk := by
  refine fn_sound' (C := impl_Deed_restOk_ctx) (c := bodyOf Tryd.f35) (cok_of tys_ok (allc impl_numbersIn_sound alln) (allc Tryd.call25 alln) (by kernel_rfl)) Tryd.func35 (by kernel_rfl) LL impl_Deed_restOk_an ?_
  intro avs H r H' h
  unfold F_impl_Deed_restOk at h
  split at h
  · refine Awp.cast ?_ ?_ ?_ (impl_Deed_restOk_e _ _ _ h) <;> kernel_rfl
  · simp [Ans.no, Ans.run] at h


/-! (loop.example/headtrees/impl.Deed).inText -/

def impl_Deed_inText_an : Ann := (.seq (.leaf [1]) (.seq (.leaf [2]) (.leaf [2])))

noncomputable def impl_Deed_inText_ctx : Ctx := ⟨tlook tys, olook [(35, F_impl_Deed_restOk)], ioF, 0, false, []⟩

theorem impl_Deed_inText_n1_l (x374 : Int) (x375 : Int) (x376 : Int) : Link impl_Deed_inText_ctx LL (bodyOf Tryd.f24) impl_Deed_inText_an ⟨mkE 35 0 [(0, .agg [dI x374, dI x375, dI x376])], []⟩ (impl_Deed_inText_n1 x374 x375 x376) (fun (t : Bool) => (Exit.ret, ⟨mkE 35 0 [(2, dB t)], []⟩)) := .of fun K h => by
  simp only [impl_Deed_inText_n1, wpW] at h
  exact .of (by kernel_rfl) h

theorem impl_Deed_inText_e (x374 : Int) (x375 : Int) (x376 : Int) {r : AV} {H' : Heap} (h : (Ans.mk _ (impl_Deed_inText x374 x375 x376) (fun (t : Bool) => (dB t, [])) [] none).run = some (r, H')) : Awp impl_Deed_inText_ctx LL (bodyOf Tryd.f24) impl_Deed_inText_an ⟨mkE 35 0 [(0, .agg [dI x374, dI x375, dI x376])], []⟩ (Ret (tlook tys) Tryd.f24.results.toList r H') :=
  ret_of' (impl_Deed_inText_n1_l x374 x375 x376) (by unfold impl_Deed_inText; kernel_rfl) (by
  intro t
  exact ret_mk [dB t] (by kernel_rfl) (by kernel_rfl) (by kernel_rfl) (by kernel_rfl)) h

def F_impl_Deed_inText : Fun := fun avs H =>
  match avs, H with
  | [.agg [.dat (.int .i64) x374, .dat (.int .i64) x375, .dat (.int .i64) x376]], [] => ⟨_, impl_Deed_inText x374 x375 x376, fun (t : Bool) => (dB t, []), [], none⟩
  | _, _ => Ans.no

theorem impl_Deed_inText_sound : Sound Tryd.prog 24 F_impl_Deed_inText := by
  refine fn_sound' (C := impl_Deed_inText_ctx) (c := bodyOf Tryd.f24) (cok_of tys_ok (allc impl_Deed_restOk_sound alln) (allc Tryd.call35 alln) (by kernel_rfl)) Tryd.func24 (by kernel_rfl) LL impl_Deed_inText_an ?_
  intro avs H r H' h
  unfold F_impl_Deed_inText at h
  split at h
  · refine Awp.cast ?_ ?_ ?_ (impl_Deed_inText_e _ _ _ h) <;> kernel_rfl
  · simp [Ans.no, Ans.run] at h


/-! strconv.Itoa -/

def ren_itoaS : Go.Shelf.Ren := ⟨fun | 129 => 68 | 171 => 26 | 243 => 36 | 246 => 42 | 283 => 53 | 284 => 54 | 285 => 55 | 286 => 56 | 317 => 67 | 318 => 69 | 319 => 70 | 320 => 71 | 337 => 77 | 338 => 78 | n => n, fun | 0 => 0 | 2 => 2 | 3 => 3 | 4 => 4 | 5 => 5 | 9 => 9 | 20 => 20 | 37 => 57 | 46 => 88 | 51 => 95 | 53 => 78 | 171 => 77 | 173 => 81 | 212 => 94 | 213 => 96 | 232 => 110 | 233 => 111 | n => n, fun | 17 => 4 | 18 => 7 | 19 => 8 | n => n⟩
theorem lay_itoaS : Lays.n171 Tryd.prog ren_itoaS := {
  mixed := by kernel_rfl
  f129 := Tryd.func68.trans (congrArg some (by kernel_rfl))
  f171 := Tryd.func26.trans (congrArg some (by kernel_rfl))
  f243 := Tryd.func36.trans (congrArg some (by kernel_rfl))
  f246 := Tryd.func42.trans (congrArg some (by kernel_rfl))
  f283 := Tryd.func53.trans (congrArg some (by kernel_rfl))
  f284 := Tryd.func54.trans (congrArg some (by kernel_rfl))
  f285 := Tryd.func55.trans (congrArg some (by kernel_rfl))
  f286 := Tryd.func56.trans (congrArg some (by kernel_rfl))
  f317 := Tryd.func67.trans (congrArg some (by kernel_rfl))
  f318 := Tryd.func69.trans (congrArg some (by kernel_rfl))
  f319 := Tryd.func70.trans (congrArg some (by kernel_rfl))
  f320 := Tryd.func71.trans (congrArg some (by kernel_rfl))
  f337 := Tryd.func77.trans (congrArg some (by kernel_rfl))
  f338 := Tryd.func78.trans (congrArg some (by kernel_rfl))
  t0 := Tryd.underlying0
  a0 := Tryd.isAgg0
  z0 := Tryd.sizeOf0
  v0 := Tryd.zeroValue0
  t2 := Tryd.underlying2
  a2 := Tryd.isAgg2
  z2 := Tryd.sizeOf2
  v2 := Tryd.zeroValue2
  t3 := Tryd.underlying3
  a3 := Tryd.isAgg3
  z3 := Tryd.sizeOf3
  v3 := Tryd.zeroValue3
  t4 := Tryd.underlying4
  a4 := Tryd.isAgg4
  z4 := Tryd.sizeOf4
  v4 := Tryd.zeroValue4
  t5 := Tryd.underlying5
  a5 := Tryd.isAgg5
  z5 := Tryd.sizeOf5
  v5 := Tryd.zeroValue5
  t9 := Tryd.underlying9
  a9 := Tryd.isAgg9
  z9 := Tryd.sizeOf9
  v9 := Tryd.zeroValue9
  t20 := Tryd.underlying20
  a20 := Tryd.isAgg20
  z20 := Tryd.sizeOf20
  v20 := Tryd.zeroValue20
  t37 := Tryd.underlying57
  a37 := Tryd.isAgg57
  z37 := Tryd.sizeOf57
  v37 := Tryd.zeroValue57
  t46 := Tryd.underlying88
  a46 := Tryd.isAgg88
  z46 := Tryd.sizeOf88
  v46 := Tryd.zeroValue88
  t51 := Tryd.underlying95
  a51 := Tryd.isAgg95
  z51 := Tryd.sizeOf95
  v51 := Tryd.zeroValue95
  t53 := Tryd.underlying78
  a53 := Tryd.isAgg78
  z53 := Tryd.sizeOf78
  v53 := Tryd.zeroValue78
  t171 := Tryd.underlying77
  a171 := Tryd.isAgg77
  z171 := Tryd.sizeOf77
  v171 := Tryd.zeroValue77
  t173 := Tryd.underlying81
  a173 := Tryd.isAgg81
  z173 := Tryd.sizeOf81
  v173 := Tryd.zeroValue81
  t212 := Tryd.underlying94
  a212 := Tryd.isAgg94
  z212 := Tryd.sizeOf94
  v212 := Tryd.zeroValue94
  t213 := Tryd.underlying96
  a213 := Tryd.isAgg96
  z213 := Tryd.sizeOf96
  t232 := Tryd.underlying110
  a232 := Tryd.isAgg110
  z232 := Tryd.sizeOf110
  v232 := Tryd.zeroValue110
  t233 := Tryd.underlying111
  a233 := Tryd.isAgg111
  z233 := Tryd.sizeOf111
  v233 := Tryd.zeroValue111
  g17 := by kernel_rfl
  g18 := by kernel_rfl
  g19 := by kernel_rfl }

def F_strconv_Itoa : Fun := F_itoaS
theorem strconv_Itoa_sound : Sound Tryd.prog 26 F_strconv_Itoa := itoaS_sound lay_itoaS


/-! loop.example/headtrees/impl.DeedText -/

def impl_DeedText_an : Ann := (.seq (.leaf [1]) (.seq (.seq (.leaf [1, 8]) (.cond (.seq (.leaf [2]) (.leaf [2])) (.leaf [1]))) (.seq (.leaf [1, 3]) (.seq (.seq (.draw [7, 4] [0, 1, 2, 3, 4, 5, 6, 10, 7, 8, 9] [] [3, 21, 22, 23]) (.block (.loop (.seq (.leaf [3, 21, 22, 23, 24]) (.seq (.cond (.leaf [3, 21, 22, 23]) (.leaf [3])) (.seq (.block (.seq (.leaf [3, 5, 21, 22, 23]) (.leaf [3, 21, 22, 23]))) (.leaf [3, 21, 22, 23]))))))) (.seq (.leaf [2]) (.leaf [2]))))))

noncomputable def impl_DeedText_ctx : Ctx := ⟨tlook tys, olook [(24, F_impl_Deed_inText), (25, F_impl_numbersIn), (26, F_strconv_Itoa)], ioF, 0, false, []⟩

theorem impl_DeedText_n1_l (x371 : Int) (x372 : Int) (x373 : Int) : Link impl_DeedText_ctx LL (Code.seq (cq [0] (bodyOf Tryd.f9)) (Code.seq (cq [0,1] (bodyOf Tryd.f9)) (cq [0,1,1] (bodyOf Tryd.f9)))) (Ann.seq (aq [0] impl_DeedText_an) (Ann.seq (aq [0,1] impl_DeedText_an) (aq [0,1,1] impl_DeedText_an))) ⟨mkE 34 0 [(0, .agg [dI x371, dI x372, dI x373])], []⟩ (impl_DeedText_n1 x371 x372 x373) (Sum.elim (fun (t : ByteArray) => (Exit.normal, ⟨mkE 34 0 [(1, .ptr 0 0), (3, dS t)], [some (.box [dI x371, dI x372, dI x373])]⟩)) (fun (t : ByteArray) => (Exit.ret, ⟨mkE 34 0 [(2, dS t)], []⟩))) := .of fun K h => by
  simp only [impl_DeedText_n1, wpW] at h
  exact .of (by kernel_rfl) h

theorem impl_DeedText_n2_l (x432 : ByteArray) (x371 : Int) (x372 : Int) (x373 : Int) : Link impl_DeedText_ctx LL (cq [0,0,1,1,1] (bodyOf Tryd.f9)) (aq [0,0,1,1,1] impl_DeedText_an) ⟨mkE 34 0 [(1, .ptr 0 0), (3, dS x432)], [some (.box [dI x371, dI x372, dI x373])]⟩ (impl_DeedText_n2 x371 x372 x373) (fun (t : (List Int) × Int) => (Exit.normal, ⟨mkE 34 0 [(3, dS x432), (21, dL t.1), (22, dI t.2), (23, dI 0)], []⟩)) := .of fun K h => by
  simp only [impl_DeedText_n2, wpW] at h
  exact .of (by kernel_rfl) h

theorem impl_DeedText_n3_l (x455 : ByteArray) (x438 : List Int) (x439 : Int) (x456 : Int) : Link impl_DeedText_ctx LL (cq [0,0,1,0,1,1,1] (bodyOf Tryd.f9)) (aq [0,0,1,0,1,1,1] impl_DeedText_an) ⟨mkE 34 0 [(3, dS x455), (21, dL x438), (22, dI x439), (23, dI x456)], []⟩ (impl_DeedText_n3 x455 x438 x439 x456) (Sum.elim (fun (t : ByteArray × Int) => (Exit.normal, ⟨mkE 34 0 [(3, dS t.1), (21, dL x438), (22, dI x439), (23, dI t.2)], []⟩)) (fun (t : ByteArray) => ((Exit.exit 0), ⟨mkE 34 0 [(3, dS t)], []⟩))) := .of fun K h => by
  simp only [impl_DeedText_n3, wpW] at h
  exact .of (by kernel_rfl) h

def impl_DeedText_n4_l (x432 : ByteArray) (x438 : List Int) (x439 : Int) := (link_loop (mk := fun (s : ByteArray × Int) => ⟨mkE 34 0 [(3, dS s.1), (21, dL x438), (22, dI x439), (23, dI s.2)], []⟩) (fin := (fun (t : ByteArray) => ((Exit.exit 0), ⟨mkE 34 0 [(3, dS t)], []⟩))) (by
  rintro t f K h
  · exact h) (fun s => link_map (impl_DeedText_n3_l s.1 x438 x439 s.2) (Sum.elim (fun (t : ByteArray × Int) => Sum.inl (t.1, t.2)) (fun (t : ByteArray) => Sum.inr t)) (by
  rintro (t | t)
  · kernel_rfl
  · kernel_rfl)) (x432, 0))

def impl_DeedText_n5_l (x432 : ByteArray) (x438 : List Int) (x439 : Int) := (link_block (fin2 := (fun (t : ByteArray) => (Exit.normal, ⟨mkE 34 0 [(3, dS t)], []⟩))) (id := 0) (impl_DeedText_n4_l x432 x438 x439) (fun (t : ByteArray) => t) (by
  rintro t K h
  · exact Eq.mp (by kernel_rfl) h))

def impl_DeedText_n6_l (x432 : ByteArray) (x371 : Int) (x372 : Int) (x373 : Int) := (link_seq (impl_DeedText_n2_l x432 x371 x372 x373) (fun (t : (List Int) × Int) => (impl_DeedText_n5_l x432 t.1 t.2)))

theorem impl_DeedText_n7_l (x455 : ByteArray) : Link impl_DeedText_ctx LL (cq [1,1,1,1] (bodyOf Tryd.f9)) (aq [1,1,1,1] impl_DeedText_an) ⟨mkE 34 0 [(3, dS x455)], []⟩ (impl_DeedText_n7 x455) (fun (t : ByteArray) => (Exit.ret, ⟨mkE 34 0 [(2, dS t)], []⟩)) := .of fun K h => by
  simp only [impl_DeedText_n7, wpW] at h
  exact .of (by kernel_rfl) h

def impl_DeedText_n8_l (x432 : ByteArray) (x371 : Int) (x372 : Int) (x373 : Int) := (link_seq (impl_DeedText_n6_l x432 x371 x372 x373) (fun (t : ByteArray) => (impl_DeedText_n7_l t)))

def impl_DeedText_n9_l (x371 : Int) (x372 : Int) (x373 : Int) := (link_group (c := (cq [0,1,1] (bodyOf Tryd.f9))) (a := (aq [0,1,1] impl_DeedText_an)) [(cq [0] (bodyOf Tryd.f9)), (cq [0,1] (bodyOf Tryd.f9))] [(aq [0] impl_DeedText_an), (aq [0,1] impl_DeedText_an)] rfl (link_seq2 (impl_DeedText_n1_l x371 x372 x373) (fun (t : ByteArray) => (impl_DeedText_n8_l t x371 x372 x373)) (fun (t : ByteArray) => t) (by
  rintro t
  · kernel_rfl) (by
  rintro t f K h
  · exact h)))

theorem impl_DeedText_e (x371 : Int) (x372 : Int) (x373 : Int) {r : AV} {H' : Heap} (h : (Ans.mk _ (impl_DeedText x371 x372 x373) (fun (t : ByteArray) => (dS t, [])) [] none).run = some (r, H')) : Awp impl_DeedText_ctx LL (bodyOf Tryd.f9) impl_DeedText_an ⟨mkE 34 0 [(0, .agg [dI x371, dI x372, dI x373])], []⟩ (Ret (tlook tys) Tryd.f9.results.toList r H') :=
  ret_of' (Link.cast (by kernel_rfl) (by kernel_rfl) (impl_DeedText_n9_l x371 x372 x373)) (by unfold impl_DeedText; kernel_rfl) (by
  intro t
  exact ret_mk [dS t] (by kernel_rfl) (by kernel_rfl) (by kernel_rfl) (by kernel_rfl)) h

def F_impl_DeedText : Fun := fun avs H =>
  match avs, H with
  | [.agg [.dat (.int .i64) x371, .dat (.int .i64) x372, .dat (.int .i64) x373]], [] => ⟨_, impl_DeedText x371 x372 x373, fun (t : ByteArray) => (dS t, []), [], none⟩
  | _, _ => Ans.no

theorem impl_DeedText_sound : Sound Tryd.prog 9 F_impl_DeedText := by
  refine fn_sound' (C := impl_DeedText_ctx) (c := bodyOf Tryd.f9) (cok_of tys_ok (allc impl_Deed_inText_sound (allc impl_numbersIn_sound (allc strconv_Itoa_sound alln))) (allc Tryd.call24 (allc Tryd.call25 (allc Tryd.call26 alln))) (by kernel_rfl)) Tryd.func9 (by kernel_rfl) LL impl_DeedText_an ?_
  intro avs H r H' h
  unfold F_impl_DeedText at h
  split at h
  · refine Awp.cast ?_ ?_ ?_ (impl_DeedText_e _ _ _ h) <;> kernel_rfl
  · simp [Ans.no, Ans.run] at h


/-! loop.example/headtrees/laws.szDeedS -/

def laws_szDeedS_an : Ann := (.seq (.leaf [0, 1]) (.seq (.leaf [1]) (.seq (.seq (.leaf [1, 10]) (.cond (.seq (.leaf [4]) (.leaf [4])) (.leaf [1]))) (.seq (.leaf [4]) (.leaf [4])))))

noncomputable def laws_szDeedS_ctx : Ctx := ⟨tlook tys, olook [], ioF, 0, false, []⟩

theorem laws_szDeedS_n1_l (x491 : List (Int × Int × Int × Unit)) (x492 : Int) : Link laws_szDeedS_ctx LL (bodyOf Tryd.f13) laws_szDeedS_an ⟨mkE 12 0 [(0, .dat (.list (.pair (.int .i64) (.pair (.int .i64) (.pair (.int .i64) .unit)))) x491), (1, dI x492)], []⟩ (laws_szDeedS_n1 x491 x492) (fun (t : Int) => (Exit.ret, ⟨mkE 12 0 [(4, dI t)], []⟩)) := .of fun K h => by
  simp only [laws_szDeedS_n1, wpW] at h
  exact .of (by kernel_rfl) h

theorem laws_szDeedS_e (x491 : List (Int × Int × Int × Unit)) (x492 : Int) {r : AV} {H' : Heap} (h : (Ans.mk _ (laws_szDeedS x491 x492) (fun (t : Int) => (dI t, [])) [] none).run = some (r, H')) : Awp laws_szDeedS_ctx LL (bodyOf Tryd.f13) laws_szDeedS_an ⟨mkE 12 0 [(0, .dat (.list (.pair (.int .i64) (.pair (.int .i64) (.pair (.int .i64) .unit)))) x491), (1, dI x492)], []⟩ (Ret (tlook tys) Tryd.f13.results.toList r H') :=
  ret_of' (laws_szDeedS_n1_l x491 x492) (by unfold laws_szDeedS; kernel_rfl) (by
  intro t
  exact ret_mk [dI t] (by kernel_rfl) (by kernel_rfl) (by kernel_rfl) (by kernel_rfl)) h

def F_laws_szDeedS : Fun := fun avs H =>
  match avs, H with
  | [.dat (.list (.pair (.int .i64) (.pair (.int .i64) (.pair (.int .i64) .unit)))) x491, .dat (.int .i64) x492], [] => ⟨_, laws_szDeedS x491 x492, fun (t : Int) => (dI t, []), [], none⟩
  | _, _ => Ans.no

theorem laws_szDeedS_sound : Sound Tryd.prog 13 F_laws_szDeedS := by
  refine fn_sound' (C := laws_szDeedS_ctx) (c := bodyOf Tryd.f13) (cok_of tys_ok (alln) (alln) (by kernel_rfl)) Tryd.func13 (by kernel_rfl) LL laws_szDeedS_an ?_
  intro avs H r H' h
  unfold F_laws_szDeedS at h
  split at h
  · refine Awp.cast ?_ ?_ ?_ (laws_szDeedS_e _ _ h) <;> kernel_rfl
  · simp [Ans.no, Ans.run] at h


/-! loop.example/headtrees/laws.toDeedS -/

def laws_toDeedS_an : Ann := (.seq (.leaf [0]) (.seq (.leaf [0, 3]) (.seq (.seq (.leaf [0, 3, 4]) (.block (.loop (.seq (.seq (.leaf [0, 3, 4, 11]) (.cond (.leaf [0, 3, 4]) (.leaf [3]))) (.seq (.block (.leaf [0, 3, 4])) (.leaf [0, 3, 4])))))) (.seq (.leaf [2]) (.leaf [2])))))

noncomputable def laws_toDeedS_ctx : Ctx := ⟨tlook tys, olook [(8, F_laws_toDeed)], ioF, 0, false, []⟩

theorem laws_toDeedS_n1_l (x511 : List (Int × Int × Int × Unit)) : Link laws_toDeedS_ctx LL (Code.seq (cq [0] (bodyOf Tryd.f15)) (cq [0,1] (bodyOf Tryd.f15))) (Ann.seq (aq [0] laws_toDeedS_an) (aq [0,1] laws_toDeedS_an)) ⟨mkE 23 0 [(0, .dat (.list (.pair (.int .i64) (.pair (.int .i64) (.pair (.int .i64) .unit)))) x511)], []⟩ (laws_toDeedS_n1 x511) (fun (t : (List (Int × Int × Int × Unit))) => (Exit.normal, ⟨mkE 23 0 [(0, .dat (.list (.pair (.int .i64) (.pair (.int .i64) (.pair (.int .i64) .unit)))) x511), (3, .slc 0)], [some (.seq (.pair (.int .i64) (.pair (.int .i64) (.pair (.int .i64) .unit))) t)]⟩)) := .of fun K h => by
  simp only [laws_toDeedS_n1, wpW] at h
  exact .of (by kernel_rfl) h

theorem laws_toDeedS_n2_l (x511 : List (Int × Int × Int × Unit)) (x515 : List (Int × Int × Int × Unit)) : Link laws_toDeedS_ctx LL (cq [0,0,1,1] (bodyOf Tryd.f15)) (aq [0,0,1,1] laws_toDeedS_an) ⟨mkE 23 0 [(0, .dat (.list (.pair (.int .i64) (.pair (.int .i64) (.pair (.int .i64) .unit)))) x511), (3, .slc 0)], [some (.seq (.pair (.int .i64) (.pair (.int .i64) (.pair (.int .i64) .unit))) x515)]⟩ (laws_toDeedS_n2) (fun (t : Unit) => (Exit.normal, ⟨mkE 23 0 [(0, .dat (.list (.pair (.int .i64) (.pair (.int .i64) (.pair (.int .i64) .unit)))) x511), (3, .slc 0), (4, dI 0)], [some (.seq (.pair (.int .i64) (.pair (.int .i64) (.pair (.int .i64) .unit))) x515)]⟩)) := .of fun K h => by
  simp only [laws_toDeedS_n2, wpW] at h
  exact .of (by kernel_rfl) h

theorem laws_toDeedS_n3_l (x511 : List (Int × Int × Int × Unit)) (x564 : Int) (x565 : List (Int × Int × Int × Unit)) : Link laws_toDeedS_ctx LL (cq [0,0,1,0,1,1] (bodyOf Tryd.f15)) (aq [0,0,1,0,1,1] laws_toDeedS_an) ⟨mkE 23 0 [(0, .dat (.list (.pair (.int .i64) (.pair (.int .i64) (.pair (.int .i64) .unit)))) x511), (3, .slc 0), (4, dI x564)], [some (.seq (.pair (.int .i64) (.pair (.int .i64) (.pair (.int .i64) .unit))) x565)]⟩ (laws_toDeedS_n3 x511 x564 x565) (Sum.elim (fun (t : Int × (List (Int × Int × Int × Unit))) => (Exit.normal, ⟨mkE 23 0 [(0, .dat (.list (.pair (.int .i64) (.pair (.int .i64) (.pair (.int .i64) .unit)))) x511), (3, .slc 0), (4, dI t.1)], [some (.seq (.pair (.int .i64) (.pair (.int .i64) (.pair (.int .i64) .unit))) t.2)]⟩)) (fun (t : (List (Int × Int × Int × Unit))) => ((Exit.exit 0), ⟨mkE 23 0 [(3, .slc 0)], [some (.seq (.pair (.int .i64) (.pair (.int .i64) (.pair (.int .i64) .unit))) t)]⟩))) := .of fun K h => by
  simp only [laws_toDeedS_n3, wpW] at h
  exact .of (by kernel_rfl) h

def laws_toDeedS_n4_l (x511 : List (Int × Int × Int × Unit)) (x515 : List (Int × Int × Int × Unit)) := (link_loop (mk := fun (s : Int × (List (Int × Int × Int × Unit))) => ⟨mkE 23 0 [(0, .dat (.list (.pair (.int .i64) (.pair (.int .i64) (.pair (.int .i64) .unit)))) x511), (3, .slc 0), (4, dI s.1)], [some (.seq (.pair (.int .i64) (.pair (.int .i64) (.pair (.int .i64) .unit))) s.2)]⟩) (fin := (fun (t : (List (Int × Int × Int × Unit))) => ((Exit.exit 0), ⟨mkE 23 0 [(3, .slc 0)], [some (.seq (.pair (.int .i64) (.pair (.int .i64) (.pair (.int .i64) .unit))) t)]⟩))) (by
  rintro t f K h
  · exact h) (fun s => link_map (laws_toDeedS_n3_l x511 s.1 s.2) (Sum.elim (fun (t : Int × (List (Int × Int × Int × Unit))) => Sum.inl (t.1, t.2)) (fun (t : (List (Int × Int × Int × Unit))) => Sum.inr t)) (by
  rintro (t | t)
  · kernel_rfl
  · kernel_rfl)) (0, x515))

def laws_toDeedS_n5_l (x511 : List (Int × Int × Int × Unit)) (x515 : List (Int × Int × Int × Unit)) := (link_block (fin2 := (fun (t : (List (Int × Int × Int × Unit))) => (Exit.normal, ⟨mkE 23 0 [(3, .slc 0)], [some (.seq (.pair (.int .i64) (.pair (.int .i64) (.pair (.int .i64) .unit))) t)]⟩))) (id := 0) (laws_toDeedS_n4_l x511 x515) (fun (t : (List (Int × Int × Int × Unit))) => t) (by
  rintro t K h
  · exact Eq.mp (by kernel_rfl) h))

def laws_toDeedS_n6_l (x511 : List (Int × Int × Int × Unit)) (x515 : List (Int × Int × Int × Unit)) := (link_seq (laws_toDeedS_n2_l x511 x515) (fun (t : Unit) => (laws_toDeedS_n5_l x511 x515)))

theorem laws_toDeedS_n7_l (x565 : List (Int × Int × Int × Unit)) : Link laws_toDeedS_ctx LL (cq [1,1,1] (bodyOf Tryd.f15)) (aq [1,1,1] laws_toDeedS_an) ⟨mkE 23 0 [(3, .slc 0)], [some (.seq (.pair (.int .i64) (.pair (.int .i64) (.pair (.int .i64) .unit))) x565)]⟩ (laws_toDeedS_n7 x565) (fun (t : (List (Int × Int × Int × Unit))) => (Exit.ret, ⟨mkE 23 0 [(2, .slc 0)], [some (.seq (.pair (.int .i64) (.pair (.int .i64) (.pair (.int .i64) .unit))) t)]⟩)) := .of fun K h => by
  simp only [laws_toDeedS_n7, wpW] at h
  exact .of (by kernel_rfl) h

def laws_toDeedS_n8_l (x511 : List (Int × Int × Int × Unit)) (x515 : List (Int × Int × Int × Unit)) := (link_seq (laws_toDeedS_n6_l x511 x515) (fun (t : (List (Int × Int × Int × Unit))) => (laws_toDeedS_n7_l t)))

def laws_toDeedS_n9_l (x511 : List (Int × Int × Int × Unit)) := (link_group (c := (cq [0,1] (bodyOf Tryd.f15))) (a := (aq [0,1] laws_toDeedS_an)) [(cq [0] (bodyOf Tryd.f15))] [(aq [0] laws_toDeedS_an)] rfl (link_seq (laws_toDeedS_n1_l x511) (fun (t : (List (Int × Int × Int × Unit))) => (laws_toDeedS_n8_l x511 t))))

theorem laws_toDeedS_e (x511 : List (Int × Int × Int × Unit)) {r : AV} {H' : Heap} (h : (Ans.mk _ (laws_toDeedS x511) (fun (t : (List (Int × Int × Int × Unit))) => (.slc 0, [some (.seq (.pair (.int .i64) (.pair (.int .i64) (.pair (.int .i64) .unit))) t)])) [] none).run = some (r, H')) : Awp laws_toDeedS_ctx LL (bodyOf Tryd.f15) laws_toDeedS_an ⟨mkE 23 0 [(0, .dat (.list (.pair (.int .i64) (.pair (.int .i64) (.pair (.int .i64) .unit)))) x511)], []⟩ (Ret (tlook tys) Tryd.f15.results.toList r H') :=
  ret_of' (Link.cast (by kernel_rfl) (by kernel_rfl) (laws_toDeedS_n9_l x511)) (by unfold laws_toDeedS; kernel_rfl) (by
  intro t
  exact ret_mk [.slc 0] (by kernel_rfl) (by kernel_rfl) (by kernel_rfl) (by kernel_rfl)) h

def F_laws_toDeedS : Fun := fun avs H =>
  match avs, H with
  | [.dat (.list (.pair (.int .i64) (.pair (.int .i64) (.pair (.int .i64) .unit)))) x511], [] => ⟨_, laws_toDeedS x511, fun (t : (List (Int × Int × Int × Unit))) => (.slc 0, [some (.seq (.pair (.int .i64) (.pair (.int .i64) (.pair (.int .i64) .unit))) t)]), [], none⟩
  | _, _ => Ans.no

theorem laws_toDeedS_sound : Sound Tryd.prog 15 F_laws_toDeedS := by
  refine fn_sound' (C := laws_toDeedS_ctx) (c := bodyOf Tryd.f15) (cok_of tys_ok (allc laws_toDeed_sound alln) (allc Tryd.call8 alln) (by kernel_rfl)) Tryd.func15 (by kernel_rfl) LL laws_toDeedS_an ?_
  intro avs H r H' h
  unfold F_laws_toDeedS at h
  split at h
  · refine Awp.cast ?_ ?_ ?_ (laws_toDeedS_e _ h) <;> kernel_rfl
  · simp [Ans.no, Ans.run] at h


/-! loop.example/headtrees/spec.JournalText -/

def spec_JournalText_an : Ann := (.seq (.leaf [0]) (.seq (.leaf [0, 3]) (.seq (.seq (.leaf [0, 3, 4]) (.block (.loop (.seq (.seq (.leaf [0, 3, 4, 8]) (.cond (.leaf [0, 3, 4]) (.leaf [3]))) (.seq (.block (.seq (.seq (.leaf [0, 3, 4, 16]) (.cond (.seq (.leaf [2]) (.leaf [2])) (.leaf [0, 3, 4]))) (.leaf [0, 3, 4]))) (.leaf [0, 3, 4])))))) (.seq (.leaf [2]) (.leaf [2])))))

noncomputable def spec_JournalText_ctx : Ctx := ⟨tlook tys, olook [(7, F_spec_DeedText)], ioF, 0, false, []⟩

theorem spec_JournalText_n1_l (x614 : List (Int × Int × Int × Unit)) : Link spec_JournalText_ctx LL (Code.seq (cq [0] (bodyOf Tryd.f14)) (cq [0,1] (bodyOf Tryd.f14))) (Ann.seq (aq [0] spec_JournalText_an) (aq [0,1] spec_JournalText_an)) ⟨mkE 26 0 [(0, .dat (.list (.pair (.int .i64) (.pair (.int .i64) (.pair (.int .i64) .unit)))) x614)], []⟩ (spec_JournalText_n1) (fun (t : Unit) => (Exit.normal, ⟨mkE 26 0 [(0, .dat (.list (.pair (.int .i64) (.pair (.int .i64) (.pair (.int .i64) .unit)))) x614), (3, dS ByteArray.empty)], []⟩)) := .of fun K h => by
  simp only [spec_JournalText_n1, wpW] at h
  exact .of (by kernel_rfl) h

theorem spec_JournalText_n2_l (x614 : List (Int × Int × Int × Unit)) : Link spec_JournalText_ctx LL (cq [0,0,1,1] (bodyOf Tryd.f14)) (aq [0,0,1,1] spec_JournalText_an) ⟨mkE 26 0 [(0, .dat (.list (.pair (.int .i64) (.pair (.int .i64) (.pair (.int .i64) .unit)))) x614), (3, dS ByteArray.empty)], []⟩ (spec_JournalText_n2) (fun (t : Unit) => (Exit.normal, ⟨mkE 26 0 [(0, .dat (.list (.pair (.int .i64) (.pair (.int .i64) (.pair (.int .i64) .unit)))) x614), (3, dS ByteArray.empty), (4, dI 0)], []⟩)) := .of fun K h => by
  simp only [spec_JournalText_n2, wpW] at h
  exact .of (by kernel_rfl) h

theorem spec_JournalText_n3_l (x614 : List (Int × Int × Int × Unit)) (x661 : ByteArray) (x662 : Int) : Link spec_JournalText_ctx LL (cq [0,0,1,0,1,1] (bodyOf Tryd.f14)) (aq [0,0,1,0,1,1] spec_JournalText_an) ⟨mkE 26 0 [(0, .dat (.list (.pair (.int .i64) (.pair (.int .i64) (.pair (.int .i64) .unit)))) x614), (3, dS x661), (4, dI x662)], []⟩ (spec_JournalText_n3 x614 x661 x662) (Sum.elim (fun (t : ByteArray × Int) => (Exit.normal, ⟨mkE 26 0 [(0, .dat (.list (.pair (.int .i64) (.pair (.int .i64) (.pair (.int .i64) .unit)))) x614), (3, dS t.1), (4, dI t.2)], []⟩)) (Sum.elim (fun (t : ByteArray) => (Exit.ret, ⟨mkE 26 0 [(2, dS t)], []⟩)) (fun (t : ByteArray) => ((Exit.exit 0), ⟨mkE 26 0 [(3, dS t)], []⟩)))) := .of fun K h => by
  simp only [spec_JournalText_n3, wpW] at h
  exact .of (by kernel_rfl) h

def spec_JournalText_n4_l (x614 : List (Int × Int × Int × Unit)) := (link_loop (mk := fun (s : ByteArray × Int) => ⟨mkE 26 0 [(0, .dat (.list (.pair (.int .i64) (.pair (.int .i64) (.pair (.int .i64) .unit)))) x614), (3, dS s.1), (4, dI s.2)], []⟩) (fin := (Sum.elim (fun (t : ByteArray) => (Exit.ret, ⟨mkE 26 0 [(2, dS t)], []⟩)) (fun (t : ByteArray) => ((Exit.exit 0), ⟨mkE 26 0 [(3, dS t)], []⟩)))) (by
  rintro (t | t) f K h
  · exact h
  · exact h) (fun s => link_map (spec_JournalText_n3_l x614 s.1 s.2) (Sum.elim (fun (t : ByteArray × Int) => Sum.inl (t.1, t.2)) (Sum.elim (fun (t : ByteArray) => Sum.inr (Sum.inl t)) (fun (t : ByteArray) => Sum.inr (Sum.inr t)))) (by
  rintro (t | t | t)
  · kernel_rfl
  · kernel_rfl
  · kernel_rfl)) (ByteArray.empty, 0))

def spec_JournalText_n5_l (x614 : List (Int × Int × Int × Unit)) := (link_block (fin2 := (Sum.elim (fun (t : ByteArray) => (Exit.normal, ⟨mkE 26 0 [(3, dS t)], []⟩)) (fun (t : ByteArray) => (Exit.ret, ⟨mkE 26 0 [(2, dS t)], []⟩)))) (id := 0) (spec_JournalText_n4_l x614) (Sum.elim (fun (t : ByteArray) => (Sum.inr t)) (fun (t : ByteArray) => (Sum.inl t))) (by
  rintro (t | t) K h
  · exact Eq.mp (by kernel_rfl) h
  · exact Eq.mp (by kernel_rfl) h))

def spec_JournalText_n6_l (x614 : List (Int × Int × Int × Unit)) := (link_seq (spec_JournalText_n2_l x614) (fun (t : Unit) => (spec_JournalText_n5_l x614)))

theorem spec_JournalText_n7_l (x661 : ByteArray) : Link spec_JournalText_ctx LL (cq [1,1,1] (bodyOf Tryd.f14)) (aq [1,1,1] spec_JournalText_an) ⟨mkE 26 0 [(3, dS x661)], []⟩ (spec_JournalText_n7 x661) (fun (t : ByteArray) => (Exit.ret, ⟨mkE 26 0 [(2, dS t)], []⟩)) := .of fun K h => by
  simp only [spec_JournalText_n7, wpW] at h
  exact .of (by kernel_rfl) h

def spec_JournalText_n8_l (x614 : List (Int × Int × Int × Unit)) := (link_seq2 (spec_JournalText_n6_l x614) (fun (t : ByteArray) => (spec_JournalText_n7_l t)) (fun (t : ByteArray) => t) (by
  rintro t
  · kernel_rfl) (by
  rintro t f K h
  · exact h))

def spec_JournalText_n9_l (x614 : List (Int × Int × Int × Unit)) := (link_group (c := (cq [0,1] (bodyOf Tryd.f14))) (a := (aq [0,1] spec_JournalText_an)) [(cq [0] (bodyOf Tryd.f14))] [(aq [0] spec_JournalText_an)] rfl (link_seq (spec_JournalText_n1_l x614) (fun (t : Unit) => (spec_JournalText_n8_l x614))))

theorem spec_JournalText_e (x614 : List (Int × Int × Int × Unit)) {r : AV} {H' : Heap} (h : (Ans.mk _ (spec_JournalText x614) (fun (t : ByteArray) => (dS t, [])) [] none).run = some (r, H')) : Awp spec_JournalText_ctx LL (bodyOf Tryd.f14) spec_JournalText_an ⟨mkE 26 0 [(0, .dat (.list (.pair (.int .i64) (.pair (.int .i64) (.pair (.int .i64) .unit)))) x614)], []⟩ (Ret (tlook tys) Tryd.f14.results.toList r H') :=
  ret_of' (Link.cast (by kernel_rfl) (by kernel_rfl) (spec_JournalText_n9_l x614)) (by unfold spec_JournalText; kernel_rfl) (by
  intro t
  exact ret_mk [dS t] (by kernel_rfl) (by kernel_rfl) (by kernel_rfl) (by kernel_rfl)) h

def F_spec_JournalText : Fun := fun avs H =>
  match avs, H with
  | [.dat (.list (.pair (.int .i64) (.pair (.int .i64) (.pair (.int .i64) .unit)))) x614], [] => ⟨_, spec_JournalText x614, fun (t : ByteArray) => (dS t, []), [], none⟩
  | _, _ => Ans.no

theorem spec_JournalText_sound : Sound Tryd.prog 14 F_spec_JournalText := by
  refine fn_sound' (C := spec_JournalText_ctx) (c := bodyOf Tryd.f14) (cok_of tys_ok (allc spec_DeedText_sound alln) (allc Tryd.call7 alln) (by kernel_rfl)) Tryd.func14 (by kernel_rfl) LL spec_JournalText_an ?_
  intro avs H r H' h
  unfold F_spec_JournalText at h
  split at h
  · refine Awp.cast ?_ ?_ ?_ (spec_JournalText_e _ h) <;> kernel_rfl
  · simp [Ans.no, Ans.run] at h


/-! loop.example/headtrees/impl.JournalText -/

def ren_impl_JournalText : Go.Shelf.Ren := ⟨fun | 166 => 32 | 169 => 33 | 240 => 40 | 276 => 51 | n => n, fun | 0 => 0 | 3 => 3 | 4 => 4 | 5 => 5 | 9 => 9 | 20 => 20 | 37 => 57 | 70 => 56 | 72 => 59 | 75 => 53 | 80 => 60 | 127 => 65 | 164 => 75 | n => n, fun | n => n⟩
theorem lay_impl_JournalText_w : Lays.n166 Tryd.prog ren_impl_JournalText := {
  mixed := by kernel_rfl
  f166 := Tryd.func32.trans (congrArg some (by kernel_rfl))
  f240 := Tryd.func40.trans (congrArg some (by kernel_rfl))
  f276 := Tryd.func51.trans (congrArg some (by kernel_rfl))
  t0 := Tryd.underlying0
  a0 := Tryd.isAgg0
  z0 := Tryd.sizeOf0
  v0 := Tryd.zeroValue0
  t3 := Tryd.underlying3
  a3 := Tryd.isAgg3
  z3 := Tryd.sizeOf3
  v3 := Tryd.zeroValue3
  t4 := Tryd.underlying4
  a4 := Tryd.isAgg4
  z4 := Tryd.sizeOf4
  v4 := Tryd.zeroValue4
  t9 := Tryd.underlying9
  a9 := Tryd.isAgg9
  z9 := Tryd.sizeOf9
  v9 := Tryd.zeroValue9
  t20 := Tryd.underlying20
  a20 := Tryd.isAgg20
  z20 := Tryd.sizeOf20
  v20 := Tryd.zeroValue20
  t37 := Tryd.underlying57
  a37 := Tryd.isAgg57
  z37 := Tryd.sizeOf57
  v37 := Tryd.zeroValue57
  t70 := Tryd.underlying56
  a70 := Tryd.isAgg56
  z70 := Tryd.sizeOf56
  v70 := Tryd.zeroValue56
  t72 := Tryd.underlying59
  a72 := Tryd.isAgg59
  z72 := Tryd.sizeOf59
  v72 := Tryd.zeroValue59
  t75 := Tryd.underlying53
  a75 := Tryd.isAgg53
  z75 := Tryd.sizeOf53
  v75 := Tryd.zeroValue53
  t164 := Tryd.underlying75
  a164 := Tryd.isAgg75
  z164 := Tryd.sizeOf75
  v164 := Tryd.zeroValue75 }
theorem lay_impl_JournalText_s : Lays.n169 Tryd.prog ren_impl_JournalText := {
  mixed := by kernel_rfl
  f169 := Tryd.func33.trans (congrArg some (by kernel_rfl))
  t0 := Tryd.underlying0
  a0 := Tryd.isAgg0
  z0 := Tryd.sizeOf0
  v0 := Tryd.zeroValue0
  t3 := Tryd.underlying3
  a3 := Tryd.isAgg3
  z3 := Tryd.sizeOf3
  v3 := Tryd.zeroValue3
  t9 := Tryd.underlying9
  a9 := Tryd.isAgg9
  z9 := Tryd.sizeOf9
  v9 := Tryd.zeroValue9
  t37 := Tryd.underlying57
  a37 := Tryd.isAgg57
  z37 := Tryd.sizeOf57
  v37 := Tryd.zeroValue57
  t70 := Tryd.underlying56
  a70 := Tryd.isAgg56
  z70 := Tryd.sizeOf56
  v70 := Tryd.zeroValue56
  t72 := Tryd.underlying59
  a72 := Tryd.isAgg59
  z72 := Tryd.sizeOf59
  v72 := Tryd.zeroValue59
  t127 := Tryd.underlying65
  a127 := Tryd.isAgg65
  z127 := Tryd.sizeOf65
  v127 := Tryd.zeroValue65 }
theorem lay_impl_JournalText_x : Builder.Extra Tryd.prog ren_impl_JournalText := {
  sizeBuilder := by kernel_rfl
  liesBuilder := by kernel_rfl
  t5 := Tryd.underlying5
  a5 := Tryd.isAgg5
  z5 := Tryd.sizeOf5
  v5 := Tryd.zeroValue5
  infoByte := by kernel_rfl
  cellsByte := by kernel_rfl
  sizeByte := by kernel_rfl
  neB5 := by decide }

set_option maxRecDepth 100000 in
theorem impl_JournalText_walk (xs : List DeedV) (a : Option Addr) (cap : Nat) (t : ByteArray) (w : World)
    (hD0 : ∀ (d : DeedV) (s : ByteArray) (w' : World), (fun d : DeedV => impl_DeedText d.1 d.2.1 d.2.2.1) d = some s → Go.RowKit.Below w.heap.size w w' → Calls Tryd.prog 9 #[deedVal d] w' fun e w'' => e = .returned (.string s) ∧ Go.RowKit.Below w'.heap.size w' w'')
    (hc0 : DeedCells w a xs) (hn : xs.length ≤ 1099511627776) (hcap : xs.length ≤ cap) (ht0 : jtext (fun d : DeedV => impl_DeedText d.1 d.2.1 d.2.2.1) xs ByteArray.empty = some t) :
    Calls Tryd.prog 16 #[.slice a xs.length cap] w fun e w' => e = .returned (.string t) ∧ Go.RowKit.Below w.heap.size w w' := by
  generalize (fun d : DeedV => impl_DeedText d.1 d.2.1 d.2.2.1) = g at hD0 ht0
  have HC : Go.RowKit.Hid (DeedCells w a xs) := hc0
  have HD : Go.RowKit.Hid (∀ (d : DeedV) (s : ByteArray) (w' : World), g d = some s → Go.RowKit.Below w.heap.size w w' → Calls Tryd.prog 9 #[deedVal d] w' fun e w'' => e = .returned (.string s) ∧ Go.RowKit.Below w'.heap.size w' w'') := hD0
  have HT : Go.RowKit.Hid (jtext g xs ByteArray.empty = some t) := ht0
  clear hc0 hD0 ht0
  go_enter Tryd.func16, Tryd.ntmps16
  go_wp2_with fail
  go_loopw [9] (fun i wr => ∃ k : Nat, k ≤ xs.length ∧ i = .int .i64 k ∧ Go.RowKit.Hid (∃ acc, jtext g (xs.drop k) acc = some t ∧ Lib.IsBuilderF 59 5 w.heap.size w.heap.size (Lib.byteCells acc.data.toList) wr) ∧ Go.RowKit.Hid (Go.RowKit.Below w.heap.size w wr)) (fun i _ => xs.length - (Go.RowKit.intOf i).toNat)
  case atStart => exact ⟨0, Nat.zero_le _, rfl, ⟨ByteArray.empty, HT.out, bld_new w⟩, (Go.RowKit.Below.refl _ _).alloc (Nat.le_refl _) _⟩
  case round =>
    obtain ⟨k, hk, rfl, HA, HW⟩ := hrel
    by_cases hkn : k < xs.length
    · obtain ⟨acc, hj, hB⟩ := HA.out
      have hd : xs[k]? = some xs[k] := List.getElem?_eq_getElem hkn
      obtain ⟨b, o, rfl, hb, c0, c1, c2⟩ := HC.out k _ hd
      rw [← HW.out.cell (p := ⟨b, _, none⟩) hb] at c0 c1 c2
      rw [List.drop_eq_getElem_cons hkn, jtext] at hj
      generalize xs[k] = d at hd c0 c1 c2 hj
      obtain ⟨s, hs, hj⟩ := Option.bind_eq_some_iff.1 hj
      have Hj := (show Go.RowKit.Hid _ from hj)
      clear hj
      go_wp2_with fail
      refine Calls.mono (HD.out d s _ hs (HW.out.alloc HW.out.size _)) ?_
      rintro e w1 ⟨rfl, hb1⟩
      have HB1 : Go.RowKit.Hid (Lib.IsBuilderF 59 5 w.heap.size w.heap.size (Lib.byteCells acc.data.toList) w1) := bld_keep hB (fun q hq => (hb1.block q (by simp; omega)).trans (Go.RowKit.Below.heap_alloc _ _ _ hq))
      have HW1 : Go.RowKit.Hid (Go.RowKit.Below w.heap.size w w1) := (HW.out.alloc HW.out.size _).trans (hb1.mono (by have := HW.out.size; simp; omega))
      clear hb1
      by_cases hse : s = ByteArray.empty
      · subst hse
        have ht : t = ByteArray.empty := by
          have := Hj.out
          rw [if_pos rfl] at this
          exact (Option.some.inj this).symm
        subst ht
        go_wp2_with fail
        go_ret
        exact ⟨rfl, HW1.out⟩
      · have hj := Hj.out
        rw [if_neg hse] at hj
        split at hj
        · rename_i hsz
          have hemp : s.toList.isEmpty = false := by
            rw [Bool.eq_false_iff]
            intro h
            rw [List.isEmpty_iff, Lib.toList_data] at h
            exact hse (ByteArray.ext (Array.toList_inj.mp h))
          have hle : ¬ 9223372036854775807 < s.size + 1 := by omega
          have hal : (Lib.byteCells acc.data.toList).length = acc.size := by rw [Lib.byteCells_length, Lib.size_eq]
          have cW := Any.Builder_WriteString_k lay_impl_JournalText_w lay_impl_JournalText_x w.heap.size w.heap.size (Lib.byteCells acc.data.toList) (s ++ ByteArray.mk #[10]) w1 HB1.out (by rw [hal, ByteArray.size_append]; exact hsz.2) HW1.out.size
          have hnext : Lib.byteCells acc.data.toList ++ Lib.strCells (s ++ ByteArray.mk #[10]) = Lib.byteCells (acc ++ (s ++ ByteArray.mk #[10])).data.toList := by
            rw [Lib.strCells_eq, ← Lib.byteCells_append, show (acc ++ (s ++ ByteArray.mk #[10])).data = acc.data ++ (s ++ ByteArray.mk #[10]).data from ByteArray.data_append, Array.toList_append]
          rw [hnext] at cW
          have Hj2 := (show Go.RowKit.Hid _ from hj)
          have HCW := (show Go.RowKit.Hid _ from cW)
          clear hj cW hnext hal
          go_wp2_with fail
          refine Calls.mono HCW.out ?_
          rintro e w2 ⟨rfl, h2, hb2, _⟩
          have HB2 := (show Go.RowKit.Hid _ from h2)
          have HW2 := (show Go.RowKit.Hid _ from HW1.out.trans hb2)
          clear h2 hb2
          go_wp2
          go_roundw
          case rel => exact ⟨k + 1, by omega, by go_num, ⟨⟨_, Hj2.out, .inr HB2.out⟩, HW2⟩⟩
          case measure => simp [Go.RowKit.intOf]; omega
        · cases hj
    · have hke : k = xs.length := by omega
      subst hke
      obtain ⟨acc, hj, hB⟩ := HA.out
      rw [List.drop_eq_nil_of_le (Nat.le_refl _), jtext] at hj
      obtain rfl := Option.some.inj hj
      have HCS := (show Go.RowKit.Hid _ from Any.Builder_String_any_k lay_impl_JournalText_s lay_impl_JournalText_x w.heap.size w.heap.size acc.data.toList wr hB HW.out.size)
      clear hj
      go_wp2_with fail
      refine Calls.mono HCS.out ?_
      rintro e w2 ⟨rfl, _, hb2, _⟩
      have HW2 := (show Go.RowKit.Hid _ from HW.out.trans hb2)
      go_wp2
      go_ret
      exact ⟨rfl, HW2.out⟩

def F_impl_JournalText : Fun := F_jtext (fun d : DeedV => impl_DeedText d.1 d.2.1 d.2.2.1)
theorem impl_JournalText_sound : Sound Tryd.prog 16 F_impl_JournalText := jtext_sound (g := (fun d : DeedV => impl_DeedText d.1 d.2.1 d.2.2.1)) (fun _ => rfl) impl_DeedText_sound impl_JournalText_walk


/-! loop.example/headtrees/laws.eqDeed -/

def laws_eqDeed_an : Ann := (.seq (.leaf [2, 3]) (.seq (.seq (.leaf [2, 3, 9]) (.cond (.seq (.leaf [4]) (.leaf [4])) (.leaf [2, 3]))) (.seq (.seq (.leaf [2, 3, 14]) (.cond (.seq (.leaf [4]) (.leaf [4])) (.leaf [2, 3]))) (.seq (.seq (.leaf [19]) (.cond (.seq (.leaf [4]) (.leaf [4])) (.leaf []))) (.seq (.leaf [4]) (.leaf [4]))))))

noncomputable def laws_eqDeed_ctx : Ctx := ⟨tlook tys, olook [], ioF, 0, false, []⟩

theorem laws_eqDeed_n1_l (x764 : Int) (x765 : Int) (x766 : Int) (x767 : Int) (x768 : Int) (x769 : Int) : Link laws_eqDeed_ctx LL (bodyOf Tryd.f12) laws_eqDeed_an ⟨mkE 20 0 [(0, .agg [dI x764, dI x765, dI x766]), (1, .agg [dI x767, dI x768, dI x769])], []⟩ (laws_eqDeed_n1 x764 x765 x766 x767 x768 x769) (fun (t : Bool) => (Exit.ret, ⟨mkE 20 0 [(4, dB t)], []⟩)) := .of fun K h => by
  simp only [laws_eqDeed_n1, wpW] at h
  exact .of (by kernel_rfl) h

theorem laws_eqDeed_e (x764 : Int) (x765 : Int) (x766 : Int) (x767 : Int) (x768 : Int) (x769 : Int) {r : AV} {H' : Heap} (h : (Ans.mk _ (laws_eqDeed x764 x765 x766 x767 x768 x769) (fun (t : Bool) => (dB t, [])) [] none).run = some (r, H')) : Awp laws_eqDeed_ctx LL (bodyOf Tryd.f12) laws_eqDeed_an ⟨mkE 20 0 [(0, .agg [dI x764, dI x765, dI x766]), (1, .agg [dI x767, dI x768, dI x769])], []⟩ (Ret (tlook tys) Tryd.f12.results.toList r H') :=
  ret_of' (laws_eqDeed_n1_l x764 x765 x766 x767 x768 x769) (by unfold laws_eqDeed; kernel_rfl) (by
  intro t
  exact ret_mk [dB t] (by kernel_rfl) (by kernel_rfl) (by kernel_rfl) (by kernel_rfl)) h

def F_laws_eqDeed : Fun := fun avs H =>
  match avs, H with
  | [.agg [.dat (.int .i64) x764, .dat (.int .i64) x765, .dat (.int .i64) x766], .agg [.dat (.int .i64) x767, .dat (.int .i64) x768, .dat (.int .i64) x769]], [] => ⟨_, laws_eqDeed x764 x765 x766 x767 x768 x769, fun (t : Bool) => (dB t, []), [], none⟩
  | _, _ => Ans.no

theorem laws_eqDeed_sound : Sound Tryd.prog 12 F_laws_eqDeed := by
  refine fn_sound' (C := laws_eqDeed_ctx) (c := bodyOf Tryd.f12) (cok_of tys_ok (alln) (alln) (by kernel_rfl)) Tryd.func12 (by kernel_rfl) LL laws_eqDeed_an ?_
  intro avs H r H' h
  unfold F_laws_eqDeed at h
  split at h
  · refine Awp.cast ?_ ?_ ?_ (laws_eqDeed_e _ _ _ _ _ _ h) <;> kernel_rfl
  · simp [Ans.no, Ans.run] at h


/-! loop.example/headtrees/laws.eqDeedS -/

def laws_eqDeedS_an : Ann := (.seq (.leaf [0, 1]) (.seq (.seq (.leaf [0, 1, 10]) (.cond (.seq (.leaf [4]) (.leaf [4])) (.leaf [0, 1]))) (.seq (.seq (.leaf [0, 1, 5]) (.block (.loop (.seq (.seq (.leaf [0, 1, 5, 14]) (.cond (.leaf [0, 1, 5]) (.leaf []))) (.seq (.block (.seq (.draw [8] [0, 1, 2, 3, 4, 5, 6, 7, 8, 9] [] [0, 1, 5, 26]) (.cond (.seq (.leaf [4]) (.leaf [4])) (.leaf [0, 1, 5])))) (.leaf [0, 1, 5])))))) (.seq (.leaf [4]) (.leaf [4])))))

noncomputable def laws_eqDeedS_ctx : Ctx := ⟨tlook tys, olook [(12, F_laws_eqDeed)], ioF, 0, false, []⟩

theorem laws_eqDeedS_n1_l (x741 : List (Int × Int × Int × Unit)) (x742 : List (Int × Int × Int × Unit)) : Link laws_eqDeedS_ctx LL (Code.seq (cq [0] (bodyOf Tryd.f17)) (cq [0,1] (bodyOf Tryd.f17))) (Ann.seq (aq [0] laws_eqDeedS_an) (aq [0,1] laws_eqDeedS_an)) ⟨mkE 27 0 [(0, .dat (.list (.pair (.int .i64) (.pair (.int .i64) (.pair (.int .i64) .unit)))) x741), (1, .dat (.list (.pair (.int .i64) (.pair (.int .i64) (.pair (.int .i64) .unit)))) x742)], []⟩ (laws_eqDeedS_n1 x741 x742) (Sum.elim (fun (t : Unit) => (Exit.normal, ⟨mkE 27 0 [(0, .dat (.list (.pair (.int .i64) (.pair (.int .i64) (.pair (.int .i64) .unit)))) x741), (1, .dat (.list (.pair (.int .i64) (.pair (.int .i64) (.pair (.int .i64) .unit)))) x742)], []⟩)) (fun (t : Bool) => (Exit.ret, ⟨mkE 27 0 [(4, dB t)], []⟩))) := .of fun K h => by
  simp only [laws_eqDeedS_n1, wpW] at h
  exact .of (by kernel_rfl) h

theorem laws_eqDeedS_n2_l (x741 : List (Int × Int × Int × Unit)) (x742 : List (Int × Int × Int × Unit)) : Link laws_eqDeedS_ctx LL (cq [0,0,1,1] (bodyOf Tryd.f17)) (aq [0,0,1,1] laws_eqDeedS_an) ⟨mkE 27 0 [(0, .dat (.list (.pair (.int .i64) (.pair (.int .i64) (.pair (.int .i64) .unit)))) x741), (1, .dat (.list (.pair (.int .i64) (.pair (.int .i64) (.pair (.int .i64) .unit)))) x742)], []⟩ (laws_eqDeedS_n2) (fun (t : Unit) => (Exit.normal, ⟨mkE 27 0 [(0, .dat (.list (.pair (.int .i64) (.pair (.int .i64) (.pair (.int .i64) .unit)))) x741), (1, .dat (.list (.pair (.int .i64) (.pair (.int .i64) (.pair (.int .i64) .unit)))) x742), (5, dI 0)], []⟩)) := .of fun K h => by
  simp only [laws_eqDeedS_n2, wpW] at h
  exact .of (by kernel_rfl) h

theorem laws_eqDeedS_n3_l (x741 : List (Int × Int × Int × Unit)) (x742 : List (Int × Int × Int × Unit)) (x804 : Int) : Link laws_eqDeedS_ctx LL (cq [0,0,1,0,1,1] (bodyOf Tryd.f17)) (aq [0,0,1,0,1,1] laws_eqDeedS_an) ⟨mkE 27 0 [(0, .dat (.list (.pair (.int .i64) (.pair (.int .i64) (.pair (.int .i64) .unit)))) x741), (1, .dat (.list (.pair (.int .i64) (.pair (.int .i64) (.pair (.int .i64) .unit)))) x742), (5, dI x804)], []⟩ (laws_eqDeedS_n3 x741 x742 x804) (Sum.elim (fun (t : Int) => (Exit.normal, ⟨mkE 27 0 [(0, .dat (.list (.pair (.int .i64) (.pair (.int .i64) (.pair (.int .i64) .unit)))) x741), (1, .dat (.list (.pair (.int .i64) (.pair (.int .i64) (.pair (.int .i64) .unit)))) x742), (5, dI t)], []⟩)) (Sum.elim (fun (t : Bool) => (Exit.ret, ⟨mkE 27 0 [(4, dB t)], []⟩)) (fun (t : Unit) => ((Exit.exit 0), ⟨mkE 27 0 [], []⟩)))) := .of fun K h => by
  simp only [laws_eqDeedS_n3, wpW] at h
  exact .of (by kernel_rfl) h

def laws_eqDeedS_n4_l (x741 : List (Int × Int × Int × Unit)) (x742 : List (Int × Int × Int × Unit)) := (link_loop (mk := fun (s : Int) => ⟨mkE 27 0 [(0, .dat (.list (.pair (.int .i64) (.pair (.int .i64) (.pair (.int .i64) .unit)))) x741), (1, .dat (.list (.pair (.int .i64) (.pair (.int .i64) (.pair (.int .i64) .unit)))) x742), (5, dI s)], []⟩) (fin := (Sum.elim (fun (t : Bool) => (Exit.ret, ⟨mkE 27 0 [(4, dB t)], []⟩)) (fun (t : Unit) => ((Exit.exit 0), ⟨mkE 27 0 [], []⟩)))) (by
  rintro (t | t) f K h
  · exact h
  · exact h) (fun s => link_map (laws_eqDeedS_n3_l x741 x742 s) (Sum.elim (fun (t : Int) => Sum.inl t) (Sum.elim (fun (t : Bool) => Sum.inr (Sum.inl t)) (fun (t : Unit) => Sum.inr (Sum.inr t)))) (by
  rintro (t | t | t)
  · kernel_rfl
  · kernel_rfl
  · kernel_rfl)) 0)

def laws_eqDeedS_n5_l (x741 : List (Int × Int × Int × Unit)) (x742 : List (Int × Int × Int × Unit)) := (link_block (fin2 := (Sum.elim (fun (t : Unit) => (Exit.normal, ⟨mkE 27 0 [], []⟩)) (fun (t : Bool) => (Exit.ret, ⟨mkE 27 0 [(4, dB t)], []⟩)))) (id := 0) (laws_eqDeedS_n4_l x741 x742) (Sum.elim (fun (t : Bool) => (Sum.inr t)) (fun (t : Unit) => (Sum.inl ()))) (by
  rintro (t | t) K h
  · exact Eq.mp (by kernel_rfl) h
  · exact Eq.mp (by kernel_rfl) h))

def laws_eqDeedS_n6_l (x741 : List (Int × Int × Int × Unit)) (x742 : List (Int × Int × Int × Unit)) := (link_seq (laws_eqDeedS_n2_l x741 x742) (fun (t : Unit) => (laws_eqDeedS_n5_l x741 x742)))

theorem laws_eqDeedS_n7_l : Link laws_eqDeedS_ctx LL (cq [1,1,1] (bodyOf Tryd.f17)) (aq [1,1,1] laws_eqDeedS_an) ⟨mkE 27 0 [], []⟩ (laws_eqDeedS_n7) (fun (t : Bool) => (Exit.ret, ⟨mkE 27 0 [(4, dB t)], []⟩)) := .of fun K h => by
  simp only [laws_eqDeedS_n7, wpW] at h
  exact .of (by kernel_rfl) h

def laws_eqDeedS_n8_l (x741 : List (Int × Int × Int × Unit)) (x742 : List (Int × Int × Int × Unit)) := (link_seq2 (laws_eqDeedS_n6_l x741 x742) (fun (t : Unit) => (laws_eqDeedS_n7_l)) (fun (t : Bool) => t) (by
  rintro t
  · kernel_rfl) (by
  rintro t f K h
  · exact h))

def laws_eqDeedS_n9_l (x741 : List (Int × Int × Int × Unit)) (x742 : List (Int × Int × Int × Unit)) := (link_group (c := (cq [0,1] (bodyOf Tryd.f17))) (a := (aq [0,1] laws_eqDeedS_an)) [(cq [0] (bodyOf Tryd.f17))] [(aq [0] laws_eqDeedS_an)] rfl (link_seq2 (laws_eqDeedS_n1_l x741 x742) (fun (t : Unit) => (laws_eqDeedS_n8_l x741 x742)) (fun (t : Bool) => t) (by
  rintro t
  · kernel_rfl) (by
  rintro t f K h
  · exact h)))

theorem laws_eqDeedS_e (x741 : List (Int × Int × Int × Unit)) (x742 : List (Int × Int × Int × Unit)) {r : AV} {H' : Heap} (h : (Ans.mk _ (laws_eqDeedS x741 x742) (fun (t : Bool) => (dB t, [])) [] none).run = some (r, H')) : Awp laws_eqDeedS_ctx LL (bodyOf Tryd.f17) laws_eqDeedS_an ⟨mkE 27 0 [(0, .dat (.list (.pair (.int .i64) (.pair (.int .i64) (.pair (.int .i64) .unit)))) x741), (1, .dat (.list (.pair (.int .i64) (.pair (.int .i64) (.pair (.int .i64) .unit)))) x742)], []⟩ (Ret (tlook tys) Tryd.f17.results.toList r H') :=
  ret_of' (Link.cast (by kernel_rfl) (by kernel_rfl) (laws_eqDeedS_n9_l x741 x742)) (by unfold laws_eqDeedS; kernel_rfl) (by
  intro t
  exact ret_mk [dB t] (by kernel_rfl) (by kernel_rfl) (by kernel_rfl) (by kernel_rfl)) h

def F_laws_eqDeedS : Fun := fun avs H =>
  match avs, H with
  | [.dat (.list (.pair (.int .i64) (.pair (.int .i64) (.pair (.int .i64) .unit)))) x741, .dat (.list (.pair (.int .i64) (.pair (.int .i64) (.pair (.int .i64) .unit)))) x742], [] => ⟨_, laws_eqDeedS x741 x742, fun (t : Bool) => (dB t, []), [], none⟩
  | _, _ => Ans.no

theorem laws_eqDeedS_sound : Sound Tryd.prog 17 F_laws_eqDeedS := by
  refine fn_sound' (C := laws_eqDeedS_ctx) (c := bodyOf Tryd.f17) (cok_of tys_ok (allc laws_eqDeed_sound alln) (allc Tryd.call12 alln) (by kernel_rfl)) Tryd.func17 (by kernel_rfl) LL laws_eqDeedS_an ?_
  intro avs H r H' h
  unfold F_laws_eqDeedS at h
  split at h
  · refine Awp.cast ?_ ?_ ?_ (laws_eqDeedS_e _ _ h) <;> kernel_rfl
  · simp [Ans.no, Ans.run] at h


/-! loop.example/headtrees/laws.FnExactJournalText -/

def laws_FnExactJournalText_an : Ann := (.seq (.leaf [0]) (.seq (.leaf [0, 3]) (.seq (.leaf [0, 3]) (.seq (.seq (.leaf [0, 11]) (.cond (.seq (.leaf [2]) (.leaf [2])) (.leaf [0]))) (.seq (.leaf [0, 4]) (.seq (.leaf [0, 4, 5]) (.seq (.leaf [0, 4, 5, 6]) (.seq (.seq (.leaf [0, 5, 21]) (.cond (.seq (.leaf [2]) (.leaf [2])) (.leaf [0, 5]))) (.seq (.seq (.leaf [26]) (.cond (.seq (.leaf [2]) (.leaf [2])) (.leaf []))) (.seq (.leaf [2]) (.leaf [2])))))))))))

noncomputable def laws_FnExactJournalText_ctx : Ctx := ⟨tlook tys, olook [(13, F_laws_szDeedS), (15, F_laws_toDeedS), (14, F_spec_JournalText), (16, F_impl_JournalText), (17, F_laws_eqDeedS)], ioF, 0, false, []⟩

theorem laws_FnExactJournalText_n1_l (x489 : List (Int × Int × Int × Unit)) : Link laws_FnExactJournalText_ctx LL (bodyOf Tryd.f5) laws_FnExactJournalText_an ⟨mkE 27 0 [(0, .dat (.list (.pair (.int .i64) (.pair (.int .i64) (.pair (.int .i64) .unit)))) x489)], []⟩ (laws_FnExactJournalText_n1 x489) (fun (t : Bool) => (Exit.ret, ⟨mkE 27 0 [(2, dB t)], []⟩)) := .of fun K h => by
  simp only [laws_FnExactJournalText_n1, wpW] at h
  exact .of (by kernel_rfl) h

theorem laws_FnExactJournalText_e (x489 : List (Int × Int × Int × Unit)) {r : AV} {H' : Heap} (h : (Ans.mk _ (laws_FnExactJournalText x489) (fun (t : Bool) => (dB t, [])) [] none).run = some (r, H')) : Awp laws_FnExactJournalText_ctx LL (bodyOf Tryd.f5) laws_FnExactJournalText_an ⟨mkE 27 0 [(0, .dat (.list (.pair (.int .i64) (.pair (.int .i64) (.pair (.int .i64) .unit)))) x489)], []⟩ (Ret (tlook tys) Tryd.f5.results.toList r H') :=
  ret_of' (laws_FnExactJournalText_n1_l x489) (by unfold laws_FnExactJournalText; kernel_rfl) (by
  intro t
  exact ret_mk [dB t] (by kernel_rfl) (by kernel_rfl) (by kernel_rfl) (by kernel_rfl)) h

def F_laws_FnExactJournalText : Fun := fun avs H =>
  match avs, H with
  | [.dat (.list (.pair (.int .i64) (.pair (.int .i64) (.pair (.int .i64) .unit)))) x489], [] => ⟨_, laws_FnExactJournalText x489, fun (t : Bool) => (dB t, []), [], none⟩
  | _, _ => Ans.no

theorem laws_FnExactJournalText_sound : Sound Tryd.prog 5 F_laws_FnExactJournalText := by
  refine fn_sound' (C := laws_FnExactJournalText_ctx) (c := bodyOf Tryd.f5) (cok_of tys_ok (allc laws_szDeedS_sound (allc laws_toDeedS_sound (allc spec_JournalText_sound (allc impl_JournalText_sound (allc laws_eqDeedS_sound alln))))) (allc Tryd.call13 (allc Tryd.call15 (allc Tryd.call14 (allc Tryd.call16 (allc Tryd.call17 alln))))) (by kernel_rfl)) Tryd.func5 (by kernel_rfl) LL laws_FnExactJournalText_an ?_
  intro avs H r H' h
  unfold F_laws_FnExactJournalText at h
  split at h
  · refine Awp.cast ?_ ?_ ?_ (laws_FnExactJournalText_e _ h) <;> kernel_rfl
  · simp [Ans.no, Ans.run] at h

end Go.Rv
