/-
  The checked code answers as the plain functions do; written by program. Conditions: none.
-/
import Derived.Test.YtihgceegapfngaaDoorGFnExactDeedText
import Derived.Test.YtihgceegapfngaaDoorFB
import Derived.Test.YtihgceegapfngaaDoorFB
import Derived.Test.YtihgceegapfngaaDoorProg
set_option linter.unusedVariables false
set_option linter.unusedSimpArgs false
set_option linter.defProp false
set_option maxRecDepth 100000
namespace Go.Rv
open Go.Proofs
theorem ty3 : TIOk Tryd.prog 3 ⟨.int .i64, 1, 8, some (.int .i64), [.int .i64 0], false⟩ := ⟨⟨infoOf (Tryd.prog.info? 3), by kernel_rfl, by kernel_rfl, by kernel_rfl, .int .i64 0, by kernel_rfl, by kernel_rfl⟩, (by kernel_rfl : Tryd.prog.underlying 3 = some (.int .i64)), no_eq⟩
theorem ty5 : TIOk Tryd.prog 5 ⟨.int .u8, 1, 1, some (.int .u8), [.int .u8 0], false⟩ := ⟨⟨infoOf (Tryd.prog.info? 5), by kernel_rfl, by kernel_rfl, by kernel_rfl, .int .u8 0, by kernel_rfl, by kernel_rfl⟩, (by kernel_rfl : Tryd.prog.underlying 5 = some (.int .u8)), no_eq⟩
theorem ty9 : TIOk Tryd.prog 9 ⟨.str, 1, 16, some .str, [.string ByteArray.empty], false⟩ := ⟨⟨infoOf (Tryd.prog.info? 9), by kernel_rfl, by kernel_rfl, by kernel_rfl, .string ByteArray.empty, by kernel_rfl, by kernel_rfl⟩, (by kernel_rfl : Tryd.prog.underlying 9 = some .string), no_eq⟩
theorem ty23 : TIOk Tryd.prog 23 ⟨.strct [(0, 3), (1, 3), (2, 3)], 3, 24, some (.pair (.int .i64) (.pair (.int .i64) (.pair (.int .i64) .unit))), [.int .i64 0, .int .i64 0, .int .i64 0], false⟩ := ⟨⟨infoOf (Tryd.prog.info? 23), by kernel_rfl, by kernel_rfl, by kernel_rfl, .agg #[.int .i64 0, .int .i64 0, .int .i64 0], by kernel_rfl, by kernel_rfl⟩, ⟨fieldsOf (Tryd.prog.underlying 23), by kernel_rfl, by kernel_rfl⟩, no_eq⟩
theorem ty25 : TIOk Tryd.prog 25 ⟨.strct [(0, 3), (1, 3), (2, 3)], 3, 24, some (.pair (.int .i64) (.pair (.int .i64) (.pair (.int .i64) .unit))), [.int .i64 0, .int .i64 0, .int .i64 0], true⟩ := ⟨⟨infoOf (Tryd.prog.info? 25), by kernel_rfl, by kernel_rfl, by kernel_rfl, .agg #[.int .i64 0, .int .i64 0, .int .i64 0], by kernel_rfl, by kernel_rfl⟩, ⟨fieldsOf (Tryd.prog.underlying 25), by kernel_rfl, by kernel_rfl⟩, fun _ => by kernel_rfl⟩
theorem ty32 : TIOk Tryd.prog 32 ⟨.slice 23, 1, 24, some (.list (.pair (.int .i64) (.pair (.int .i64) (.pair (.int .i64) .unit)))), [.slice none 0 0], false⟩ := ⟨⟨infoOf (Tryd.prog.info? 32), by kernel_rfl, by kernel_rfl, by kernel_rfl, .slice none 0 0, by kernel_rfl, by kernel_rfl⟩, (by kernel_rfl : Tryd.prog.underlying 32 = some (.slice 23)), no_eq⟩
theorem ty35 : TIOk Tryd.prog 35 ⟨.slice 25, 1, 24, some (.list (.pair (.int .i64) (.pair (.int .i64) (.pair (.int .i64) .unit)))), [.slice none 0 0], false⟩ := ⟨⟨infoOf (Tryd.prog.info? 35), by kernel_rfl, by kernel_rfl, by kernel_rfl, .slice none 0 0, by kernel_rfl, by kernel_rfl⟩, (by kernel_rfl : Tryd.prog.underlying 35 = some (.slice 25)), no_eq⟩
theorem ty45 : TIOk Tryd.prog 45 ⟨.arr 6 9, 6, 96, none, [.string ByteArray.empty, .string ByteArray.empty, .string ByteArray.empty, .string ByteArray.empty, .string ByteArray.empty, .string ByteArray.empty], false⟩ := ⟨⟨infoOf (Tryd.prog.info? 45), by kernel_rfl, by kernel_rfl, by kernel_rfl, .agg #[.string ByteArray.empty, .string ByteArray.empty, .string ByteArray.empty, .string ByteArray.empty, .string ByteArray.empty, .string ByteArray.empty], by kernel_rfl, by kernel_rfl⟩, (by kernel_rfl : Tryd.prog.underlying 45 = some (.array 6 9)), no_eq⟩
theorem ty46 : TIOk Tryd.prog 46 ⟨.slice 3, 1, 24, some (.list (.int .i64)), [.slice none 0 0], false⟩ := ⟨⟨infoOf (Tryd.prog.info? 46), by kernel_rfl, by kernel_rfl, by kernel_rfl, .slice none 0 0, by kernel_rfl, by kernel_rfl⟩, (by kernel_rfl : Tryd.prog.underlying 46 = some (.slice 3)), no_eq⟩
theorem ty57 : TIOk Tryd.prog 57 ⟨.slice 5, 1, 24, some (.list (.int .u8)), [.slice none 0 0], false⟩ := ⟨⟨infoOf (Tryd.prog.info? 57), by kernel_rfl, by kernel_rfl, by kernel_rfl, .slice none 0 0, by kernel_rfl, by kernel_rfl⟩, (by kernel_rfl : Tryd.prog.underlying 57 = some (.slice 5)), no_eq⟩
def tys : List (TypeId × TI) := [(3, ⟨.int .i64, 1, 8, some (.int .i64), [.int .i64 0], false⟩), (5, ⟨.int .u8, 1, 1, some (.int .u8), [.int .u8 0], false⟩), (9, ⟨.str, 1, 16, some .str, [.string ByteArray.empty], false⟩), (23, ⟨.strct [(0, 3), (1, 3), (2, 3)], 3, 24, some (.pair (.int .i64) (.pair (.int .i64) (.pair (.int .i64) .unit))), [.int .i64 0, .int .i64 0, .int .i64 0], false⟩), (25, ⟨.strct [(0, 3), (1, 3), (2, 3)], 3, 24, some (.pair (.int .i64) (.pair (.int .i64) (.pair (.int .i64) .unit))), [.int .i64 0, .int .i64 0, .int .i64 0], true⟩), (32, ⟨.slice 23, 1, 24, some (.list (.pair (.int .i64) (.pair (.int .i64) (.pair (.int .i64) .unit)))), [.slice none 0 0], false⟩), (35, ⟨.slice 25, 1, 24, some (.list (.pair (.int .i64) (.pair (.int .i64) (.pair (.int .i64) .unit)))), [.slice none 0 0], false⟩), (45, ⟨.arr 6 9, 6, 96, none, [.string ByteArray.empty, .string ByteArray.empty, .string ByteArray.empty, .string ByteArray.empty, .string ByteArray.empty, .string ByteArray.empty], false⟩), (46, ⟨.slice 3, 1, 24, some (.list (.int .i64)), [.slice none 0 0], false⟩), (57, ⟨.slice 5, 1, 24, some (.list (.int .u8)), [.slice none 0 0], false⟩)]
theorem tys_ok : TOk Tryd.prog (tlook tys) := tok_of (allc ty3 (allc ty5 (allc ty9 (allc ty23 (allc ty25 (allc ty32 (allc ty35 (allc ty45 (allc ty46 (allc ty57 alln))))))))))
def ioF (f : FuncId) (i : Nat) : Bool := [].any fun (p : Nat × Nat) => Nat.beq p.1 f && Nat.beq p.2 i


/-! loop.example/headtrees/laws.toDeed -/

def laws_toDeed_an : Ann := (.seq (.leaf [1, 2]) (.seq (.leaf [1, 2, 3]) (.seq (.leaf [1, 2, 3]) (.seq (.leaf [1, 2, 3]) (.seq (.leaf [2, 3]) (.seq (.leaf [2]) (.leaf [2])))))))

noncomputable def laws_toDeed_ctx : Ctx := ⟨tlook tys, olook [], ioF, 0, false, []⟩

theorem laws_toDeed_n1_l (x8 : Int) (x9 : Int) (x10 : Int) : Link laws_toDeed_ctx LL (bodyOf Tryd.f8) laws_toDeed_an ⟨mkE 14 0 [(0, .agg [dI x8, dI x9, dI x10])], []⟩ (laws_toDeed_n1) (fun (t : Unit) => (Exit.ret, ⟨mkE 14 0 [(2, .ptr 0 0)], [some (.box [dI x8, dI x9, dI x10])]⟩)) := .of fun K h => by
  simp only [laws_toDeed_n1, wpW] at h
  exact .of (by kernel_rfl) h

theorem laws_toDeed_e (x8 : Int) (x9 : Int) (x10 : Int) {r : AV} {H' : Heap} (h : (Ans.mk _ (laws_toDeed x8 x9 x10) (fun (t : Unit) => (.agg [dI x8, dI x9, dI x10], [some (.box [dI x8, dI x9, dI x10])])) [] none).run = some (r, H')) : Awp laws_toDeed_ctx LL (bodyOf Tryd.f8) laws_toDeed_an ⟨mkE 14 0 [(0, .agg [dI x8, dI x9, dI x10])], []⟩ (Ret (tlook tys) Tryd.f8.results.toList r H') :=
  ret_of' (laws_toDeed_n1_l x8 x9 x10) (by unfold laws_toDeed; kernel_rfl) (by
  intro t
  exact ret_mk [.agg [dI x8, dI x9, dI x10]] (by kernel_rfl) (by kernel_rfl) (by kernel_rfl) (by kernel_rfl)) h

def F_laws_toDeed : Fun := fun avs H =>
  match avs, H with
  | [.agg [.dat (.int .i64) x8, .dat (.int .i64) x9, .dat (.int .i64) x10]], [] => ⟨_, laws_toDeed x8 x9 x10, fun (t : Unit) => (.agg [dI x8, dI x9, dI x10], [some (.box [dI x8, dI x9, dI x10])]), [], none⟩
  | _, _ => Ans.no

theorem laws_toDeed_sound : Sound Tryd.prog 8 F_laws_toDeed := by
  refine fn_sound' (C := laws_toDeed_ctx) (c := bodyOf Tryd.f8) (cok_of tys_ok (alln) (alln) (by kernel_rfl)) Tryd.func8 (by kernel_rfl) LL laws_toDeed_an ?_
  intro avs H r H' h
  unfold F_laws_toDeed at h
  split at h
  · refine Awp.cast ?_ ?_ ?_ (laws_toDeed_e _ _ _ h) <;> kernel_rfl
  · simp [Ans.no, Ans.run] at h


/-! loop.example/headtrees/spec.l1In -/

def spec_l1In_an : Ann := (.seq (.leaf [0, 1, 2]) (.seq (.leaf [6]) (.leaf [6])))

noncomputable def spec_l1In_ctx : Ctx := ⟨tlook tys, olook [], ioF, 0, false, []⟩

theorem spec_l1In_n1_l (x20 : Int) (x21 : Int) (x22 : Int) : Link spec_l1In_ctx LL (bodyOf Tryd.f22) spec_l1In_an ⟨mkE 15 0 [(0, dI x20), (1, dI x21), (2, dI x22)], []⟩ (spec_l1In_n1 x20 x21 x22) (fun (t : Bool) => (Exit.ret, ⟨mkE 15 0 [(6, dB t)], []⟩)) := .of fun K h => by
  simp only [spec_l1In_n1, wpW] at h
  exact .of (by kernel_rfl) h

theorem spec_l1In_e (x20 : Int) (x21 : Int) (x22 : Int) {r : AV} {H' : Heap} (h : (Ans.mk _ (spec_l1In x20 x21 x22) (fun (t : Bool) => (dB t, [])) [] none).run = some (r, H')) : Awp spec_l1In_ctx LL (bodyOf Tryd.f22) spec_l1In_an ⟨mkE 15 0 [(0, dI x20), (1, dI x21), (2, dI x22)], []⟩ (Ret (tlook tys) Tryd.f22.results.toList r H') :=
  ret_of' (spec_l1In_n1_l x20 x21 x22) (by unfold spec_l1In; kernel_rfl) (by
  intro t
  exact ret_mk [dB t] (by kernel_rfl) (by kernel_rfl) (by kernel_rfl) (by kernel_rfl)) h

def F_spec_l1In : Fun := fun avs H =>
  match avs, H with
  | [.dat (.int .i64) x20, .dat (.int .i64) x21, .dat (.int .i64) x22], [] => ⟨_, spec_l1In x20 x21 x22, fun (t : Bool) => (dB t, []), [], none⟩
  | _, _ => Ans.no

theorem spec_l1In_sound : Sound Tryd.prog 22 F_spec_l1In := by
  refine fn_sound' (C := spec_l1In_ctx) (c := bodyOf Tryd.f22) (cok_of tys_ok (alln) (alln) (by kernel_rfl)) Tryd.func22 (by kernel_rfl) LL spec_l1In_an ?_
  intro avs H r H' h
  unfold F_spec_l1In at h
  split at h
  · refine Awp.cast ?_ ?_ ?_ (spec_l1In_e _ _ _ h) <;> kernel_rfl
  · simp [Ans.no, Ans.run] at h


/-! loop.example/headtrees/spec.l1Number -/

def spec_l1Number_an : Ann := (.seq (.leaf [0]) (.seq (.seq (.leaf [0, 4]) (.cond (.seq (.leafF [⟨5, 9, false, none, none⟩] [2]) (.leaf [2])) (.leaf [0]))) (.seq (.draw [2, 7] [0, 1, 3, 4, 5, 6, 7, 8, 2, 9, 10] [] [2]) (.leaf [2]))))

def F_spec_l1Number_fuel (n : Nat) : Fun := fun avs H =>
  match avs, H with
  | [.dat (.int .i64) x30], [] => ⟨_, spec_l1Number_fuel n x30, fun (t : ByteArray) => (dS t, []), [], none⟩
  | _, _ => Ans.no

noncomputable def spec_l1Number_ctx (n : Nat) : Ctx := ⟨tlook tys, olook [(23, F_spec_l1Number_fuel n)], ioF, 0, false, []⟩

theorem spec_l1Number_n1_l (n : Nat) (x30 : Int) : Link (spec_l1Number_ctx n) LL (bodyOf Tryd.f23) spec_l1Number_an ⟨mkE 21 0 [(0, dI x30)], []⟩ (spec_l1Number_n1 (spec_l1Number_fuel n) x30) (fun (t : ByteArray) => (Exit.ret, ⟨mkE 21 0 [(2, dS t)], []⟩)) := .of fun K h => by
  simp only [spec_l1Number_n1, wpW] at h
  exact .of (by kernel_rfl) h

theorem spec_l1Number_e (n : Nat) (x30 : Int) {r : AV} {H' : Heap} (h : (Ans.mk _ (spec_l1Number_fuel (n + 1) x30) (fun (t : ByteArray) => (dS t, [])) [] none).run = some (r, H')) : Awp (spec_l1Number_ctx n) LL (bodyOf Tryd.f23) spec_l1Number_an ⟨mkE 21 0 [(0, dI x30)], []⟩ (Ret (tlook tys) Tryd.f23.results.toList r H') :=
  ret_of' (spec_l1Number_n1_l n x30) (by (show _ = _); kernel_rfl) (by
  intro t
  exact ret_mk [dS t] (by kernel_rfl) (by kernel_rfl) (by kernel_rfl) (by kernel_rfl)) h

theorem spec_l1Number_step (n : Nat) (h23 : Sound Tryd.prog 23 (F_spec_l1Number_fuel n)) : Sound Tryd.prog 23 (F_spec_l1Number_fuel (n + 1)) := by
  refine fn_sound' (C := spec_l1Number_ctx n) (c := bodyOf Tryd.f23) (cok_of tys_ok (allc h23 alln) (allc Tryd.call23 alln) (by kernel_rfl)) Tryd.func23 (by kernel_rfl) LL spec_l1Number_an ?_
  intro avs H r H' h
  unfold F_spec_l1Number_fuel at h
  split at h
  · refine Awp.cast ?_ ?_ ?_ (spec_l1Number_e n _ h) <;> kernel_rfl
  · simp [Ans.no, Ans.run] at h

theorem spec_l1Number_null : Sound Tryd.prog 23 (F_spec_l1Number_fuel 0) := by
  intro avs H r H' h
  unfold F_spec_l1Number_fuel at h
  split at h
  · simp [spec_l1Number_fuel, spec_l1Number_knot, Ans.run] at h
  · simp [Ans.no, Ans.run] at h

theorem spec_l1Number_knot_all : ∀ n, Sound Tryd.prog 23 (F_spec_l1Number_fuel n)
  | 0 => spec_l1Number_null
  | n + 1 => by
    have h23 := spec_l1Number_knot_all n
    exact spec_l1Number_step n h23

def F_spec_l1Number : Fun := fun avs H =>
  match avs, H with
  | [.dat (.int .i64) x30], [] => ⟨_, spec_l1Number x30, fun (t : ByteArray) => (dS t, []), [], none⟩
  | _, _ => Ans.no

theorem spec_l1Number_sound : Sound Tryd.prog 23 F_spec_l1Number := by
  have e : F_spec_l1Number = F_spec_l1Number_fuel RR := by
    funext avs H
    unfold F_spec_l1Number F_spec_l1Number_fuel
    split <;> first | rfl | (simp only [spec_l1Number])
  rw [e]
  exact (spec_l1Number_knot_all RR)


/-! loop.example/headtrees/spec.DeedText -/

def spec_DeedText_an : Ann := (.seq (.leaf [1]) (.seq (.block (.seq (.leaf [1, 3]) (.cond (.seq (.draw [2, 7] [0, 1, 5, 6, 2, 3, 4, 7, 8, 9] [] [2]) (.leaf [2])) (.seq (.leaf [1, 26]) (.cond (.seq (.leaf [2]) (.leaf [2])) (.seq (.leaf [1, 44]) (.cond (.seq (.leaf [2]) (.leaf [2])) (.seq (.leaf [1, 48]) (.cond (.seq (.leaf [2]) (.leaf [2])) (.seq (.leaf [1, 52]) (.cond (.seq (.leaf [2]) (.leaf [2])) (.seq (.leaf [56]) (.cond (.seq (.leaf [2]) (.leaf [2])) (.leaf [])))))))))))))) (.seq (.leaf [2]) (.leaf [2]))))

noncomputable def spec_DeedText_ctx : Ctx := ⟨tlook tys, olook [(22, F_spec_l1In), (23, F_spec_l1Number)], ioF, 0, false, []⟩

theorem spec_DeedText_n1_l (x13 : Int) (x14 : Int) (x15 : Int) : Link spec_DeedText_ctx LL (cq [0] (bodyOf Tryd.f7)) (aq [0] spec_DeedText_an) ⟨mkE 60 0 [(0, .agg [dI x13, dI x14, dI x15])], []⟩ (spec_DeedText_n1) (fun (t : Unit) => (Exit.normal, ⟨mkE 60 0 [(1, .ptr 0 0)], [some (.box [dI x13, dI x14, dI x15])]⟩)) := .of fun K h => by
  simp only [spec_DeedText_n1, wpW] at h
  exact .of (by kernel_rfl) h

theorem spec_DeedText_n2_l (x13 : Int) (x14 : Int) (x15 : Int) : Link spec_DeedText_ctx LL (cq [0,0,0,1] (bodyOf Tryd.f7)) (aq [0,0,0,1] spec_DeedText_an) ⟨mkE 60 0 [(1, .ptr 0 0)], [some (.box [dI x13, dI x14, dI x15])]⟩ (spec_DeedText_n2 x13 x14 x15) (fun (t : Bool) => (Exit.normal, ⟨mkE 60 0 [(1, .ptr 0 0), (3, dB t)], [some (.box [dI x13, dI x14, dI x15])]⟩)) := .of fun K h => by
  simp only [spec_DeedText_n2, wpW] at h
  exact .of (by kernel_rfl) h

theorem spec_DeedText_n3_l (x253 : Bool) (x13 : Int) (x14 : Int) (x15 : Int) : Link spec_DeedText_ctx LL (cq [0,1,0,0,1] (bodyOf Tryd.f7)) (aq [0,1,0,0,1] spec_DeedText_an) ⟨mkE 60 0 [(1, .ptr 0 0), (3, dB x253)], [some (.box [dI x13, dI x14, dI x15])]⟩ (spec_DeedText_n3 x14 x15) (fun (t : ByteArray) => (Exit.ret, ⟨mkE 60 0 [(2, dS t)], []⟩)) := .of fun K h => by
  simp only [spec_DeedText_n3, wpW] at h
  exact .of (by kernel_rfl) h

theorem spec_DeedText_n4_l (x253 : Bool) (x13 : Int) (x14 : Int) (x15 : Int) : Link spec_DeedText_ctx LL (cq [0,1,1,0,0,1] (bodyOf Tryd.f7)) (aq [0,1,1,0,0,1] spec_DeedText_an) ⟨mkE 60 0 [(1, .ptr 0 0), (3, dB x253)], [some (.box [dI x13, dI x14, dI x15])]⟩ (spec_DeedText_n4 x13 x14 x15) (fun (t : Bool) => (Exit.normal, ⟨mkE 60 0 [(1, .ptr 0 0), (26, dB t)], [some (.box [dI x13, dI x14, dI x15])]⟩)) := .of fun K h => by
  simp only [spec_DeedText_n4, wpW] at h
  exact .of (by kernel_rfl) h

theorem spec_DeedText_n5_l (x351 : Bool) (x13 : Int) (x14 : Int) (x15 : Int) : Link spec_DeedText_ctx LL (cq [1,1,1,0,0,1] (bodyOf Tryd.f7)) (aq [1,1,1,0,0,1] spec_DeedText_an) ⟨mkE 60 0 [(1, .ptr 0 0), (26, dB x351)], [some (.box [dI x13, dI x14, dI x15])]⟩ (spec_DeedText_n5 x351 x13 x14 x15) (Sum.elim (fun (t : Unit) => (Exit.normal, ⟨mkE 60 0 [], []⟩)) (fun (t : ByteArray) => (Exit.ret, ⟨mkE 60 0 [(2, dS t)], []⟩))) := .of fun K h => by
  simp only [spec_DeedText_n5, wpW] at h
  exact .of (by kernel_rfl) h

def spec_DeedText_n6_l (x253 : Bool) (x13 : Int) (x14 : Int) (x15 : Int) := (link_seq (spec_DeedText_n4_l x253 x13 x14 x15) (fun (t : Bool) => (spec_DeedText_n5_l t x13 x14 x15)))

def spec_DeedText_n7_l (x253 : Bool) (x13 : Int) (x14 : Int) (x15 : Int) := (link_cond (c := .tmp 3) (g := x253) (by kernel_rfl) ((link_map (fin2 := (Sum.elim (fun (t : Unit) => (Exit.normal, ⟨mkE 60 0 [], []⟩)) (fun (t : ByteArray) => (Exit.ret, ⟨mkE 60 0 [(2, dS t)], []⟩)))) (spec_DeedText_n3_l x253 x13 x14 x15) (fun (t : ByteArray) => (Sum.inr t)) (by
  rintro t
  · kernel_rfl))) ((spec_DeedText_n6_l x253 x13 x14 x15)))

def spec_DeedText_n8_l (x13 : Int) (x14 : Int) (x15 : Int) := (link_seq (spec_DeedText_n2_l x13 x14 x15) (fun (t : Bool) => (spec_DeedText_n7_l t x13 x14 x15)))

def spec_DeedText_n9_l (x13 : Int) (x14 : Int) (x15 : Int) := (link_block (fin2 := (Sum.elim (fun (t : Unit) => (Exit.normal, ⟨mkE 60 0 [], []⟩)) (fun (t : ByteArray) => (Exit.ret, ⟨mkE 60 0 [(2, dS t)], []⟩)))) (id := 0) (spec_DeedText_n8_l x13 x14 x15) (Sum.elim (fun (t : Unit) => (Sum.inl ())) (fun (t : ByteArray) => (Sum.inr t))) (by
  rintro (t | t) K h
  · exact Eq.mp (by kernel_rfl) h
  · exact Eq.mp (by kernel_rfl) h))

theorem spec_DeedText_n10_l : Link spec_DeedText_ctx LL (cq [1,1] (bodyOf Tryd.f7)) (aq [1,1] spec_DeedText_an) ⟨mkE 60 0 [], []⟩ (spec_DeedText_n10) (fun (t : ByteArray) => (Exit.ret, ⟨mkE 60 0 [(2, dS t)], []⟩)) := .of fun K h => by
  simp only [spec_DeedText_n10, wpW] at h
  exact .of (by kernel_rfl) h

def spec_DeedText_n11_l (x13 : Int) (x14 : Int) (x15 : Int) := (link_seq2 (spec_DeedText_n9_l x13 x14 x15) (fun (t : Unit) => (spec_DeedText_n10_l)) (fun (t : ByteArray) => t) (by
  rintro t
  · kernel_rfl) (by
  rintro t f K h
  · exact h))

def spec_DeedText_n12_l (x13 : Int) (x14 : Int) (x15 : Int) := (link_seq (spec_DeedText_n1_l x13 x14 x15) (fun (t : Unit) => (spec_DeedText_n11_l x13 x14 x15)))

theorem spec_DeedText_e (x13 : Int) (x14 : Int) (x15 : Int) {r : AV} {H' : Heap} (h : (Ans.mk _ (spec_DeedText x13 x14 x15) (fun (t : ByteArray) => (dS t, [])) [] none).run = some (r, H')) : Awp spec_DeedText_ctx LL (bodyOf Tryd.f7) spec_DeedText_an ⟨mkE 60 0 [(0, .agg [dI x13, dI x14, dI x15])], []⟩ (Ret (tlook tys) Tryd.f7.results.toList r H') :=
  ret_of' (Link.cast (by kernel_rfl) (by kernel_rfl) (spec_DeedText_n12_l x13 x14 x15)) (by unfold spec_DeedText; kernel_rfl) (by
  intro t
  exact ret_mk [dS t] (by kernel_rfl) (by kernel_rfl) (by kernel_rfl) (by kernel_rfl)) h

def F_spec_DeedText : Fun := fun avs H =>
  match avs, H with
  | [.agg [.dat (.int .i64) x13, .dat (.int .i64) x14, .dat (.int .i64) x15]], [] => ⟨_, spec_DeedText x13 x14 x15, fun (t : ByteArray) => (dS t, []), [], none⟩
  | _, _ => Ans.no

theorem spec_DeedText_sound : Sound Tryd.prog 7 F_spec_DeedText := by
  refine fn_sound' (C := spec_DeedText_ctx) (c := bodyOf Tryd.f7) (cok_of tys_ok (allc spec_l1In_sound (allc spec_l1Number_sound alln)) (allc Tryd.call22 (allc Tryd.call23 alln)) (by kernel_rfl)) Tryd.func7 (by kernel_rfl) LL spec_DeedText_an ?_
  intro avs H r H' h
  unfold F_spec_DeedText at h
  split at h
  · refine Awp.cast ?_ ?_ ?_ (spec_DeedText_e _ _ _ h) <;> kernel_rfl
  · simp [Ans.no, Ans.run] at h


/-! loop.example/headtrees/impl.numbersIn -/

def impl_numbersIn_an : Ann := (.seq (.leaf [0]) (.seq (.seq (.leaf [3]) (.block (.seq (.leaf [3, 4]) (.cond (.seq (.leaf [2]) (.leaf [2])) (.seq (.leaf [6]) (.cond (.seq (.leaf [2]) (.leaf [2])) (.leaf []))))))) (.seq (.leaf [2]) (.leaf [2]))))

noncomputable def impl_numbersIn_ctx : Ctx := ⟨tlook tys, olook [], ioF, 0, false, []⟩

theorem impl_numbersIn_n1_l (x383 : Int) : Link impl_numbersIn_ctx LL (bodyOf Tryd.f25) impl_numbersIn_an ⟨mkE 8 0 [(0, dI x383)], []⟩ (impl_numbersIn_n1 x383) (fun (t : Int) => (Exit.ret, ⟨mkE 8 0 [(2, dI t)], []⟩)) := .of fun K h => by
  simp only [impl_numbersIn_n1, wpW] at h
  exact .of (by kernel_rfl) h

theorem impl_numbersIn_e (x383 : Int) {r : AV} {H' : Heap} (h : (Ans.mk _ (impl_numbersIn x383) (fun (t : Int) => (dI t, [])) [] none).run = some (r, H')) : Awp impl_numbersIn_ctx LL (bodyOf Tryd.f25) impl_numbersIn_an ⟨mkE 8 0 [(0, dI x383)], []⟩ (Ret (tlook tys) Tryd.f25.results.toList r H') :=
  ret_of' (impl_numbersIn_n1_l x383) (by unfold impl_numbersIn; kernel_rfl) (by
  intro t
  exact ret_mk [dI t] (by kernel_rfl) (by kernel_rfl) (by kernel_rfl) (by kernel_rfl)) h

def F_impl_numbersIn : Fun := fun avs H =>
  match avs, H with
  | [.dat (.int .i64) x383], [] => ⟨_, impl_numbersIn x383, fun (t : Int) => (dI t, []), [], none⟩
  | _, _ => Ans.no

theorem impl_numbersIn_sound : Sound Tryd.prog 25 F_impl_numbersIn := by
  refine fn_sound' (C := impl_numbersIn_ctx) (c := bodyOf Tryd.f25) (cok_of tys_ok (alln) (alln) (by kernel_rfl)) Tryd.func25 (by kernel_rfl) LL impl_numbersIn_an ?_
  intro avs H r H' h
  unfold F_impl_numbersIn at h
  split at h
  · refine Awp.cast ?_ ?_ ?_ (impl_numbersIn_e _ h) <;> kernel_rfl
  · simp [Ans.no, Ans.run] at h


/-! (loop.example/headtrees/impl.Deed).restOk -/

def impl_Deed_restOk_an : Ann := (.seq (.leaf [1]) (.seq (.leaf [1, 3]) (.seq (.leaf [2]) (.leaf [2]))))

noncomputable def impl_Deed_restOk_ctx : Ctx := ⟨tlook tys, olook [(25, F_impl_numbersIn)], ioF, 0, false, []⟩

theorem impl_Deed_restOk_n1_l (x380 : Int) (x381 : Int) (x382 : Int) : Link impl_Deed_restOk_ctx LL (bodyOf Tryd.f35) impl_Deed_restOk_an ⟨mkE 23 0 [(0, .agg [dI x380, dI x381, dI x382])], []⟩ (impl_Deed_restOk_n1 x380 x381 x382) (fun (t : Bool) => (Exit.ret, ⟨mkE 23 0 [(2, dB t)], []⟩)) := .of fun K h => by
  simp only [impl_Deed_restOk_n1, wpW] at h
  exact .of (by kernel_rfl) h

theorem impl_Deed_restOk_e (x380 : Int) (x381 : Int) (x382 : Int) {r : AV} {H' : Heap} (h : (Ans.mk _ (impl_Deed_restOk x380 x381 x382) (fun (t : Bool) => (dB t, [])) [] none).run = some (r, H')) : Awp impl_Deed_restOk_ctx LL (bodyOf Tryd.f35) impl_Deed_restOk_an ⟨mkE 23 0 [(0, .agg [dI x380, dI x381, dI x382])], []⟩ (Ret (tlook tys) Tryd.f35.results.toList r H') :=
  ret_of' (impl_Deed_restOk_n1_l x380 x381 x382) (by unfold impl_Deed_restOk; kernel_rfl) (by
  intro t
  exact ret_mk [dB t] (by kernel_rfl) (by kernel_rfl) (by kernel_rfl) (by kernel_rfl)) h

def F_impl_Deed_restOk : Fun := fun avs H =>
  match avs, H with
  | [.agg [.dat (.int .i64) x380, .dat (.int .i64) x381, .dat (.int .i64) x382]], [] => ⟨_, impl_Deed_restOk x380 x381 x382, fun (t : Bool) => (dB t, []), [], none⟩
  | _, _ => Ans.no

theorem impl_Deed_restOk_sound : Sound Tryd.prog 35 F_impl_Deed_restOk := by
  refine fn_sound' (C := impl_Deed_restOk_ctx) (c := bodyOf Tryd.f35) (cok_of tys_ok (allc impl_numbersIn_sound alln) (allc Tryd.call25 alln) (by kernel_rfl)) Tryd.func35 (by kernel_rfl) LL impl_Deed_restOk_an ?_
  intro avs H r H' h
  unfold F_impl_Deed_restOk at h
  split at h
  · refine Awp.cast ?_ ?_ ?_ (impl_Deed_restOk_e _ _ _ h) <;> kernel_rfl
  · simp [Ans.no, Ans.run] at h


/-! (loop.example/headtrees/impl.Deed).inText -/

def impl_Deed_inText_an : Ann := (.seq (.leaf [1]) (.seq (.leaf [2]) (.leaf [2])))

noncomputable def impl_Deed_inText_ctx : Ctx := ⟨tlook tys, olook [(35, F_impl_Deed_restOk)], ioF, 0, false, []⟩

theorem impl_Deed_inText_n1_l (x374 : Int) (x375 : Int) (x376 : Int) : Link impl_Deed_inText_ctx LL (bodyOf Tryd.f24) impl_Deed_inText_an ⟨mkE 35 0 [(0, .agg [dI x374, dI x375, dI x376])], []⟩ (impl_Deed_inText_n1 x374 x375 x376) (fun (t : Bool) => (Exit.ret, ⟨mkE 35 0 [(2, dB t)], []⟩)) := .of fun K h => by
  simp only [impl_Deed_inText_n1, wpW] at h
  exact .of (by kernel_rfl) h

theorem impl_Deed_inText_e (x374 : Int) (x375 : Int) (x376 : Int) {r : AV} {H' : Heap} (h : (Ans.mk _ (impl_Deed_inText x374 x375 x376) (fun (t : Bool) => (dB t, [])) [] none).run = some (r, H')) : Awp impl_Deed_inText_ctx LL (bodyOf Tryd.f24) impl_Deed_inText_an ⟨mkE 35 0 [(0, .agg [dI x374, dI x375, dI x376])], []⟩ (Ret (tlook tys) Tryd.f24.results.toList r H') :=
  ret_of' (impl_Deed_inText_n1_l x374 x375 x376) (by unfold impl_Deed_inText; kernel_rfl) (by
  intro t
  exact ret_mk [dB t] (by kernel_rfl) (by kernel_rfl) (by kernel_rfl) (by kernel_rfl)) h

def F_impl_Deed_inText : Fun := fun avs H =>
  match avs, H with
  | [.agg [.dat (.int .i64) x374, .dat (.int .i64) x375, .dat (.int .i64) x376]], [] => ⟨_, impl_Deed_inText x374 x375 x376, fun (t : Bool) => (dB t, []), [], none⟩
  | _, _ => Ans.no

theorem impl_Deed_inText_sound : Sound Tryd.prog 24 F_impl_Deed_inText := by
  refine fn_sound' (C := impl_Deed_inText_ctx) (c := bodyOf Tryd.f24) (cok_of tys_ok (allc impl_Deed_restOk_sound alln) (allc Tryd.call35 alln) (by kernel_rfl)) Tryd.func24 (by kernel_rfl) LL impl_Deed_inText_an ?_
  intro avs H r H' h
  unfold F_impl_Deed_inText at h
  split at h
  · refine Awp.cast ?_ ?_ ?_ (impl_Deed_inText_e _ _ _ h) <;> kernel_rfl
  · simp [Ans.no, Ans.run] at h


/-! strconv.Itoa -/

def ren_itoaS : Go.Shelf.Ren := ⟨fun | 129 => 68 | 171 => 26 | 243 => 36 | 246 => 42 | 283 => 53 | 284 => 54 | 285 => 55 | 286 => 56 | 317 => 67 | 318 => 69 | 319 => 70 | 320 => 71 | 337 => 77 | 338 => 78 | n => n, fun | 0 => 0 | 2 => 2 | 3 => 3 | 4 => 4 | 5 => 5 | 9 => 9 | 20 => 20 | 37 => 57 | 46 => 88 | 51 => 95 | 53 => 78 | 171 => 77 | 173 => 81 | 212 => 94 | 213 => 96 | 232 => 110 | 233 => 111 | n => n, fun | 17 => 4 | 18 => 7 | 19 => 8 | n => n⟩
theorem lay_itoaS : Lays.n171 Tryd.prog ren_itoaS := {
  mixed := by kernel_rfl
  f129 := Tryd.func68.trans (congrArg some (by kernel_rfl))
  f171 := Tryd.func26.trans (congrArg some (by kernel_rfl))
  f243 := Tryd.func36.trans (congrArg some (by kernel_rfl))
  f246 := Tryd.func42.trans (congrArg some (by kernel_rfl))
  f283 := Tryd.func53.trans (congrArg some (by kernel_rfl))
  f284 := Tryd.func54.trans (congrArg some (by kernel_rfl))
  f285 := Tryd.func55.trans (congrArg some (by kernel_rfl))
  f286 := Tryd.func56.trans (congrArg some (by kernel_rfl))
  f317 := Tryd.func67.trans (congrArg some (by kernel_rfl))
  f318 := Tryd.func69.trans (congrArg some (by kernel_rfl))
  f319 := Tryd.func70.trans (congrArg some (by kernel_rfl))
  f320 := Tryd.func71.trans (congrArg some (by kernel_rfl))
  f337 := Tryd.func77.trans (congrArg some (by kernel_rfl))
  f338 := Tryd.func78.trans (congrArg some (by kernel_rfl))
  t0 := Tryd.underlying0
  a0 := Tryd.isAgg0
  z0 := Tryd.sizeOf0
  v0 := Tryd.zeroValue0
  t2 := Tryd.underlying2
  a2 := Tryd.isAgg2
  z2 := Tryd.sizeOf2
  v2 := Tryd.zeroValue2
  t3 := Tryd.underlying3
  a3 := Tryd.isAgg3
  z3 := Tryd.sizeOf3
  v3 := Tryd.zeroValue3
  t4 := Tryd.underlying4
  a4 := Tryd.isAgg4
  z4 := Tryd.sizeOf4
  v4 := Tryd.zeroValue4
  t5 := Tryd.underlying5
  a5 := Tryd.isAgg5
  z5 := Tryd.sizeOf5
  v5 := Tryd.zeroValue5
  t9 := Tryd.underlying9
  a9 := Tryd.isAgg9
  z9 := Tryd.sizeOf9
  v9 := Tryd.zeroValue9
  t20 := Tryd.underlying20
  a20 := Tryd.isAgg20
  z20 := Tryd.sizeOf20
  v20 := Tryd.zeroValue20
  t37 := Tryd.underlying57
  a37 := Tryd.isAgg57
  z37 := Tryd.sizeOf57
  v37 := Tryd.zeroValue57
  t46 := Tryd.underlying88
  a46 := Tryd.isAgg88
  z46 := Tryd.sizeOf88
  v46 := Tryd.zeroValue88
  t51 := Tryd.underlying95
  a51 := Tryd.isAgg95
  z51 := Tryd.sizeOf95
  v51 := Tryd.zeroValue95
  t53 := Tryd.underlying78
  a53 := Tryd.isAgg78
  z53 := Tryd.sizeOf78
  v53 := Tryd.zeroValue78
  t171 := Tryd.underlying77
  a171 := Tryd.isAgg77
  z171 := Tryd.sizeOf77
  v171 := Tryd.zeroValue77
  t173 := Tryd.underlying81
  a173 := Tryd.isAgg81
  z173 := Tryd.sizeOf81
  v173 := Tryd.zeroValue81
  t212 := Tryd.underlying94
  a212 := Tryd.isAgg94
  z212 := Tryd.sizeOf94
  v212 := Tryd.zeroValue94
  t213 := Tryd.underlying96
  a213 := Tryd.isAgg96
  z213 := Tryd.sizeOf96
  t232 := Tryd.underlying110
  a232 := Tryd.isAgg110
  z232 := Tryd.sizeOf110
  v232 := Tryd.zeroValue110
  t233 := Tryd.underlying111
  a233 := Tryd.isAgg111
  z233 := Tryd.sizeOf111
  v233 := Tryd.zeroValue111
  g17 := by kernel_rfl
  g18 := by kernel_rfl
  g19 := by kernel_rfl }

def F_strconv_Itoa : Fun := F_itoaS
theorem strconv_Itoa_sound : Sound Tryd.prog 26 F_strconv_Itoa := itoaS_sound lay_itoaS


/-! loop.example/headtrees/impl.DeedText -/

def impl_DeedText_an : Ann := (.seq (.leaf [1]) (.seq (.seq (.leaf [1, 8]) (.cond (.seq (.leaf [2]) (.leaf [2])) (.leaf [1]))) (.seq (.leaf [1, 3]) (.seq (.seq (.draw [7, 4] [0, 1, 2, 3, 4, 5, 6, 10, 7, 8, 9] [] [3, 21, 22, 23]) (.block (.loop (.seq (.leaf [3, 21, 22, 23, 24]) (.seq (.cond (.leaf [3, 21, 22, 23]) (.leaf [3])) (.seq (.block (.seq (.leaf [3, 5, 21, 22, 23]) (.leaf [3, 21, 22, 23]))) (.leaf [3, 21, 22, 23]))))))) (.seq (.leaf [2]) (.leaf [2]))))))

noncomputable def impl_DeedText_ctx : Ctx := ⟨tlook tys, olook [(24, F_impl_Deed_inText), (25, F_impl_numbersIn), (26, F_strconv_Itoa)], ioF, 0, false, []⟩

theorem impl_DeedText_n1_l (x371 : Int) (x372 : Int) (x373 : Int) : Link impl_DeedText_ctx LL (Code.seq (cq [0] (bodyOf Tryd.f9)) (Code.seq (cq [0,1] (bodyOf Tryd.f9)) (cq [0,1,1] (bodyOf Tryd.f9)))) (Ann.seq (aq [0] impl_DeedText_an) (Ann.seq (aq [0,1] impl_DeedText_an) (aq [0,1,1] impl_DeedText_an))) ⟨mkE 34 0 [(0, .agg [dI x371, dI x372, dI x373])], []⟩ (impl_DeedText_n1 x371 x372 x373) (Sum.elim (fun (t : ByteArray) => (Exit.normal, ⟨mkE 34 0 [(1, .ptr 0 0), (3, dS t)], [some (.box [dI x371, dI x372, dI x373])]⟩)) (fun (t : ByteArray) => (Exit.ret, ⟨mkE 34 0 [(2, dS t)], []⟩))) := .of fun K h => by
  simp only [impl_DeedText_n1, wpW] at h
  exact .of (by kernel_rfl) h

theorem impl_DeedText_n2_l (x432 : ByteArray) (x371 : Int) (x372 : Int) (x373 : Int) : Link impl_DeedText_ctx LL (cq [0,0,1,1,1] (bodyOf Tryd.f9)) (aq [0,0,1,1,1] impl_DeedText_an) ⟨mkE 34 0 [(1, .ptr 0 0), (3, dS x432)], [some (.box [dI x371, dI x372, dI x373])]⟩ (impl_DeedText_n2 x371 x372 x373) (fun (t : (List Int) × Int) => (Exit.normal, ⟨mkE 34 0 [(3, dS x432), (21, dL t.1), (22, dI t.2), (23, dI 0)], []⟩)) := .of fun K h => by
  simp only [impl_DeedText_n2, wpW] at h
  exact .of (by kernel_rfl) h

theorem impl_DeedText_n3_l (x455 : ByteArray) (x438 : List Int) (x439 : Int) (x456 : Int) : Link impl_DeedText_ctx LL (cq [0,0,1,0,1,1,1] (bodyOf Tryd.f9)) (aq [0,0,1,0,1,1,1] impl_DeedText_an) ⟨mkE 34 0 [(3, dS x455), (21, dL x438), (22, dI x439), (23, dI x456)], []⟩ (impl_DeedText_n3 x455 x438 x439 x456) (Sum.elim (fun (t : ByteArray × Int) => (Exit.normal, ⟨mkE 34 0 [(3, dS t.1), (21, dL x438), (22, dI x439), (23, dI t.2)], []⟩)) (fun (t : ByteArray) => ((Exit.exit 0), ⟨mkE 34 0 [(3, dS t)], []⟩))) := .of fun K h => by
  simp only [impl_DeedText_n3, wpW] at h
  exact .of (by kernel_rfl) h

def impl_DeedText_n4_l (x432 : ByteArray) (x438 : List Int) (x439 : Int) := (link_loop (mk := fun (s : ByteArray × Int) => ⟨mkE 34 0 [(3, dS s.1), (21, dL x438), (22, dI x439), (23, dI s.2)], []⟩) (fin := (fun (t : ByteArray) => ((Exit.exit 0), ⟨mkE 34 0 [(3, dS t)], []⟩))) (by
  rintro t f K h
  · exact h) (fun s => link_map (impl_DeedText_n3_l s.1 x438 x439 s.2) (Sum.elim (fun (t : ByteArray × Int) => Sum.inl (t.1, t.2)) (fun (t : ByteArray) => Sum.inr t)) (by
  rintro (t | t)
  · kernel_rfl
  · kernel_rfl)) (x432, 0))

def impl_DeedText_n5_l (x432 : ByteArray) (x438 : List Int) (x439 : Int) := (link_block (fin2 := (fun (t : ByteArray) => (Exit.normal, ⟨mkE 34 0 [(3, dS t)], []⟩))) (id := 0) (impl_DeedText_n4_l x432 x438 x439) (fun (t : ByteArray) => t) (by
  rintro t K h
  · exact Eq.mp (by kernel_rfl) h))

def impl_DeedText_n6_l (x432 : ByteArray) (x371 : Int) (x372 : Int) (x373 : Int) := (link_seq (impl_DeedText_n2_l x432 x371 x372 x373) (fun (t : (List Int) × Int) => (impl_DeedText_n5_l x432 t.1 t.2)))

theorem impl_DeedText_n7_l (x455 : ByteArray) : Link impl_DeedText_ctx LL (cq [1,1,1,1] (bodyOf Tryd.f9)) (aq [1,1,1,1] impl_DeedText_an) ⟨mkE 34 0 [(3, dS x455)], []⟩ (impl_DeedText_n7 x455) (fun (t : ByteArray) => (Exit.ret, ⟨mkE 34 0 [(2, dS t)], []⟩)) := .of fun K h => by
  simp only [impl_DeedText_n7, wpW] at h
  exact .of (by kernel_rfl) h

def impl_DeedText_n8_l (x432 : ByteArray) (x371 : Int) (x372 : Int) (x373 : Int) := (link_seq (impl_DeedText_n6_l x432 x371 x372 x373) (fun (t : ByteArray) => (impl_DeedText_n7_l t)))

def impl_DeedText_n9_l (x371 : Int) (x372 : Int) (x373 : Int) := (link_group (c := (cq [0,1,1] (bodyOf Tryd.f9))) (a := (aq [0,1,1] impl_DeedText_an)) [(cq [0] (bodyOf Tryd.f9)), (cq [0,1] (bodyOf Tryd.f9))] [(aq [0] impl_DeedText_an), (aq [0,1] impl_DeedText_an)] rfl (link_seq2 (impl_DeedText_n1_l x371 x372 x373) (fun (t : ByteArray) => (impl_DeedText_n8_l t x371 x372 x373)) (fun (t : ByteArray) => t) (by
  rintro t
  · kernel_rfl) (by
  rintro t f K h
  · exact h)))

theorem impl_DeedText_e (x371 : Int) (x372 : Int) (x373 : Int) {r : AV} {H' : Heap} (h : (Ans.mk _ (impl_DeedText x371 x372 x373) (fun (t : ByteArray) => (dS t, [])) [] none).run = some (r, H')) : Awp impl_DeedText_ctx LL (bodyOf Tryd.f9) impl_DeedText_an ⟨mkE 34 0 [(0, .agg [dI x371, dI x372, dI x373])], []⟩ (Ret (tlook tys) Tryd.f9.results.toList r H') :=
  ret_of' (Link.cast (by kernel_rfl) (by kernel_rfl) (impl_DeedText_n9_l x371 x372 x373)) (by unfold impl_DeedText; kernel_rfl) (by
  intro t
  exact ret_mk [dS t] (by kernel_rfl) (by kernel_rfl) (by kernel_rfl) (by kernel_rfl)) h

def F_impl_DeedText : Fun := fun avs H =>
  match avs, H with
  | [.agg [.dat (.int .i64) x371, .dat (.int .i64) x372, .dat (.int .i64) x373]], [] => ⟨_, impl_DeedText x371 x372 x373, fun (t : ByteArray) => (dS t, []), [], none⟩
  | _, _ => Ans.no

theorem impl_DeedText_sound : Sound Tryd.prog 9 F_impl_DeedText := by
  refine fn_sound' (C := impl_DeedText_ctx) (c := bodyOf Tryd.f9) (cok_of tys_ok (allc impl_Deed_inText_sound (allc impl_numbersIn_sound (allc strconv_Itoa_sound alln))) (allc Tryd.call24 (allc Tryd.call25 (allc Tryd.call26 alln))) (by kernel_rfl)) Tryd.func9 (by kernel_rfl) LL impl_DeedText_an ?_
  intro avs H r H' h
  unfold F_impl_DeedText at h
  split at h
  · refine Awp.cast ?_ ?_ ?_ (impl_DeedText_e _ _ _ h) <;> kernel_rfl
  · simp [Ans.no, Ans.run] at h


/-! loop.example/headtrees/laws.FnExactDeedText -/

def laws_FnExactDeedText_an : Ann := (.seq (.leaf [1]) (.seq (.leaf [1, 3]) (.seq (.leaf [3, 4]) (.seq (.seq (.leaf [13]) (.cond (.seq (.leaf [2]) (.leaf [2])) (.leaf []))) (.seq (.leaf [2]) (.leaf [2]))))))

noncomputable def laws_FnExactDeedText_ctx : Ctx := ⟨tlook tys, olook [(8, F_laws_toDeed), (7, F_spec_DeedText), (9, F_impl_DeedText)], ioF, 0, false, []⟩

theorem laws_FnExactDeedText_n1_l (x4 : Int) (x5 : Int) (x6 : Int) : Link laws_FnExactDeedText_ctx LL (bodyOf Tryd.f3) laws_FnExactDeedText_an ⟨mkE 14 0 [(0, .agg [dI x4, dI x5, dI x6])], []⟩ (laws_FnExactDeedText_n1 x4 x5 x6) (fun (t : Bool) => (Exit.ret, ⟨mkE 14 0 [(2, dB t)], []⟩)) := .of fun K h => by
  simp only [laws_FnExactDeedText_n1, wpW] at h
  exact .of (by kernel_rfl) h

theorem laws_FnExactDeedText_e (x4 : Int) (x5 : Int) (x6 : Int) {r : AV} {H' : Heap} (h : (Ans.mk _ (laws_FnExactDeedText x4 x5 x6) (fun (t : Bool) => (dB t, [])) [] none).run = some (r, H')) : Awp laws_FnExactDeedText_ctx LL (bodyOf Tryd.f3) laws_FnExactDeedText_an ⟨mkE 14 0 [(0, .agg [dI x4, dI x5, dI x6])], []⟩ (Ret (tlook tys) Tryd.f3.results.toList r H') :=
  ret_of' (laws_FnExactDeedText_n1_l x4 x5 x6) (by unfold laws_FnExactDeedText; kernel_rfl) (by
  intro t
  exact ret_mk [dB t] (by kernel_rfl) (by kernel_rfl) (by kernel_rfl) (by kernel_rfl)) h

def F_laws_FnExactDeedText : Fun := fun avs H =>
  match avs, H with
  | [.agg [.dat (.int .i64) x4, .dat (.int .i64) x5, .dat (.int .i64) x6]], [] => ⟨_, laws_FnExactDeedText x4 x5 x6, fun (t : Bool) => (dB t, []), [], none⟩
  | _, _ => Ans.no

theorem laws_FnExactDeedText_sound : Sound Tryd.prog 3 F_laws_FnExactDeedText := by
  refine fn_sound' (C := laws_FnExactDeedText_ctx) (c := bodyOf Tryd.f3) (cok_of tys_ok (allc laws_toDeed_sound (allc spec_DeedText_sound (allc impl_DeedText_sound alln))) (allc Tryd.call8 (allc Tryd.call7 (allc Tryd.call9 alln))) (by kernel_rfl)) Tryd.func3 (by kernel_rfl) LL laws_FnExactDeedText_an ?_
  intro avs H r H' h
  unfold F_laws_FnExactDeedText at h
  split at h
  · refine Awp.cast ?_ ?_ ?_ (laws_FnExactDeedText_e _ _ _ h) <;> kernel_rfl
  · simp [Ans.no, Ans.run] at h


end Go.Rv
