/-
  The checked code answers as the plain functions do; written by program. Conditions: none.
-/
import Derived.Test.YtihgceegapfngadGFnDeskNew
import Derived.Test.YtihgceegapfngadFB
import Derived.Test.YtihgceegapfngadProg
set_option linter.unusedVariables false
set_option linter.unusedSimpArgs false
set_option linter.defProp false
set_option maxRecDepth 100000
namespace Go.Rv
open Go.Proofs
theorem ty3 : TIOk Try.prog 3 ⟨.int .i64, 1, 8, some (.int .i64), [.int .i64 0], false⟩ := ⟨⟨infoOf (Try.prog.info? 3), by kernel_rfl, by kernel_rfl, by kernel_rfl, .int .i64 0, by kernel_rfl, by kernel_rfl⟩, (by kernel_rfl : Try.prog.underlying 3 = some (.int .i64)), no_eq⟩
theorem ty4 : TIOk Try.prog 4 ⟨.bool, 1, 1, some .bool, [.bool false], false⟩ := ⟨⟨infoOf (Try.prog.info? 4), by kernel_rfl, by kernel_rfl, by kernel_rfl, .bool false, by kernel_rfl, by kernel_rfl⟩, (by kernel_rfl : Try.prog.underlying 4 = some .bool), no_eq⟩
theorem ty5 : TIOk Try.prog 5 ⟨.int .u8, 1, 1, some (.int .u8), [.int .u8 0], false⟩ := ⟨⟨infoOf (Try.prog.info? 5), by kernel_rfl, by kernel_rfl, by kernel_rfl, .int .u8 0, by kernel_rfl, by kernel_rfl⟩, (by kernel_rfl : Try.prog.underlying 5 = some (.int .u8)), no_eq⟩
theorem ty22 : TIOk Try.prog 22 ⟨.slice 5, 1, 24, some (.list (.int .u8)), [.slice none 0 0], false⟩ := ⟨⟨infoOf (Try.prog.info? 22), by kernel_rfl, by kernel_rfl, by kernel_rfl, .slice none 0 0, by kernel_rfl, by kernel_rfl⟩, (by kernel_rfl : Try.prog.underlying 22 = some (.slice 5)), no_eq⟩
theorem ty23 : TIOk Try.prog 23 ⟨.slice 3, 1, 24, some (.list (.int .i64)), [.slice none 0 0], false⟩ := ⟨⟨infoOf (Try.prog.info? 23), by kernel_rfl, by kernel_rfl, by kernel_rfl, .slice none 0 0, by kernel_rfl, by kernel_rfl⟩, (by kernel_rfl : Try.prog.underlying 23 = some (.slice 3)), no_eq⟩
theorem ty25 : TIOk Try.prog 25 ⟨.slice 23, 1, 24, some (.list (.list (.int .i64))), [.slice none 0 0], false⟩ := ⟨⟨infoOf (Try.prog.info? 25), by kernel_rfl, by kernel_rfl, by kernel_rfl, .slice none 0 0, by kernel_rfl, by kernel_rfl⟩, (by kernel_rfl : Try.prog.underlying 25 = some (.slice 23)), no_eq⟩
theorem ty27 : TIOk Try.prog 27 ⟨.strct [(0, 23), (1, 25)], 2, 48, some (.pair (.list (.int .i64)) (.pair (.list (.list (.int .i64))) .unit)), [.slice none 0 0, .slice none 0 0], false⟩ := ⟨⟨infoOf (Try.prog.info? 27), by kernel_rfl, by kernel_rfl, by kernel_rfl, .agg #[.slice none 0 0, .slice none 0 0], by kernel_rfl, by kernel_rfl⟩, ⟨fieldsOf (Try.prog.underlying 27), by kernel_rfl, by kernel_rfl⟩, no_eq⟩
theorem ty47 : TIOk Try.prog 47 ⟨.strct [(0, 22), (1, 3)], 2, 32, some (.pair (.list (.int .u8)) (.pair (.int .i64) .unit)), [.slice none 0 0, .int .i64 0], false⟩ := ⟨⟨infoOf (Try.prog.info? 47), by kernel_rfl, by kernel_rfl, by kernel_rfl, .agg #[.slice none 0 0, .int .i64 0], by kernel_rfl, by kernel_rfl⟩, ⟨fieldsOf (Try.prog.underlying 47), by kernel_rfl, by kernel_rfl⟩, no_eq⟩
theorem ty51 : TIOk Try.prog 51 ⟨.strct [(0, 23), (1, 3), (2, 3)], 3, 40, some (.pair (.list (.int .i64)) (.pair (.int .i64) (.pair (.int .i64) .unit))), [.slice none 0 0, .int .i64 0, .int .i64 0], false⟩ := ⟨⟨infoOf (Try.prog.info? 51), by kernel_rfl, by kernel_rfl, by kernel_rfl, .agg #[.slice none 0 0, .int .i64 0, .int .i64 0], by kernel_rfl, by kernel_rfl⟩, ⟨fieldsOf (Try.prog.underlying 51), by kernel_rfl, by kernel_rfl⟩, no_eq⟩
def tys : List (TypeId × TI) := [(3, ⟨.int .i64, 1, 8, some (.int .i64), [.int .i64 0], false⟩), (4, ⟨.bool, 1, 1, some .bool, [.bool false], false⟩), (5, ⟨.int .u8, 1, 1, some (.int .u8), [.int .u8 0], false⟩), (22, ⟨.slice 5, 1, 24, some (.list (.int .u8)), [.slice none 0 0], false⟩), (23, ⟨.slice 3, 1, 24, some (.list (.int .i64)), [.slice none 0 0], false⟩), (25, ⟨.slice 23, 1, 24, some (.list (.list (.int .i64))), [.slice none 0 0], false⟩), (27, ⟨.strct [(0, 23), (1, 25)], 2, 48, some (.pair (.list (.int .i64)) (.pair (.list (.list (.int .i64))) .unit)), [.slice none 0 0, .slice none 0 0], false⟩), (47, ⟨.strct [(0, 22), (1, 3)], 2, 32, some (.pair (.list (.int .u8)) (.pair (.int .i64) .unit)), [.slice none 0 0, .int .i64 0], false⟩), (51, ⟨.strct [(0, 23), (1, 3), (2, 3)], 3, 40, some (.pair (.list (.int .i64)) (.pair (.int .i64) (.pair (.int .i64) .unit))), [.slice none 0 0, .int .i64 0, .int .i64 0], false⟩)]
theorem tys_ok : TOk Try.prog (tlook tys) := tok_of (allc ty3 (allc ty4 (allc ty5 (allc ty22 (allc ty23 (allc ty25 (allc ty27 (allc ty47 (allc ty51 alln)))))))))
def ioF (f : FuncId) (i : Nat) : Bool := [(30, 1)].any fun (p : Nat × Nat) => Nat.beq p.1 f && Nat.beq p.2 i


/-! loop.example/headtrees/spec.l20Open -/

def spec_l20Open_an : Ann := (.seq (.leaf [0]) (.seq (.seq (.leaf [0, 5]) (.cond (.leaf [0]) (.leaf [0]))) (.seq (.leaf [2]) (.leaf [2]))))

noncomputable def spec_l20Open_ctx : Ctx := ⟨tlook tys, olook [], ioF, 0, false, []⟩

theorem spec_l20Open_n1_l (x1587 : List Int) : Link spec_l20Open_ctx LL (bodyOf Try.f14) spec_l20Open_an ⟨mkE 11 0 [(0, dV x1587)], []⟩ (spec_l20Open_n1 x1587) (fun (t : (List Int)) => (Exit.ret, ⟨mkE 11 0 [(2, .ptr 0 0)], [some (.box [dV t, dI 0])]⟩)) := .of fun K h => by
  simp only [spec_l20Open_n1, wpW] at h
  exact .of (by kernel_rfl) h

theorem spec_l20Open_e (x1587 : List Int) {r : AV} {H' : Heap} (h : (Ans.mk _ (spec_l20Open x1587) (fun (t : (List Int)) => (.ptr 0 0, [some (.box [dV t, dI 0])])) [] none).run = some (r, H')) : Awp spec_l20Open_ctx LL (bodyOf Try.f14) spec_l20Open_an ⟨mkE 11 0 [(0, dV x1587)], []⟩ (Ret (tlook tys) Try.f14.results.toList r H') :=
  ret_of' (spec_l20Open_n1_l x1587) (by unfold spec_l20Open; kernel_rfl) (by
  intro t
  exact ret_mk [.ptr 0 0] (by kernel_rfl) (by kernel_rfl) (by kernel_rfl) (by kernel_rfl)) h

def F_spec_l20Open : Fun := fun avs H =>
  match avs, H with
  | [.dat (.list (.int .u8)) x1587], [] => ⟨_, spec_l20Open x1587, fun (t : (List Int)) => (.ptr 0 0, [some (.box [dV t, dI 0])]), [], none⟩
  | _, _ => Ans.no

theorem spec_l20Open_sound : Sound Try.prog 14 F_spec_l20Open := by
  refine fn_sound' (C := spec_l20Open_ctx) (c := bodyOf Try.f14) (cok_of tys_ok (alln) (alln) (by kernel_rfl)) Try.func14 (by kernel_rfl) LL spec_l20Open_an ?_
  intro avs H r H' h
  unfold F_spec_l20Open at h
  split at h
  · refine Awp.cast ?_ ?_ ?_ (spec_l20Open_e _ h) <;> kernel_rfl
  · simp [Ans.no, Ans.run] at h


/-! (*loop.example/headtrees/spec.l20Rd).pick -/

def spec_l20Rd_pick_an : Ann := (.seq (.leaf [0, 1]) (.seq (.leaf [0, 1]) (.seq (.seq (.leaf [0, 1, 24]) (.cond (.seq (.leaf [4]) (.leaf [4])) (.leaf [0, 1]))) (.seq (.leaf [0, 1, 5]) (.seq (.seq (.leaf [0, 1, 5, 36]) (.cond (.seq (.leaf [4]) (.leaf [4])) (.leaf [0, 1, 5]))) (.seq (.draw [] [0, 1, 2, 3, 4, 5, 6, 7, 8, 9, 10, 11, 12, 13, 14, 15, 16, 17, 18, 19, 20, 21, 22, 23, 24, 25, 26, 27, 28, 29, 30, 31, 32, 33, 34, 35, 36, 37, 38, 39, 40, 41, 42, 43, 44, 45] [] [1, 6]) (.seq (.leaf [1, 6]) (.seq (.leaf [4]) (.leaf [4])))))))))

noncomputable def spec_l20Rd_pick_ctx : Ctx := ⟨tlook tys, olook [], ioF, 1, false, []⟩

theorem spec_l20Rd_pick_n1_l (x1611 : Int) (x1612 : List Int) (x1613 : Int) : Link spec_l20Rd_pick_ctx LL (bodyOf Try.f21) spec_l20Rd_pick_an ⟨mkE 99 0 [(0, .ptr 0 0), (1, dI x1611)], [some (.box [dV x1612, dI x1613])]⟩ (spec_l20Rd_pick_n1 x1611 x1612 x1613) (fun (t : Int × Int) => (Exit.ret, ⟨mkE 99 0 [(4, dI t.1)], [some (.box [dV x1612, dI t.2])]⟩)) := .of fun K h => by
  simp only [spec_l20Rd_pick_n1, wpW] at h
  exact .of (by kernel_rfl) h

theorem spec_l20Rd_pick_e (x1611 : Int) (x1612 : List Int) (x1613 : Int) {r : AV} {H' : Heap} (h : (Ans.mk _ (spec_l20Rd_pick x1611 x1612 x1613) (fun (t : Int × Int) => (dI t.1, [some (.box [dV x1612, dI t.2])])) [] none).run = some (r, H')) : Awp spec_l20Rd_pick_ctx LL (bodyOf Try.f21) spec_l20Rd_pick_an ⟨mkE 99 0 [(0, .ptr 0 0), (1, dI x1611)], [some (.box [dV x1612, dI x1613])]⟩ (Ret (tlook tys) Try.f21.results.toList r H') :=
  ret_of' (spec_l20Rd_pick_n1_l x1611 x1612 x1613) (by unfold spec_l20Rd_pick; kernel_rfl) (by
  intro t
  exact ret_mk [dI t.1] (by kernel_rfl) (by kernel_rfl) (by kernel_rfl) (by kernel_rfl)) h

def F_spec_l20Rd_pick : Fun := fun avs H =>
  match avs, H with
  | [.ptr 0 0, .dat (.int .i64) x1611], [some (.box [.dat (.list (.int .u8)) x1612, .dat (.int .i64) x1613])] => ⟨_, spec_l20Rd_pick x1611 x1612 x1613, fun (t : Int × Int) => (dI t.1, [some (.box [dV x1612, dI t.2])]), [], none⟩
  | _, _ => Ans.no

theorem spec_l20Rd_pick_sound : Sound Try.prog 21 F_spec_l20Rd_pick := by
  refine fn_sound' (C := spec_l20Rd_pick_ctx) (c := bodyOf Try.f21) (cok_of tys_ok (alln) (alln) (by kernel_rfl)) Try.func21 (by kernel_rfl) LL spec_l20Rd_pick_an ?_
  intro avs H r H' h
  unfold F_spec_l20Rd_pick at h
  split at h
  · refine Awp.cast ?_ ?_ ?_ (spec_l20Rd_pick_e _ _ _ h) <;> kernel_rfl
  · simp [Ans.no, Ans.run] at h


/-! loop.example/headtrees/spec.l20Order -/

def spec_l20Order_an : Ann := (.seq (.leaf [0, 1]) (.seq (.leaf [0, 1, 5]) (.seq (.leaf [0, 1, 5, 6]) (.seq (.seq (.leaf [0, 1, 5, 6, 7]) (.block (.loop (.seq (.seq (.leaf [0, 1, 5, 6, 7, 15]) (.cond (.leaf [0, 1, 5, 6, 7]) (.leaf [5]))) (.seq (.block (.seq (.leaf [0, 1, 5, 6, 7, 8]) (.seq (.seq (.leaf [0, 1, 5, 6, 7, 8, 26]) (.cond (.leaf [0, 1, 5, 6, 7, 8]) (.leaf [0, 1, 5, 6, 7, 8]))) (.seq (.leaf [0, 1, 5, 6, 7, 8, 9]) (.seq (.leaf [0, 1, 5, 6, 7, 8, 9]) (.leaf [0, 1, 5, 6, 7])))))) (.leaf [0, 1, 5, 6, 7])))))) (.seq (.leaf [4]) (.leaf [4]))))))

noncomputable def spec_l20Order_ctx : Ctx := ⟨tlook tys, olook [(21, F_spec_l20Rd_pick)], ioF, 1, false, []⟩

theorem spec_l20Order_n1_l (x1767 : Int) (x1768 : List Int) (x1769 : Int) : Link spec_l20Order_ctx LL (Code.seq (cq [0] (bodyOf Try.f23)) (Code.seq (cq [0,1] (bodyOf Try.f23)) (cq [0,1,1] (bodyOf Try.f23)))) (Ann.seq (aq [0] spec_l20Order_an) (Ann.seq (aq [0,1] spec_l20Order_an) (aq [0,1,1] spec_l20Order_an))) ⟨mkE 45 0 [(0, .ptr 0 0), (1, dI x1767)], [some (.box [dV x1768, dI x1769])]⟩ (spec_l20Order_n1 x1768 x1769) (fun (t : Int × Int) => (Exit.normal, ⟨mkE 45 0 [(0, .ptr 0 0), (1, dI x1767), (5, .slc 1), (6, dI t.1)], [some (.box [dV x1768, dI t.2]), some (sI ([] : List Int))]⟩)) := .of fun K h => by
  simp only [spec_l20Order_n1, wpW] at h
  exact .of (by kernel_rfl) h

theorem spec_l20Order_n2_l (x1767 : Int) (x1771 : Int) (x1768 : List Int) (x1772 : Int) : Link spec_l20Order_ctx LL (cq [0,0,1,1,1] (bodyOf Try.f23)) (aq [0,0,1,1,1] spec_l20Order_an) ⟨mkE 45 0 [(0, .ptr 0 0), (1, dI x1767), (5, .slc 1), (6, dI x1771)], [some (.box [dV x1768, dI x1772]), some (sI ([] : List Int))]⟩ (spec_l20Order_n2) (fun (t : Unit) => (Exit.normal, ⟨mkE 45 0 [(0, .ptr 0 0), (1, dI x1767), (5, .slc 1), (6, dI x1771), (7, dI 1)], [some (.box [dV x1768, dI x1772]), some (sI ([] : List Int))]⟩)) := .of fun K h => by
  simp only [spec_l20Order_n2, wpW] at h
  exact .of (by kernel_rfl) h

theorem spec_l20Order_n3_l (x1767 : Int) (x1771 : Int) (x1914 : Int) (x1768 : List Int) (x1915 : Int) (x1916 : List Int) : Link spec_l20Order_ctx LL (cq [0,0,1,0,1,1,1] (bodyOf Try.f23)) (aq [0,0,1,0,1,1,1] spec_l20Order_an) ⟨mkE 45 0 [(0, .ptr 0 0), (1, dI x1767), (5, .slc 1), (6, dI x1771), (7, dI x1914)], [some (.box [dV x1768, dI x1915]), some (sI x1916)]⟩ (spec_l20Order_n3 x1767 x1771 x1914 x1768 x1915 x1916) (Sum.elim (fun (t : Int × Int × (List Int)) => (Exit.normal, ⟨mkE 45 0 [(0, .ptr 0 0), (1, dI x1767), (5, .slc 1), (6, dI x1771), (7, dI t.1)], [some (.box [dV x1768, dI t.2.1]), some (sI t.2.2)]⟩)) (fun (t : Int × (List Int)) => ((Exit.exit 0), ⟨mkE 45 0 [(5, .slc 1)], [some (.box [dV x1768, dI t.1]), some (sI t.2)]⟩))) := .of fun K h => by
  simp only [spec_l20Order_n3, wpW] at h
  exact .of (by kernel_rfl) h

def spec_l20Order_n4_l (x1767 : Int) (x1771 : Int) (x1768 : List Int) (x1772 : Int) := (link_loop (mk := fun (s : Int × Int × (List Int)) => ⟨mkE 45 0 [(0, .ptr 0 0), (1, dI x1767), (5, .slc 1), (6, dI x1771), (7, dI s.1)], [some (.box [dV x1768, dI s.2.1]), some (sI s.2.2)]⟩) (fin := (fun (t : Int × (List Int)) => ((Exit.exit 0), ⟨mkE 45 0 [(5, .slc 1)], [some (.box [dV x1768, dI t.1]), some (sI t.2)]⟩))) (by
  rintro t f K h
  · exact h) (fun s => link_map (spec_l20Order_n3_l x1767 x1771 s.1 x1768 s.2.1 s.2.2) (Sum.elim (fun (t : Int × Int × (List Int)) => Sum.inl (t.1, t.2.1, t.2.2)) (fun (t : Int × (List Int)) => Sum.inr t)) (by
  rintro (t | t)
  · kernel_rfl
  · kernel_rfl)) (1, x1772, ([] : List Int)))

def spec_l20Order_n5_l (x1767 : Int) (x1771 : Int) (x1768 : List Int) (x1772 : Int) := (link_block (fin2 := (fun (t : Int × (List Int)) => (Exit.normal, ⟨mkE 45 0 [(5, .slc 1)], [some (.box [dV x1768, dI t.1]), some (sI t.2)]⟩))) (id := 0) (spec_l20Order_n4_l x1767 x1771 x1768 x1772) (fun (t : Int × (List Int)) => (t.1, t.2)) (by
  rintro t K h
  · exact Eq.mp (by kernel_rfl) h))

def spec_l20Order_n6_l (x1767 : Int) (x1771 : Int) (x1768 : List Int) (x1772 : Int) := (link_seq (spec_l20Order_n2_l x1767 x1771 x1768 x1772) (fun (t : Unit) => (spec_l20Order_n5_l x1767 x1771 x1768 x1772)))

theorem spec_l20Order_n7_l (x1768 : List Int) (x1915 : Int) (x1916 : List Int) : Link spec_l20Order_ctx LL (cq [1,1,1,1] (bodyOf Try.f23)) (aq [1,1,1,1] spec_l20Order_an) ⟨mkE 45 0 [(5, .slc 1)], [some (.box [dV x1768, dI x1915]), some (sI x1916)]⟩ (spec_l20Order_n7 x1915 x1916) (fun (t : Int × (List Int)) => (Exit.ret, ⟨mkE 45 0 [(4, .slc 1)], [some (.box [dV x1768, dI t.1]), some (sI t.2)]⟩)) := .of fun K h => by
  simp only [spec_l20Order_n7, wpW] at h
  exact .of (by kernel_rfl) h

def spec_l20Order_n8_l (x1767 : Int) (x1771 : Int) (x1768 : List Int) (x1772 : Int) := (link_seq (spec_l20Order_n6_l x1767 x1771 x1768 x1772) (fun (t : Int × (List Int)) => (spec_l20Order_n7_l x1768 t.1 t.2)))

def spec_l20Order_n9_l (x1767 : Int) (x1768 : List Int) (x1769 : Int) := (link_group (c := (cq [0,1,1] (bodyOf Try.f23))) (a := (aq [0,1,1] spec_l20Order_an)) [(cq [0] (bodyOf Try.f23)), (cq [0,1] (bodyOf Try.f23))] [(aq [0] spec_l20Order_an), (aq [0,1] spec_l20Order_an)] rfl (link_seq (spec_l20Order_n1_l x1767 x1768 x1769) (fun (t : Int × Int) => (spec_l20Order_n8_l x1767 t.1 x1768 t.2))))

theorem spec_l20Order_e (x1767 : Int) (x1768 : List Int) (x1769 : Int) {r : AV} {H' : Heap} (h : (Ans.mk _ (spec_l20Order x1767 x1768 x1769) (fun (t : Int × (List Int)) => (.slc 1, [some (.box [dV x1768, dI t.1]), some (sI t.2)])) [] none).run = some (r, H')) : Awp spec_l20Order_ctx LL (bodyOf Try.f23) spec_l20Order_an ⟨mkE 45 0 [(0, .ptr 0 0), (1, dI x1767)], [some (.box [dV x1768, dI x1769])]⟩ (Ret (tlook tys) Try.f23.results.toList r H') :=
  ret_of' (Link.cast (by kernel_rfl) (by kernel_rfl) (spec_l20Order_n9_l x1767 x1768 x1769)) (by unfold spec_l20Order; kernel_rfl) (by
  intro t
  exact ret_mk [.slc 1] (by kernel_rfl) (by kernel_rfl) (by kernel_rfl) (by kernel_rfl)) h

def F_spec_l20Order : Fun := fun avs H =>
  match avs, H with
  | [.ptr 0 0, .dat (.int .i64) x1767], [some (.box [.dat (.list (.int .u8)) x1768, .dat (.int .i64) x1769])] => ⟨_, spec_l20Order x1767 x1768 x1769, fun (t : Int × (List Int)) => (.slc 1, [some (.box [dV x1768, dI t.1]), some (sI t.2)]), [], none⟩
  | _, _ => Ans.no

theorem spec_l20Order_sound : Sound Try.prog 23 F_spec_l20Order := by
  refine fn_sound' (C := spec_l20Order_ctx) (c := bodyOf Try.f23) (cok_of tys_ok (allc spec_l20Rd_pick_sound alln) (allc Try.call21 alln) (by kernel_rfl)) Try.func23 (by kernel_rfl) LL spec_l20Order_an ?_
  intro avs H r H' h
  unfold F_spec_l20Order at h
  split at h
  · refine Awp.cast ?_ ?_ ?_ (spec_l20Order_e _ _ _ h) <;> kernel_rfl
  · simp [Ans.no, Ans.run] at h


/-! (*loop.example/headtrees/spec.l20Rd).odd -/

def spec_l20Rd_odd_an : Ann := (.seq (.leaf [0, 1]) (.seq (.leaf [4]) (.leaf [4])))

noncomputable def spec_l20Rd_odd_ctx : Ctx := ⟨tlook tys, olook [(21, F_spec_l20Rd_pick)], ioF, 1, false, []⟩

theorem spec_l20Rd_odd_n1_l (x2223 : Int) (x2224 : List Int) (x2225 : Int) : Link spec_l20Rd_odd_ctx LL (bodyOf Try.f28) spec_l20Rd_odd_an ⟨mkE 15 0 [(0, .ptr 0 0), (1, dI x2223)], [some (.box [dV x2224, dI x2225])]⟩ (spec_l20Rd_odd_n1 x2223 x2224 x2225) (fun (t : Bool × Int) => (Exit.ret, ⟨mkE 15 0 [(4, dB t.1)], [some (.box [dV x2224, dI t.2])]⟩)) := .of fun K h => by
  simp only [spec_l20Rd_odd_n1, wpW] at h
  exact .of (by kernel_rfl) h

theorem spec_l20Rd_odd_e (x2223 : Int) (x2224 : List Int) (x2225 : Int) {r : AV} {H' : Heap} (h : (Ans.mk _ (spec_l20Rd_odd x2223 x2224 x2225) (fun (t : Bool × Int) => (dB t.1, [some (.box [dV x2224, dI t.2])])) [] none).run = some (r, H')) : Awp spec_l20Rd_odd_ctx LL (bodyOf Try.f28) spec_l20Rd_odd_an ⟨mkE 15 0 [(0, .ptr 0 0), (1, dI x2223)], [some (.box [dV x2224, dI x2225])]⟩ (Ret (tlook tys) Try.f28.results.toList r H') :=
  ret_of' (spec_l20Rd_odd_n1_l x2223 x2224 x2225) (by unfold spec_l20Rd_odd; kernel_rfl) (by
  intro t
  exact ret_mk [dB t.1] (by kernel_rfl) (by kernel_rfl) (by kernel_rfl) (by kernel_rfl)) h

def F_spec_l20Rd_odd : Fun := fun avs H =>
  match avs, H with
  | [.ptr 0 0, .dat (.int .i64) x2223], [some (.box [.dat (.list (.int .u8)) x2224, .dat (.int .i64) x2225])] => ⟨_, spec_l20Rd_odd x2223 x2224 x2225, fun (t : Bool × Int) => (dB t.1, [some (.box [dV x2224, dI t.2])]), [], none⟩
  | _, _ => Ans.no

theorem spec_l20Rd_odd_sound : Sound Try.prog 28 F_spec_l20Rd_odd := by
  refine fn_sound' (C := spec_l20Rd_odd_ctx) (c := bodyOf Try.f28) (cok_of tys_ok (allc spec_l20Rd_pick_sound alln) (allc Try.call21 alln) (by kernel_rfl)) Try.func28 (by kernel_rfl) LL spec_l20Rd_odd_an ?_
  intro avs H r H' h
  unfold F_spec_l20Rd_odd at h
  split at h
  · refine Awp.cast ?_ ?_ ?_ (spec_l20Rd_odd_e _ _ _ h) <;> kernel_rfl
  · simp [Ans.no, Ans.run] at h


/-! loop.example/headtrees/spec.l20Tree -/

def spec_l20Tree_an : Ann := (.seq (.leaf [0, 1]) (.seq (.leaf [0, 1, 5]) (.seq (.leaf [0, 1, 5, 6]) (.seq (.leaf [0, 1, 5, 6, 7]) (.seq (.leaf [0, 1, 5, 6, 7, 8]) (.seq (.seq (.leaf [0, 1, 5, 6, 7, 8, 9]) (.block (.loop (.seq (.seq (.leaf [0, 1, 5, 6, 7, 8, 9, 23]) (.cond (.leaf [0, 1, 5, 6, 7, 8, 9]) (.leaf [0, 1, 5, 7]))) (.seq (.block (.seq (.leaf [0, 1, 5, 6, 7, 8, 9, 10]) (.seq (.seq (.leaf [0, 1, 5, 6, 7, 8, 9, 10, 35]) (.cond (.leaf [0, 1, 5, 6, 7, 8, 9, 10]) (.leaf [0, 1, 5, 6, 7, 8, 9, 10]))) (.draw [] [0, 1, 2, 3, 4, 5, 6, 7, 8, 9, 10, 11] [] [0, 1, 5, 6, 7, 8, 9])))) (.leaf [0, 1, 5, 6, 7, 8, 9])))))) (.seq (.seq (.leaf [0, 5, 7, 51]) (.cond (.seq (.leaf [0, 5, 7, 53]) (.block (.seq (.leaf [0, 5, 7, 53, 63]) (.cond (.seq (.leaf [4]) (.leaf [4])) (.seq (.leaf [0, 5, 7, 53, 66]) (.cond (.seq (.leaf [4]) (.leaf [4])) (.seq (.leaf [0, 5, 7, 69]) (.cond (.seq (.leaf [7]) (.seq (.leaf [4]) (.leaf [4]))) (.leaf [7]))))))))) (.leaf [7]))) (.seq (.leaf [4]) (.leaf [4])))))))))

noncomputable def spec_l20Tree_ctx : Ctx := ⟨tlook tys, olook [(21, F_spec_l20Rd_pick), (23, F_spec_l20Order), (28, F_spec_l20Rd_odd)], ioF, 1, false, []⟩

theorem spec_l20Tree_n1_l (x1608 : Int) (x1609 : List Int) (x1610 : Int) : Link spec_l20Tree_ctx LL (Code.seq (cq [0] (bodyOf Try.f20)) (Code.seq (cq [0,1] (bodyOf Try.f20)) (Code.seq (cq [0,1,1] (bodyOf Try.f20)) (Code.seq (cq [0,1,1,1] (bodyOf Try.f20)) (cq [0,1,1,1,1] (bodyOf Try.f20)))))) (Ann.seq (aq [0] spec_l20Tree_an) (Ann.seq (aq [0,1] spec_l20Tree_an) (Ann.seq (aq [0,1,1] spec_l20Tree_an) (Ann.seq (aq [0,1,1,1] spec_l20Tree_an) (aq [0,1,1,1,1] spec_l20Tree_an))))) ⟨mkE 80 0 [(0, .ptr 0 0), (1, dI x1608)], [some (.box [dV x1609, dI x1610])]⟩ (spec_l20Tree_n1 x1609 x1610) (fun (t : Int × Int × Int × (List Int) × (List Int)) => (Exit.normal, ⟨mkE 80 0 [(0, .ptr 0 0), (1, dI x1608), (5, dI t.1), (6, .slc 1), (7, .slc 2), (8, dI t.2.1)], [some (.box [dV x1609, dI t.2.2.1]), some (sI t.2.2.2.1), some (sI t.2.2.2.2)]⟩)) := .of fun K h => by
  simp only [spec_l20Tree_n1, wpW] at h
  exact .of (by kernel_rfl) h

theorem spec_l20Tree_n2_l (x1608 : Int) (x2073 : Int) (x2080 : Int) (x1609 : List Int) (x2081 : Int) (x2076 : List Int) (x2078 : List Int) : Link spec_l20Tree_ctx LL (cq [0,0,1,1,1,1,1] (bodyOf Try.f20)) (aq [0,0,1,1,1,1,1] spec_l20Tree_an) ⟨mkE 80 0 [(0, .ptr 0 0), (1, dI x1608), (5, dI x2073), (6, .slc 1), (7, .slc 2), (8, dI x2080)], [some (.box [dV x1609, dI x2081]), some (sI x2076), some (sI x2078)]⟩ (spec_l20Tree_n2) (fun (t : Unit) => (Exit.normal, ⟨mkE 80 0 [(0, .ptr 0 0), (1, dI x1608), (5, dI x2073), (6, .slc 1), (7, .slc 2), (8, dI x2080), (9, dI 1)], [some (.box [dV x1609, dI x2081]), some (sI x2076), some (sI x2078)]⟩)) := .of fun K h => by
  simp only [spec_l20Tree_n2, wpW] at h
  exact .of (by kernel_rfl) h

theorem spec_l20Tree_n3_l (x1608 : Int) (x2073 : Int) (x2080 : Int) (x2151 : Int) (x1609 : List Int) (x2152 : Int) (x2076 : List Int) (x2153 : List Int) : Link spec_l20Tree_ctx LL (cq [0,0,1,0,1,1,1,1,1] (bodyOf Try.f20)) (aq [0,0,1,0,1,1,1,1,1] spec_l20Tree_an) ⟨mkE 80 0 [(0, .ptr 0 0), (1, dI x1608), (5, dI x2073), (6, .slc 1), (7, .slc 2), (8, dI x2080), (9, dI x2151)], [some (.box [dV x1609, dI x2152]), some (sI x2076), some (sI x2153)]⟩ (spec_l20Tree_n3 x2073 x2080 x2151 x1609 x2152 x2076 x2153) (Sum.elim (fun (t : Int × Int × (List Int)) => (Exit.normal, ⟨mkE 80 0 [(0, .ptr 0 0), (1, dI x1608), (5, dI x2073), (6, .slc 1), (7, .slc 2), (8, dI x2080), (9, dI t.1)], [some (.box [dV x1609, dI t.2.1]), some (sI x2076), some (sI t.2.2)]⟩)) (fun (t : Int × (List Int)) => ((Exit.exit 0), ⟨mkE 80 0 [(0, .ptr 0 0), (1, dI x1608), (5, dI x2073), (7, .slc 1)], [some (.box [dV x1609, dI t.1]), some (sI t.2)]⟩))) := .of fun K h => by
  simp only [spec_l20Tree_n3, wpW] at h
  exact .of (by kernel_rfl) h

def spec_l20Tree_n4_l (x1608 : Int) (x2073 : Int) (x2080 : Int) (x1609 : List Int) (x2081 : Int) (x2076 : List Int) (x2078 : List Int) := (link_loop (mk := fun (s : Int × Int × (List Int)) => ⟨mkE 80 0 [(0, .ptr 0 0), (1, dI x1608), (5, dI x2073), (6, .slc 1), (7, .slc 2), (8, dI x2080), (9, dI s.1)], [some (.box [dV x1609, dI s.2.1]), some (sI x2076), some (sI s.2.2)]⟩) (fin := (fun (t : Int × (List Int)) => ((Exit.exit 0), ⟨mkE 80 0 [(0, .ptr 0 0), (1, dI x1608), (5, dI x2073), (7, .slc 1)], [some (.box [dV x1609, dI t.1]), some (sI t.2)]⟩))) (by
  rintro t f K h
  · exact h) (fun s => link_map (spec_l20Tree_n3_l x1608 x2073 x2080 s.1 x1609 s.2.1 x2076 s.2.2) (Sum.elim (fun (t : Int × Int × (List Int)) => Sum.inl (t.1, t.2.1, t.2.2)) (fun (t : Int × (List Int)) => Sum.inr t)) (by
  rintro (t | t)
  · kernel_rfl
  · kernel_rfl)) (1, x2081, x2078))

def spec_l20Tree_n5_l (x1608 : Int) (x2073 : Int) (x2080 : Int) (x1609 : List Int) (x2081 : Int) (x2076 : List Int) (x2078 : List Int) := (link_block (fin2 := (fun (t : Int × (List Int)) => (Exit.normal, ⟨mkE 80 0 [(0, .ptr 0 0), (1, dI x1608), (5, dI x2073), (7, .slc 1)], [some (.box [dV x1609, dI t.1]), some (sI t.2)]⟩))) (id := 0) (spec_l20Tree_n4_l x1608 x2073 x2080 x1609 x2081 x2076 x2078) (fun (t : Int × (List Int)) => (t.1, t.2)) (by
  rintro t K h
  · exact Eq.mp (by kernel_rfl) h))

def spec_l20Tree_n6_l (x1608 : Int) (x2073 : Int) (x2080 : Int) (x1609 : List Int) (x2081 : Int) (x2076 : List Int) (x2078 : List Int) := (link_seq (spec_l20Tree_n2_l x1608 x2073 x2080 x1609 x2081 x2076 x2078) (fun (t : Unit) => (spec_l20Tree_n5_l x1608 x2073 x2080 x1609 x2081 x2076 x2078)))

theorem spec_l20Tree_n7_l (x1608 : Int) (x2073 : Int) (x1609 : List Int) (x2152 : Int) (x2153 : List Int) : Link spec_l20Tree_ctx LL (cq [1,1,1,1,1,1] (bodyOf Try.f20)) (aq [1,1,1,1,1,1] spec_l20Tree_an) ⟨mkE 80 0 [(0, .ptr 0 0), (1, dI x1608), (5, dI x2073), (7, .slc 1)], [some (.box [dV x1609, dI x2152]), some (sI x2153)]⟩ (spec_l20Tree_n7 x1608 x2073 x1609 x2152 x2153) (fun (t : Int × (List Int)) => (Exit.ret, ⟨mkE 80 0 [(4, .slc 1)], [some (.box [dV x1609, dI t.1]), some (sI t.2)]⟩)) := .of fun K h => by
  simp only [spec_l20Tree_n7, wpW] at h
  exact .of (by kernel_rfl) h

def spec_l20Tree_n8_l (x1608 : Int) (x2073 : Int) (x2080 : Int) (x1609 : List Int) (x2081 : Int) (x2076 : List Int) (x2078 : List Int) := (link_seq (spec_l20Tree_n6_l x1608 x2073 x2080 x1609 x2081 x2076 x2078) (fun (t : Int × (List Int)) => (spec_l20Tree_n7_l x1608 x2073 x1609 t.1 t.2)))

def spec_l20Tree_n9_l (x1608 : Int) (x1609 : List Int) (x1610 : Int) := (link_group (c := (cq [0,1,1,1,1] (bodyOf Try.f20))) (a := (aq [0,1,1,1,1] spec_l20Tree_an)) [(cq [0] (bodyOf Try.f20)), (cq [0,1] (bodyOf Try.f20)), (cq [0,1,1] (bodyOf Try.f20)), (cq [0,1,1,1] (bodyOf Try.f20))] [(aq [0] spec_l20Tree_an), (aq [0,1] spec_l20Tree_an), (aq [0,1,1] spec_l20Tree_an), (aq [0,1,1,1] spec_l20Tree_an)] rfl (link_seq (spec_l20Tree_n1_l x1608 x1609 x1610) (fun (t : Int × Int × Int × (List Int) × (List Int)) => (spec_l20Tree_n8_l x1608 t.1 t.2.1 x1609 t.2.2.1 t.2.2.2.1 t.2.2.2.2))))

theorem spec_l20Tree_e (x1608 : Int) (x1609 : List Int) (x1610 : Int) {r : AV} {H' : Heap} (h : (Ans.mk _ (spec_l20Tree x1608 x1609 x1610) (fun (t : Int × (List Int)) => (.slc 1, [some (.box [dV x1609, dI t.1]), some (sI t.2)])) [] none).run = some (r, H')) : Awp spec_l20Tree_ctx LL (bodyOf Try.f20) spec_l20Tree_an ⟨mkE 80 0 [(0, .ptr 0 0), (1, dI x1608)], [some (.box [dV x1609, dI x1610])]⟩ (Ret (tlook tys) Try.f20.results.toList r H') :=
  ret_of' (Link.cast (by kernel_rfl) (by kernel_rfl) (spec_l20Tree_n9_l x1608 x1609 x1610)) (by unfold spec_l20Tree; kernel_rfl) (by
  intro t
  exact ret_mk [.slc 1] (by kernel_rfl) (by kernel_rfl) (by kernel_rfl) (by kernel_rfl)) h

def F_spec_l20Tree : Fun := fun avs H =>
  match avs, H with
  | [.ptr 0 0, .dat (.int .i64) x1608], [some (.box [.dat (.list (.int .u8)) x1609, .dat (.int .i64) x1610])] => ⟨_, spec_l20Tree x1608 x1609 x1610, fun (t : Int × (List Int)) => (.slc 1, [some (.box [dV x1609, dI t.1]), some (sI t.2)]), [], none⟩
  | _, _ => Ans.no

theorem spec_l20Tree_sound : Sound Try.prog 20 F_spec_l20Tree := by
  refine fn_sound' (C := spec_l20Tree_ctx) (c := bodyOf Try.f20) (cok_of tys_ok (allc spec_l20Rd_pick_sound (allc spec_l20Order_sound (allc spec_l20Rd_odd_sound alln))) (allc Try.call21 (allc Try.call23 (allc Try.call28 alln))) (by kernel_rfl)) Try.func20 (by kernel_rfl) LL spec_l20Tree_an ?_
  intro avs H r H' h
  unfold F_spec_l20Tree at h
  split at h
  · refine Awp.cast ?_ ?_ ?_ (spec_l20Tree_e _ _ _ h) <;> kernel_rfl
  · simp [Ans.no, Ans.run] at h


/-! loop.example/headtrees/spec.l1In -/

def spec_l1In_an : Ann := (.seq (.leaf [0, 1, 2]) (.seq (.leaf [6]) (.leaf [6])))

noncomputable def spec_l1In_ctx : Ctx := ⟨tlook tys, olook [], ioF, 0, false, []⟩

theorem spec_l1In_n1_l (x2339 : Int) (x2340 : Int) (x2341 : Int) : Link spec_l1In_ctx LL (bodyOf Try.f26) spec_l1In_an ⟨mkE 15 0 [(0, dI x2339), (1, dI x2340), (2, dI x2341)], []⟩ (spec_l1In_n1 x2339 x2340 x2341) (fun (t : Bool) => (Exit.ret, ⟨mkE 15 0 [(6, dB t)], []⟩)) := .of fun K h => by
  simp only [spec_l1In_n1, wpW] at h
  exact .of (by kernel_rfl) h

theorem spec_l1In_e (x2339 : Int) (x2340 : Int) (x2341 : Int) {r : AV} {H' : Heap} (h : (Ans.mk _ (spec_l1In x2339 x2340 x2341) (fun (t : Bool) => (dB t, [])) [] none).run = some (r, H')) : Awp spec_l1In_ctx LL (bodyOf Try.f26) spec_l1In_an ⟨mkE 15 0 [(0, dI x2339), (1, dI x2340), (2, dI x2341)], []⟩ (Ret (tlook tys) Try.f26.results.toList r H') :=
  ret_of' (spec_l1In_n1_l x2339 x2340 x2341) (by unfold spec_l1In; kernel_rfl) (by
  intro t
  exact ret_mk [dB t] (by kernel_rfl) (by kernel_rfl) (by kernel_rfl) (by kernel_rfl)) h

def F_spec_l1In : Fun := fun avs H =>
  match avs, H with
  | [.dat (.int .i64) x2339, .dat (.int .i64) x2340, .dat (.int .i64) x2341], [] => ⟨_, spec_l1In x2339 x2340 x2341, fun (t : Bool) => (dB t, []), [], none⟩
  | _, _ => Ans.no

theorem spec_l1In_sound : Sound Try.prog 26 F_spec_l1In := by
  refine fn_sound' (C := spec_l1In_ctx) (c := bodyOf Try.f26) (cok_of tys_ok (alln) (alln) (by kernel_rfl)) Try.func26 (by kernel_rfl) LL spec_l1In_an ?_
  intro avs H r H' h
  unfold F_spec_l1In at h
  split at h
  · refine Awp.cast ?_ ?_ ?_ (spec_l1In_e _ _ _ h) <;> kernel_rfl
  · simp [Ans.no, Ans.run] at h


/-! loop.example/headtrees/spec.TreeOk -/

def spec_TreeOk_an : Ann := (.seq (.leaf [0]) (.seq (.leaf [0, 3]) (.seq (.seq (.leaf [0, 3, 12]) (.cond (.seq (.leaf [2]) (.leaf [2])) (.leaf [0, 3]))) (.seq (.leaf [0, 3, 4]) (.seq (.seq (.leaf [0, 3, 4, 5]) (.block (.loop (.seq (.seq (.leaf [0, 3, 4, 5, 15]) (.cond (.leaf [0, 3, 4, 5]) (.leaf [4]))) (.seq (.block (.seq (.seq (.leaf [0, 3, 4, 5, 33]) (.cond (.seq (.leaf [2]) (.leaf [2])) (.leaf [0, 3, 4, 5]))) (.seq (.seq (.leaf [0, 3, 4, 5, 38]) (.cond (.leaf [0, 3, 4, 5]) (.leaf [0, 3, 4, 5]))) (.seq (.leaf [0, 3, 4, 5, 6]) (.seq (.seq (.leaf [0, 3, 4, 5, 6, 7]) (.block (.loop (.seq (.seq (.leaf [0, 3, 4, 5, 6, 7, 49]) (.cond (.leaf [0, 3, 4, 5, 6, 7]) (.leaf [0, 3, 4, 5, 6]))) (.seq (.block (.seq (.leaf [0, 3, 4, 5, 6, 7]) (.seq (.leaf [0, 3, 4, 5, 6, 7, 60]) (.cond (.seq (.leaf [2]) (.leaf [2])) (.leaf [0, 3, 4, 5, 6, 7]))))) (.leaf [0, 3, 4, 5, 6, 7])))))) (.seq (.leaf [0, 3, 4, 5, 62]) (.cond (.seq (.leaf [2]) (.leaf [2])) (.leaf [0, 3, 4, 5])))))))) (.leaf [0, 3, 4, 5])))))) (.seq (.leaf [2]) (.leaf [2])))))))

noncomputable def spec_TreeOk_ctx : Ctx := ⟨tlook tys, olook [(26, F_spec_l1In)], ioF, 0, false, []⟩

theorem spec_TreeOk_n1_l (x2336 : List Int) : Link spec_TreeOk_ctx LL (Code.seq (cq [0] (bodyOf Try.f16)) (Code.seq (cq [0,1] (bodyOf Try.f16)) (Code.seq (cq [0,1,1] (bodyOf Try.f16)) (cq [0,1,1,1] (bodyOf Try.f16))))) (Ann.seq (aq [0] spec_TreeOk_an) (Ann.seq (aq [0,1] spec_TreeOk_an) (Ann.seq (aq [0,1,1] spec_TreeOk_an) (aq [0,1,1,1] spec_TreeOk_an)))) ⟨mkE 65 0 [(0, dL x2336)], []⟩ (spec_TreeOk_n1 x2336) (Sum.elim (fun (t : Int) => (Exit.normal, ⟨mkE 65 0 [(0, dL x2336), (3, dI t), (4, dI 0)], []⟩)) (fun (t : Bool) => (Exit.ret, ⟨mkE 65 0 [(2, dB t)], []⟩))) := .of fun K h => by
  simp only [spec_TreeOk_n1, wpW] at h
  exact .of (by kernel_rfl) h

theorem spec_TreeOk_n2_l (x2336 : List Int) (x2349 : Int) : Link spec_TreeOk_ctx LL (cq [0,0,1,1,1,1] (bodyOf Try.f16)) (aq [0,0,1,1,1,1] spec_TreeOk_an) ⟨mkE 65 0 [(0, dL x2336), (3, dI x2349), (4, dI 0)], []⟩ (spec_TreeOk_n2) (fun (t : Unit) => (Exit.normal, ⟨mkE 65 0 [(0, dL x2336), (3, dI x2349), (4, dI 0), (5, dI 0)], []⟩)) := .of fun K h => by
  simp only [spec_TreeOk_n2, wpW] at h
  exact .of (by kernel_rfl) h

theorem spec_TreeOk_n3_l (x2336 : List Int) (x2349 : Int) (x2416 : Int) (x2417 : Int) : Link spec_TreeOk_ctx LL (cq [0,0,0,1,0,1,1,1,1] (bodyOf Try.f16)) (aq [0,0,0,1,0,1,1,1,1] spec_TreeOk_an) ⟨mkE 65 0 [(0, dL x2336), (3, dI x2349), (4, dI x2416), (5, dI x2417)], []⟩ (spec_TreeOk_n3 x2349 x2416 x2417) (Sum.elim (fun (t : Unit) => (Exit.normal, ⟨mkE 65 0 [(0, dL x2336), (3, dI x2349), (4, dI x2416), (5, dI x2417)], []⟩)) (fun (t : Int) => ((Exit.exit 0), ⟨mkE 65 0 [(4, dI t)], []⟩))) := .of fun K h => by
  simp only [spec_TreeOk_n3, wpW] at h
  exact .of (by kernel_rfl) h

theorem spec_TreeOk_n4_l (x2336 : List Int) (x2349 : Int) (x2416 : Int) (x2417 : Int) : Link spec_TreeOk_ctx LL (Code.seq (cq [0,0,0,1,0,0,1,0,1,1,1,1] (bodyOf Try.f16)) (Code.seq (cq [0,1,0,0,1,0,0,1,0,1,1,1,1] (bodyOf Try.f16)) (cq [0,1,1,0,0,1,0,0,1,0,1,1,1,1] (bodyOf Try.f16)))) (Ann.seq (aq [0,0,0,1,0,0,1,0,1,1,1,1] spec_TreeOk_an) (Ann.seq (aq [0,1,0,0,1,0,0,1,0,1,1,1,1] spec_TreeOk_an) (aq [0,1,1,0,0,1,0,0,1,0,1,1,1,1] spec_TreeOk_an))) ⟨mkE 65 0 [(0, dL x2336), (3, dI x2349), (4, dI x2416), (5, dI x2417)], []⟩ (spec_TreeOk_n4 x2336 x2349 x2416 x2417) (Sum.elim (fun (t : Int × Int) => (Exit.normal, ⟨mkE 65 0 [(0, dL x2336), (3, dI x2349), (4, dI t.1), (5, dI x2417), (6, dI t.2)], []⟩)) (fun (t : Bool) => (Exit.ret, ⟨mkE 65 0 [(2, dB t)], []⟩))) := .of fun K h => by
  simp only [spec_TreeOk_n4, wpW] at h
  exact .of (by kernel_rfl) h

theorem spec_TreeOk_n5_l (x2336 : List Int) (x2349 : Int) (x2445 : Int) (x2417 : Int) (x2446 : Int) : Link spec_TreeOk_ctx LL (cq [0,0,1,1,1,0,0,1,0,0,1,0,1,1,1,1] (bodyOf Try.f16)) (aq [0,0,1,1,1,0,0,1,0,0,1,0,1,1,1,1] spec_TreeOk_an) ⟨mkE 65 0 [(0, dL x2336), (3, dI x2349), (4, dI x2445), (5, dI x2417), (6, dI x2446)], []⟩ (spec_TreeOk_n5) (fun (t : Unit) => (Exit.normal, ⟨mkE 65 0 [(0, dL x2336), (3, dI x2349), (4, dI x2445), (5, dI x2417), (6, dI x2446), (7, dI 0)], []⟩)) := .of fun K h => by
  simp only [spec_TreeOk_n5, wpW] at h
  exact .of (by kernel_rfl) h

theorem spec_TreeOk_n6_l (x2336 : List Int) (x2349 : Int) (x2445 : Int) (x2417 : Int) (x2462 : Int) (x2463 : Int) : Link spec_TreeOk_ctx LL (cq [0,0,1,0,1,1,1,0,0,1,0,0,1,0,1,1,1,1] (bodyOf Try.f16)) (aq [0,0,1,0,1,1,1,0,0,1,0,0,1,0,1,1,1,1] spec_TreeOk_an) ⟨mkE 65 0 [(0, dL x2336), (3, dI x2349), (4, dI x2445), (5, dI x2417), (6, dI x2462), (7, dI x2463)], []⟩ (spec_TreeOk_n6 x2336 x2349 x2462 x2463) (Sum.elim (fun (t : Int × Int) => (Exit.normal, ⟨mkE 65 0 [(0, dL x2336), (3, dI x2349), (4, dI x2445), (5, dI x2417), (6, dI t.1), (7, dI t.2)], []⟩)) (Sum.elim (fun (t : Bool) => (Exit.ret, ⟨mkE 65 0 [(2, dB t)], []⟩)) (fun (t : Int) => ((Exit.exit 2), ⟨mkE 65 0 [(0, dL x2336), (3, dI x2349), (4, dI x2445), (5, dI x2417), (6, dI t)], []⟩)))) := .of fun K h => by
  simp only [spec_TreeOk_n6, wpW] at h
  exact .of (by kernel_rfl) h

def spec_TreeOk_n7_l (x2336 : List Int) (x2349 : Int) (x2445 : Int) (x2417 : Int) (x2446 : Int) := (link_loop (mk := fun (s : Int × Int) => ⟨mkE 65 0 [(0, dL x2336), (3, dI x2349), (4, dI x2445), (5, dI x2417), (6, dI s.1), (7, dI s.2)], []⟩) (fin := (Sum.elim (fun (t : Bool) => (Exit.ret, ⟨mkE 65 0 [(2, dB t)], []⟩)) (fun (t : Int) => ((Exit.exit 2), ⟨mkE 65 0 [(0, dL x2336), (3, dI x2349), (4, dI x2445), (5, dI x2417), (6, dI t)], []⟩)))) (by
  rintro (t | t) f K h
  · exact h
  · exact h) (fun s => link_map (spec_TreeOk_n6_l x2336 x2349 x2445 x2417 s.1 s.2) (Sum.elim (fun (t : Int × Int) => Sum.inl (t.1, t.2)) (Sum.elim (fun (t : Bool) => Sum.inr (Sum.inl t)) (fun (t : Int) => Sum.inr (Sum.inr t)))) (by
  rintro (t | t | t)
  · kernel_rfl
  · kernel_rfl
  · kernel_rfl)) (x2446, 0))

def spec_TreeOk_n8_l (x2336 : List Int) (x2349 : Int) (x2445 : Int) (x2417 : Int) (x2446 : Int) := (link_block (fin2 := (Sum.elim (fun (t : Int) => (Exit.normal, ⟨mkE 65 0 [(0, dL x2336), (3, dI x2349), (4, dI x2445), (5, dI x2417), (6, dI t)], []⟩)) (fun (t : Bool) => (Exit.ret, ⟨mkE 65 0 [(2, dB t)], []⟩)))) (id := 2) (spec_TreeOk_n7_l x2336 x2349 x2445 x2417 x2446) (Sum.elim (fun (t : Bool) => (Sum.inr t)) (fun (t : Int) => (Sum.inl t))) (by
  rintro (t | t) K h
  · exact Eq.mp (by kernel_rfl) h
  · exact Eq.mp (by kernel_rfl) h))

def spec_TreeOk_n9_l (x2336 : List Int) (x2349 : Int) (x2445 : Int) (x2417 : Int) (x2446 : Int) := (link_seq (spec_TreeOk_n5_l x2336 x2349 x2445 x2417 x2446) (fun (t : Unit) => (spec_TreeOk_n8_l x2336 x2349 x2445 x2417 x2446)))

theorem spec_TreeOk_n10_l (x2336 : List Int) (x2349 : Int) (x2445 : Int) (x2417 : Int) (x2462 : Int) : Link spec_TreeOk_ctx LL (cq [1,1,1,1,0,0,1,0,0,1,0,1,1,1,1] (bodyOf Try.f16)) (aq [1,1,1,1,0,0,1,0,0,1,0,1,1,1,1] spec_TreeOk_an) ⟨mkE 65 0 [(0, dL x2336), (3, dI x2349), (4, dI x2445), (5, dI x2417), (6, dI x2462)], []⟩ (spec_TreeOk_n10 x2462) (Sum.elim (fun (t : Unit) => (Exit.normal, ⟨mkE 65 0 [(0, dL x2336), (3, dI x2349), (4, dI x2445), (5, dI x2417)], []⟩)) (fun (t : Bool) => (Exit.ret, ⟨mkE 65 0 [(2, dB t)], []⟩))) := .of fun K h => by
  simp only [spec_TreeOk_n10, wpW] at h
  exact .of (by kernel_rfl) h

def spec_TreeOk_n11_l (x2336 : List Int) (x2349 : Int) (x2445 : Int) (x2417 : Int) (x2446 : Int) := (link_seq2 (spec_TreeOk_n9_l x2336 x2349 x2445 x2417 x2446) (fun (t : Int) => (spec_TreeOk_n10_l x2336 x2349 x2445 x2417 t)) (fun (t : Bool) => (Sum.inr t)) (by
  rintro t
  · kernel_rfl) (by
  rintro t f K h
  · exact h))

def spec_TreeOk_n12_l (x2336 : List Int) (x2349 : Int) (x2416 : Int) (x2417 : Int) := (link_group (c := (cq [0,1,1,0,0,1,0,0,1,0,1,1,1,1] (bodyOf Try.f16))) (a := (aq [0,1,1,0,0,1,0,0,1,0,1,1,1,1] spec_TreeOk_an)) [(cq [0,0,0,1,0,0,1,0,1,1,1,1] (bodyOf Try.f16)), (cq [0,1,0,0,1,0,0,1,0,1,1,1,1] (bodyOf Try.f16))] [(aq [0,0,0,1,0,0,1,0,1,1,1,1] spec_TreeOk_an), (aq [0,1,0,0,1,0,0,1,0,1,1,1,1] spec_TreeOk_an)] rfl (link_seq2 (spec_TreeOk_n4_l x2336 x2349 x2416 x2417) (fun (t : Int × Int) => (link_map (fin2 := (Sum.elim (fun (t : Int) => (Exit.normal, ⟨mkE 65 0 [(0, dL x2336), (3, dI x2349), (4, dI t), (5, dI x2417)], []⟩)) (fun (t : Bool) => (Exit.ret, ⟨mkE 65 0 [(2, dB t)], []⟩)))) (spec_TreeOk_n11_l x2336 x2349 t.1 x2417 t.2) (Sum.elim (fun (u : Unit) => (Sum.inl t.1)) (fun (u : Bool) => (Sum.inr u))) (by
  rintro (t | t)
  · kernel_rfl
  · kernel_rfl))) (fun (t : Bool) => (Sum.inr t)) (by
  rintro t
  · kernel_rfl) (by
  rintro t f K h
  · exact h)))

def spec_TreeOk_n13_l (x2336 : List Int) (x2349 : Int) (x2416 : Int) (x2417 : Int) := (link_block (fin2 := (Sum.elim (fun (t : Int) => (Exit.normal, ⟨mkE 65 0 [(0, dL x2336), (3, dI x2349), (4, dI t), (5, dI x2417)], []⟩)) (fun (t : Bool) => (Exit.ret, ⟨mkE 65 0 [(2, dB t)], []⟩)))) (id := 1) (spec_TreeOk_n12_l x2336 x2349 x2416 x2417) (Sum.elim (fun (t : Int) => (Sum.inl t)) (fun (t : Bool) => (Sum.inr t))) (by
  rintro (t | t) K h
  · exact Eq.mp (by kernel_rfl) h
  · exact Eq.mp (by kernel_rfl) h))

theorem spec_TreeOk_n14_l (x2336 : List Int) (x2349 : Int) (x2445 : Int) (x2417 : Int) : Link spec_TreeOk_ctx LL (cq [1,1,0,0,1,0,1,1,1,1] (bodyOf Try.f16)) (aq [1,1,0,0,1,0,1,1,1,1] spec_TreeOk_an) ⟨mkE 65 0 [(0, dL x2336), (3, dI x2349), (4, dI x2445), (5, dI x2417)], []⟩ (spec_TreeOk_n14 x2417) (fun (t : Int) => (Exit.normal, ⟨mkE 65 0 [(0, dL x2336), (3, dI x2349), (4, dI x2445), (5, dI t)], []⟩)) := .of fun K h => by
  simp only [spec_TreeOk_n14, wpW] at h
  exact .of (by kernel_rfl) h

def spec_TreeOk_n15_l (x2336 : List Int) (x2349 : Int) (x2416 : Int) (x2417 : Int) := (link_seq2 (spec_TreeOk_n13_l x2336 x2349 x2416 x2417) (fun (t : Int) => (link_map (fin2 := (Sum.elim (fun (t : Int × Int) => (Exit.normal, ⟨mkE 65 0 [(0, dL x2336), (3, dI x2349), (4, dI t.1), (5, dI t.2)], []⟩)) (fun (t : Bool) => (Exit.ret, ⟨mkE 65 0 [(2, dB t)], []⟩)))) (spec_TreeOk_n14_l x2336 x2349 t x2417) (fun (u : Int) => (Sum.inl (t, u))) (by
  rintro t
  · kernel_rfl))) (fun (t : Bool) => (Sum.inr t)) (by
  rintro t
  · kernel_rfl) (by
  rintro t f K h
  · exact h))

def spec_TreeOk_n16_l (x2336 : List Int) (x2349 : Int) (x2416 : Int) (x2417 : Int) := (link_seq2 (spec_TreeOk_n3_l x2336 x2349 x2416 x2417) (fun (t : Unit) => (link_map (fin2 := (Sum.elim (fun (t : Int × Int) => (Exit.normal, ⟨mkE 65 0 [(0, dL x2336), (3, dI x2349), (4, dI t.1), (5, dI t.2)], []⟩)) (Sum.elim (fun (t : Bool) => (Exit.ret, ⟨mkE 65 0 [(2, dB t)], []⟩)) (fun (t : Int) => ((Exit.exit 0), ⟨mkE 65 0 [(4, dI t)], []⟩))))) (spec_TreeOk_n15_l x2336 x2349 x2416 x2417) (Sum.elim (fun (t : Int × Int) => (Sum.inl (t.1, t.2))) (fun (t : Bool) => (Sum.inr (Sum.inl t)))) (by
  rintro (t | t)
  · kernel_rfl
  · kernel_rfl))) (fun (t : Int) => (Sum.inr (Sum.inr t))) (by
  rintro t
  · kernel_rfl) (by
  rintro t f K h
  · exact h))

def spec_TreeOk_n17_l (x2336 : List Int) (x2349 : Int) := (link_loop (mk := fun (s : Int × Int) => ⟨mkE 65 0 [(0, dL x2336), (3, dI x2349), (4, dI s.1), (5, dI s.2)], []⟩) (fin := (Sum.elim (fun (t : Bool) => (Exit.ret, ⟨mkE 65 0 [(2, dB t)], []⟩)) (fun (t : Int) => ((Exit.exit 0), ⟨mkE 65 0 [(4, dI t)], []⟩)))) (by
  rintro (t | t) f K h
  · exact h
  · exact h) (fun s => link_map (spec_TreeOk_n16_l x2336 x2349 s.1 s.2) (Sum.elim (fun (t : Int × Int) => Sum.inl (t.1, t.2)) (Sum.elim (fun (t : Bool) => Sum.inr (Sum.inl t)) (fun (t : Int) => Sum.inr (Sum.inr t)))) (by
  rintro (t | t | t)
  · kernel_rfl
  · kernel_rfl
  · kernel_rfl)) (0, 0))

def spec_TreeOk_n18_l (x2336 : List Int) (x2349 : Int) := (link_block (fin2 := (Sum.elim (fun (t : Int) => (Exit.normal, ⟨mkE 65 0 [(4, dI t)], []⟩)) (fun (t : Bool) => (Exit.ret, ⟨mkE 65 0 [(2, dB t)], []⟩)))) (id := 0) (spec_TreeOk_n17_l x2336 x2349) (Sum.elim (fun (t : Bool) => (Sum.inr t)) (fun (t : Int) => (Sum.inl t))) (by
  rintro (t | t) K h
  · exact Eq.mp (by kernel_rfl) h
  · exact Eq.mp (by kernel_rfl) h))

def spec_TreeOk_n19_l (x2336 : List Int) (x2349 : Int) := (link_seq (spec_TreeOk_n2_l x2336 x2349) (fun (t : Unit) => (spec_TreeOk_n18_l x2336 x2349)))

theorem spec_TreeOk_n20_l (x2416 : Int) : Link spec_TreeOk_ctx LL (cq [1,1,1,1,1] (bodyOf Try.f16)) (aq [1,1,1,1,1] spec_TreeOk_an) ⟨mkE 65 0 [(4, dI x2416)], []⟩ (spec_TreeOk_n20 x2416) (fun (t : Bool) => (Exit.ret, ⟨mkE 65 0 [(2, dB t)], []⟩)) := .of fun K h => by
  simp only [spec_TreeOk_n20, wpW] at h
  exact .of (by kernel_rfl) h

def spec_TreeOk_n21_l (x2336 : List Int) (x2349 : Int) := (link_seq2 (spec_TreeOk_n19_l x2336 x2349) (fun (t : Int) => (spec_TreeOk_n20_l t)) (fun (t : Bool) => t) (by
  rintro t
  · kernel_rfl) (by
  rintro t f K h
  · exact h))

def spec_TreeOk_n22_l (x2336 : List Int) := (link_group (c := (cq [0,1,1,1] (bodyOf Try.f16))) (a := (aq [0,1,1,1] spec_TreeOk_an)) [(cq [0] (bodyOf Try.f16)), (cq [0,1] (bodyOf Try.f16)), (cq [0,1,1] (bodyOf Try.f16))] [(aq [0] spec_TreeOk_an), (aq [0,1] spec_TreeOk_an), (aq [0,1,1] spec_TreeOk_an)] rfl (link_seq2 (spec_TreeOk_n1_l x2336) (fun (t : Int) => (spec_TreeOk_n21_l x2336 t)) (fun (t : Bool) => t) (by
  rintro t
  · kernel_rfl) (by
  rintro t f K h
  · exact h)))

theorem spec_TreeOk_e (x2336 : List Int) {r : AV} {H' : Heap} (h : (Ans.mk _ (spec_TreeOk x2336) (fun (t : Bool) => (dB t, [])) [] none).run = some (r, H')) : Awp spec_TreeOk_ctx LL (bodyOf Try.f16) spec_TreeOk_an ⟨mkE 65 0 [(0, dL x2336)], []⟩ (Ret (tlook tys) Try.f16.results.toList r H') :=
  ret_of' (Link.cast (by kernel_rfl) (by kernel_rfl) (spec_TreeOk_n22_l x2336)) (by unfold spec_TreeOk; kernel_rfl) (by
  intro t
  exact ret_mk [dB t] (by kernel_rfl) (by kernel_rfl) (by kernel_rfl) (by kernel_rfl)) h

def F_spec_TreeOk : Fun := fun avs H =>
  match avs, H with
  | [.dat (.list (.int .i64)) x2336], [] => ⟨_, spec_TreeOk x2336, fun (t : Bool) => (dB t, []), [], none⟩
  | _, _ => Ans.no

theorem spec_TreeOk_sound : Sound Try.prog 16 F_spec_TreeOk := by
  refine fn_sound' (C := spec_TreeOk_ctx) (c := bodyOf Try.f16) (cok_of tys_ok (allc spec_l1In_sound alln) (allc Try.call26 alln) (by kernel_rfl)) Try.func16 (by kernel_rfl) LL spec_TreeOk_an ?_
  intro avs H r H' h
  unfold F_spec_TreeOk at h
  split at h
  · refine Awp.cast ?_ ?_ ?_ (spec_TreeOk_e _ h) <;> kernel_rfl
  · simp [Ans.no, Ans.run] at h


/-! loop.example/headtrees/spec.OrderOk -/

def spec_OrderOk_an : Ann := (.seq (.leaf [0, 1]) (.seq (.seq (.leaf [0, 1, 5]) (.block (.loop (.seq (.seq (.leaf [0, 1, 5, 10]) (.cond (.leaf [0, 1, 5]) (.leaf [0, 1]))) (.seq (.block (.seq (.seq (.leaf [0, 1, 5, 19]) (.cond (.seq (.leaf [4]) (.leaf [4])) (.leaf [0, 1, 5]))) (.seq (.leaf [0, 1, 5, 6]) (.block (.loop (.seq (.seq (.leaf [0, 1, 5, 6, 22]) (.cond (.leaf [0, 1, 5, 6]) (.leaf [0, 1, 5]))) (.seq (.block (.seq (.draw [] [0, 1, 2, 3, 4, 5, 6, 7, 8] [] [0, 1, 5, 6, 33]) (.cond (.seq (.leaf [4]) (.leaf [4])) (.leaf [0, 1, 5, 6])))) (.leaf [0, 1, 5, 6])))))))) (.leaf [0, 1, 5])))))) (.seq (.leaf [4]) (.leaf [4]))))

noncomputable def spec_OrderOk_ctx : Ctx := ⟨tlook tys, olook [(26, F_spec_l1In)], ioF, 0, false, []⟩

theorem spec_OrderOk_n1_l (x2495 : List Int) (x2496 : Int) : Link spec_OrderOk_ctx LL (cq [0] (bodyOf Try.f29)) (aq [0] spec_OrderOk_an) ⟨mkE 42 0 [(0, dL x2495), (1, dI x2496)], []⟩ (spec_OrderOk_n1) (fun (t : Unit) => (Exit.normal, ⟨mkE 42 0 [(0, dL x2495), (1, dI x2496)], []⟩)) := .of fun K h => by
  simp only [spec_OrderOk_n1, wpW] at h
  exact .of (by kernel_rfl) h

theorem spec_OrderOk_n2_l (x2495 : List Int) (x2496 : Int) : Link spec_OrderOk_ctx LL (cq [0,0,1] (bodyOf Try.f29)) (aq [0,0,1] spec_OrderOk_an) ⟨mkE 42 0 [(0, dL x2495), (1, dI x2496)], []⟩ (spec_OrderOk_n2) (fun (t : Unit) => (Exit.normal, ⟨mkE 42 0 [(0, dL x2495), (1, dI x2496), (5, dI 0)], []⟩)) := .of fun K h => by
  simp only [spec_OrderOk_n2, wpW] at h
  exact .of (by kernel_rfl) h

theorem spec_OrderOk_n3_l (x2495 : List Int) (x2496 : Int) (x2527 : Int) : Link spec_OrderOk_ctx LL (cq [0,0,0,1,0,1] (bodyOf Try.f29)) (aq [0,0,0,1,0,1] spec_OrderOk_an) ⟨mkE 42 0 [(0, dL x2495), (1, dI x2496), (5, dI x2527)], []⟩ (spec_OrderOk_n3 x2495 x2527) (Sum.elim (fun (t : Unit) => (Exit.normal, ⟨mkE 42 0 [(0, dL x2495), (1, dI x2496), (5, dI x2527)], []⟩)) (fun (t : Unit) => ((Exit.exit 0), ⟨mkE 42 0 [(0, dL x2495), (1, dI x2496)], []⟩))) := .of fun K h => by
  simp only [spec_OrderOk_n3, wpW] at h
  exact .of (by kernel_rfl) h

theorem spec_OrderOk_n4_l (x2495 : List Int) (x2496 : Int) (x2527 : Int) : Link spec_OrderOk_ctx LL (Code.seq (cq [0,0,0,1,0,0,1,0,1] (bodyOf Try.f29)) (cq [0,1,0,0,1,0,0,1,0,1] (bodyOf Try.f29))) (Ann.seq (aq [0,0,0,1,0,0,1,0,1] spec_OrderOk_an) (aq [0,1,0,0,1,0,0,1,0,1] spec_OrderOk_an)) ⟨mkE 42 0 [(0, dL x2495), (1, dI x2496), (5, dI x2527)], []⟩ (spec_OrderOk_n4 x2495 x2496 x2527) (Sum.elim (fun (t : Unit) => (Exit.normal, ⟨mkE 42 0 [(0, dL x2495), (1, dI x2496), (5, dI x2527), (6, dI 0)], []⟩)) (fun (t : Bool) => (Exit.ret, ⟨mkE 42 0 [(4, dB t)], []⟩))) := .of fun K h => by
  simp only [spec_OrderOk_n4, wpW] at h
  exact .of (by kernel_rfl) h

theorem spec_OrderOk_n5_l (x2495 : List Int) (x2496 : Int) (x2527 : Int) (x2546 : Int) : Link spec_OrderOk_ctx LL (cq [0,0,1,1,0,0,1,0,0,1,0,1] (bodyOf Try.f29)) (aq [0,0,1,1,0,0,1,0,0,1,0,1] spec_OrderOk_an) ⟨mkE 42 0 [(0, dL x2495), (1, dI x2496), (5, dI x2527), (6, dI x2546)], []⟩ (spec_OrderOk_n5 x2495 x2527 x2546) (Sum.elim (fun (t : Int) => (Exit.normal, ⟨mkE 42 0 [(0, dL x2495), (1, dI x2496), (5, dI x2527), (6, dI t)], []⟩)) (Sum.elim (fun (t : Bool) => (Exit.ret, ⟨mkE 42 0 [(4, dB t)], []⟩)) (fun (t : Unit) => ((Exit.exit 2), ⟨mkE 42 0 [(0, dL x2495), (1, dI x2496), (5, dI x2527)], []⟩)))) := .of fun K h => by
  simp only [spec_OrderOk_n5, wpW] at h
  exact .of (by kernel_rfl) h

def spec_OrderOk_n6_l (x2495 : List Int) (x2496 : Int) (x2527 : Int) := (link_loop (mk := fun (s : Int) => ⟨mkE 42 0 [(0, dL x2495), (1, dI x2496), (5, dI x2527), (6, dI s)], []⟩) (fin := (Sum.elim (fun (t : Bool) => (Exit.ret, ⟨mkE 42 0 [(4, dB t)], []⟩)) (fun (t : Unit) => ((Exit.exit 2), ⟨mkE 42 0 [(0, dL x2495), (1, dI x2496), (5, dI x2527)], []⟩)))) (by
  rintro (t | t) f K h
  · exact h
  · exact h) (fun s => link_map (spec_OrderOk_n5_l x2495 x2496 x2527 s) (Sum.elim (fun (t : Int) => Sum.inl t) (Sum.elim (fun (t : Bool) => Sum.inr (Sum.inl t)) (fun (t : Unit) => Sum.inr (Sum.inr t)))) (by
  rintro (t | t | t)
  · kernel_rfl
  · kernel_rfl
  · kernel_rfl)) 0)

def spec_OrderOk_n7_l (x2495 : List Int) (x2496 : Int) (x2527 : Int) := (link_block (fin2 := (Sum.elim (fun (t : Unit) => (Exit.normal, ⟨mkE 42 0 [(0, dL x2495), (1, dI x2496), (5, dI x2527)], []⟩)) (fun (t : Bool) => (Exit.ret, ⟨mkE 42 0 [(4, dB t)], []⟩)))) (id := 2) (spec_OrderOk_n6_l x2495 x2496 x2527) (Sum.elim (fun (t : Bool) => (Sum.inr t)) (fun (t : Unit) => (Sum.inl ()))) (by
  rintro (t | t) K h
  · exact Eq.mp (by kernel_rfl) h
  · exact Eq.mp (by kernel_rfl) h))

def spec_OrderOk_n8_l (x2495 : List Int) (x2496 : Int) (x2527 : Int) := (link_group (c := (cq [0,1,0,0,1,0,0,1,0,1] (bodyOf Try.f29))) (a := (aq [0,1,0,0,1,0,0,1,0,1] spec_OrderOk_an)) [(cq [0,0,0,1,0,0,1,0,1] (bodyOf Try.f29))] [(aq [0,0,0,1,0,0,1,0,1] spec_OrderOk_an)] rfl (link_seq2 (spec_OrderOk_n4_l x2495 x2496 x2527) (fun (t : Unit) => (spec_OrderOk_n7_l x2495 x2496 x2527)) (fun (t : Bool) => (Sum.inr t)) (by
  rintro t
  · kernel_rfl) (by
  rintro t f K h
  · exact h)))

def spec_OrderOk_n9_l (x2495 : List Int) (x2496 : Int) (x2527 : Int) := (link_block (fin2 := (Sum.elim (fun (t : Unit) => (Exit.normal, ⟨mkE 42 0 [(0, dL x2495), (1, dI x2496), (5, dI x2527)], []⟩)) (fun (t : Bool) => (Exit.ret, ⟨mkE 42 0 [(4, dB t)], []⟩)))) (id := 1) (spec_OrderOk_n8_l x2495 x2496 x2527) (Sum.elim (fun (t : Unit) => (Sum.inl ())) (fun (t : Bool) => (Sum.inr t))) (by
  rintro (t | t) K h
  · exact Eq.mp (by kernel_rfl) h
  · exact Eq.mp (by kernel_rfl) h))

theorem spec_OrderOk_n10_l (x2495 : List Int) (x2496 : Int) (x2527 : Int) : Link spec_OrderOk_ctx LL (cq [1,1,0,0,1,0,1] (bodyOf Try.f29)) (aq [1,1,0,0,1,0,1] spec_OrderOk_an) ⟨mkE 42 0 [(0, dL x2495), (1, dI x2496), (5, dI x2527)], []⟩ (spec_OrderOk_n10 x2527) (fun (t : Int) => (Exit.normal, ⟨mkE 42 0 [(0, dL x2495), (1, dI x2496), (5, dI t)], []⟩)) := .of fun K h => by
  simp only [spec_OrderOk_n10, wpW] at h
  exact .of (by kernel_rfl) h

def spec_OrderOk_n11_l (x2495 : List Int) (x2496 : Int) (x2527 : Int) := (link_seq2 (spec_OrderOk_n9_l x2495 x2496 x2527) (fun (t : Unit) => (link_map (fin2 := (Sum.elim (fun (t : Int) => (Exit.normal, ⟨mkE 42 0 [(0, dL x2495), (1, dI x2496), (5, dI t)], []⟩)) (fun (t : Bool) => (Exit.ret, ⟨mkE 42 0 [(4, dB t)], []⟩)))) (spec_OrderOk_n10_l x2495 x2496 x2527) (fun (t : Int) => (Sum.inl t)) (by
  rintro t
  · kernel_rfl))) (fun (t : Bool) => (Sum.inr t)) (by
  rintro t
  · kernel_rfl) (by
  rintro t f K h
  · exact h))

def spec_OrderOk_n12_l (x2495 : List Int) (x2496 : Int) (x2527 : Int) := (link_seq2 (spec_OrderOk_n3_l x2495 x2496 x2527) (fun (t : Unit) => (link_map (fin2 := (Sum.elim (fun (t : Int) => (Exit.normal, ⟨mkE 42 0 [(0, dL x2495), (1, dI x2496), (5, dI t)], []⟩)) (Sum.elim (fun (t : Bool) => (Exit.ret, ⟨mkE 42 0 [(4, dB t)], []⟩)) (fun (t : Unit) => ((Exit.exit 0), ⟨mkE 42 0 [(0, dL x2495), (1, dI x2496)], []⟩))))) (spec_OrderOk_n11_l x2495 x2496 x2527) (Sum.elim (fun (t : Int) => (Sum.inl t)) (fun (t : Bool) => (Sum.inr (Sum.inl t)))) (by
  rintro (t | t)
  · kernel_rfl
  · kernel_rfl))) (fun (t : Unit) => (Sum.inr (Sum.inr t))) (by
  rintro t
  · kernel_rfl) (by
  rintro t f K h
  · exact h))

def spec_OrderOk_n13_l (x2495 : List Int) (x2496 : Int) := (link_loop (mk := fun (s : Int) => ⟨mkE 42 0 [(0, dL x2495), (1, dI x2496), (5, dI s)], []⟩) (fin := (Sum.elim (fun (t : Bool) => (Exit.ret, ⟨mkE 42 0 [(4, dB t)], []⟩)) (fun (t : Unit) => ((Exit.exit 0), ⟨mkE 42 0 [(0, dL x2495), (1, dI x2496)], []⟩)))) (by
  rintro (t | t) f K h
  · exact h
  · exact h) (fun s => link_map (spec_OrderOk_n12_l x2495 x2496 s) (Sum.elim (fun (t : Int) => Sum.inl t) (Sum.elim (fun (t : Bool) => Sum.inr (Sum.inl t)) (fun (t : Unit) => Sum.inr (Sum.inr t)))) (by
  rintro (t | t | t)
  · kernel_rfl
  · kernel_rfl
  · kernel_rfl)) 0)

def spec_OrderOk_n14_l (x2495 : List Int) (x2496 : Int) := (link_block (fin2 := (Sum.elim (fun (t : Unit) => (Exit.normal, ⟨mkE 42 0 [(0, dL x2495), (1, dI x2496)], []⟩)) (fun (t : Bool) => (Exit.ret, ⟨mkE 42 0 [(4, dB t)], []⟩)))) (id := 0) (spec_OrderOk_n13_l x2495 x2496) (Sum.elim (fun (t : Bool) => (Sum.inr t)) (fun (t : Unit) => (Sum.inl ()))) (by
  rintro (t | t) K h
  · exact Eq.mp (by kernel_rfl) h
  · exact Eq.mp (by kernel_rfl) h))

def spec_OrderOk_n15_l (x2495 : List Int) (x2496 : Int) := (link_seq (spec_OrderOk_n2_l x2495 x2496) (fun (t : Unit) => (spec_OrderOk_n14_l x2495 x2496)))

theorem spec_OrderOk_n16_l (x2495 : List Int) (x2496 : Int) : Link spec_OrderOk_ctx LL (cq [1,1] (bodyOf Try.f29)) (aq [1,1] spec_OrderOk_an) ⟨mkE 42 0 [(0, dL x2495), (1, dI x2496)], []⟩ (spec_OrderOk_n16 x2495 x2496) (fun (t : Bool) => (Exit.ret, ⟨mkE 42 0 [(4, dB t)], []⟩)) := .of fun K h => by
  simp only [spec_OrderOk_n16, wpW] at h
  exact .of (by kernel_rfl) h

def spec_OrderOk_n17_l (x2495 : List Int) (x2496 : Int) := (link_seq2 (spec_OrderOk_n15_l x2495 x2496) (fun (t : Unit) => (spec_OrderOk_n16_l x2495 x2496)) (fun (t : Bool) => t) (by
  rintro t
  · kernel_rfl) (by
  rintro t f K h
  · exact h))

def spec_OrderOk_n18_l (x2495 : List Int) (x2496 : Int) := (link_seq (spec_OrderOk_n1_l x2495 x2496) (fun (t : Unit) => (spec_OrderOk_n17_l x2495 x2496)))

theorem spec_OrderOk_e (x2495 : List Int) (x2496 : Int) {r : AV} {H' : Heap} (h : (Ans.mk _ (spec_OrderOk x2495 x2496) (fun (t : Bool) => (dB t, [])) [] none).run = some (r, H')) : Awp spec_OrderOk_ctx LL (bodyOf Try.f29) spec_OrderOk_an ⟨mkE 42 0 [(0, dL x2495), (1, dI x2496)], []⟩ (Ret (tlook tys) Try.f29.results.toList r H') :=
  ret_of' (Link.cast (by kernel_rfl) (by kernel_rfl) (spec_OrderOk_n18_l x2495 x2496)) (by unfold spec_OrderOk; kernel_rfl) (by
  intro t
  exact ret_mk [dB t] (by kernel_rfl) (by kernel_rfl) (by kernel_rfl) (by kernel_rfl)) h

def F_spec_OrderOk : Fun := fun avs H =>
  match avs, H with
  | [.dat (.list (.int .i64)) x2495, .dat (.int .i64) x2496], [] => ⟨_, spec_OrderOk x2495 x2496, fun (t : Bool) => (dB t, []), [], none⟩
  | _, _ => Ans.no

theorem spec_OrderOk_sound : Sound Try.prog 29 F_spec_OrderOk := by
  refine fn_sound' (C := spec_OrderOk_ctx) (c := bodyOf Try.f29) (cok_of tys_ok (allc spec_l1In_sound alln) (allc Try.call26 alln) (by kernel_rfl)) Try.func29 (by kernel_rfl) LL spec_OrderOk_an ?_
  intro avs H r H' h
  unfold F_spec_OrderOk at h
  split at h
  · refine Awp.cast ?_ ?_ ?_ (spec_OrderOk_e _ _ h) <;> kernel_rfl
  · simp [Ans.no, Ans.run] at h


/-! loop.example/headtrees/spec.PutInOrder -/

def spec_PutInOrder_an : Ann := (.seq (.leaf [0, 1]) (.seq (.seq (.leaf [0, 1, 19]) (.cond (.seq (.leaf [4, 5]) (.leaf [4, 5])) (.leaf [0, 1]))) (.seq (.leaf [0, 1, 6]) (.seq (.seq (.leaf [0, 1, 6, 7]) (.block (.loop (.seq (.seq (.leaf [0, 1, 6, 7, 28]) (.cond (.leaf [0, 1, 6, 7]) (.leaf [0, 1, 6]))) (.seq (.block (.leaf [0, 1, 6, 7])) (.leaf [0, 1, 6, 7])))))) (.seq (.leaf [0, 1, 6, 8]) (.seq (.seq (.leaf [0, 1, 6, 8, 9]) (.block (.loop (.seq (.seq (.leaf [0, 1, 6, 8, 9, 43]) (.cond (.leaf [0, 1, 6, 8, 9]) (.leaf [8]))) (.seq (.block (.leaf [0, 1, 6, 8, 9])) (.leaf [0, 1, 6, 8, 9])))))) (.seq (.leaf [4, 5]) (.leaf [4, 5]))))))))

noncomputable def spec_PutInOrder_ctx : Ctx := ⟨tlook tys, olook [(16, F_spec_TreeOk), (29, F_spec_OrderOk)], ioF, 0, false, []⟩

theorem spec_PutInOrder_n1_l (x2490 : List Int) (x2491 : List Int) : Link spec_PutInOrder_ctx LL (Code.seq (cq [0] (bodyOf Try.f22)) (Code.seq (cq [0,1] (bodyOf Try.f22)) (cq [0,1,1] (bodyOf Try.f22)))) (Ann.seq (aq [0] spec_PutInOrder_an) (Ann.seq (aq [0,1] spec_PutInOrder_an) (aq [0,1,1] spec_PutInOrder_an))) ⟨mkE 61 0 [(0, dL x2490), (1, dL x2491)], []⟩ (spec_PutInOrder_n1 x2490 x2491) (Sum.elim (fun (t : (List Int)) => (Exit.normal, ⟨mkE 61 0 [(0, dL x2490), (1, dL x2491), (6, .slc 0)], [some (sI t)]⟩)) (fun (t : Bool × (List Int)) => (Exit.ret, ⟨mkE 61 0 [(4, .slc 0), (5, dB t.1)], [some (sI t.2)]⟩))) := .of fun K h => by
  simp only [spec_PutInOrder_n1, wpW] at h
  exact .of (by kernel_rfl) h

theorem spec_PutInOrder_n2_l (x2490 : List Int) (x2491 : List Int) (x2575 : List Int) : Link spec_PutInOrder_ctx LL (cq [0,0,1,1,1] (bodyOf Try.f22)) (aq [0,0,1,1,1] spec_PutInOrder_an) ⟨mkE 61 0 [(0, dL x2490), (1, dL x2491), (6, .slc 0)], [some (sI x2575)]⟩ (spec_PutInOrder_n2) (fun (t : Unit) => (Exit.normal, ⟨mkE 61 0 [(0, dL x2490), (1, dL x2491), (6, .slc 0), (7, dI 0)], [some (sI x2575)]⟩)) := .of fun K h => by
  simp only [spec_PutInOrder_n2, wpW] at h
  exact .of (by kernel_rfl) h

theorem spec_PutInOrder_n3_l (x2490 : List Int) (x2491 : List Int) (x2591 : Int) (x2592 : List Int) : Link spec_PutInOrder_ctx LL (cq [0,0,1,0,1,1,1] (bodyOf Try.f22)) (aq [0,0,1,0,1,1,1] spec_PutInOrder_an) ⟨mkE 61 0 [(0, dL x2490), (1, dL x2491), (6, .slc 0), (7, dI x2591)], [some (sI x2592)]⟩ (spec_PutInOrder_n3 x2491 x2591 x2592) (Sum.elim (fun (t : Int × (List Int)) => (Exit.normal, ⟨mkE 61 0 [(0, dL x2490), (1, dL x2491), (6, .slc 0), (7, dI t.1)], [some (sI t.2)]⟩)) (fun (t : (List Int)) => ((Exit.exit 0), ⟨mkE 61 0 [(0, dL x2490), (1, dL x2491), (6, .slc 0)], [some (sI t)]⟩))) := .of fun K h => by
  simp only [spec_PutInOrder_n3, wpW] at h
  exact .of (by kernel_rfl) h

def spec_PutInOrder_n4_l (x2490 : List Int) (x2491 : List Int) (x2575 : List Int) := (link_loop (mk := fun (s : Int × (List Int)) => ⟨mkE 61 0 [(0, dL x2490), (1, dL x2491), (6, .slc 0), (7, dI s.1)], [some (sI s.2)]⟩) (fin := (fun (t : (List Int)) => ((Exit.exit 0), ⟨mkE 61 0 [(0, dL x2490), (1, dL x2491), (6, .slc 0)], [some (sI t)]⟩))) (by
  rintro t f K h
  · exact h) (fun s => link_map (spec_PutInOrder_n3_l x2490 x2491 s.1 s.2) (Sum.elim (fun (t : Int × (List Int)) => Sum.inl (t.1, t.2)) (fun (t : (List Int)) => Sum.inr t)) (by
  rintro (t | t)
  · kernel_rfl
  · kernel_rfl)) (0, x2575))

def spec_PutInOrder_n5_l (x2490 : List Int) (x2491 : List Int) (x2575 : List Int) := (link_block (fin2 := (fun (t : (List Int)) => (Exit.normal, ⟨mkE 61 0 [(0, dL x2490), (1, dL x2491), (6, .slc 0)], [some (sI t)]⟩))) (id := 0) (spec_PutInOrder_n4_l x2490 x2491 x2575) (fun (t : (List Int)) => t) (by
  rintro t K h
  · exact Eq.mp (by kernel_rfl) h))

def spec_PutInOrder_n6_l (x2490 : List Int) (x2491 : List Int) (x2575 : List Int) := (link_seq (spec_PutInOrder_n2_l x2490 x2491 x2575) (fun (t : Unit) => (spec_PutInOrder_n5_l x2490 x2491 x2575)))

theorem spec_PutInOrder_n7_l (x2490 : List Int) (x2491 : List Int) (x2592 : List Int) : Link spec_PutInOrder_ctx LL (cq [0,1,1,1,1] (bodyOf Try.f22)) (aq [0,1,1,1,1] spec_PutInOrder_an) ⟨mkE 61 0 [(0, dL x2490), (1, dL x2491), (6, .slc 0)], [some (sI x2592)]⟩ (spec_PutInOrder_n7) (fun (t : Unit) => (Exit.normal, ⟨mkE 61 0 [(0, dL x2490), (1, dL x2491), (6, .slc 0), (8, .slc 1)], [some (sI x2592), some (sI ([] : List Int))]⟩)) := .of fun K h => by
  simp only [spec_PutInOrder_n7, wpW] at h
  exact .of (by kernel_rfl) h

theorem spec_PutInOrder_n8_l (x2490 : List Int) (x2491 : List Int) (x2592 : List Int) : Link spec_PutInOrder_ctx LL (cq [0,0,1,1,1,1,1] (bodyOf Try.f22)) (aq [0,0,1,1,1,1,1] spec_PutInOrder_an) ⟨mkE 61 0 [(0, dL x2490), (1, dL x2491), (6, .slc 0), (8, .slc 1)], [some (sI x2592), some (sI ([] : List Int))]⟩ (spec_PutInOrder_n8) (fun (t : Unit) => (Exit.normal, ⟨mkE 61 0 [(0, dL x2490), (1, dL x2491), (6, .slc 0), (8, .slc 1), (9, dI 0)], [some (sI x2592), some (sI ([] : List Int))]⟩)) := .of fun K h => by
  simp only [spec_PutInOrder_n8, wpW] at h
  exact .of (by kernel_rfl) h

theorem spec_PutInOrder_n9_l (x2490 : List Int) (x2491 : List Int) (x2633 : Int) (x2592 : List Int) (x2634 : List Int) : Link spec_PutInOrder_ctx LL (cq [0,0,1,0,1,1,1,1,1] (bodyOf Try.f22)) (aq [0,0,1,0,1,1,1,1,1] spec_PutInOrder_an) ⟨mkE 61 0 [(0, dL x2490), (1, dL x2491), (6, .slc 0), (8, .slc 1), (9, dI x2633)], [some (sI x2592), some (sI x2634)]⟩ (spec_PutInOrder_n9 x2490 x2491 x2633 x2592 x2634) (Sum.elim (fun (t : Int × (List Int)) => (Exit.normal, ⟨mkE 61 0 [(0, dL x2490), (1, dL x2491), (6, .slc 0), (8, .slc 1), (9, dI t.1)], [some (sI x2592), some (sI t.2)]⟩)) (fun (t : (List Int)) => ((Exit.exit 2), ⟨mkE 61 0 [(8, .slc 0)], [some (sI t)]⟩))) := .of fun K h => by
  simp only [spec_PutInOrder_n9, wpW] at h
  exact .of (by kernel_rfl) h

def spec_PutInOrder_n10_l (x2490 : List Int) (x2491 : List Int) (x2592 : List Int) := (link_loop (mk := fun (s : Int × (List Int)) => ⟨mkE 61 0 [(0, dL x2490), (1, dL x2491), (6, .slc 0), (8, .slc 1), (9, dI s.1)], [some (sI x2592), some (sI s.2)]⟩) (fin := (fun (t : (List Int)) => ((Exit.exit 2), ⟨mkE 61 0 [(8, .slc 0)], [some (sI t)]⟩))) (by
  rintro t f K h
  · exact h) (fun s => link_map (spec_PutInOrder_n9_l x2490 x2491 s.1 x2592 s.2) (Sum.elim (fun (t : Int × (List Int)) => Sum.inl (t.1, t.2)) (fun (t : (List Int)) => Sum.inr t)) (by
  rintro (t | t)
  · kernel_rfl
  · kernel_rfl)) (0, ([] : List Int)))

def spec_PutInOrder_n11_l (x2490 : List Int) (x2491 : List Int) (x2592 : List Int) := (link_block (fin2 := (fun (t : (List Int)) => (Exit.normal, ⟨mkE 61 0 [(8, .slc 0)], [some (sI t)]⟩))) (id := 2) (spec_PutInOrder_n10_l x2490 x2491 x2592) (fun (t : (List Int)) => t) (by
  rintro t K h
  · exact Eq.mp (by kernel_rfl) h))

def spec_PutInOrder_n12_l (x2490 : List Int) (x2491 : List Int) (x2592 : List Int) := (link_seq (spec_PutInOrder_n8_l x2490 x2491 x2592) (fun (t : Unit) => (spec_PutInOrder_n11_l x2490 x2491 x2592)))

theorem spec_PutInOrder_n13_l (x2634 : List Int) : Link spec_PutInOrder_ctx LL (cq [1,1,1,1,1,1] (bodyOf Try.f22)) (aq [1,1,1,1,1,1] spec_PutInOrder_an) ⟨mkE 61 0 [(8, .slc 0)], [some (sI x2634)]⟩ (spec_PutInOrder_n13 x2634) (fun (t : Bool × (List Int)) => (Exit.ret, ⟨mkE 61 0 [(4, .slc 0), (5, dB t.1)], [some (sI t.2)]⟩)) := .of fun K h => by
  simp only [spec_PutInOrder_n13, wpW] at h
  exact .of (by kernel_rfl) h

def spec_PutInOrder_n14_l (x2490 : List Int) (x2491 : List Int) (x2592 : List Int) := (link_seq (spec_PutInOrder_n12_l x2490 x2491 x2592) (fun (t : (List Int)) => (spec_PutInOrder_n13_l t)))

def spec_PutInOrder_n15_l (x2490 : List Int) (x2491 : List Int) (x2592 : List Int) := (link_seq (spec_PutInOrder_n7_l x2490 x2491 x2592) (fun (t : Unit) => (spec_PutInOrder_n14_l x2490 x2491 x2592)))

def spec_PutInOrder_n16_l (x2490 : List Int) (x2491 : List Int) (x2575 : List Int) := (link_seq (spec_PutInOrder_n6_l x2490 x2491 x2575) (fun (t : (List Int)) => (spec_PutInOrder_n15_l x2490 x2491 t)))

def spec_PutInOrder_n17_l (x2490 : List Int) (x2491 : List Int) := (link_group (c := (cq [0,1,1] (bodyOf Try.f22))) (a := (aq [0,1,1] spec_PutInOrder_an)) [(cq [0] (bodyOf Try.f22)), (cq [0,1] (bodyOf Try.f22))] [(aq [0] spec_PutInOrder_an), (aq [0,1] spec_PutInOrder_an)] rfl (link_seq2 (spec_PutInOrder_n1_l x2490 x2491) (fun (t : (List Int)) => (spec_PutInOrder_n16_l x2490 x2491 t)) (fun (t : Bool × (List Int)) => t) (by
  rintro t
  · kernel_rfl) (by
  rintro t f K h
  · exact h)))

theorem spec_PutInOrder_e (x2490 : List Int) (x2491 : List Int) {r : AV} {H' : Heap} (h : (Ans.mk _ (spec_PutInOrder x2490 x2491) (fun (t : Bool × (List Int)) => (.tup [.slc 0, dB t.1], [some (sI t.2)])) [] none).run = some (r, H')) : Awp spec_PutInOrder_ctx LL (bodyOf Try.f22) spec_PutInOrder_an ⟨mkE 61 0 [(0, dL x2490), (1, dL x2491)], []⟩ (Ret (tlook tys) Try.f22.results.toList r H') :=
  ret_of' (Link.cast (by kernel_rfl) (by kernel_rfl) (spec_PutInOrder_n17_l x2490 x2491)) (by unfold spec_PutInOrder; kernel_rfl) (by
  intro t
  exact ret_mk [.slc 0, dB t.1] (by kernel_rfl) (by kernel_rfl) (by kernel_rfl) (by kernel_rfl)) h

def F_spec_PutInOrder : Fun := fun avs H =>
  match avs, H with
  | [.dat (.list (.int .i64)) x2490, .dat (.list (.int .i64)) x2491], [] => ⟨_, spec_PutInOrder x2490 x2491, fun (t : Bool × (List Int)) => (.tup [.slc 0, dB t.1], [some (sI t.2)]), [], none⟩
  | _, _ => Ans.no

theorem spec_PutInOrder_sound : Sound Try.prog 22 F_spec_PutInOrder := by
  refine fn_sound' (C := spec_PutInOrder_ctx) (c := bodyOf Try.f22) (cok_of tys_ok (allc spec_TreeOk_sound (allc spec_OrderOk_sound alln)) (allc Try.call16 (allc Try.call29 alln)) (by kernel_rfl)) Try.func22 (by kernel_rfl) LL spec_PutInOrder_an ?_
  intro avs H r H' h
  unfold F_spec_PutInOrder at h
  split at h
  · refine Awp.cast ?_ ?_ ?_ (spec_PutInOrder_e _ _ h) <;> kernel_rfl
  · simp [Ans.no, Ans.run] at h


/-! loop.example/headtrees/spec.l20Fill -/

def spec_l20Fill_an : Ann := (.seq (.seq (.leaf [0, 1, 2, 3, 4, 16]) (.cond (.leaf []) (.leaf [0, 1, 2, 3, 4]))) (.seq (.leaf [0, 1, 2, 3, 4, 10]) (.seq (.leaf [0, 1, 2, 3, 10]) (.seq (.leaf [0, 1, 3, 10, 11]) (.seq (.block (.loop (.seq (.seq (.leaf [0, 1, 3, 10, 11, 33]) (.cond (.leaf [0, 1, 3, 10, 11]) (.leaf [0, 1, 3, 10]))) (.block (.seq (.leaf [0, 1, 3, 10, 11, 12]) (.seq (.leaf [0, 1, 3, 10, 12]) (.leaf [0, 1, 3, 10, 11]))))))) (.seq (.leaf [0, 1, 3, 10, 11]) (.block (.loop (.seq (.seq (.leaf [0, 1, 3, 10, 11, 53]) (.cond (.leaf [0, 1, 3, 10, 11]) (.leaf []))) (.block (.seq (.leaf [0, 1, 3, 10, 11, 13]) (.seq (.leaf [0, 1, 3, 10, 13]) (.leaf [0, 1, 3, 10, 11])))))))))))))

def F_spec_l20Fill_fuel (n : Nat) : Fun := fun avs H =>
  match avs, H with
  | [.ptr 0 0, .slc 1, .dat (.int .i64) x2731, .dat (.int .i64) x2732, .dat (.int .i64) x2733], [some (.box [.dat (.list (.int .u8)) x2734, .dat (.int .i64) x2735]), some (.seq (.int .i64) x2736)] => ⟨_, spec_l20Fill_fuel n x2731 x2732 x2733 x2734 x2735 x2736, fun (t : Int × (List Int)) => (.tup [], [some (.box [dV x2734, dI t.1]), some (sI t.2)]), [], none⟩
  | _, _ => Ans.no

noncomputable def spec_l20Fill_ctx (n : Nat) : Ctx := ⟨tlook tys, olook [(21, F_spec_l20Rd_pick), (30, F_spec_l20Fill_fuel n)], ioF, 2, false, []⟩

theorem spec_l20Fill_n1_l (n : Nat) (x2731 : Int) (x2732 : Int) (x2733 : Int) (x2734 : List Int) (x2735 : Int) (x2736 : List Int) : Link (spec_l20Fill_ctx n) LL (Code.seq (cq [0] (bodyOf Try.f30)) (Code.seq (cq [0,1] (bodyOf Try.f30)) (Code.seq (cq [0,1,1] (bodyOf Try.f30)) (cq [0,1,1,1] (bodyOf Try.f30))))) (Ann.seq (aq [0] spec_l20Fill_an) (Ann.seq (aq [0,1] spec_l20Fill_an) (Ann.seq (aq [0,1,1] spec_l20Fill_an) (aq [0,1,1,1] spec_l20Fill_an)))) ⟨mkE 70 0 [(0, .ptr 0 0), (1, .slc 1), (2, dI x2731), (3, dI x2732), (4, dI x2733)], [some (.box [dV x2734, dI x2735]), some (sI x2736)]⟩ (spec_l20Fill_n1 (spec_l20Fill_fuel n) x2731 x2732 x2733 x2734 x2735 x2736) (Sum.elim (fun (t : Int × Int × (List Int)) => (Exit.normal, ⟨mkE 70 0 [(0, .ptr 0 0), (1, .slc 1), (3, dI x2732), (10, dI t.1), (11, dI x2731)], [some (.box [dV x2734, dI t.2.1]), some (sI t.2.2)]⟩)) (fun (t : Int × (List Int)) => (Exit.ret, ⟨mkE 70 0 [], [some (.box [dV x2734, dI t.1]), some (sI t.2)]⟩))) := .of fun K h => by
  simp only [spec_l20Fill_n1, wpW] at h
  exact .of (by kernel_rfl) h

theorem spec_l20Fill_n2_l (n : Nat) (x2732 : Int) (x2807 : Int) (x2822 : Int) (x2734 : List Int) (x2823 : Int) (x2824 : List Int) : Link (spec_l20Fill_ctx n) LL (cq [0,0,0,1,1,1,1] (bodyOf Try.f30)) (aq [0,0,0,1,1,1,1] spec_l20Fill_an) ⟨mkE 70 0 [(0, .ptr 0 0), (1, .slc 1), (3, dI x2732), (10, dI x2807), (11, dI x2822)], [some (.box [dV x2734, dI x2823]), some (sI x2824)]⟩ (spec_l20Fill_n2 (spec_l20Fill_fuel n) x2807 x2822 x2734 x2823 x2824) (Sum.elim (fun (t : Int × Int × (List Int)) => (Exit.normal, ⟨mkE 70 0 [(0, .ptr 0 0), (1, .slc 1), (3, dI x2732), (10, dI x2807), (11, dI t.1)], [some (.box [dV x2734, dI t.2.1]), some (sI t.2.2)]⟩)) (fun (t : Int × (List Int)) => ((Exit.exit 0), ⟨mkE 70 0 [(0, .ptr 0 0), (1, .slc 1), (3, dI x2732), (10, dI x2807)], [some (.box [dV x2734, dI t.1]), some (sI t.2)]⟩))) := .of fun K h => by
  simp only [spec_l20Fill_n2, wpW] at h
  exact .of (by kernel_rfl) h

def spec_l20Fill_n3_l (n : Nat) (x2732 : Int) (x2807 : Int) (x2731 : Int) (x2734 : List Int) (x2806 : Int) (x2810 : List Int) := (link_loop (mk := fun (s : Int × Int × (List Int)) => ⟨mkE 70 0 [(0, .ptr 0 0), (1, .slc 1), (3, dI x2732), (10, dI x2807), (11, dI s.1)], [some (.box [dV x2734, dI s.2.1]), some (sI s.2.2)]⟩) (fin := (fun (t : Int × (List Int)) => ((Exit.exit 0), ⟨mkE 70 0 [(0, .ptr 0 0), (1, .slc 1), (3, dI x2732), (10, dI x2807)], [some (.box [dV x2734, dI t.1]), some (sI t.2)]⟩))) (by
  rintro t f K h
  · exact h) (fun s => link_map (spec_l20Fill_n2_l n x2732 x2807 s.1 x2734 s.2.1 s.2.2) (Sum.elim (fun (t : Int × Int × (List Int)) => Sum.inl (t.1, t.2.1, t.2.2)) (fun (t : Int × (List Int)) => Sum.inr t)) (by
  rintro (t | t)
  · kernel_rfl
  · kernel_rfl)) (x2731, x2806, x2810))

def spec_l20Fill_n4_l (n : Nat) (x2732 : Int) (x2807 : Int) (x2731 : Int) (x2734 : List Int) (x2806 : Int) (x2810 : List Int) := (link_block (fin2 := (fun (t : Int × (List Int)) => (Exit.normal, ⟨mkE 70 0 [(0, .ptr 0 0), (1, .slc 1), (3, dI x2732), (10, dI x2807)], [some (.box [dV x2734, dI t.1]), some (sI t.2)]⟩))) (id := 0) (spec_l20Fill_n3_l n x2732 x2807 x2731 x2734 x2806 x2810) (fun (t : Int × (List Int)) => (t.1, t.2)) (by
  rintro t K h
  · exact Eq.mp (by kernel_rfl) h))

theorem spec_l20Fill_n5_l (n : Nat) (x2732 : Int) (x2807 : Int) (x2734 : List Int) (x2823 : Int) (x2824 : List Int) : Link (spec_l20Fill_ctx n) LL (cq [0,1,1,1,1,1] (bodyOf Try.f30)) (aq [0,1,1,1,1,1] spec_l20Fill_an) ⟨mkE 70 0 [(0, .ptr 0 0), (1, .slc 1), (3, dI x2732), (10, dI x2807)], [some (.box [dV x2734, dI x2823]), some (sI x2824)]⟩ (spec_l20Fill_n5 (spec_l20Fill_fuel n) x2807) (fun (t : Int) => (Exit.normal, ⟨mkE 70 0 [(0, .ptr 0 0), (1, .slc 1), (3, dI x2732), (10, dI x2807), (11, dI t)], [some (.box [dV x2734, dI x2823]), some (sI x2824)]⟩)) := .of fun K h => by
  simp only [spec_l20Fill_n5, wpW] at h
  exact .of (by kernel_rfl) h

theorem spec_l20Fill_n6_l (n : Nat) (x2732 : Int) (x2807 : Int) (x2849 : Int) (x2734 : List Int) (x2850 : Int) (x2851 : List Int) : Link (spec_l20Fill_ctx n) LL (cq [0,0,1,1,1,1,1,1] (bodyOf Try.f30)) (aq [0,0,1,1,1,1,1,1] spec_l20Fill_an) ⟨mkE 70 0 [(0, .ptr 0 0), (1, .slc 1), (3, dI x2732), (10, dI x2807), (11, dI x2849)], [some (.box [dV x2734, dI x2850]), some (sI x2851)]⟩ (spec_l20Fill_n6 (spec_l20Fill_fuel n) x2732 x2807 x2849 x2734 x2850 x2851) (Sum.elim (fun (t : Int × Int × (List Int)) => (Exit.normal, ⟨mkE 70 0 [(0, .ptr 0 0), (1, .slc 1), (3, dI x2732), (10, dI x2807), (11, dI t.1)], [some (.box [dV x2734, dI t.2.1]), some (sI t.2.2)]⟩)) (fun (t : Int × (List Int)) => ((Exit.exit 2), ⟨mkE 70 0 [], [some (.box [dV x2734, dI t.1]), some (sI t.2)]⟩))) := .of fun K h => by
  simp only [spec_l20Fill_n6, wpW] at h
  exact .of (by kernel_rfl) h

def spec_l20Fill_n7_l (n : Nat) (x2732 : Int) (x2807 : Int) (x2836 : Int) (x2734 : List Int) (x2823 : Int) (x2824 : List Int) := (link_loop (mk := fun (s : Int × Int × (List Int)) => ⟨mkE 70 0 [(0, .ptr 0 0), (1, .slc 1), (3, dI x2732), (10, dI x2807), (11, dI s.1)], [some (.box [dV x2734, dI s.2.1]), some (sI s.2.2)]⟩) (fin := (fun (t : Int × (List Int)) => ((Exit.exit 2), ⟨mkE 70 0 [], [some (.box [dV x2734, dI t.1]), some (sI t.2)]⟩))) (by
  rintro t f K h
  · exact h) (fun s => link_map (spec_l20Fill_n6_l n x2732 x2807 s.1 x2734 s.2.1 s.2.2) (Sum.elim (fun (t : Int × Int × (List Int)) => Sum.inl (t.1, t.2.1, t.2.2)) (fun (t : Int × (List Int)) => Sum.inr t)) (by
  rintro (t | t)
  · kernel_rfl
  · kernel_rfl)) (x2836, x2823, x2824))

def spec_l20Fill_n8_l (n : Nat) (x2732 : Int) (x2807 : Int) (x2836 : Int) (x2734 : List Int) (x2823 : Int) (x2824 : List Int) := (link_block (fin2 := (fun (t : Int × (List Int)) => (Exit.normal, ⟨mkE 70 0 [], [some (.box [dV x2734, dI t.1]), some (sI t.2)]⟩))) (id := 2) (spec_l20Fill_n7_l n x2732 x2807 x2836 x2734 x2823 x2824) (fun (t : Int × (List Int)) => (t.1, t.2)) (by
  rintro t K h
  · exact Eq.mp (by kernel_rfl) h))

def spec_l20Fill_n9_l (n : Nat) (x2732 : Int) (x2807 : Int) (x2734 : List Int) (x2823 : Int) (x2824 : List Int) := (link_seq (spec_l20Fill_n5_l n x2732 x2807 x2734 x2823 x2824) (fun (t : Int) => (spec_l20Fill_n8_l n x2732 x2807 t x2734 x2823 x2824)))

def spec_l20Fill_n10_l (n : Nat) (x2732 : Int) (x2807 : Int) (x2731 : Int) (x2734 : List Int) (x2806 : Int) (x2810 : List Int) := (link_seq (spec_l20Fill_n4_l n x2732 x2807 x2731 x2734 x2806 x2810) (fun (t : Int × (List Int)) => (spec_l20Fill_n9_l n x2732 x2807 x2734 t.1 t.2)))

def spec_l20Fill_n11_l (n : Nat) (x2731 : Int) (x2732 : Int) (x2733 : Int) (x2734 : List Int) (x2735 : Int) (x2736 : List Int) := (link_group (c := (cq [0,1,1,1] (bodyOf Try.f30))) (a := (aq [0,1,1,1] spec_l20Fill_an)) [(cq [0] (bodyOf Try.f30)), (cq [0,1] (bodyOf Try.f30)), (cq [0,1,1] (bodyOf Try.f30))] [(aq [0] spec_l20Fill_an), (aq [0,1] spec_l20Fill_an), (aq [0,1,1] spec_l20Fill_an)] rfl (link_seq2 (spec_l20Fill_n1_l n x2731 x2732 x2733 x2734 x2735 x2736) (fun (t : Int × Int × (List Int)) => (link_map (fin2 := (Sum.elim (fun (t : Int × (List Int)) => (Exit.normal, ⟨mkE 70 0 [], [some (.box [dV x2734, dI t.1]), some (sI t.2)]⟩)) (fun (t : Int × (List Int)) => (Exit.ret, ⟨mkE 70 0 [], [some (.box [dV x2734, dI t.1]), some (sI t.2)]⟩)))) (spec_l20Fill_n10_l n x2732 t.1 x2731 x2734 t.2.1 t.2.2) (fun (u : Int × (List Int)) => (Sum.inl (u.1, u.2))) (by
  rintro t
  · kernel_rfl))) (fun (t : Int × (List Int)) => (Sum.inr t)) (by
  rintro t
  · kernel_rfl) (by
  rintro t f K h
  · exact h)))

theorem spec_l20Fill_e (n : Nat) (x2731 : Int) (x2732 : Int) (x2733 : Int) (x2734 : List Int) (x2735 : Int) (x2736 : List Int) {r : AV} {H' : Heap} (h : (Ans.mk _ (spec_l20Fill_fuel (n + 1) x2731 x2732 x2733 x2734 x2735 x2736) (fun (t : Int × (List Int)) => (.tup [], [some (.box [dV x2734, dI t.1]), some (sI t.2)])) [] none).run = some (r, H')) : Awp (spec_l20Fill_ctx n) LL (bodyOf Try.f30) spec_l20Fill_an ⟨mkE 70 0 [(0, .ptr 0 0), (1, .slc 1), (2, dI x2731), (3, dI x2732), (4, dI x2733)], [some (.box [dV x2734, dI x2735]), some (sI x2736)]⟩ (Ret (tlook tys) Try.f30.results.toList r H') :=
  ret_of (Link.cast (by kernel_rfl) (by kernel_rfl) (spec_l20Fill_n11_l n x2731 x2732 x2733 x2734 x2735 x2736)) (Sum.elim (fun (t : Int × (List Int)) => (t.1, t.2)) (fun (t : Int × (List Int)) => t)) (by (show _ = _); kernel_rfl) (by
  rintro (t | t)
  · exact ret_mk [] (by kernel_rfl) (by kernel_rfl) (by kernel_rfl) (by kernel_rfl)
  · exact ret_mk [] (by kernel_rfl) (by kernel_rfl) (by kernel_rfl) (by kernel_rfl)) h

theorem spec_l20Fill_step (n : Nat) (h30 : Sound Try.prog 30 (F_spec_l20Fill_fuel n)) : Sound Try.prog 30 (F_spec_l20Fill_fuel (n + 1)) := by
  refine fn_sound' (C := spec_l20Fill_ctx n) (c := bodyOf Try.f30) (cok_of tys_ok (allc spec_l20Rd_pick_sound (allc h30 alln)) (allc Try.call21 (allc Try.call30 alln)) (by kernel_rfl)) Try.func30 (by kernel_rfl) LL spec_l20Fill_an ?_
  intro avs H r H' h
  unfold F_spec_l20Fill_fuel at h
  split at h
  · refine Awp.cast ?_ ?_ ?_ (spec_l20Fill_e n _ _ _ _ _ _ h) <;> kernel_rfl
  · simp [Ans.no, Ans.run] at h

theorem spec_l20Fill_null : Sound Try.prog 30 (F_spec_l20Fill_fuel 0) := by
  intro avs H r H' h
  unfold F_spec_l20Fill_fuel at h
  split at h
  · simp [spec_l20Fill_fuel, spec_l20Fill_knot, Ans.run] at h
  · simp [Ans.no, Ans.run] at h

theorem spec_l20Fill_knot_all : ∀ n, Sound Try.prog 30 (F_spec_l20Fill_fuel n)
  | 0 => spec_l20Fill_null
  | n + 1 => by
    have h30 := spec_l20Fill_knot_all n
    exact spec_l20Fill_step n h30

def F_spec_l20Fill : Fun := fun avs H =>
  match avs, H with
  | [.ptr 0 0, .slc 1, .dat (.int .i64) x2731, .dat (.int .i64) x2732, .dat (.int .i64) x2733], [some (.box [.dat (.list (.int .u8)) x2734, .dat (.int .i64) x2735]), some (.seq (.int .i64) x2736)] => ⟨_, spec_l20Fill x2731 x2732 x2733 x2734 x2735 x2736, fun (t : Int × (List Int)) => (.tup [], [some (.box [dV x2734, dI t.1]), some (sI t.2)]), [], none⟩
  | _, _ => Ans.no

theorem spec_l20Fill_sound : Sound Try.prog 30 F_spec_l20Fill := by
  have e : F_spec_l20Fill = F_spec_l20Fill_fuel RR := by
    funext avs H
    unfold F_spec_l20Fill F_spec_l20Fill_fuel
    split <;> first | rfl | (simp only [spec_l20Fill])
  rw [e]
  exact (spec_l20Fill_knot_all RR)


/-! loop.example/headtrees/spec.l20Flat -/

def spec_l20Flat_an : Ann := (.seq (.leaf [0, 1]) (.seq (.seq (.leaf [0, 1, 9]) (.cond (.seq (.leaf [4]) (.leaf [4])) (.leaf [0]))) (.seq (.leaf [0, 5]) (.seq (.leaf [0, 5, 6]) (.seq (.leaf [6]) (.seq (.leaf [4]) (.leaf [4])))))))

noncomputable def spec_l20Flat_ctx : Ctx := ⟨tlook tys, olook [(21, F_spec_l20Rd_pick), (20, F_spec_l20Tree), (30, F_spec_l20Fill)], ioF, 1, false, []⟩

theorem spec_l20Flat_n1_l (x2684 : Int) (x2685 : List Int) (x2686 : Int) : Link spec_l20Flat_ctx LL (bodyOf Try.f24) spec_l20Flat_an ⟨mkE 23 0 [(0, .ptr 0 0), (1, dI x2684)], [some (.box [dV x2685, dI x2686])]⟩ (spec_l20Flat_n1 x2684 x2685 x2686) (fun (t : Int × (List Int)) => (Exit.ret, ⟨mkE 23 0 [(4, .slc 1)], [some (.box [dV x2685, dI t.1]), some (sI t.2)]⟩)) := .of fun K h => by
  simp only [spec_l20Flat_n1, wpW] at h
  exact .of (by kernel_rfl) h

theorem spec_l20Flat_e (x2684 : Int) (x2685 : List Int) (x2686 : Int) {r : AV} {H' : Heap} (h : (Ans.mk _ (spec_l20Flat x2684 x2685 x2686) (fun (t : Int × (List Int)) => (.slc 1, [some (.box [dV x2685, dI t.1]), some (sI t.2)])) [] none).run = some (r, H')) : Awp spec_l20Flat_ctx LL (bodyOf Try.f24) spec_l20Flat_an ⟨mkE 23 0 [(0, .ptr 0 0), (1, dI x2684)], [some (.box [dV x2685, dI x2686])]⟩ (Ret (tlook tys) Try.f24.results.toList r H') :=
  ret_of' (spec_l20Flat_n1_l x2684 x2685 x2686) (by unfold spec_l20Flat; kernel_rfl) (by
  intro t
  exact ret_mk [.slc 1] (by kernel_rfl) (by kernel_rfl) (by kernel_rfl) (by kernel_rfl)) h

def F_spec_l20Flat : Fun := fun avs H =>
  match avs, H with
  | [.ptr 0 0, .dat (.int .i64) x2684], [some (.box [.dat (.list (.int .u8)) x2685, .dat (.int .i64) x2686])] => ⟨_, spec_l20Flat x2684 x2685 x2686, fun (t : Int × (List Int)) => (.slc 1, [some (.box [dV x2685, dI t.1]), some (sI t.2)]), [], none⟩
  | _, _ => Ans.no

theorem spec_l20Flat_sound : Sound Try.prog 24 F_spec_l20Flat := by
  refine fn_sound' (C := spec_l20Flat_ctx) (c := bodyOf Try.f24) (cok_of tys_ok (allc spec_l20Rd_pick_sound (allc spec_l20Tree_sound (allc spec_l20Fill_sound alln))) (allc Try.call21 (allc Try.call20 (allc Try.call30 alln))) (by kernel_rfl)) Try.func24 (by kernel_rfl) LL spec_l20Flat_an ?_
  intro avs H r H' h
  unfold F_spec_l20Flat at h
  split at h
  · refine Awp.cast ?_ ?_ ?_ (spec_l20Flat_e _ _ _ h) <;> kernel_rfl
  · simp [Ans.no, Ans.run] at h


/-! loop.example/headtrees/spec.l20Wild -/

def spec_l20Wild_an : Ann := (.seq (.leaf [0, 1]) (.seq (.leaf [0, 1, 5]) (.seq (.seq (.leaf [0, 1, 5, 17]) (.cond (.seq (.leaf [6]) (.seq (.leaf [4]) (.leaf [4]))) (.leaf [0, 1, 5]))) (.seq (.seq (.leaf [0, 1, 5, 30]) (.cond (.seq (.leaf [4]) (.leaf [4])) (.leaf [5]))) (.seq (.leaf [4]) (.leaf [4]))))))

noncomputable def spec_l20Wild_ctx : Ctx := ⟨tlook tys, olook [(20, F_spec_l20Tree), (21, F_spec_l20Rd_pick), (16, F_spec_TreeOk), (23, F_spec_l20Order), (22, F_spec_PutInOrder), (24, F_spec_l20Flat)], ioF, 1, false, []⟩

theorem spec_l20Wild_n1_l (x1605 : Int) (x1606 : List Int) (x1607 : Int) : Link spec_l20Wild_ctx LL (bodyOf Try.f13) spec_l20Wild_an ⟨mkE 35 0 [(0, .ptr 0 0), (1, dI x1605)], [some (.box [dV x1606, dI x1607])]⟩ (spec_l20Wild_n1 x1605 x1606 x1607) (fun (t : Int × (List Int)) => (Exit.ret, ⟨mkE 35 0 [(4, .slc 1)], [some (.box [dV x1606, dI t.1]), some (sI t.2)]⟩)) := .of fun K h => by
  simp only [spec_l20Wild_n1, wpW] at h
  exact .of (by kernel_rfl) h

theorem spec_l20Wild_e (x1605 : Int) (x1606 : List Int) (x1607 : Int) {r : AV} {H' : Heap} (h : (Ans.mk _ (spec_l20Wild x1605 x1606 x1607) (fun (t : Int × (List Int)) => (.slc 1, [some (.box [dV x1606, dI t.1]), some (sI t.2)])) [] none).run = some (r, H')) : Awp spec_l20Wild_ctx LL (bodyOf Try.f13) spec_l20Wild_an ⟨mkE 35 0 [(0, .ptr 0 0), (1, dI x1605)], [some (.box [dV x1606, dI x1607])]⟩ (Ret (tlook tys) Try.f13.results.toList r H') :=
  ret_of' (spec_l20Wild_n1_l x1605 x1606 x1607) (by unfold spec_l20Wild; kernel_rfl) (by
  intro t
  exact ret_mk [.slc 1] (by kernel_rfl) (by kernel_rfl) (by kernel_rfl) (by kernel_rfl)) h

def F_spec_l20Wild : Fun := fun avs H =>
  match avs, H with
  | [.ptr 0 0, .dat (.int .i64) x1605], [some (.box [.dat (.list (.int .u8)) x1606, .dat (.int .i64) x1607])] => ⟨_, spec_l20Wild x1605 x1606 x1607, fun (t : Int × (List Int)) => (.slc 1, [some (.box [dV x1606, dI t.1]), some (sI t.2)]), [], none⟩
  | _, _ => Ans.no

theorem spec_l20Wild_sound : Sound Try.prog 13 F_spec_l20Wild := by
  refine fn_sound' (C := spec_l20Wild_ctx) (c := bodyOf Try.f13) (cok_of tys_ok (allc spec_l20Tree_sound (allc spec_l20Rd_pick_sound (allc spec_TreeOk_sound (allc spec_l20Order_sound (allc spec_PutInOrder_sound (allc spec_l20Flat_sound alln)))))) (allc Try.call20 (allc Try.call21 (allc Try.call16 (allc Try.call23 (allc Try.call22 (allc Try.call24 alln)))))) (by kernel_rfl)) Try.func13 (by kernel_rfl) LL spec_l20Wild_an ?_
  intro avs H r H' h
  unfold F_spec_l20Wild at h
  split at h
  · refine Awp.cast ?_ ?_ ?_ (spec_l20Wild_e _ _ _ h) <;> kernel_rfl
  · simp [Ans.no, Ans.run] at h


/-! loop.example/headtrees/spec.DrawDeskNew -/

def spec_DrawDeskNew_an : Ann := (.seq (.leaf [0]) (.seq (.leaf [2]) (.leaf [2])))

noncomputable def spec_DrawDeskNew_ctx : Ctx := ⟨tlook tys, olook [(14, F_spec_l20Open), (13, F_spec_l20Wild)], ioF, 0, false, []⟩

theorem spec_DrawDeskNew_n1_l (x1586 : List Int) : Link spec_DrawDeskNew_ctx LL (bodyOf Try.f4) spec_DrawDeskNew_an ⟨mkE 6 0 [(0, dV x1586)], []⟩ (spec_DrawDeskNew_n1 x1586) (fun (t : (List Int)) => (Exit.ret, ⟨mkE 6 0 [(2, .slc 0)], [some (sI t)]⟩)) := .of fun K h => by
  simp only [spec_DrawDeskNew_n1, wpW] at h
  exact .of (by kernel_rfl) h

theorem spec_DrawDeskNew_e (x1586 : List Int) {r : AV} {H' : Heap} (h : (Ans.mk _ (spec_DrawDeskNew x1586) (fun (t : (List Int)) => (.slc 0, [some (sI t)])) [] none).run = some (r, H')) : Awp spec_DrawDeskNew_ctx LL (bodyOf Try.f4) spec_DrawDeskNew_an ⟨mkE 6 0 [(0, dV x1586)], []⟩ (Ret (tlook tys) Try.f4.results.toList r H') :=
  ret_of' (spec_DrawDeskNew_n1_l x1586) (by unfold spec_DrawDeskNew; kernel_rfl) (by
  intro t
  exact ret_mk [.slc 0] (by kernel_rfl) (by kernel_rfl) (by kernel_rfl) (by kernel_rfl)) h

def F_spec_DrawDeskNew : Fun := fun avs H =>
  match avs, H with
  | [.dat (.list (.int .u8)) x1586], [] => ⟨_, spec_DrawDeskNew x1586, fun (t : (List Int)) => (.slc 0, [some (sI t)]), [], none⟩
  | _, _ => Ans.no

theorem spec_DrawDeskNew_sound : Sound Try.prog 4 F_spec_DrawDeskNew := by
  refine fn_sound' (C := spec_DrawDeskNew_ctx) (c := bodyOf Try.f4) (cok_of tys_ok (allc spec_l20Open_sound (allc spec_l20Wild_sound alln)) (allc Try.call14 (allc Try.call13 alln)) (by kernel_rfl)) Try.func4 (by kernel_rfl) LL spec_DrawDeskNew_an ?_
  intro avs H r H' h
  unfold F_spec_DrawDeskNew at h
  split at h
  · refine Awp.cast ?_ ?_ ?_ (spec_DrawDeskNew_e _ h) <;> kernel_rfl
  · simp [Ans.no, Ans.run] at h


/-! loop.example/headtrees/impl.oneRoot -/

def impl_oneRoot_an : Ann := (.seq (.leaf [0]) (.seq (.leaf [0, 3]) (.seq (.seq (.leaf [0, 3, 6, 7, 8]) (.block (.loop (.seq (.leaf [0, 3, 6, 7, 8, 9]) (.seq (.cond (.leaf [0, 3, 6, 7, 8]) (.leaf [3])) (.seq (.block (.seq (.leaf [0, 3, 5, 6, 7, 8]) (.seq (.seq (.leaf [0, 3, 5, 6, 7, 8, 19]) (.cond (.seq (.leaf [2]) (.leaf [2])) (.leaf [0, 3, 5, 6, 7, 8]))) (.seq (.leaf [0, 3, 6, 7, 8, 21]) (.cond (.leaf [0, 3, 6, 7, 8]) (.leaf [0, 3, 6, 7, 8])))))) (.leaf [0, 3, 6, 7, 8]))))))) (.seq (.leaf [2]) (.leaf [2])))))

noncomputable def impl_oneRoot_ctx : Ctx := ⟨tlook tys, olook [], ioF, 0, false, []⟩

theorem impl_oneRoot_n1_l (x2990 : List Int) : Link impl_oneRoot_ctx LL (Code.seq (cq [0] (bodyOf Try.f18)) (cq [0,1] (bodyOf Try.f18))) (Ann.seq (aq [0] impl_oneRoot_an) (aq [0,1] impl_oneRoot_an)) ⟨mkE 27 0 [(0, dL x2990)], []⟩ (impl_oneRoot_n1) (fun (t : Unit) => (Exit.normal, ⟨mkE 27 0 [(0, dL x2990), (3, dI 0)], []⟩)) := .of fun K h => by
  simp only [impl_oneRoot_n1, wpW] at h
  exact .of (by kernel_rfl) h

theorem impl_oneRoot_n2_l (x2990 : List Int) : Link impl_oneRoot_ctx LL (cq [0,0,1,1] (bodyOf Try.f18)) (aq [0,0,1,1] impl_oneRoot_an) ⟨mkE 27 0 [(0, dL x2990), (3, dI 0)], []⟩ (impl_oneRoot_n2 x2990) (fun (t : Int) => (Exit.normal, ⟨mkE 27 0 [(0, dL x2990), (3, dI 0), (6, dL x2990), (7, dI t), (8, dI 0)], []⟩)) := .of fun K h => by
  simp only [impl_oneRoot_n2, wpW] at h
  exact .of (by kernel_rfl) h

theorem impl_oneRoot_n3_l (x2990 : List Int) (x3012 : Int) (x2991 : Int) (x3013 : Int) : Link impl_oneRoot_ctx LL (cq [0,0,1,0,1,1] (bodyOf Try.f18)) (aq [0,0,1,0,1,1] impl_oneRoot_an) ⟨mkE 27 0 [(0, dL x2990), (3, dI x3012), (6, dL x2990), (7, dI x2991), (8, dI x3013)], []⟩ (impl_oneRoot_n3 x2990 x3012 x2991 x3013) (Sum.elim (fun (t : Int × Int) => (Exit.normal, ⟨mkE 27 0 [(0, dL x2990), (3, dI t.1), (6, dL x2990), (7, dI x2991), (8, dI t.2)], []⟩)) (Sum.elim (fun (t : Bool) => (Exit.ret, ⟨mkE 27 0 [(2, dB t)], []⟩)) (fun (t : Int) => ((Exit.exit 0), ⟨mkE 27 0 [(3, dI t)], []⟩)))) := .of fun K h => by
  simp only [impl_oneRoot_n3, wpW] at h
  exact .of (by kernel_rfl) h

def impl_oneRoot_n4_l (x2990 : List Int) (x2991 : Int) := (link_loop (mk := fun (s : Int × Int) => ⟨mkE 27 0 [(0, dL x2990), (3, dI s.1), (6, dL x2990), (7, dI x2991), (8, dI s.2)], []⟩) (fin := (Sum.elim (fun (t : Bool) => (Exit.ret, ⟨mkE 27 0 [(2, dB t)], []⟩)) (fun (t : Int) => ((Exit.exit 0), ⟨mkE 27 0 [(3, dI t)], []⟩)))) (by
  rintro (t | t) f K h
  · exact h
  · exact h) (fun s => link_map (impl_oneRoot_n3_l x2990 s.1 x2991 s.2) (Sum.elim (fun (t : Int × Int) => Sum.inl (t.1, t.2)) (Sum.elim (fun (t : Bool) => Sum.inr (Sum.inl t)) (fun (t : Int) => Sum.inr (Sum.inr t)))) (by
  rintro (t | t | t)
  · kernel_rfl
  · kernel_rfl
  · kernel_rfl)) (0, 0))

def impl_oneRoot_n5_l (x2990 : List Int) (x2991 : Int) := (link_block (fin2 := (Sum.elim (fun (t : Int) => (Exit.normal, ⟨mkE 27 0 [(3, dI t)], []⟩)) (fun (t : Bool) => (Exit.ret, ⟨mkE 27 0 [(2, dB t)], []⟩)))) (id := 0) (impl_oneRoot_n4_l x2990 x2991) (Sum.elim (fun (t : Bool) => (Sum.inr t)) (fun (t : Int) => (Sum.inl t))) (by
  rintro (t | t) K h
  · exact Eq.mp (by kernel_rfl) h
  · exact Eq.mp (by kernel_rfl) h))

def impl_oneRoot_n6_l (x2990 : List Int) := (link_seq (impl_oneRoot_n2_l x2990) (fun (t : Int) => (impl_oneRoot_n5_l x2990 t)))

theorem impl_oneRoot_n7_l (x3012 : Int) : Link impl_oneRoot_ctx LL (cq [1,1,1] (bodyOf Try.f18)) (aq [1,1,1] impl_oneRoot_an) ⟨mkE 27 0 [(3, dI x3012)], []⟩ (impl_oneRoot_n7 x3012) (fun (t : Bool) => (Exit.ret, ⟨mkE 27 0 [(2, dB t)], []⟩)) := .of fun K h => by
  simp only [impl_oneRoot_n7, wpW] at h
  exact .of (by kernel_rfl) h

def impl_oneRoot_n8_l (x2990 : List Int) := (link_seq2 (impl_oneRoot_n6_l x2990) (fun (t : Int) => (impl_oneRoot_n7_l t)) (fun (t : Bool) => t) (by
  rintro t
  · kernel_rfl) (by
  rintro t f K h
  · exact h))

def impl_oneRoot_n9_l (x2990 : List Int) := (link_group (c := (cq [0,1] (bodyOf Try.f18))) (a := (aq [0,1] impl_oneRoot_an)) [(cq [0] (bodyOf Try.f18))] [(aq [0] impl_oneRoot_an)] rfl (link_seq (impl_oneRoot_n1_l x2990) (fun (t : Unit) => (impl_oneRoot_n8_l x2990))))

theorem impl_oneRoot_e (x2990 : List Int) {r : AV} {H' : Heap} (h : (Ans.mk _ (impl_oneRoot x2990) (fun (t : Bool) => (dB t, [])) [] none).run = some (r, H')) : Awp impl_oneRoot_ctx LL (bodyOf Try.f18) impl_oneRoot_an ⟨mkE 27 0 [(0, dL x2990)], []⟩ (Ret (tlook tys) Try.f18.results.toList r H') :=
  ret_of' (Link.cast (by kernel_rfl) (by kernel_rfl) (impl_oneRoot_n9_l x2990)) (by unfold impl_oneRoot; kernel_rfl) (by
  intro t
  exact ret_mk [dB t] (by kernel_rfl) (by kernel_rfl) (by kernel_rfl) (by kernel_rfl)) h

def F_impl_oneRoot : Fun := fun avs H =>
  match avs, H with
  | [.dat (.list (.int .i64)) x2990], [] => ⟨_, impl_oneRoot x2990, fun (t : Bool) => (dB t, []), [], none⟩
  | _, _ => Ans.no

theorem impl_oneRoot_sound : Sound Try.prog 18 F_impl_oneRoot := by
  refine fn_sound' (C := impl_oneRoot_ctx) (c := bodyOf Try.f18) (cok_of tys_ok (alln) (alln) (by kernel_rfl)) Try.func18 (by kernel_rfl) LL impl_oneRoot_an ?_
  intro avs H r H' h
  unfold F_impl_oneRoot at h
  split at h
  · refine Awp.cast ?_ ?_ ?_ (impl_oneRoot_e _ h) <;> kernel_rfl
  · simp [Ans.no, Ans.run] at h


/-! (*loop.example/headtrees/impl.walker).up -/

def impl_walker_up_an : Ann := (.seq (.leaf [0]) (.seq (.draw [] [0, 1, 2, 3, 4, 5, 6, 7, 8, 9, 10, 11] [] [0, 3]) (.seq (.seq (.leaf [0, 3, 16]) (.cond (.seq (.leaf [2]) (.leaf [2])) (.leaf [0, 3]))) (.seq (.leaf [0]) (.seq (.leaf []) (.seq (.leaf [2]) (.leaf [2])))))))

noncomputable def impl_walker_up_ctx : Ctx := ⟨tlook tys, olook [], ioF, 1, false, []⟩

theorem impl_walker_up_n1_l (x3046 : List Int) (x3047 : Int) (x3048 : Int) : Link impl_walker_up_ctx LL (bodyOf Try.f27) impl_walker_up_an ⟨mkE 28 0 [(0, .ptr 0 0)], [some (.box [dL x3046, dI x3047, dI x3048])]⟩ (impl_walker_up_n1 x3046 x3047 x3048) (fun (t : Bool × Int × Int) => (Exit.ret, ⟨mkE 28 0 [(2, dB t.1)], [some (.box [dL x3046, dI t.2.1, dI t.2.2])]⟩)) := .of fun K h => by
  simp only [impl_walker_up_n1, wpW] at h
  exact .of (by kernel_rfl) h

theorem impl_walker_up_e (x3046 : List Int) (x3047 : Int) (x3048 : Int) {r : AV} {H' : Heap} (h : (Ans.mk _ (impl_walker_up x3046 x3047 x3048) (fun (t : Bool × Int × Int) => (dB t.1, [some (.box [dL x3046, dI t.2.1, dI t.2.2])])) [] none).run = some (r, H')) : Awp impl_walker_up_ctx LL (bodyOf Try.f27) impl_walker_up_an ⟨mkE 28 0 [(0, .ptr 0 0)], [some (.box [dL x3046, dI x3047, dI x3048])]⟩ (Ret (tlook tys) Try.f27.results.toList r H') :=
  ret_of' (impl_walker_up_n1_l x3046 x3047 x3048) (by unfold impl_walker_up; kernel_rfl) (by
  intro t
  exact ret_mk [dB t.1] (by kernel_rfl) (by kernel_rfl) (by kernel_rfl) (by kernel_rfl)) h

def F_impl_walker_up : Fun := fun avs H =>
  match avs, H with
  | [.ptr 0 0], [some (.box [.dat (.list (.int .i64)) x3046, .dat (.int .i64) x3047, .dat (.int .i64) x3048])] => ⟨_, impl_walker_up x3046 x3047 x3048, fun (t : Bool × Int × Int) => (dB t.1, [some (.box [dL x3046, dI t.2.1, dI t.2.2])]), [], none⟩
  | _, _ => Ans.no

theorem impl_walker_up_sound : Sound Try.prog 27 F_impl_walker_up := by
  refine fn_sound' (C := impl_walker_up_ctx) (c := bodyOf Try.f27) (cok_of tys_ok (alln) (alln) (by kernel_rfl)) Try.func27 (by kernel_rfl) LL impl_walker_up_an ?_
  intro avs H r H' h
  unfold F_impl_walker_up at h
  split at h
  · refine Awp.cast ?_ ?_ ?_ (impl_walker_up_e _ _ _ h) <;> kernel_rfl
  · simp [Ans.no, Ans.run] at h


/-! loop.example/headtrees/impl.stepsToRoot -/

def impl_stepsToRoot_an : Ann := (.seq (.leaf [0, 1]) (.seq (.leaf [0, 6]) (.seq (.block (.loop (.seq (.seq (.leaf [0, 6, 10]) (.cond (.leaf [0, 6]) (.leaf [6]))) (.block (.seq (.leaf [0, 6, 15]) (.cond (.seq (.leaf [4, 5]) (.leaf [4, 5])) (.leaf [0, 6]))))))) (.seq (.leaf [4, 5]) (.leaf [4, 5])))))

noncomputable def impl_stepsToRoot_ctx : Ctx := ⟨tlook tys, olook [(27, F_impl_walker_up)], ioF, 0, false, []⟩

theorem impl_stepsToRoot_n1_l (x3044 : List Int) (x3045 : Int) : Link impl_stepsToRoot_ctx LL (Code.seq (cq [0] (bodyOf Try.f19)) (cq [0,1] (bodyOf Try.f19))) (Ann.seq (aq [0] impl_stepsToRoot_an) (aq [0,1] impl_stepsToRoot_an)) ⟨mkE 18 0 [(0, dL x3044), (1, dI x3045)], []⟩ (impl_stepsToRoot_n1) (fun (t : Unit) => (Exit.normal, ⟨mkE 18 0 [(0, dL x3044), (6, .ptr 0 0)], [some (.box [dL x3044, dI x3045, dI 0])]⟩)) := .of fun K h => by
  simp only [impl_stepsToRoot_n1, wpW] at h
  exact .of (by kernel_rfl) h

theorem impl_stepsToRoot_n2_l (x3044 : List Int) (x3082 : Int) (x3083 : Int) : Link impl_stepsToRoot_ctx LL (cq [0,0,0,1,1] (bodyOf Try.f19)) (aq [0,0,0,1,1] impl_stepsToRoot_an) ⟨mkE 18 0 [(0, dL x3044), (6, .ptr 0 0)], [some (.box [dL x3044, dI x3082, dI x3083])]⟩ (impl_stepsToRoot_n2 x3044 x3082 x3083) (Sum.elim (fun (t : Int × Int) => (Exit.normal, ⟨mkE 18 0 [(0, dL x3044), (6, .ptr 0 0)], [some (.box [dL x3044, dI t.1, dI t.2])]⟩)) (Sum.elim (fun (t : Int × Bool) => (Exit.ret, ⟨mkE 18 0 [(4, dI t.1), (5, dB t.2)], []⟩)) (fun (t : Int × Int) => ((Exit.exit 0), ⟨mkE 18 0 [(6, .ptr 0 0)], [some (.box [dL x3044, dI t.1, dI t.2])]⟩)))) := .of fun K h => by
  simp only [impl_stepsToRoot_n2, wpW] at h
  exact .of (by kernel_rfl) h

def impl_stepsToRoot_n3_l (x3044 : List Int) (x3045 : Int) := (link_loop (mk := fun (s : Int × Int) => ⟨mkE 18 0 [(0, dL x3044), (6, .ptr 0 0)], [some (.box [dL x3044, dI s.1, dI s.2])]⟩) (fin := (Sum.elim (fun (t : Int × Bool) => (Exit.ret, ⟨mkE 18 0 [(4, dI t.1), (5, dB t.2)], []⟩)) (fun (t : Int × Int) => ((Exit.exit 0), ⟨mkE 18 0 [(6, .ptr 0 0)], [some (.box [dL x3044, dI t.1, dI t.2])]⟩)))) (by
  rintro (t | t) f K h
  · exact h
  · exact h) (fun s => link_map (impl_stepsToRoot_n2_l x3044 s.1 s.2) (Sum.elim (fun (t : Int × Int) => Sum.inl (t.1, t.2)) (Sum.elim (fun (t : Int × Bool) => Sum.inr (Sum.inl t)) (fun (t : Int × Int) => Sum.inr (Sum.inr t)))) (by
  rintro (t | t | t)
  · kernel_rfl
  · kernel_rfl
  · kernel_rfl)) (x3045, 0))

def impl_stepsToRoot_n4_l (x3044 : List Int) (x3045 : Int) := (link_block (fin2 := (Sum.elim (fun (t : Int × Int) => (Exit.normal, ⟨mkE 18 0 [(6, .ptr 0 0)], [some (.box [dL x3044, dI t.1, dI t.2])]⟩)) (fun (t : Int × Bool) => (Exit.ret, ⟨mkE 18 0 [(4, dI t.1), (5, dB t.2)], []⟩)))) (id := 0) (impl_stepsToRoot_n3_l x3044 x3045) (Sum.elim (fun (t : Int × Bool) => (Sum.inr t)) (fun (t : Int × Int) => (Sum.inl (t.1, t.2)))) (by
  rintro (t | t) K h
  · exact Eq.mp (by kernel_rfl) h
  · exact Eq.mp (by kernel_rfl) h))

theorem impl_stepsToRoot_n5_l (x3044 : List Int) (x3090 : Int) (x3091 : Int) : Link impl_stepsToRoot_ctx LL (cq [1,1,1] (bodyOf Try.f19)) (aq [1,1,1] impl_stepsToRoot_an) ⟨mkE 18 0 [(6, .ptr 0 0)], [some (.box [dL x3044, dI x3090, dI x3091])]⟩ (impl_stepsToRoot_n5 x3091) (fun (t : Int × Bool) => (Exit.ret, ⟨mkE 18 0 [(4, dI t.1), (5, dB t.2)], []⟩)) := .of fun K h => by
  simp only [impl_stepsToRoot_n5, wpW] at h
  exact .of (by kernel_rfl) h

def impl_stepsToRoot_n6_l (x3044 : List Int) (x3045 : Int) := (link_seq2 (impl_stepsToRoot_n4_l x3044 x3045) (fun (t : Int × Int) => (impl_stepsToRoot_n5_l x3044 t.1 t.2)) (fun (t : Int × Bool) => t) (by
  rintro t
  · kernel_rfl) (by
  rintro t f K h
  · exact h))

def impl_stepsToRoot_n7_l (x3044 : List Int) (x3045 : Int) := (link_group (c := (cq [0,1] (bodyOf Try.f19))) (a := (aq [0,1] impl_stepsToRoot_an)) [(cq [0] (bodyOf Try.f19))] [(aq [0] impl_stepsToRoot_an)] rfl (link_seq (impl_stepsToRoot_n1_l x3044 x3045) (fun (t : Unit) => (impl_stepsToRoot_n6_l x3044 x3045))))

theorem impl_stepsToRoot_e (x3044 : List Int) (x3045 : Int) {r : AV} {H' : Heap} (h : (Ans.mk _ (impl_stepsToRoot x3044 x3045) (fun (t : Int × Bool) => (.tup [dI t.1, dB t.2], [])) [] none).run = some (r, H')) : Awp impl_stepsToRoot_ctx LL (bodyOf Try.f19) impl_stepsToRoot_an ⟨mkE 18 0 [(0, dL x3044), (1, dI x3045)], []⟩ (Ret (tlook tys) Try.f19.results.toList r H') :=
  ret_of' (Link.cast (by kernel_rfl) (by kernel_rfl) (impl_stepsToRoot_n7_l x3044 x3045)) (by unfold impl_stepsToRoot; kernel_rfl) (by
  intro t
  exact ret_mk [dI t.1, dB t.2] (by kernel_rfl) (by kernel_rfl) (by kernel_rfl) (by kernel_rfl)) h

def F_impl_stepsToRoot : Fun := fun avs H =>
  match avs, H with
  | [.dat (.list (.int .i64)) x3044, .dat (.int .i64) x3045], [] => ⟨_, impl_stepsToRoot x3044 x3045, fun (t : Int × Bool) => (.tup [dI t.1, dB t.2], []), [], none⟩
  | _, _ => Ans.no

theorem impl_stepsToRoot_sound : Sound Try.prog 19 F_impl_stepsToRoot := by
  refine fn_sound' (C := impl_stepsToRoot_ctx) (c := bodyOf Try.f19) (cok_of tys_ok (allc impl_walker_up_sound alln) (allc Try.call27 alln) (by kernel_rfl)) Try.func19 (by kernel_rfl) LL impl_stepsToRoot_an ?_
  intro avs H r H' h
  unfold F_impl_stepsToRoot at h
  split at h
  · refine Awp.cast ?_ ?_ ?_ (impl_stepsToRoot_e _ _ h) <;> kernel_rfl
  · simp [Ans.no, Ans.run] at h


/-! loop.example/headtrees/impl.TreeOk -/

def impl_TreeOk_an : Ann := (.seq (.leaf [0]) (.seq (.seq (.leaf [0, 18]) (.cond (.seq (.leaf [2]) (.leaf [2])) (.leaf [0]))) (.seq (.seq (.leaf [0, 20, 21]) (.block (.loop (.seq (.leaf [0, 20, 21, 22]) (.seq (.cond (.leaf [0, 20, 21]) (.leaf [])) (.seq (.block (.seq (.leaf [0, 3, 20, 21]) (.seq (.leaf [0, 5, 20, 21]) (.seq (.leaf [0, 20, 21, 32]) (.cond (.seq (.leaf [2]) (.leaf [2])) (.leaf [0, 20, 21])))))) (.leaf [0, 20, 21]))))))) (.seq (.leaf [2]) (.leaf [2])))))

noncomputable def impl_TreeOk_ctx : Ctx := ⟨tlook tys, olook [(18, F_impl_oneRoot), (19, F_impl_stepsToRoot)], ioF, 0, false, []⟩

theorem impl_TreeOk_n1_l (x2985 : List Int) : Link impl_TreeOk_ctx LL (Code.seq (cq [0] (bodyOf Try.f9)) (cq [0,1] (bodyOf Try.f9))) (Ann.seq (aq [0] impl_TreeOk_an) (aq [0,1] impl_TreeOk_an)) ⟨mkE 34 0 [(0, dL x2985)], []⟩ (impl_TreeOk_n1 x2985) (Sum.elim (fun (t : Unit) => (Exit.normal, ⟨mkE 34 0 [(0, dL x2985)], []⟩)) (fun (t : Bool) => (Exit.ret, ⟨mkE 34 0 [(2, dB t)], []⟩))) := .of fun K h => by
  simp only [impl_TreeOk_n1, wpW] at h
  exact .of (by kernel_rfl) h

theorem impl_TreeOk_n2_l (x2985 : List Int) : Link impl_TreeOk_ctx LL (cq [0,0,1,1] (bodyOf Try.f9)) (aq [0,0,1,1] impl_TreeOk_an) ⟨mkE 34 0 [(0, dL x2985)], []⟩ (impl_TreeOk_n2 x2985) (fun (t : Int) => (Exit.normal, ⟨mkE 34 0 [(0, dL x2985), (20, dI t), (21, dI 0)], []⟩)) := .of fun K h => by
  simp only [impl_TreeOk_n2, wpW] at h
  exact .of (by kernel_rfl) h

theorem impl_TreeOk_n3_l (x2985 : List Int) (x3039 : Int) (x3107 : Int) : Link impl_TreeOk_ctx LL (cq [0,0,1,0,1,1] (bodyOf Try.f9)) (aq [0,0,1,0,1,1] impl_TreeOk_an) ⟨mkE 34 0 [(0, dL x2985), (20, dI x3039), (21, dI x3107)], []⟩ (impl_TreeOk_n3 x2985 x3039 x3107) (Sum.elim (fun (t : Int) => (Exit.normal, ⟨mkE 34 0 [(0, dL x2985), (20, dI x3039), (21, dI t)], []⟩)) (Sum.elim (fun (t : Bool) => (Exit.ret, ⟨mkE 34 0 [(2, dB t)], []⟩)) (fun (t : Unit) => ((Exit.exit 0), ⟨mkE 34 0 [], []⟩)))) := .of fun K h => by
  simp only [impl_TreeOk_n3, wpW] at h
  exact .of (by kernel_rfl) h

def impl_TreeOk_n4_l (x2985 : List Int) (x3039 : Int) := (link_loop (mk := fun (s : Int) => ⟨mkE 34 0 [(0, dL x2985), (20, dI x3039), (21, dI s)], []⟩) (fin := (Sum.elim (fun (t : Bool) => (Exit.ret, ⟨mkE 34 0 [(2, dB t)], []⟩)) (fun (t : Unit) => ((Exit.exit 0), ⟨mkE 34 0 [], []⟩)))) (by
  rintro (t | t) f K h
  · exact h
  · exact h) (fun s => link_map (impl_TreeOk_n3_l x2985 x3039 s) (Sum.elim (fun (t : Int) => Sum.inl t) (Sum.elim (fun (t : Bool) => Sum.inr (Sum.inl t)) (fun (t : Unit) => Sum.inr (Sum.inr t)))) (by
  rintro (t | t | t)
  · kernel_rfl
  · kernel_rfl
  · kernel_rfl)) 0)

def impl_TreeOk_n5_l (x2985 : List Int) (x3039 : Int) := (link_block (fin2 := (Sum.elim (fun (t : Unit) => (Exit.normal, ⟨mkE 34 0 [], []⟩)) (fun (t : Bool) => (Exit.ret, ⟨mkE 34 0 [(2, dB t)], []⟩)))) (id := 0) (impl_TreeOk_n4_l x2985 x3039) (Sum.elim (fun (t : Bool) => (Sum.inr t)) (fun (t : Unit) => (Sum.inl ()))) (by
  rintro (t | t) K h
  · exact Eq.mp (by kernel_rfl) h
  · exact Eq.mp (by kernel_rfl) h))

def impl_TreeOk_n6_l (x2985 : List Int) := (link_seq (impl_TreeOk_n2_l x2985) (fun (t : Int) => (impl_TreeOk_n5_l x2985 t)))

theorem impl_TreeOk_n7_l : Link impl_TreeOk_ctx LL (cq [1,1,1] (bodyOf Try.f9)) (aq [1,1,1] impl_TreeOk_an) ⟨mkE 34 0 [], []⟩ (impl_TreeOk_n7) (fun (t : Bool) => (Exit.ret, ⟨mkE 34 0 [(2, dB t)], []⟩)) := .of fun K h => by
  simp only [impl_TreeOk_n7, wpW] at h
  exact .of (by kernel_rfl) h

def impl_TreeOk_n8_l (x2985 : List Int) := (link_seq2 (impl_TreeOk_n6_l x2985) (fun (t : Unit) => (impl_TreeOk_n7_l)) (fun (t : Bool) => t) (by
  rintro t
  · kernel_rfl) (by
  rintro t f K h
  · exact h))

def impl_TreeOk_n9_l (x2985 : List Int) := (link_group (c := (cq [0,1] (bodyOf Try.f9))) (a := (aq [0,1] impl_TreeOk_an)) [(cq [0] (bodyOf Try.f9))] [(aq [0] impl_TreeOk_an)] rfl (link_seq2 (impl_TreeOk_n1_l x2985) (fun (t : Unit) => (impl_TreeOk_n8_l x2985)) (fun (t : Bool) => t) (by
  rintro t
  · kernel_rfl) (by
  rintro t f K h
  · exact h)))

theorem impl_TreeOk_e (x2985 : List Int) {r : AV} {H' : Heap} (h : (Ans.mk _ (impl_TreeOk x2985) (fun (t : Bool) => (dB t, [])) [] none).run = some (r, H')) : Awp impl_TreeOk_ctx LL (bodyOf Try.f9) impl_TreeOk_an ⟨mkE 34 0 [(0, dL x2985)], []⟩ (Ret (tlook tys) Try.f9.results.toList r H') :=
  ret_of' (Link.cast (by kernel_rfl) (by kernel_rfl) (impl_TreeOk_n9_l x2985)) (by unfold impl_TreeOk; kernel_rfl) (by
  intro t
  exact ret_mk [dB t] (by kernel_rfl) (by kernel_rfl) (by kernel_rfl) (by kernel_rfl)) h

def F_impl_TreeOk : Fun := fun avs H =>
  match avs, H with
  | [.dat (.list (.int .i64)) x2985], [] => ⟨_, impl_TreeOk x2985, fun (t : Bool) => (dB t, []), [], none⟩
  | _, _ => Ans.no

theorem impl_TreeOk_sound : Sound Try.prog 9 F_impl_TreeOk := by
  refine fn_sound' (C := impl_TreeOk_ctx) (c := bodyOf Try.f9) (cok_of tys_ok (allc impl_oneRoot_sound (allc impl_stepsToRoot_sound alln)) (allc Try.call18 (allc Try.call19 alln)) (by kernel_rfl)) Try.func9 (by kernel_rfl) LL impl_TreeOk_an ?_
  intro avs H r H' h
  unfold F_impl_TreeOk at h
  split at h
  · refine Awp.cast ?_ ?_ ?_ (impl_TreeOk_e _ h) <;> kernel_rfl
  · simp [Ans.no, Ans.run] at h


/-! slices.Clone[[]int,int] -/

def ren_slices_Clone_int_int : Go.Shelf.Ren := ⟨fun | 41 => 25 | n => n, fun | 4 => 4 | 22 => 23 | 23 => 3 | n => n, fun n => n⟩

theorem lay_slices_Clone_int_int : SlLaysE0.n41 Try.prog ren_slices_Clone_int_int := {
  mixed := by kernel_rfl
  f41 := ⟨Try.f25.name, by kernel_rfl, Try.func25.trans (congrArg some (by kernel_rfl))⟩
  t4 := Try.underlying4
  a4 := Try.isAgg4
  z4 := Try.sizeOf4
  v4 := Try.zeroValue4
  t22 := Try.underlying23
  a22 := Try.isAgg23
  z22 := Try.sizeOf23
  v22 := Try.zeroValue23 }

def F_slices_Clone_int_int : Fun := F_cloneD
theorem slices_Clone_int_int_sound : Sound Try.prog 25 F_slices_Clone_int_int := cloneD_sound lay_slices_Clone_int_int (infoOf (Try.prog.info? 3)) (.int .i64 0) 8 (by kernel_rfl) (by kernel_rfl) (by kernel_rfl) (by kernel_rfl) (by kernel_rfl) (by decide) Try.sizeOf3


/-! loop.example/headtrees/impl.newDesk -/

def impl_newDesk_an : Ann := (.seq (.leaf [0, 1, 4]) (.seq (.leaf [1, 4, 5]) (.seq (.seq (.leafF [⟨3, 5, true, some 1, some (.int .i64)⟩] [4, 5, 11, 12, 13]) (.block (.loop (.seq (.leaf [4, 5, 11, 12, 13, 14]) (.seq (.cond (.leaf [4, 5, 11, 12, 13]) (.leaf [4, 5])) (.seq (.block (.seq (.leaf [4, 5, 7, 11, 12, 13]) (.draw [3, 100005] [0, 1, 2, 3, 4, 5, 6, 7] [] [4, 5, 11, 12, 13]))) (.leaf [4, 5, 11, 12, 13]))))))) (.seq (.leaf [4]) (.leaf [4])))))

noncomputable def impl_newDesk_ctx : Ctx := ⟨tlook tys, olook [(25, F_slices_Clone_int_int)], ioF, 0, true, []⟩

theorem impl_newDesk_n1_l (x3128 : List Int) (x3129 : List (List Int)) : Link impl_newDesk_ctx LL (Code.seq (cq [0] (bodyOf Try.f15)) (cq [0,1] (bodyOf Try.f15))) (Ann.seq (aq [0] impl_newDesk_an) (aq [0,1] impl_newDesk_an)) ⟨mkE 26 0 [(0, dL x3128), (1, .dat (.list (.list (.int .i64))) x3129)], []⟩ (impl_newDesk_n1 x3128) (fun (t : (List Int)) => (Exit.normal, ⟨mkE 26 0 [(1, .dat (.list (.list (.int .i64))) x3129), (4, .ptr 0 0), (5, .ptr 1 0)], [some (.box [.nils, .nils]), some (.box [.slc 2, .nils]), some (sI t)]⟩)) := .of fun K h => by
  simp only [impl_newDesk_n1, wpW] at h
  exact .of (by kernel_rfl) h

theorem impl_newDesk_n2_l (x3129 : List (List Int)) (x3153 : List Int) : Link impl_newDesk_ctx LL (cq [0,0,1,1] (bodyOf Try.f15)) (aq [0,0,1,1] impl_newDesk_an) ⟨mkE 26 0 [(1, .dat (.list (.list (.int .i64))) x3129), (4, .ptr 0 0), (5, .ptr 1 0)], [some (.box [.nils, .nils]), some (.box [.slc 2, .nils]), some (sI x3153)]⟩ (impl_newDesk_n2 x3129) (fun (t : Int) => (Exit.normal, ⟨mkE 26 0 [(4, .ptr 0 0), (5, .ptr 1 0), (11, .dat (.list (.list (.int .i64))) x3129), (12, dI t), (13, dI 0)], [some (.box [.nils, .nils]), some (.box [.slc 2, .slc 3]), some (sI x3153), some (.nest (.int .i64) ([] : List (List Int)) 0 [])]⟩)) := .of fun K h => by
  simp only [impl_newDesk_n2, wpW] at h
  exact .of (by kernel_rfl) h

theorem impl_newDesk_n3_l (x3129 : List (List Int)) (x3154 : Int) (x3168 : Int) (x3153 : List Int) (x3169 : List (List Int)) : Link impl_newDesk_ctx LL (cq [0,0,1,0,1,1] (bodyOf Try.f15)) (aq [0,0,1,0,1,1] impl_newDesk_an) ⟨mkE 26 0 [(4, .ptr 0 0), (5, .ptr 1 0), (11, .dat (.list (.list (.int .i64))) x3129), (12, dI x3154), (13, dI x3168)], [some (.box [.nils, .nils]), some (.box [.slc 2, .slc 3]), some (sI x3153), some (.nest (.int .i64) x3169 0 [])]⟩ (impl_newDesk_n3 x3129 x3154 x3168 x3169) (Sum.elim (fun (t : Int × (List (List Int))) => (Exit.normal, ⟨mkE 26 0 [(4, .ptr 0 0), (5, .ptr 1 0), (11, .dat (.list (.list (.int .i64))) x3129), (12, dI x3154), (13, dI t.1)], [some (.box [.nils, .nils]), some (.box [.slc 2, .slc 3]), some (sI x3153), some (.nest (.int .i64) t.2 0 [])]⟩)) (fun (t : (List (List Int))) => ((Exit.exit 0), ⟨mkE 26 0 [(4, .ptr 0 0), (5, .ptr 1 0)], [some (.box [.nils, .nils]), some (.box [.slc 2, .slc 3]), some (sI x3153), some (.nest (.int .i64) t 0 [])]⟩))) := .of fun K h => by
  simp only [impl_newDesk_n3, wpW] at h
  exact .of (by kernel_rfl) h

def impl_newDesk_n4_l (x3129 : List (List Int)) (x3154 : Int) (x3153 : List Int) := (link_loop (mk := fun (s : Int × (List (List Int))) => ⟨mkE 26 0 [(4, .ptr 0 0), (5, .ptr 1 0), (11, .dat (.list (.list (.int .i64))) x3129), (12, dI x3154), (13, dI s.1)], [some (.box [.nils, .nils]), some (.box [.slc 2, .slc 3]), some (sI x3153), some (.nest (.int .i64) s.2 0 [])]⟩) (fin := (fun (t : (List (List Int))) => ((Exit.exit 0), ⟨mkE 26 0 [(4, .ptr 0 0), (5, .ptr 1 0)], [some (.box [.nils, .nils]), some (.box [.slc 2, .slc 3]), some (sI x3153), some (.nest (.int .i64) t 0 [])]⟩))) (by
  rintro t f K h
  · exact h) (fun s => link_map (impl_newDesk_n3_l x3129 x3154 s.1 x3153 s.2) (Sum.elim (fun (t : Int × (List (List Int))) => Sum.inl (t.1, t.2)) (fun (t : (List (List Int))) => Sum.inr t)) (by
  rintro (t | t)
  · kernel_rfl
  · kernel_rfl)) (0, ([] : List (List Int))))

def impl_newDesk_n5_l (x3129 : List (List Int)) (x3154 : Int) (x3153 : List Int) := (link_block (fin2 := (fun (t : (List (List Int))) => (Exit.normal, ⟨mkE 26 0 [(4, .ptr 0 0), (5, .ptr 1 0)], [some (.box [.nils, .nils]), some (.box [.slc 2, .slc 3]), some (sI x3153), some (.nest (.int .i64) t 0 [])]⟩))) (id := 0) (impl_newDesk_n4_l x3129 x3154 x3153) (fun (t : (List (List Int))) => t) (by
  rintro t K h
  · exact Eq.mp (by kernel_rfl) h))

def impl_newDesk_n6_l (x3129 : List (List Int)) (x3153 : List Int) := (link_seq (impl_newDesk_n2_l x3129 x3153) (fun (t : Int) => (impl_newDesk_n5_l x3129 t x3153)))

theorem impl_newDesk_n7_l (x3153 : List Int) (x3169 : List (List Int)) : Link impl_newDesk_ctx LL (cq [1,1,1] (bodyOf Try.f15)) (aq [1,1,1] impl_newDesk_an) ⟨mkE 26 0 [(4, .ptr 0 0), (5, .ptr 1 0)], [some (.box [.nils, .nils]), some (.box [.slc 2, .slc 3]), some (sI x3153), some (.nest (.int .i64) x3169 0 [])]⟩ (impl_newDesk_n7 x3153 x3169) (fun (t : (List Int) × (List (List Int))) => (Exit.ret, ⟨mkE 26 0 [(4, .ptr 0 0)], [some (.box [.slc 1, .slc 2]), some (sI t.1), some (.nest (.int .i64) t.2 0 [])]⟩)) := .of fun K h => by
  simp only [impl_newDesk_n7, wpW] at h
  exact .of (by kernel_rfl) h

def impl_newDesk_n8_l (x3129 : List (List Int)) (x3153 : List Int) := (link_seq (impl_newDesk_n6_l x3129 x3153) (fun (t : (List (List Int))) => (impl_newDesk_n7_l x3153 t)))

def impl_newDesk_n9_l (x3128 : List Int) (x3129 : List (List Int)) := (link_group (c := (cq [0,1] (bodyOf Try.f15))) (a := (aq [0,1] impl_newDesk_an)) [(cq [0] (bodyOf Try.f15))] [(aq [0] impl_newDesk_an)] rfl (link_seq (impl_newDesk_n1_l x3128 x3129) (fun (t : (List Int)) => (impl_newDesk_n8_l x3129 t))))

theorem impl_newDesk_e (x3128 : List Int) (x3129 : List (List Int)) {r : AV} {H' : Heap} (h : (Ans.mk _ (impl_newDesk x3128 x3129) (fun (t : (List Int) × (List (List Int))) => (.agg [.slc 1, .slc 2], [some (.box [.slc 1, .slc 2]), some (sI t.1), some (.nest (.int .i64) t.2 0 [])])) [] none).run = some (r, H')) : Awp impl_newDesk_ctx LL (bodyOf Try.f15) impl_newDesk_an ⟨mkE 26 0 [(0, dL x3128), (1, .dat (.list (.list (.int .i64))) x3129)], []⟩ (Ret (tlook tys) Try.f15.results.toList r H') :=
  ret_of' (Link.cast (by kernel_rfl) (by kernel_rfl) (impl_newDesk_n9_l x3128 x3129)) (by unfold impl_newDesk; kernel_rfl) (by
  intro t
  exact ret_mk [.agg [.slc 1, .slc 2]] (by kernel_rfl) (by kernel_rfl) (by kernel_rfl) (by kernel_rfl)) h

def F_impl_newDesk : Fun := fun avs H =>
  match avs, H with
  | [.dat (.list (.int .i64)) x3128, .dat (.list (.list (.int .i64))) x3129], [] => ⟨_, impl_newDesk x3128 x3129, fun (t : (List Int) × (List (List Int))) => (.agg [.slc 1, .slc 2], [some (.box [.slc 1, .slc 2]), some (sI t.1), some (.nest (.int .i64) t.2 0 [])]), [], none⟩
  | _, _ => Ans.no

theorem impl_newDesk_sound : Sound Try.prog 15 F_impl_newDesk := by
  refine fn_sound' (C := impl_newDesk_ctx) (c := bodyOf Try.f15) (cok_of tys_ok (allc slices_Clone_int_int_sound alln) (allc Try.call25 alln) (by kernel_rfl)) Try.func15 (by kernel_rfl) LL impl_newDesk_an ?_
  intro avs H r H' h
  unfold F_impl_newDesk at h
  split at h
  · refine Awp.cast ?_ ?_ ?_ (impl_newDesk_e _ _ h) <;> kernel_rfl
  · simp [Ans.no, Ans.run] at h


/-! loop.example/headtrees/impl.DeskNew -/

def impl_DeskNew_an : Ann := (.seq (.leaf [0, 2]) (.seq (.seq (.leaf [0, 2, 6]) (.cond (.seq (.leaf [2, 3]) (.leafF [⟨0, 2, false, some 0, some (.int .i64)⟩, ⟨0, 2, true, some 1, some (.int .i64)⟩] [2, 3])) (.leaf [0, 2]))) (.seq (.leaf [2, 3]) (.leaf [2, 3]))))

noncomputable def impl_DeskNew_ctx : Ctx := ⟨tlook tys, olook [(9, F_impl_TreeOk), (15, F_impl_newDesk)], ioF, 0, true, []⟩

theorem impl_DeskNew_n1_l (x2984 : List Int) : Link impl_DeskNew_ctx LL (bodyOf Try.f5) impl_DeskNew_an ⟨mkE 10 0 [(0, dL x2984)], []⟩ (impl_DeskNew_n1 x2984) (fun (t : Bool × (List Int) × (List (List Int))) => (Exit.ret, ⟨mkE 10 0 [(2, .ptr 0 0), (3, dB t.1)], [some (.box [.slc 1, .slc 2]), some (sI t.2.1), some (.nest (.int .i64) t.2.2 0 [])]⟩)) := .of fun K h => by
  simp only [impl_DeskNew_n1, wpW] at h
  exact .of (by kernel_rfl) h

theorem impl_DeskNew_e (x2984 : List Int) {r : AV} {H' : Heap} (h : (Ans.mk _ (impl_DeskNew x2984) (fun (t : Bool × (List Int) × (List (List Int))) => (.tup [.agg [.slc 1, .slc 2], dB t.1], [some (.box [.slc 1, .slc 2]), some (sI t.2.1), some (.nest (.int .i64) t.2.2 0 [])])) [] none).run = some (r, H')) : Awp impl_DeskNew_ctx LL (bodyOf Try.f5) impl_DeskNew_an ⟨mkE 10 0 [(0, dL x2984)], []⟩ (Ret (tlook tys) Try.f5.results.toList r H') :=
  ret_of' (impl_DeskNew_n1_l x2984) (by unfold impl_DeskNew; kernel_rfl) (by
  intro t
  exact ret_mk [.agg [.slc 1, .slc 2], dB t.1] (by kernel_rfl) (by kernel_rfl) (by kernel_rfl) (by kernel_rfl)) h

def F_impl_DeskNew : Fun := fun avs H =>
  match avs, H with
  | [.dat (.list (.int .i64)) x2984], [] => ⟨_, impl_DeskNew x2984, fun (t : Bool × (List Int) × (List (List Int))) => (.tup [.agg [.slc 1, .slc 2], dB t.1], [some (.box [.slc 1, .slc 2]), some (sI t.2.1), some (.nest (.int .i64) t.2.2 0 [])]), [], none⟩
  | _, _ => Ans.no

theorem impl_DeskNew_sound : Sound Try.prog 5 F_impl_DeskNew := by
  refine fn_sound' (C := impl_DeskNew_ctx) (c := bodyOf Try.f5) (cok_of tys_ok (allc impl_TreeOk_sound (allc impl_newDesk_sound alln)) (allc Try.call9 (allc Try.call15 alln)) (by kernel_rfl)) Try.func5 (by kernel_rfl) LL impl_DeskNew_an ?_
  intro avs H r H' h
  unfold F_impl_DeskNew at h
  split at h
  · refine Awp.cast ?_ ?_ ?_ (impl_DeskNew_e _ h) <;> kernel_rfl
  · simp [Ans.no, Ans.run] at h


/-! loop.example/headtrees/spec.DeskNew -/

def spec_DeskNew_an : Ann := (.seq (.leaf [0, 2]) (.seq (.seq (.leaf [0, 2, 6]) (.cond (.seq (.leaf [2, 3]) (.leafF [⟨0, 2, false, some 0, some (.int .i64)⟩] [2, 3])) (.leaf [0, 2]))) (.seq (.leaf [2, 3]) (.leaf [2, 3]))))

noncomputable def spec_DeskNew_ctx : Ctx := ⟨tlook tys, olook [(16, F_spec_TreeOk)], ioF, 0, false, []⟩

theorem spec_DeskNew_n1_l (x3229 : List Int) : Link spec_DeskNew_ctx LL (bodyOf Try.f6) spec_DeskNew_an ⟨mkE 12 0 [(0, dL x3229)], []⟩ (spec_DeskNew_n1 x3229) (fun (t : Bool × (List Int)) => (Exit.ret, ⟨mkE 12 0 [(2, .ptr 0 0), (3, dB t.1)], [some (.box [.slc 1, .nils]), some (sI t.2)]⟩)) := .of fun K h => by
  simp only [spec_DeskNew_n1, wpW] at h
  exact .of (by kernel_rfl) h

theorem spec_DeskNew_e (x3229 : List Int) {r : AV} {H' : Heap} (h : (Ans.mk _ (spec_DeskNew x3229) (fun (t : Bool × (List Int)) => (.tup [.agg [.slc 1, .nils], dB t.1], [some (.box [.slc 1, .nils]), some (sI t.2)])) [] none).run = some (r, H')) : Awp spec_DeskNew_ctx LL (bodyOf Try.f6) spec_DeskNew_an ⟨mkE 12 0 [(0, dL x3229)], []⟩ (Ret (tlook tys) Try.f6.results.toList r H') :=
  ret_of' (spec_DeskNew_n1_l x3229) (by unfold spec_DeskNew; kernel_rfl) (by
  intro t
  exact ret_mk [.agg [.slc 1, .nils], dB t.1] (by kernel_rfl) (by kernel_rfl) (by kernel_rfl) (by kernel_rfl)) h

def F_spec_DeskNew : Fun := fun avs H =>
  match avs, H with
  | [.dat (.list (.int .i64)) x3229], [] => ⟨_, spec_DeskNew x3229, fun (t : Bool × (List Int)) => (.tup [.agg [.slc 1, .nils], dB t.1], [some (.box [.slc 1, .nils]), some (sI t.2)]), [], none⟩
  | _, _ => Ans.no

theorem spec_DeskNew_sound : Sound Try.prog 6 F_spec_DeskNew := by
  refine fn_sound' (C := spec_DeskNew_ctx) (c := bodyOf Try.f6) (cok_of tys_ok (allc spec_TreeOk_sound alln) (allc Try.call16 alln) (by kernel_rfl)) Try.func6 (by kernel_rfl) LL spec_DeskNew_an ?_
  intro avs H r H' h
  unfold F_spec_DeskNew at h
  split at h
  · refine Awp.cast ?_ ?_ ?_ (spec_DeskNew_e _ h) <;> kernel_rfl
  · simp [Ans.no, Ans.run] at h


/-! loop.example/headtrees/laws.sameInts -/

def laws_sameInts_an : Ann := (.seq (.leaf [0, 1]) (.seq (.seq (.leaf [0, 1, 10]) (.cond (.seq (.leaf [4]) (.leaf [4])) (.leaf [0, 1]))) (.seq (.seq (.leaf [0, 1, 5]) (.block (.loop (.seq (.seq (.leaf [0, 1, 5, 14]) (.cond (.leaf [0, 1, 5]) (.leaf []))) (.seq (.block (.seq (.draw [] [0, 1, 2, 3, 4, 5, 6, 7, 8] [] [0, 1, 5, 25]) (.cond (.seq (.leaf [4]) (.leaf [4])) (.leaf [0, 1, 5])))) (.leaf [0, 1, 5])))))) (.seq (.leaf [4]) (.leaf [4])))))

noncomputable def laws_sameInts_ctx : Ctx := ⟨tlook tys, olook [], ioF, 0, false, []⟩

theorem laws_sameInts_n1_l (x3272 : List Int) (x3273 : List Int) : Link laws_sameInts_ctx LL (Code.seq (cq [0] (bodyOf Try.f12)) (cq [0,1] (bodyOf Try.f12))) (Ann.seq (aq [0] laws_sameInts_an) (aq [0,1] laws_sameInts_an)) ⟨mkE 26 0 [(0, dL x3272), (1, dL x3273)], []⟩ (laws_sameInts_n1 x3272 x3273) (Sum.elim (fun (t : Unit) => (Exit.normal, ⟨mkE 26 0 [(0, dL x3272), (1, dL x3273)], []⟩)) (fun (t : Bool) => (Exit.ret, ⟨mkE 26 0 [(4, dB t)], []⟩))) := .of fun K h => by
  simp only [laws_sameInts_n1, wpW] at h
  exact .of (by kernel_rfl) h

theorem laws_sameInts_n2_l (x3272 : List Int) (x3273 : List Int) : Link laws_sameInts_ctx LL (cq [0,0,1,1] (bodyOf Try.f12)) (aq [0,0,1,1] laws_sameInts_an) ⟨mkE 26 0 [(0, dL x3272), (1, dL x3273)], []⟩ (laws_sameInts_n2) (fun (t : Unit) => (Exit.normal, ⟨mkE 26 0 [(0, dL x3272), (1, dL x3273), (5, dI 0)], []⟩)) := .of fun K h => by
  simp only [laws_sameInts_n2, wpW] at h
  exact .of (by kernel_rfl) h

theorem laws_sameInts_n3_l (x3272 : List Int) (x3273 : List Int) (x3290 : Int) : Link laws_sameInts_ctx LL (cq [0,0,1,0,1,1] (bodyOf Try.f12)) (aq [0,0,1,0,1,1] laws_sameInts_an) ⟨mkE 26 0 [(0, dL x3272), (1, dL x3273), (5, dI x3290)], []⟩ (laws_sameInts_n3 x3272 x3273 x3290) (Sum.elim (fun (t : Int) => (Exit.normal, ⟨mkE 26 0 [(0, dL x3272), (1, dL x3273), (5, dI t)], []⟩)) (Sum.elim (fun (t : Bool) => (Exit.ret, ⟨mkE 26 0 [(4, dB t)], []⟩)) (fun (t : Unit) => ((Exit.exit 0), ⟨mkE 26 0 [], []⟩)))) := .of fun K h => by
  simp only [laws_sameInts_n3, wpW] at h
  exact .of (by kernel_rfl) h

def laws_sameInts_n4_l (x3272 : List Int) (x3273 : List Int) := (link_loop (mk := fun (s : Int) => ⟨mkE 26 0 [(0, dL x3272), (1, dL x3273), (5, dI s)], []⟩) (fin := (Sum.elim (fun (t : Bool) => (Exit.ret, ⟨mkE 26 0 [(4, dB t)], []⟩)) (fun (t : Unit) => ((Exit.exit 0), ⟨mkE 26 0 [], []⟩)))) (by
  rintro (t | t) f K h
  · exact h
  · exact h) (fun s => link_map (laws_sameInts_n3_l x3272 x3273 s) (Sum.elim (fun (t : Int) => Sum.inl t) (Sum.elim (fun (t : Bool) => Sum.inr (Sum.inl t)) (fun (t : Unit) => Sum.inr (Sum.inr t)))) (by
  rintro (t | t | t)
  · kernel_rfl
  · kernel_rfl
  · kernel_rfl)) 0)

def laws_sameInts_n5_l (x3272 : List Int) (x3273 : List Int) := (link_block (fin2 := (Sum.elim (fun (t : Unit) => (Exit.normal, ⟨mkE 26 0 [], []⟩)) (fun (t : Bool) => (Exit.ret, ⟨mkE 26 0 [(4, dB t)], []⟩)))) (id := 0) (laws_sameInts_n4_l x3272 x3273) (Sum.elim (fun (t : Bool) => (Sum.inr t)) (fun (t : Unit) => (Sum.inl ()))) (by
  rintro (t | t) K h
  · exact Eq.mp (by kernel_rfl) h
  · exact Eq.mp (by kernel_rfl) h))

def laws_sameInts_n6_l (x3272 : List Int) (x3273 : List Int) := (link_seq (laws_sameInts_n2_l x3272 x3273) (fun (t : Unit) => (laws_sameInts_n5_l x3272 x3273)))

theorem laws_sameInts_n7_l : Link laws_sameInts_ctx LL (cq [1,1,1] (bodyOf Try.f12)) (aq [1,1,1] laws_sameInts_an) ⟨mkE 26 0 [], []⟩ (laws_sameInts_n7) (fun (t : Bool) => (Exit.ret, ⟨mkE 26 0 [(4, dB t)], []⟩)) := .of fun K h => by
  simp only [laws_sameInts_n7, wpW] at h
  exact .of (by kernel_rfl) h

def laws_sameInts_n8_l (x3272 : List Int) (x3273 : List Int) := (link_seq2 (laws_sameInts_n6_l x3272 x3273) (fun (t : Unit) => (laws_sameInts_n7_l)) (fun (t : Bool) => t) (by
  rintro t
  · kernel_rfl) (by
  rintro t f K h
  · exact h))

def laws_sameInts_n9_l (x3272 : List Int) (x3273 : List Int) := (link_group (c := (cq [0,1] (bodyOf Try.f12))) (a := (aq [0,1] laws_sameInts_an)) [(cq [0] (bodyOf Try.f12))] [(aq [0] laws_sameInts_an)] rfl (link_seq2 (laws_sameInts_n1_l x3272 x3273) (fun (t : Unit) => (laws_sameInts_n8_l x3272 x3273)) (fun (t : Bool) => t) (by
  rintro t
  · kernel_rfl) (by
  rintro t f K h
  · exact h)))

theorem laws_sameInts_e (x3272 : List Int) (x3273 : List Int) {r : AV} {H' : Heap} (h : (Ans.mk _ (laws_sameInts x3272 x3273) (fun (t : Bool) => (dB t, [])) [] none).run = some (r, H')) : Awp laws_sameInts_ctx LL (bodyOf Try.f12) laws_sameInts_an ⟨mkE 26 0 [(0, dL x3272), (1, dL x3273)], []⟩ (Ret (tlook tys) Try.f12.results.toList r H') :=
  ret_of' (Link.cast (by kernel_rfl) (by kernel_rfl) (laws_sameInts_n9_l x3272 x3273)) (by unfold laws_sameInts; kernel_rfl) (by
  intro t
  exact ret_mk [dB t] (by kernel_rfl) (by kernel_rfl) (by kernel_rfl) (by kernel_rfl)) h

def F_laws_sameInts : Fun := fun avs H =>
  match avs, H with
  | [.dat (.list (.int .i64)) x3272, .dat (.list (.int .i64)) x3273], [] => ⟨_, laws_sameInts x3272 x3273, fun (t : Bool) => (dB t, []), [], none⟩
  | _, _ => Ans.no

theorem laws_sameInts_sound : Sound Try.prog 12 F_laws_sameInts := by
  refine fn_sound' (C := laws_sameInts_ctx) (c := bodyOf Try.f12) (cok_of tys_ok (alln) (alln) (by kernel_rfl)) Try.func12 (by kernel_rfl) LL laws_sameInts_an ?_
  intro avs H r H' h
  unfold F_laws_sameInts at h
  split at h
  · refine Awp.cast ?_ ?_ ?_ (laws_sameInts_e _ _ h) <;> kernel_rfl
  · simp [Ans.no, Ans.run] at h


/-! loop.example/headtrees/laws.sameRows -/

def laws_sameRows_an : Ann := (.seq (.leaf [0, 1]) (.seq (.seq (.leaf [0, 1, 10]) (.cond (.seq (.leaf [4]) (.leaf [4])) (.leaf [0, 1]))) (.seq (.seq (.leaf [0, 1, 5]) (.block (.loop (.seq (.seq (.leaf [0, 1, 5, 14]) (.cond (.leaf [0, 1, 5]) (.leaf []))) (.seq (.block (.seq (.draw [8] [0, 1, 2, 3, 4, 5, 6, 7, 8, 9] [] [0, 1, 5, 26]) (.cond (.seq (.leaf [4]) (.leaf [4])) (.leaf [0, 1, 5])))) (.leaf [0, 1, 5])))))) (.seq (.leaf [4]) (.leaf [4])))))

noncomputable def laws_sameRows_ctx : Ctx := ⟨tlook tys, olook [(12, F_laws_sameInts)], ioF, 0, false, []⟩

theorem laws_sameRows_n1_l (x3306 : List (List Int)) (x3307 : List (List Int)) : Link laws_sameRows_ctx LL (Code.seq (cq [0] (bodyOf Try.f17)) (cq [0,1] (bodyOf Try.f17))) (Ann.seq (aq [0] laws_sameRows_an) (aq [0,1] laws_sameRows_an)) ⟨mkE 27 0 [(0, .dat (.list (.list (.int .i64))) x3306), (1, .dat (.list (.list (.int .i64))) x3307)], []⟩ (laws_sameRows_n1 x3306 x3307) (Sum.elim (fun (t : Unit) => (Exit.normal, ⟨mkE 27 0 [(0, .dat (.list (.list (.int .i64))) x3306), (1, .dat (.list (.list (.int .i64))) x3307)], []⟩)) (fun (t : Bool) => (Exit.ret, ⟨mkE 27 0 [(4, dB t)], []⟩))) := .of fun K h => by
  simp only [laws_sameRows_n1, wpW] at h
  exact .of (by kernel_rfl) h

theorem laws_sameRows_n2_l (x3306 : List (List Int)) (x3307 : List (List Int)) : Link laws_sameRows_ctx LL (cq [0,0,1,1] (bodyOf Try.f17)) (aq [0,0,1,1] laws_sameRows_an) ⟨mkE 27 0 [(0, .dat (.list (.list (.int .i64))) x3306), (1, .dat (.list (.list (.int .i64))) x3307)], []⟩ (laws_sameRows_n2) (fun (t : Unit) => (Exit.normal, ⟨mkE 27 0 [(0, .dat (.list (.list (.int .i64))) x3306), (1, .dat (.list (.list (.int .i64))) x3307), (5, dI 0)], []⟩)) := .of fun K h => by
  simp only [laws_sameRows_n2, wpW] at h
  exact .of (by kernel_rfl) h

theorem laws_sameRows_n3_l (x3306 : List (List Int)) (x3307 : List (List Int)) (x3326 : Int) : Link laws_sameRows_ctx LL (cq [0,0,1,0,1,1] (bodyOf Try.f17)) (aq [0,0,1,0,1,1] laws_sameRows_an) ⟨mkE 27 0 [(0, .dat (.list (.list (.int .i64))) x3306), (1, .dat (.list (.list (.int .i64))) x3307), (5, dI x3326)], []⟩ (laws_sameRows_n3 x3306 x3307 x3326) (Sum.elim (fun (t : Int) => (Exit.normal, ⟨mkE 27 0 [(0, .dat (.list (.list (.int .i64))) x3306), (1, .dat (.list (.list (.int .i64))) x3307), (5, dI t)], []⟩)) (Sum.elim (fun (t : Bool) => (Exit.ret, ⟨mkE 27 0 [(4, dB t)], []⟩)) (fun (t : Unit) => ((Exit.exit 0), ⟨mkE 27 0 [], []⟩)))) := .of fun K h => by
  simp only [laws_sameRows_n3, wpW] at h
  exact .of (by kernel_rfl) h

def laws_sameRows_n4_l (x3306 : List (List Int)) (x3307 : List (List Int)) := (link_loop (mk := fun (s : Int) => ⟨mkE 27 0 [(0, .dat (.list (.list (.int .i64))) x3306), (1, .dat (.list (.list (.int .i64))) x3307), (5, dI s)], []⟩) (fin := (Sum.elim (fun (t : Bool) => (Exit.ret, ⟨mkE 27 0 [(4, dB t)], []⟩)) (fun (t : Unit) => ((Exit.exit 0), ⟨mkE 27 0 [], []⟩)))) (by
  rintro (t | t) f K h
  · exact h
  · exact h) (fun s => link_map (laws_sameRows_n3_l x3306 x3307 s) (Sum.elim (fun (t : Int) => Sum.inl t) (Sum.elim (fun (t : Bool) => Sum.inr (Sum.inl t)) (fun (t : Unit) => Sum.inr (Sum.inr t)))) (by
  rintro (t | t | t)
  · kernel_rfl
  · kernel_rfl
  · kernel_rfl)) 0)

def laws_sameRows_n5_l (x3306 : List (List Int)) (x3307 : List (List Int)) := (link_block (fin2 := (Sum.elim (fun (t : Unit) => (Exit.normal, ⟨mkE 27 0 [], []⟩)) (fun (t : Bool) => (Exit.ret, ⟨mkE 27 0 [(4, dB t)], []⟩)))) (id := 0) (laws_sameRows_n4_l x3306 x3307) (Sum.elim (fun (t : Bool) => (Sum.inr t)) (fun (t : Unit) => (Sum.inl ()))) (by
  rintro (t | t) K h
  · exact Eq.mp (by kernel_rfl) h
  · exact Eq.mp (by kernel_rfl) h))

def laws_sameRows_n6_l (x3306 : List (List Int)) (x3307 : List (List Int)) := (link_seq (laws_sameRows_n2_l x3306 x3307) (fun (t : Unit) => (laws_sameRows_n5_l x3306 x3307)))

theorem laws_sameRows_n7_l : Link laws_sameRows_ctx LL (cq [1,1,1] (bodyOf Try.f17)) (aq [1,1,1] laws_sameRows_an) ⟨mkE 27 0 [], []⟩ (laws_sameRows_n7) (fun (t : Bool) => (Exit.ret, ⟨mkE 27 0 [(4, dB t)], []⟩)) := .of fun K h => by
  simp only [laws_sameRows_n7, wpW] at h
  exact .of (by kernel_rfl) h

def laws_sameRows_n8_l (x3306 : List (List Int)) (x3307 : List (List Int)) := (link_seq2 (laws_sameRows_n6_l x3306 x3307) (fun (t : Unit) => (laws_sameRows_n7_l)) (fun (t : Bool) => t) (by
  rintro t
  · kernel_rfl) (by
  rintro t f K h
  · exact h))

def laws_sameRows_n9_l (x3306 : List (List Int)) (x3307 : List (List Int)) := (link_group (c := (cq [0,1] (bodyOf Try.f17))) (a := (aq [0,1] laws_sameRows_an)) [(cq [0] (bodyOf Try.f17))] [(aq [0] laws_sameRows_an)] rfl (link_seq2 (laws_sameRows_n1_l x3306 x3307) (fun (t : Unit) => (laws_sameRows_n8_l x3306 x3307)) (fun (t : Bool) => t) (by
  rintro t
  · kernel_rfl) (by
  rintro t f K h
  · exact h)))

theorem laws_sameRows_e (x3306 : List (List Int)) (x3307 : List (List Int)) {r : AV} {H' : Heap} (h : (Ans.mk _ (laws_sameRows x3306 x3307) (fun (t : Bool) => (dB t, [])) [] none).run = some (r, H')) : Awp laws_sameRows_ctx LL (bodyOf Try.f17) laws_sameRows_an ⟨mkE 27 0 [(0, .dat (.list (.list (.int .i64))) x3306), (1, .dat (.list (.list (.int .i64))) x3307)], []⟩ (Ret (tlook tys) Try.f17.results.toList r H') :=
  ret_of' (Link.cast (by kernel_rfl) (by kernel_rfl) (laws_sameRows_n9_l x3306 x3307)) (by unfold laws_sameRows; kernel_rfl) (by
  intro t
  exact ret_mk [dB t] (by kernel_rfl) (by kernel_rfl) (by kernel_rfl) (by kernel_rfl)) h

def F_laws_sameRows : Fun := fun avs H =>
  match avs, H with
  | [.dat (.list (.list (.int .i64))) x3306, .dat (.list (.list (.int .i64))) x3307], [] => ⟨_, laws_sameRows x3306 x3307, fun (t : Bool) => (dB t, []), [], none⟩
  | _, _ => Ans.no

theorem laws_sameRows_sound : Sound Try.prog 17 F_laws_sameRows := by
  refine fn_sound' (C := laws_sameRows_ctx) (c := bodyOf Try.f17) (cok_of tys_ok (allc laws_sameInts_sound alln) (allc Try.call12 alln) (by kernel_rfl)) Try.func17 (by kernel_rfl) LL laws_sameRows_an ?_
  intro avs H r H' h
  unfold F_laws_sameRows at h
  split at h
  · refine Awp.cast ?_ ?_ ?_ (laws_sameRows_e _ _ h) <;> kernel_rfl
  · simp [Ans.no, Ans.run] at h


/-! loop.example/headtrees/laws.sameDesk -/

def laws_sameDesk_an : Ann := (.seq (.leaf [2, 3]) (.seq (.leaf [4]) (.leaf [4])))

noncomputable def laws_sameDesk_ctx : Ctx := ⟨tlook tys, olook [(12, F_laws_sameInts), (17, F_laws_sameRows)], ioF, 0, false, []⟩

theorem laws_sameDesk_n1_l (x3269 : List Int) (x3270 : List (List Int)) (x3271 : List Int) : Link laws_sameDesk_ctx LL (bodyOf Try.f7) laws_sameDesk_an ⟨mkE 17 0 [(0, .agg [dL x3269, .dat (.list (.list (.int .i64))) x3270]), (1, .agg [dL x3271, .nils])], []⟩ (laws_sameDesk_n1 x3269 x3270 x3271) (fun (t : Bool) => (Exit.ret, ⟨mkE 17 0 [(4, dB t)], []⟩)) := .of fun K h => by
  simp only [laws_sameDesk_n1, wpW] at h
  exact .of (by kernel_rfl) h

theorem laws_sameDesk_e (x3269 : List Int) (x3270 : List (List Int)) (x3271 : List Int) {r : AV} {H' : Heap} (h : (Ans.mk _ (laws_sameDesk x3269 x3270 x3271) (fun (t : Bool) => (dB t, [])) [] none).run = some (r, H')) : Awp laws_sameDesk_ctx LL (bodyOf Try.f7) laws_sameDesk_an ⟨mkE 17 0 [(0, .agg [dL x3269, .dat (.list (.list (.int .i64))) x3270]), (1, .agg [dL x3271, .nils])], []⟩ (Ret (tlook tys) Try.f7.results.toList r H') :=
  ret_of' (laws_sameDesk_n1_l x3269 x3270 x3271) (by unfold laws_sameDesk; kernel_rfl) (by
  intro t
  exact ret_mk [dB t] (by kernel_rfl) (by kernel_rfl) (by kernel_rfl) (by kernel_rfl)) h

def laws_sameDesk_v2_an : Ann := (.seq (.leaf [2, 3]) (.seq (.leaf [4]) (.leaf [4])))

noncomputable def laws_sameDesk_v2_ctx : Ctx := ⟨tlook tys, olook [(12, F_laws_sameInts), (17, F_laws_sameRows)], ioF, 0, false, []⟩

theorem laws_sameDesk_v2_n1_l (x3366 : List Int) (x3367 : List (List Int)) : Link laws_sameDesk_v2_ctx LL (bodyOf Try.f7) laws_sameDesk_v2_an ⟨mkE 17 0 [(0, .agg [dL x3366, .dat (.list (.list (.int .i64))) x3367]), (1, .agg [.nils, .nils])], []⟩ (laws_sameDesk_v2_n1 x3366 x3367) (fun (t : Bool) => (Exit.ret, ⟨mkE 17 0 [(4, dB t)], []⟩)) := .of fun K h => by
  simp only [laws_sameDesk_v2_n1, wpW] at h
  exact .of (by kernel_rfl) h

theorem laws_sameDesk_v2_e (x3366 : List Int) (x3367 : List (List Int)) {r : AV} {H' : Heap} (h : (Ans.mk _ (laws_sameDesk_v2 x3366 x3367) (fun (t : Bool) => (dB t, [])) [] none).run = some (r, H')) : Awp laws_sameDesk_v2_ctx LL (bodyOf Try.f7) laws_sameDesk_v2_an ⟨mkE 17 0 [(0, .agg [dL x3366, .dat (.list (.list (.int .i64))) x3367]), (1, .agg [.nils, .nils])], []⟩ (Ret (tlook tys) Try.f7.results.toList r H') :=
  ret_of' (laws_sameDesk_v2_n1_l x3366 x3367) (by unfold laws_sameDesk_v2; kernel_rfl) (by
  intro t
  exact ret_mk [dB t] (by kernel_rfl) (by kernel_rfl) (by kernel_rfl) (by kernel_rfl)) h

def F_laws_sameDesk : Fun := fun avs H =>
  match avs, H with
  | [.agg [.dat (.list (.int .i64)) x3269, .dat (.list (.list (.int .i64))) x3270], .agg [.dat (.list (.int .i64)) x3271, .nils]], [] => ⟨_, laws_sameDesk x3269 x3270 x3271, fun (t : Bool) => (dB t, []), [], none⟩
  | [.agg [.dat (.list (.int .i64)) x3366, .dat (.list (.list (.int .i64))) x3367], .agg [.nils, .nils]], [] => ⟨_, laws_sameDesk_v2 x3366 x3367, fun (t : Bool) => (dB t, []), [], none⟩
  | _, _ => Ans.no

theorem laws_sameDesk_sound : Sound Try.prog 7 F_laws_sameDesk := by
  refine fn_sound' (C := laws_sameDesk_ctx) (c := bodyOf Try.f7) (cok_of tys_ok (allc laws_sameInts_sound (allc laws_sameRows_sound alln)) (allc Try.call12 (allc Try.call17 alln)) (by kernel_rfl)) Try.func7 (by kernel_rfl) LL laws_sameDesk_an ?_
  intro avs H r H' h
  unfold F_laws_sameDesk at h
  split at h
  · refine Awp.cast ?_ ?_ ?_ (laws_sameDesk_e _ _ _ h) <;> kernel_rfl
  · refine Awp.cast ?_ ?_ ?_ (laws_sameDesk_v2_e _ _ h) <;> kernel_rfl
  · simp [Ans.no, Ans.run] at h


/-! loop.example/headtrees/laws.noDesk -/

def laws_noDesk_an : Ann := (.seq (.leaf [1]) (.seq (.leaf [2]) (.leaf [2])))

noncomputable def laws_noDesk_ctx : Ctx := ⟨tlook tys, olook [(7, F_laws_sameDesk)], ioF, 0, false, []⟩

theorem laws_noDesk_n1_l (x3364 : List Int) (x3365 : List (List Int)) : Link laws_noDesk_ctx LL (bodyOf Try.f8) laws_noDesk_an ⟨mkE 6 0 [(0, .agg [dL x3364, .dat (.list (.list (.int .i64))) x3365])], []⟩ (laws_noDesk_n1 x3364 x3365) (fun (t : Bool) => (Exit.ret, ⟨mkE 6 0 [(2, dB t)], []⟩)) := .of fun K h => by
  simp only [laws_noDesk_n1, wpW] at h
  exact .of (by kernel_rfl) h

theorem laws_noDesk_e (x3364 : List Int) (x3365 : List (List Int)) {r : AV} {H' : Heap} (h : (Ans.mk _ (laws_noDesk x3364 x3365) (fun (t : Bool) => (dB t, [])) [] none).run = some (r, H')) : Awp laws_noDesk_ctx LL (bodyOf Try.f8) laws_noDesk_an ⟨mkE 6 0 [(0, .agg [dL x3364, .dat (.list (.list (.int .i64))) x3365])], []⟩ (Ret (tlook tys) Try.f8.results.toList r H') :=
  ret_of' (laws_noDesk_n1_l x3364 x3365) (by unfold laws_noDesk; kernel_rfl) (by
  intro t
  exact ret_mk [dB t] (by kernel_rfl) (by kernel_rfl) (by kernel_rfl) (by kernel_rfl)) h

def F_laws_noDesk : Fun := fun avs H =>
  match avs, H with
  | [.agg [.dat (.list (.int .i64)) x3364, .dat (.list (.list (.int .i64))) x3365]], [] => ⟨_, laws_noDesk x3364 x3365, fun (t : Bool) => (dB t, []), [], none⟩
  | _, _ => Ans.no

theorem laws_noDesk_sound : Sound Try.prog 8 F_laws_noDesk := by
  refine fn_sound' (C := laws_noDesk_ctx) (c := bodyOf Try.f8) (cok_of tys_ok (allc laws_sameDesk_sound alln) (allc Try.call7 alln) (by kernel_rfl)) Try.func8 (by kernel_rfl) LL laws_noDesk_an ?_
  intro avs H r H' h
  unfold F_laws_noDesk at h
  split at h
  · refine Awp.cast ?_ ?_ ?_ (laws_noDesk_e _ _ h) <;> kernel_rfl
  · simp [Ans.no, Ans.run] at h


/-! loop.example/headtrees/laws.alive -/

def laws_alive_an : Ann := (.seq (.leaf []) (.seq (.leaf [0]) (.leaf [0])))

noncomputable def laws_alive_ctx : Ctx := ⟨tlook tys, olook [(9, F_impl_TreeOk)], ioF, 0, false, []⟩

theorem laws_alive_n1_l : Link laws_alive_ctx LL (bodyOf Try.f10) laws_alive_an ⟨mkE 8 0 [], []⟩ (laws_alive_n1) (fun (t : Bool) => (Exit.ret, ⟨mkE 8 0 [(0, dB t)], []⟩)) := .of fun K h => by
  simp only [laws_alive_n1, wpW] at h
  exact .of (by kernel_rfl) h

theorem laws_alive_e {r : AV} {H' : Heap} (h : (Ans.mk _ (laws_alive) (fun (t : Bool) => (dB t, [])) [] none).run = some (r, H')) : Awp laws_alive_ctx LL (bodyOf Try.f10) laws_alive_an ⟨mkE 8 0 [], []⟩ (Ret (tlook tys) Try.f10.results.toList r H') :=
  ret_of' (laws_alive_n1_l) (by unfold laws_alive; kernel_rfl) (by
  intro t
  exact ret_mk [dB t] (by kernel_rfl) (by kernel_rfl) (by kernel_rfl) (by kernel_rfl)) h

def F_laws_alive : Fun := fun avs H =>
  match avs, H with
  | [], [] => ⟨_, laws_alive, fun (t : Bool) => (dB t, []), [], none⟩
  | _, _ => Ans.no

theorem laws_alive_sound : Sound Try.prog 10 F_laws_alive := by
  refine fn_sound' (C := laws_alive_ctx) (c := bodyOf Try.f10) (cok_of tys_ok (allc impl_TreeOk_sound alln) (allc Try.call9 alln) (by kernel_rfl)) Try.func10 (by kernel_rfl) LL laws_alive_an ?_
  intro avs H r H' h
  unfold F_laws_alive at h
  split at h
  · refine Awp.cast ?_ ?_ ?_ (laws_alive_e h) <;> kernel_rfl
  · simp [Ans.no, Ans.run] at h


/-! loop.example/headtrees/impl.DeskOk -/

def impl_DeskOk_an : Ann := (.seq (.leaf [1]) (.seq (.seq (.leaf [1, 14]) (.cond (.seq (.leaf [2]) (.leaf [2])) (.leaf [1]))) (.seq (.seq (.leaf [16, 17, 18]) (.block (.loop (.seq (.leaf [16, 17, 18, 19]) (.seq (.cond (.leaf [16, 17, 18]) (.leaf [])) (.seq (.block (.seq (.leaf [4, 16, 17, 18]) (.seq (.leaf [16, 17, 18, 24]) (.cond (.seq (.leaf [2]) (.leaf [2])) (.leaf [16, 17, 18]))))) (.leaf [16, 17, 18]))))))) (.seq (.leaf [2]) (.leaf [2])))))

noncomputable def impl_DeskOk_ctx : Ctx := ⟨tlook tys, olook [(9, F_impl_TreeOk)], ioF, 0, false, []⟩

theorem impl_DeskOk_n1_l (x3408 : List Int) (x3409 : List (List Int)) : Link impl_DeskOk_ctx LL (Code.seq (cq [0] (bodyOf Try.f11)) (cq [0,1] (bodyOf Try.f11))) (Ann.seq (aq [0] impl_DeskOk_an) (aq [0,1] impl_DeskOk_an)) ⟨mkE 26 0 [(0, .agg [dL x3408, .dat (.list (.list (.int .i64))) x3409])], []⟩ (impl_DeskOk_n1 x3408 x3409) (Sum.elim (fun (t : Unit) => (Exit.normal, ⟨mkE 26 0 [(1, .ptr 0 0)], [some (.box [dL x3408, .dat (.list (.list (.int .i64))) x3409])]⟩)) (fun (t : Bool) => (Exit.ret, ⟨mkE 26 0 [(2, dB t)], []⟩))) := .of fun K h => by
  simp only [impl_DeskOk_n1, wpW] at h
  exact .of (by kernel_rfl) h

theorem impl_DeskOk_n2_l (x3408 : List Int) (x3409 : List (List Int)) : Link impl_DeskOk_ctx LL (cq [0,0,1,1] (bodyOf Try.f11)) (aq [0,0,1,1] impl_DeskOk_an) ⟨mkE 26 0 [(1, .ptr 0 0)], [some (.box [dL x3408, .dat (.list (.list (.int .i64))) x3409])]⟩ (impl_DeskOk_n2 x3409) (fun (t : Int) => (Exit.normal, ⟨mkE 26 0 [(16, .dat (.list (.list (.int .i64))) x3409), (17, dI t), (18, dI 0)], []⟩)) := .of fun K h => by
  simp only [impl_DeskOk_n2, wpW] at h
  exact .of (by kernel_rfl) h

theorem impl_DeskOk_n3_l (x3409 : List (List Int)) (x3414 : Int) (x3426 : Int) : Link impl_DeskOk_ctx LL (cq [0,0,1,0,1,1] (bodyOf Try.f11)) (aq [0,0,1,0,1,1] impl_DeskOk_an) ⟨mkE 26 0 [(16, .dat (.list (.list (.int .i64))) x3409), (17, dI x3414), (18, dI x3426)], []⟩ (impl_DeskOk_n3 x3409 x3414 x3426) (Sum.elim (fun (t : Int) => (Exit.normal, ⟨mkE 26 0 [(16, .dat (.list (.list (.int .i64))) x3409), (17, dI x3414), (18, dI t)], []⟩)) (Sum.elim (fun (t : Bool) => (Exit.ret, ⟨mkE 26 0 [(2, dB t)], []⟩)) (fun (t : Unit) => ((Exit.exit 0), ⟨mkE 26 0 [], []⟩)))) := .of fun K h => by
  simp only [impl_DeskOk_n3, wpW] at h
  exact .of (by kernel_rfl) h

def impl_DeskOk_n4_l (x3409 : List (List Int)) (x3414 : Int) := (link_loop (mk := fun (s : Int) => ⟨mkE 26 0 [(16, .dat (.list (.list (.int .i64))) x3409), (17, dI x3414), (18, dI s)], []⟩) (fin := (Sum.elim (fun (t : Bool) => (Exit.ret, ⟨mkE 26 0 [(2, dB t)], []⟩)) (fun (t : Unit) => ((Exit.exit 0), ⟨mkE 26 0 [], []⟩)))) (by
  rintro (t | t) f K h
  · exact h
  · exact h) (fun s => link_map (impl_DeskOk_n3_l x3409 x3414 s) (Sum.elim (fun (t : Int) => Sum.inl t) (Sum.elim (fun (t : Bool) => Sum.inr (Sum.inl t)) (fun (t : Unit) => Sum.inr (Sum.inr t)))) (by
  rintro (t | t | t)
  · kernel_rfl
  · kernel_rfl
  · kernel_rfl)) 0)

def impl_DeskOk_n5_l (x3409 : List (List Int)) (x3414 : Int) := (link_block (fin2 := (Sum.elim (fun (t : Unit) => (Exit.normal, ⟨mkE 26 0 [], []⟩)) (fun (t : Bool) => (Exit.ret, ⟨mkE 26 0 [(2, dB t)], []⟩)))) (id := 0) (impl_DeskOk_n4_l x3409 x3414) (Sum.elim (fun (t : Bool) => (Sum.inr t)) (fun (t : Unit) => (Sum.inl ()))) (by
  rintro (t | t) K h
  · exact Eq.mp (by kernel_rfl) h
  · exact Eq.mp (by kernel_rfl) h))

def impl_DeskOk_n6_l (x3408 : List Int) (x3409 : List (List Int)) := (link_seq (impl_DeskOk_n2_l x3408 x3409) (fun (t : Int) => (impl_DeskOk_n5_l x3409 t)))

theorem impl_DeskOk_n7_l : Link impl_DeskOk_ctx LL (cq [1,1,1] (bodyOf Try.f11)) (aq [1,1,1] impl_DeskOk_an) ⟨mkE 26 0 [], []⟩ (impl_DeskOk_n7) (fun (t : Bool) => (Exit.ret, ⟨mkE 26 0 [(2, dB t)], []⟩)) := .of fun K h => by
  simp only [impl_DeskOk_n7, wpW] at h
  exact .of (by kernel_rfl) h

def impl_DeskOk_n8_l (x3408 : List Int) (x3409 : List (List Int)) := (link_seq2 (impl_DeskOk_n6_l x3408 x3409) (fun (t : Unit) => (impl_DeskOk_n7_l)) (fun (t : Bool) => t) (by
  rintro t
  · kernel_rfl) (by
  rintro t f K h
  · exact h))

def impl_DeskOk_n9_l (x3408 : List Int) (x3409 : List (List Int)) := (link_group (c := (cq [0,1] (bodyOf Try.f11))) (a := (aq [0,1] impl_DeskOk_an)) [(cq [0] (bodyOf Try.f11))] [(aq [0] impl_DeskOk_an)] rfl (link_seq2 (impl_DeskOk_n1_l x3408 x3409) (fun (t : Unit) => (impl_DeskOk_n8_l x3408 x3409)) (fun (t : Bool) => t) (by
  rintro t
  · kernel_rfl) (by
  rintro t f K h
  · exact h)))

theorem impl_DeskOk_e (x3408 : List Int) (x3409 : List (List Int)) {r : AV} {H' : Heap} (h : (Ans.mk _ (impl_DeskOk x3408 x3409) (fun (t : Bool) => (dB t, [])) [] none).run = some (r, H')) : Awp impl_DeskOk_ctx LL (bodyOf Try.f11) impl_DeskOk_an ⟨mkE 26 0 [(0, .agg [dL x3408, .dat (.list (.list (.int .i64))) x3409])], []⟩ (Ret (tlook tys) Try.f11.results.toList r H') :=
  ret_of' (Link.cast (by kernel_rfl) (by kernel_rfl) (impl_DeskOk_n9_l x3408 x3409)) (by unfold impl_DeskOk; kernel_rfl) (by
  intro t
  exact ret_mk [dB t] (by kernel_rfl) (by kernel_rfl) (by kernel_rfl) (by kernel_rfl)) h

def F_impl_DeskOk : Fun := fun avs H =>
  match avs, H with
  | [.agg [.dat (.list (.int .i64)) x3408, .dat (.list (.list (.int .i64))) x3409]], [] => ⟨_, impl_DeskOk x3408 x3409, fun (t : Bool) => (dB t, []), [], none⟩
  | _, _ => Ans.no

theorem impl_DeskOk_sound : Sound Try.prog 11 F_impl_DeskOk := by
  refine fn_sound' (C := impl_DeskOk_ctx) (c := bodyOf Try.f11) (cok_of tys_ok (allc impl_TreeOk_sound alln) (allc Try.call9 alln) (by kernel_rfl)) Try.func11 (by kernel_rfl) LL impl_DeskOk_an ?_
  intro avs H r H' h
  unfold F_impl_DeskOk at h
  split at h
  · refine Awp.cast ?_ ?_ ?_ (impl_DeskOk_e _ _ h) <;> kernel_rfl
  · simp [Ans.no, Ans.run] at h


/-! loop.example/headtrees/laws.FnDeskNew -/

def laws_FnDeskNew_an : Ann := (.seq (.leaf [0]) (.seq (.seq (.leaf [0, 10]) (.cond (.seq (.leaf [2]) (.leaf [2])) (.leaf [0]))) (.seq (.leaf [3]) (.seq (.leaf [3, 4, 5]) (.seq (.leaf [3, 4, 5, 6, 7]) (.seq (.seq (.leaf [3, 4, 5, 31]) (.cond (.seq (.leaf [2]) (.leaf [2])) (.leaf [3, 4, 5]))) (.seq (.seq (.leaf [3, 4, 33]) (.cond (.seq (.leaf [2]) (.leaf [2])) (.leaf [3, 4]))) (.seq (.leaf [2]) (.leaf [2])))))))))

noncomputable def laws_FnDeskNew_ctx : Ctx := ⟨tlook tys, olook [(4, F_spec_DrawDeskNew), (5, F_impl_DeskNew), (6, F_spec_DeskNew), (7, F_laws_sameDesk), (8, F_laws_noDesk), (9, F_impl_TreeOk), (10, F_laws_alive), (11, F_impl_DeskOk), (12, F_laws_sameInts)], ioF, 0, true, []⟩

theorem laws_FnDeskNew_n1_l (x1581 : List Int) : Link laws_FnDeskNew_ctx LL (bodyOf Try.f3) laws_FnDeskNew_an ⟨mkE 58 0 [(0, dV x1581)], []⟩ (laws_FnDeskNew_n1 x1581) (fun (t : Bool) => (Exit.ret, ⟨mkE 58 0 [(2, dB t)], []⟩)) := .of fun K h => by
  simp only [laws_FnDeskNew_n1, wpW] at h
  exact .of (by kernel_rfl) h

theorem laws_FnDeskNew_e (x1581 : List Int) {r : AV} {H' : Heap} (h : (Ans.mk _ (laws_FnDeskNew x1581) (fun (t : Bool) => (dB t, [])) [] none).run = some (r, H')) : Awp laws_FnDeskNew_ctx LL (bodyOf Try.f3) laws_FnDeskNew_an ⟨mkE 58 0 [(0, dV x1581)], []⟩ (Ret (tlook tys) Try.f3.results.toList r H') :=
  ret_of' (laws_FnDeskNew_n1_l x1581) (by unfold laws_FnDeskNew; kernel_rfl) (by
  intro t
  exact ret_mk [dB t] (by kernel_rfl) (by kernel_rfl) (by kernel_rfl) (by kernel_rfl)) h

def F_laws_FnDeskNew : Fun := fun avs H =>
  match avs, H with
  | [.dat (.list (.int .u8)) x1581], [] => ⟨_, laws_FnDeskNew x1581, fun (t : Bool) => (dB t, []), [], none⟩
  | _, _ => Ans.no

theorem laws_FnDeskNew_sound : Sound Try.prog 3 F_laws_FnDeskNew := by
  refine fn_sound' (C := laws_FnDeskNew_ctx) (c := bodyOf Try.f3) (cok_of tys_ok (allc spec_DrawDeskNew_sound (allc impl_DeskNew_sound (allc spec_DeskNew_sound (allc laws_sameDesk_sound (allc laws_noDesk_sound (allc impl_TreeOk_sound (allc laws_alive_sound (allc impl_DeskOk_sound (allc laws_sameInts_sound alln))))))))) (allc Try.call4 (allc Try.call5 (allc Try.call6 (allc Try.call7 (allc Try.call8 (allc Try.call9 (allc Try.call10 (allc Try.call11 (allc Try.call12 alln))))))))) (by kernel_rfl)) Try.func3 (by kernel_rfl) LL laws_FnDeskNew_an ?_
  intro avs H r H' h
  unfold F_laws_FnDeskNew at h
  split at h
  · refine Awp.cast ?_ ?_ ?_ (laws_FnDeskNew_e _ h) <;> kernel_rfl
  · simp [Ans.no, Ans.run] at h

end Go.Rv
