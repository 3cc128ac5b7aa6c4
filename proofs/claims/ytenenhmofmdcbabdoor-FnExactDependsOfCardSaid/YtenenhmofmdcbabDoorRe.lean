/-
  Soundness of the abstract run, a part. Conditions: none.
-/
import Derived.Test.YtenenhmofmdcbabDoorRd
namespace Go.Rv

def kindOk (P : Program) (t : TypeId) : TK → Prop
  | .int k => P.underlying t = some (.int k)
  | .str => P.underlying t = some .string
  | .slice e => P.underlying t = some (.slice e)
  | .arr n e => P.underlying t = some (.array n e)
  | .strct fs => ∃ f, P.underlying t = some (.struct f) ∧ f.toList.map (fun x => (x.offset, x.type)) = fs
  | .bool => P.underlying t = some .bool
  | .scalar => ∃ d, P.underlying t = some d ∧ (match d with | .struct _ | .array _ _ => false | _ => true) = true

structure TIOk (P : Program) (t : TypeId) (ti : TI) : Prop where
  info : ∃ i, P.info? t = some i ∧ i.size = ti.size ∧ i.bytes = ti.bytes ∧ ∃ z, i.zero = some z ∧ z.cells.toList = ti.zero
  kind : kindOk P t ti.kind

def TOk (P : Program) (T : TT) : Prop := ∀ t ti, T t = some ti → TIOk P t ti

section
variable {P : Program} {w w1 : World} {S : Nat → Prop} {σ : Nat → Option Sum}

theorem run_isAgg {t : TypeId} {ti : TI} (h : TIOk P t ti) : (isAgg t).run P w = .ok (isStruct ti.kind) w := by
  have hk := h.kind
  unfold isAgg
  cases hh : ti.kind with
  | int k => rw [hh] at hk; simp [Sem.run_bind, run_underlying hk, isStruct]
  | bool => rw [hh] at hk; simp [Sem.run_bind, run_underlying hk, isStruct]
  | str => rw [hh] at hk; simp [Sem.run_bind, run_underlying hk, isStruct]
  | slice e => rw [hh] at hk; simp [Sem.run_bind, run_underlying hk, isStruct]
  | arr n e => rw [hh] at hk; simp [Sem.run_bind, run_underlying hk, isStruct]
  | strct fs => rw [hh] at hk; obtain ⟨f, hk, _⟩ := hk; simp [Sem.run_bind, run_underlying hk, isStruct]
  | scalar =>
    rw [hh] at hk; obtain ⟨d, hk, hd⟩ := hk
    simp only [Sem.run_bind, run_underlying hk, Result.andThen_ok, isStruct]
    cases d <;> simp_all

theorem run_sizeOf {t : TypeId} {ti : TI} (h : TIOk P t ti) : (sizeOf t).run P w = .ok ti.size w := by
  obtain ⟨i, hi, hs, _⟩ := h.info
  simp [sizeOf, typeInfo, hi, hs]

theorem dat_int {k : IntKind} {n : Int} {v : Value} (h : AVRep w S σ (.dat (.int k) n) v) : v = .int k n := by
  simpa [AVRep, DCells] using h
theorem dat_bool {b : Bool} {v : Value} (h : AVRep w S σ (.dat .bool b) v) : v = .bool b := by
  simpa [AVRep, DCells] using h
theorem dat_str {b : ByteArray} {v : Value} (h : AVRep w S σ (.dat .str b) v) : v = .string b := by
  simpa [AVRep, DCells] using h
theorem rep_int (k : IntKind) (n : Int) : AVRep w S σ (.dat (.int k) n) (.int k n) := rfl
theorem rep_bool (b : Bool) : AVRep w S σ (.dat .bool b) (.bool b) := rfl
theorem rep_str (b : ByteArray) : AVRep w S σ (.dat .str b) (.string b) := rfl

theorem isBool_ok {T : TT} (hT : TOk P T) {t : TypeId} (h : isBool T t = true) : P.underlying t = some .bool := by
  unfold isBool at h
  split at h
  · rename_i ti hti
    have hk := (hT t ti hti).kind
    split at h
    · rename_i hh
      rw [hh] at hk
      exact hk
    · cases h
  · cases h

theorem run_equalIn_bool (d : Nat) {t : TypeId} (hu : P.underlying t = some .bool) (a b : Bool) : (Op.equalIn (d + 1) t (.bool a) (.bool b)).run P w1 = .ok (a == b) w1 := by
  simp only [Op.equalIn, Sem.run_bind, run_underlying hu, Result.andThen_ok, Sem.run_pure]

theorem run_equal_bool {t : TypeId} (hu : P.underlying t = some .bool) (a b : Bool) : (Op.equal t (.bool a) (.bool b)).run P w1 = .ok (a == b) w1 := run_equalIn_bool 9999 hu a b

theorem run_eql_bool {t : TypeId} (hu : P.underlying t = some .bool) (a b : Bool) : (binOp .eql t (.bool a) (.bool b)).run P w1 = .ok (.bool (a == b)) w1 := by
  show (do let r ← Op.equal t (.bool a) (.bool b); pure (Value.bool r) : Sem Value).run P w1 = _
  simp only [Sem.run_bind, run_equal_bool hu, Result.andThen_ok, Sem.run_pure]

theorem run_neq_bool {t : TypeId} (hu : P.underlying t = some .bool) (a b : Bool) : (binOp .neq t (.bool a) (.bool b)).run P w1 = .ok (.bool (a != b)) w1 := by
  show (do let r ← Op.equal t (.bool a) (.bool b); pure (Value.bool (!r)) : Sem Value).run P w1 = _
  simp only [Sem.run_bind, run_equal_bool hu, Result.andThen_ok, Sem.run_pure]
  rfl

theorem abin_ok {β : Type} {ib : Bool} {op : BinOp} {x y : AV} {K : AV → Option β} {r : β} (t : TypeId) (hib : ib = true → P.underlying t = some .bool) (h : abin (optAlg β) ib op x y K = some r) {vx vy : Value} (hx : AVRep w S σ x vx) (hy : AVRep w S σ y vy) (ox oy : Operand) :
    ∃ a v, K a = some r ∧ AVRep w S σ a v ∧ (do eqGuard op t ox oy vx vy; binOp op t vx vy : Sem Value).run P w1 = .ok v w1 := by
  unfold abin at h
  split at h
  · rename_i k a k' b
    have ex := dat_int hx
    have ey := dat_int hy
    subst ex ey
    have hg : (eqGuard op t ox oy (.int k a) (.int k' b)).run P w1 = .ok () w1 := by
      unfold eqGuard; cases op <;> simp
    simp only [Sem.run_bind, hg, Result.andThen_ok]
    split at h
    · simp only [optAlg, shl] at h
      split at h
      · cases h
      · rename_i hb
        exact ⟨_, _, h, rep_int _ _, by simp [binOp, Op.shift, hb]⟩
    · simp only [optAlg, shr] at h
      split at h
      · cases h
      · rename_i hb
        exact ⟨_, _, h, rep_int _ _, by simp [binOp, Op.shift, hb]⟩
    · split at h
      · rename_i hk
        subst hk
        split at h
        · exact ⟨_, _, h, rep_int _ _, by simp [binOp, Op.intArith]⟩
        · exact ⟨_, _, h, rep_int _ _, by simp [binOp, Op.intArith]⟩
        · exact ⟨_, _, h, rep_int _ _, by simp [binOp, Op.intArith]⟩
        · simp only [optAlg, quo] at h
          split at h
          · cases h
          · rename_i hb
            exact ⟨_, _, h, rep_int _ _, by simp [binOp, Op.intDiv, hb]⟩
        · simp only [optAlg, rem] at h
          split at h
          · cases h
          · rename_i hb
            exact ⟨_, _, h, rep_int _ _, by simp [binOp, Op.intDiv, hb]⟩
        · exact ⟨_, _, h, rep_int _ _, by simp [binOp, Op.intBits, iand]⟩
        · exact ⟨_, _, h, rep_int _ _, by simp [binOp, Op.intBits, ior]⟩
        · exact ⟨_, _, h, rep_int _ _, by simp [binOp, Op.intBits, ixor]⟩
        · exact ⟨_, _, h, rep_int _ _, by simp [binOp, Op.intBits, iandn]⟩
        · exact ⟨_, _, h, rep_bool _, by simp [binOp, Op.intCmp]⟩
        · exact ⟨_, _, h, rep_bool _, by simp [binOp, Op.intCmp]⟩
        · exact ⟨_, _, h, rep_bool _, by simp [binOp, Op.intCmp]⟩
        · exact ⟨_, _, h, rep_bool _, by simp [binOp, Op.intCmp]⟩
        · exact ⟨_, _, h, rep_bool _, by simp [binOp, Op.intCmp]⟩
        · exact ⟨_, _, h, rep_bool _, by simp [binOp, Op.intCmp]⟩
        · cases h
      · cases h
  · rename_i a b
    have ex := dat_str hx
    have ey := dat_str hy
    subst ex ey
    have hg : (eqGuard op t ox oy (.string a) (.string b)).run P w1 = .ok () w1 := by
      unfold eqGuard; cases op <;> simp
    simp only [Sem.run_bind, hg, Result.andThen_ok]
    split at h
    · simp only [optAlg, cat] at h
      split at h
      · rename_i hl
        refine ⟨_, _, h, rep_str _, ?_⟩
        have h2 : ¬ (((a.size + b.size : Nat) : Int) > IntKind.i64.max) := by
          have : IntKind.i64.max = 9223372036854775807 := by decide
          rw [this]; simp only [maxLen] at hl; omega
        simp only [binOp, Op.stringOp, if_neg h2]
        simp
      · cases h
    · exact ⟨_, _, h, rep_bool _, by simp [binOp, Op.stringOp, seqs]⟩
    · exact ⟨_, _, h, rep_bool _, by simp [binOp, Op.stringOp, seqs]⟩
    · cases h
  · rename_i a b
    have ex := dat_bool hx
    have ey := dat_bool hy
    subst ex ey
    have hg : (eqGuard op t ox oy (.bool a) (.bool b)).run P w1 = .ok () w1 := by
      unfold eqGuard; cases op <;> simp
    simp only [Sem.run_bind, hg, Result.andThen_ok]
    split at h
    · have hu := hib rfl
      split at h
      · exact ⟨_, _, h, rep_bool _, run_eql_bool hu a b⟩
      · exact ⟨_, _, h, rep_bool _, run_neq_bool hu a b⟩
      · cases h
    · cases h
  · cases h

theorem aun_ok {β : Type} {op : UnOp} {x : AV} {K : AV → Option β} {r : β} (h : aun (optAlg β) op x K = some r) {vx : Value} (hx : AVRep w S σ x vx) :
    ∃ a v, K a = some r ∧ AVRep w S σ a v ∧ (Op.unary op vx).run P w1 = .ok v w1 := by
  unfold aun at h
  split at h
  · have ex := dat_bool hx
    subst ex
    exact ⟨_, _, h, rep_bool _, by simp [Op.unary]⟩
  · have ex := dat_int hx
    subst ex
    exact ⟨_, _, h, rep_int _ _, by simp [Op.unary, Op.intArith]⟩
  · cases h

/-! Leaves of a datum -/

theorem AVsRep.append {a b : List AV} {va vb : List Value} (h1 : AVsRep w S σ a va) (h2 : AVsRep w S σ b vb) : AVsRep w S σ (a ++ b) (va ++ vb) := by
  induction a generalizing va with
  | nil => simp only [AVsRep] at h1; subst h1; exact h2
  | cons x r ih => obtain ⟨v, vr, rfl, hv, hr⟩ := h1; exact ⟨v, vr ++ vb, rfl, hv, ih hr⟩

theorem AVsRep.drop : ∀ (n : Nat) {a : List AV} {va : List Value}, AVsRep w S σ a va → AVsRep w S σ (a.drop n) (va.drop n)
  | 0, _, _, h => h
  | n + 1, [], va, h => by simp only [AVsRep] at h; subst h; rfl
  | n + 1, x :: r, va, ⟨v, vr, e, _, hr⟩ => by subst e; exact AVsRep.drop n hr

theorem AVsRep.take : ∀ (n : Nat) {a : List AV} {va : List Value}, AVsRep w S σ a va → AVsRep w S σ (a.take n) (va.take n)
  | 0, _, _, _ => rfl
  | n + 1, [], va, h => by simp only [AVsRep] at h; subst h; rfl
  | n + 1, x :: r, va, ⟨v, vr, e, hv, hr⟩ => by subst e; exact ⟨v, vr.take n, rfl, hv, AVsRep.take n hr⟩

theorem AVsRep.set : ∀ (n : Nat) {a : List AV} {va : List Value} {x : AV} {v : Value}, AVsRep w S σ a va → AVRep w S σ x v → AVsRep w S σ (a.set n x) (va.set n v)
  | _, [], va, _, _, h, _ => by simp only [AVsRep] at h; subst h; simp [AVsRep]
  | 0, y :: r, va, x, v, ⟨u, vr, e, _, hr⟩, hv => by subst e; exact ⟨v, vr, rfl, hv, hr⟩
  | n + 1, y :: r, va, x, v, ⟨u, vr, e, hu, hr⟩, hv => by subst e; exact ⟨u, vr.set n v, rfl, hu, AVsRep.set n hr hv⟩

theorem leaves_rep : ∀ (t : Ty) (x : t.den) (cs : List Value), DCells w S t x cs → AVsRep w S σ (leaves t x) cs
  | .int _, _, cs, h => by have e : cs = [.int _ _] := h; subst e; exact ⟨_, [], rfl, rfl, rfl⟩
  | .bool, _, cs, h => by have e : cs = [.bool _] := h; subst e; exact ⟨_, [], rfl, rfl, rfl⟩
  | .str, _, cs, h => by have e : cs = [.string _] := h; subst e; exact ⟨_, [], rfl, rfl, rfl⟩
  | .unit, _, cs, h => by have e : cs = [] := h; subst e; rfl
  | .pair a b, x, cs, ⟨c1, c2, e, h1, h2⟩ => by subst e; exact (leaves_rep a x.1 c1 h1).append (leaves_rep b x.2 c2 h2)
  | .list t, xs, cs, h => by
    have h' := h
    obtain ⟨a, cap, e, _, _⟩ := h'
    subst e
    exact ⟨_, [], rfl, h, rfl⟩

end
end Go.Rv
