/-
  A region whose order is left open: one order serves all; a part. Conditions: none.
-/
import Derived.Test.YtenenhmofmdcbabDoorRp
set_option linter.unusedSimpArgs false
set_option linter.unusedVariables false
namespace Go.Rv

section
variable {β : Type}

theorem abin_nat (ib : Bool) (op : BinOp) (x y : AV) (k : AV → Option β) : abin (optAlg β) ib op x y k = (abin (optAlg AV) ib op x y some).bind k := by
  unfold abin
  split
  · split
    · simp [optAlg, Option.bind_assoc]
    · simp [optAlg, Option.bind_assoc]
    · split
      · split <;> simp [optAlg, Option.bind_assoc]
      · rfl
  · split <;> simp [optAlg, Option.bind_assoc]
  · split
    · split <;> rfl
    · rfl
  · rfl

theorem aun_nat (op : UnOp) (x : AV) (k : AV → Option β) : aun (optAlg β) op x k = (aun (optAlg AV) op x some).bind k := by
  unfold aun
  split <;> rfl

theorem acut_nat {γ : Type} (lo hi : Option AV) (L : Nat) (k : Nat → Nat → Option γ) (j : γ → Option β) : acut (optAlg β) lo hi L (fun a b => (k a b).bind j) = (acut (optAlg γ) lo hi L k).bind j := by
  unfold acut
  split <;> simp [optAlg, Option.bind_assoc]

theorem aslice_nat (T : TT) (s : St) (t : TypeId) (x : AV) (lo hi : Option AV) (k : AV → Option β) : aslice (optAlg β) T s t x lo hi k = (aslice (optAlg AV) T s t x lo hi some).bind k := by
  have h : ∀ (L : Nat) (f : Nat → Nat → AV), acut (optAlg β) lo hi L (fun q r => k (f q r)) = (acut (optAlg AV) lo hi L (fun q r => some (f q r))).bind k := fun L f => by
    rw [← acut_nat]; rfl
  unfold aslice
  split
  · split
    · split
      · split
        · split
          · exact h _ _
          · rfl
        · split
          · split
            · exact h _ _
            · rfl
          · rfl
        · split
          · split
            · exact h _ _
            · rfl
          · rfl
        · rfl
      · rfl
    · split
      · exact h _ _
      · rfl
    · rfl
  · rfl

theorem aindexAddr_nat (T : TT) (s : St) (t : TypeId) (x i : AV) (k : AV → Option β) : aindexAddr (optAlg β) T s t x i k = (aindexAddr (optAlg AV) T s t x i some).bind k := by
  unfold aindexAddr
  split
  · split
    · split
      · split
        · split
          · split <;> simp [optAlg, Option.bind_assoc]
          · split
            · split <;> simp [optAlg, Option.bind_assoc]
            · rfl
          · split
            · split <;> simp [optAlg, Option.bind_assoc]
            · rfl
          · rfl
        · rfl
      · split
        · split
          · split
            · split <;> simp [optAlg, Option.bind_assoc]
            · rfl
          · split <;> simp [optAlg, Option.bind_assoc]
          · rfl
        · rfl
      · rfl
    · rfl
  · rfl

theorem fin_nat (b : Bool) (n : Nat) (cs : List AV) (off : Nat) (k : AV → Option β) :
    (if b then (if off + n ≤ cs.length then k (.agg ((cs.drop off).take n)) else (optAlg β).fail) else match cs[off]? with | some a => k a | none => (optAlg β).fail) =
    (if b then (if off + n ≤ cs.length then some (.agg ((cs.drop off).take n)) else (optAlg AV).fail) else match cs[off]? with | some a => some a | none => (optAlg AV).fail).bind k := by
  split
  · split <;> rfl
  · split <;> rfl

theorem aload_nat (T : TT) (s : St) (t : TypeId) (p : AV) (k : AV → Option β) : aload (optAlg β) T s t p k = (aload (optAlg AV) T s t p some).bind k := by
  unfold aload
  split
  · rfl
  · simp only
    split
    · exact fin_nat _ _ _ _ _
    · split
      · simp only [optAlg, Option.bind_assoc]
        congr 1
        funext x
        exact fin_nat _ _ _ _ _
      · rfl
    · split
      · exact fin_nat _ _ _ _ _
      · rfl
    · rfl

theorem afieldAddr_nat (T : TT) (t : TypeId) (x : AV) (f : Nat) (k : AV → Option β) : afieldAddr (optAlg β) T t x f k = (afieldAddr (optAlg AV) T t x f some).bind k := by
  unfold afieldAddr
  split
  · split
    · split
      · split
        · split
          · rfl
          · split <;> rfl
        · rfl
      · rfl
    · rfl
  · rfl

theorem afield_nat (T : TT) (t : TypeId) (x : AV) (f : Nat) (k : AV → Option β) : afield (optAlg β) T t x f k = (afield (optAlg AV) T t x f some).bind k := by
  unfold afield
  split
  · split
    · split
      · split
        · split
          · split <;> rfl
          · split <;> rfl
        · rfl
      · rfl
    · rfl
  · rfl

end

/-! Rows that are kept -/

/-- All rows of s are in t. -/
def RowsIn (s t : St) : Prop := ∀ (h : Nat) (r : Row), s.heap[h]? = some (some r) → t.heap[h]? = some (some r)

theorem RowsIn.row {s t : St} (h : RowsIn s t) {g : Nat} {r : Row} (hr : s.row g = some r) : t.row g = some r := by
  have := h g r (row_eq hr)
  simp [St.row, this]

theorem alen_rows {s t : St} (h : RowsIn s t) {x : AV} {n : Nat} (hn : alen s x = some n) : alen t x = some n := by
  unfold alen at *
  split at hn <;> try exact hn
  · rename_i g
    split at hn
    · rename_i u xs hr
      simp only [h.row hr]
      exact hn
    · cases hn

theorem aslice_rows {T : TT} {s t : St} (h : RowsIn s t) {ty : TypeId} {x : AV} {lo hi : Option AV} {a : AV} (ha : aslice (optAlg AV) T s ty x lo hi some = some a) : aslice (optAlg AV) T t ty x lo hi some = some a := by
  unfold aslice at *
  split at ha
  · split at ha
    · split at ha
      · split at ha
        · exact ha
        · split at ha
          · rename_i hr
            simp only [h.row hr]
            exact ha
          · cases ha
        · split at ha
          · rename_i hr
            simp only [h.row hr]
            exact ha
          · cases ha
        · cases ha
      · cases ha
    · exact ha
    · cases ha
  · cases ha

theorem aindexAddr_rows {T : TT} {s t : St} (h : RowsIn s t) {ty : TypeId} {x i : AV} {a : AV} (ha : aindexAddr (optAlg AV) T s ty x i some = some a) : aindexAddr (optAlg AV) T t ty x i some = some a := by
  unfold aindexAddr at *
  split at ha
  · split at ha
    · split at ha
      · split at ha
        · split at ha
          · exact ha
          · split at ha
            · rename_i hr
              simp only [h.row hr]
              exact ha
            · cases ha
          · split at ha
            · rename_i hr
              simp only [h.row hr]
              exact ha
            · cases ha
          · cases ha
        · cases ha
      · split at ha
        · split at ha
          · split at ha
            · rename_i hr
              simp only [h.row hr]
              exact ha
            · cases ha
          · exact ha
          · cases ha
        · cases ha
      · cases ha
    · cases ha
  · cases ha

theorem aload_rows {T : TT} {s t : St} (h : RowsIn s t) {ty : TypeId} {p : AV} {a : AV} (ha : aload (optAlg AV) T s ty p some = some a) : aload (optAlg AV) T t ty p some = some a := by
  unfold aload at *
  split at ha
  · cases ha
  · simp only at ha ⊢
    split at ha
    · exact ha
    · split at ha
      · rename_i hr
        simp only [h.row hr]
        exact ha
      · cases ha
    · split at ha
      · rename_i hr
        simp only [h.row hr]
        exact ha
      · cases ha
    · cases ha

end Go.Rv
