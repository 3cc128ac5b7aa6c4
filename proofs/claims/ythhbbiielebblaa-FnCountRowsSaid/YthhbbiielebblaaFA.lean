/-
  The framework: data, rows, steps. Conditions: none.
-/
import GoSem.ClaimData
import Derived.Orders
import Derived.Laws.Append
import Derived.Laws.CopyRow
import Derived.Laws.Rows
import Derived.RowKit3
import Derived.Laws.AppendOwn
namespace Go.Rv

/-! Data -/

inductive Ty where
  | int (k : IntKind) | bool | str | list (t : Ty) | unit | pair (a b : Ty)
  deriving DecidableEq

@[reducible] def Ty.den : Ty → Type
  | .int _ => Int
  | .bool => Bool
  | .str => ByteArray
  | .list t => List t.den
  | .unit => Unit
  | .pair a b => a.den × b.den

end Go.Rv

namespace Go.Rv

def gtab : Nat → Option ((t : Ty) × List t.den) := fun _ => none

end Go.Rv

namespace Go.Rv

def Ty.cells : Ty → Nat
  | .unit => 0
  | .pair a b => a.cells + b.cells
  | _ => 1

def HasCells (w : World) (b o : Nat) (cs : List Value) : Prop := ∀ j v, cs[j]? = some v → w.cell? ⟨b, o + j, none⟩ = some v

/-- The cells `cs` bear the datum `x`; slices in it lie in blocks of `S`. -/
def DCells (w : World) (S : Nat → Prop) : (t : Ty) → t.den → List Value → Prop
  | .int k, x, cs => cs = [.int k x]
  | .bool, x, cs => cs = [.bool x]
  | .str, x, cs => cs = [.string x]
  | .unit, _, cs => cs = []
  | .pair a b, x, cs => ∃ c1 c2, cs = c1 ++ c2 ∧ DCells w S a x.1 c1 ∧ DCells w S b x.2 c2
  | .list t, xs, cs => ∃ a cap, cs = [.slice a xs.length cap] ∧ xs.length ≤ cap ∧
      (xs = [] ∨ ∃ b o, a = some ⟨b, o, none⟩ ∧ S b ∧ b < w.heap.size ∧ ∀ (i : Nat) x, xs[i]? = some x → ∃ c, DCells w S t x c ∧ HasCells w b (o + i * t.cells) c)

theorem HasCells.mono {w w' : World} {b o : Nat} {cs : List Value} (h : HasCells w b o cs) (hb : w'.heap[b]? = w.heap[b]?) : HasCells w' b o cs := by
  intro j v hv
  have := h j v hv
  simp only [World.cell?] at this ⊢
  rw [hb]; exact this

theorem DCells.mono {w w' : World} {S S' : Nat → Prop} (hsz : w.heap.size ≤ w'.heap.size) (h : ∀ b, S b → b < w.heap.size → S' b ∧ w'.heap[b]? = w.heap[b]?) :
    ∀ (t : Ty) (x : t.den) (cs : List Value), DCells w S t x cs → DCells w' S' t x cs
  | .int _, _, _, hd => hd
  | .bool, _, _, hd => hd
  | .str, _, _, hd => hd
  | .unit, _, _, hd => hd
  | .pair a b, _, _, ⟨c1, c2, e, h1, h2⟩ => ⟨c1, c2, e, DCells.mono hsz h a _ _ h1, DCells.mono hsz h b _ _ h2⟩
  | .list t, xs, cs, ⟨a, cap, e, hle, hr⟩ => by
    refine ⟨a, cap, e, hle, ?_⟩
    rcases hr with hr | ⟨b, o, ha, hs, hlt, hall⟩
    · exact .inl hr
    · refine .inr ⟨b, o, ha, (h b hs hlt).1, Nat.lt_of_lt_of_le hlt hsz, fun i x hx => ?_⟩
      obtain ⟨c, hc, hh⟩ := hall i x hx
      exact ⟨c, DCells.mono hsz h t x c hc, hh.mono (h b hs hlt).2⟩

theorem DCells.length {w : World} {S : Nat → Prop} : ∀ (t : Ty) (x : t.den) (cs : List Value), DCells w S t x cs → cs.length = t.cells
  | .int _, _, _, hd => by simp only [DCells] at hd; subst hd; rfl
  | .bool, _, _, hd => by simp only [DCells] at hd; subst hd; rfl
  | .str, _, _, hd => by simp only [DCells] at hd; subst hd; rfl
  | .unit, _, _, hd => by simp only [DCells] at hd; subst hd; rfl
  | .pair a b, _, _, ⟨c1, c2, e, h1, h2⟩ => by
    subst e; simp [Ty.cells, DCells.length a _ _ h1, DCells.length b _ _ h2]
  | .list t, _, _, ⟨_, _, e, _⟩ => by subst e; rfl

theorem DCells.one {w : World} {S : Nat → Prop} : ∀ (t : Ty) (x : t.den) (cs : List Value), DCells w S t x cs → ∀ v ∈ cs, v.oneCell' = true
  | .int _, _, _, hd => by simp only [DCells] at hd; subst hd; simp [Value.oneCell']
  | .bool, _, _, hd => by simp only [DCells] at hd; subst hd; simp [Value.oneCell']
  | .str, _, _, hd => by simp only [DCells] at hd; subst hd; simp [Value.oneCell']
  | .unit, _, _, hd => by simp only [DCells] at hd; subst hd; simp
  | .pair a b, _, _, ⟨c1, c2, e, h1, h2⟩ => by
    subst e; intro v hv
    rcases List.mem_append.1 hv with h | h
    · exact DCells.one a _ _ h1 v h
    · exact DCells.one b _ _ h2 v h
  | .list t, _, _, ⟨_, _, e, _⟩ => by subst e; simp [Value.oneCell']

/-! Abstract values -/

inductive AV where
  | undef
  | dat (t : Ty) (x : t.den)
  | nils
  | slc (h : Nat)
  | win (h off len : Nat)
  | ptr (h off : Nat)
  | elt (h i off : Nat)
  | relt (t : Ty) (x : t.den) (off : Nat)
  | tab (t : Ty) (xs : List t.den)
  | agg (cs : List AV)
  | tup (cs : List AV)
  | fn (f : FuncId) (first caps : List AV)
  | raw (v : Value)

inductive Row where
  | seq (t : Ty) (xs : List t.den)
  | box (cs : List AV)

abbrev Heap := List (Option Row)

structure St where
  env : List AV
  heap : Heap

structure Sum where
  place : Option (Nat × Nat × Nat)
  cells : Nat
  len : Nat

def Row.cells : Row → Nat
  | .seq t _ => t.cells
  | .box _ => 1
def Row.len : Row → Nat
  | .seq _ xs => xs.length
  | .box cs => cs.length

/-- A block that bears an array of data, for good. -/
def TabAt (w : World) (S : Nat → Prop) (b : Nat) (t : Ty) (xs : List t.den) : Prop :=
  S b ∧ b < w.heap.size ∧ ∀ (i : Nat) x, xs[i]? = some x → ∃ c, DCells w S t x c ∧ HasCells w b (i * t.cells) c

theorem TabAt.mono {w w' : World} {S S' : Nat → Prop} (hsz : w.heap.size ≤ w'.heap.size) (h : ∀ b, S b → b < w.heap.size → S' b ∧ w'.heap[b]? = w.heap[b]?) {b : Nat} {t : Ty} {xs : List t.den}
    (ht : TabAt w S b t xs) : TabAt w' S' b t xs := by
  obtain ⟨h1, h2, h3⟩ := ht
  refine ⟨(h b h1 h2).1, Nat.lt_of_lt_of_le h2 hsz, fun i x hx => ?_⟩
  obtain ⟨c, hc, hh⟩ := h3 i x hx
  exact ⟨c, DCells.mono hsz h t x c hc, hh.mono (h b h1 h2).2⟩

abbrev Plc := Nat → Option (Nat × Nat × Nat)

def sumOf (ι : Plc) (H : Heap) (h : Nat) : Option Sum :=
  match H[h]? with
  | some (some r) => some ⟨ι h, r.cells, r.len⟩
  | _ => none

def WinAt (s : Sum) (off len : Nat) (v : Value) : Prop :=
  match s.place with
  | some (b, o, c) => off + len ≤ c ∧ (v = .slice (some ⟨b, o + off * s.cells, none⟩) len (c - off) ∨ (off = c ∧ ∃ a, v = .slice a 0 0))
  | none => off = 0 ∧ len = 0 ∧ ∃ a, v = .slice a 0 0

mutual
def AVRep (w : World) (S : Nat → Prop) (σ : Nat → Option Sum) : AV → Value → Prop
  | .undef, _ => True
  | .dat t x, v => DCells w S t x [v]
  | .nils, v => ∃ a, v = .slice a 0 0
  | .slc h, v => ∃ s, σ h = some s ∧ WinAt s 0 s.len v
  | .win h off len, v => ∃ s, σ h = some s ∧ off + len ≤ s.len ∧ WinAt s off len v
  | .ptr h off, v => ∃ s b o c, σ h = some s ∧ s.place = some (b, o, c) ∧ v = .pointer (some ⟨b, o + off, none⟩)
  | .elt h i off, v => ∃ s b o c, σ h = some s ∧ s.place = some (b, o, c) ∧ i < s.len ∧ v = .pointer (some ⟨b, o + i * s.cells + off, none⟩)
  | .relt t x off, v => ∃ b o cs, v = .pointer (some ⟨b, o + off, none⟩) ∧ S b ∧ b < w.heap.size ∧ DCells w S t x cs ∧ HasCells w b o cs
  | .tab t xs, v => ∃ b, v = .pointer (some ⟨b, 0, none⟩) ∧ TabAt w S b t xs
  | .agg cs, v => ∃ vs : List Value, v = .agg vs.toArray ∧ AVsRep w S σ cs vs
  | .tup cs, v => ∃ vs : List Value, v = .tuple vs.toArray ∧ AVsRep w S σ cs vs
  | .fn f a b, v => ∃ va vb : List Value, v = .func (.func f) va.toArray vb.toArray ∧ AVsRep w S σ a va ∧ AVsRep w S σ b vb
  | .raw u, v => v = u
def AVsRep (w : World) (S : Nat → Prop) (σ : Nat → Option Sum) : List AV → List Value → Prop
  | [], vs => vs = []
  | a :: r, vs => ∃ v vr, vs = v :: vr ∧ AVRep w S σ a v ∧ AVsRep w S σ r vr
end

/-! Does a value refer to a row? -/
mutual
def AV.refs : AV → Nat → Bool
  | .slc h, g | .win h _ _, g | .ptr h _, g | .elt h _ _, g => h == g
  | .agg cs, g | .tup cs, g => refsL cs g
  | .fn _ a b, g => refsL a g || refsL b g
  | _, _ => false
def refsL : List AV → Nat → Bool
  | [], _ => false
  | a :: r, g => a.refs g || refsL r g
end

mutual
theorem AVRep.mono {w w' : World} {S S' : Nat → Prop} {σ σ' : Nat → Option Sum} (hsz : w.heap.size ≤ w'.heap.size) (h : ∀ b, S b → b < w.heap.size → S' b ∧ w'.heap[b]? = w.heap[b]?) :
    ∀ (a : AV) (v : Value), (∀ g, a.refs g = true → σ' g = σ g) → AVRep w S σ a v → AVRep w' S' σ' a v
  | .undef, _, _, _ => trivial
  | .dat t x, v, _, hr => DCells.mono hsz h t x _ hr
  | .nils, _, _, hr => hr
  | .slc g, _, hg, ⟨s, hs, hw⟩ => ⟨s, (hg g (by simp [AV.refs])).trans hs, hw⟩
  | .win g _ _, _, hg, ⟨s, hs, hw⟩ => ⟨s, (hg g (by simp [AV.refs])).trans hs, hw⟩
  | .ptr g _, _, hg, ⟨s, b, o, c, hs, hw⟩ => ⟨s, b, o, c, (hg g (by simp [AV.refs])).trans hs, hw⟩
  | .elt g _ _, _, hg, ⟨s, b, o, c, hs, hw⟩ => ⟨s, b, o, c, (hg g (by simp [AV.refs])).trans hs, hw⟩
  | .relt t x _, _, _, ⟨b, o, cs, e, hs, hlt, hd, hc⟩ => ⟨b, o, cs, e, (h b hs hlt).1, Nat.lt_of_lt_of_le hlt hsz, DCells.mono hsz h t x _ hd, hc.mono (h b hs hlt).2⟩
  | .tab _ _, _, _, ⟨b, e, ht⟩ => ⟨b, e, ht.mono hsz h⟩
  | .agg cs, _, hg, ⟨vs, e, hr⟩ => ⟨vs, e, AVsRep.mono hsz h cs vs (fun g hh => hg g (by simpa [AV.refs] using hh)) hr⟩
  | .tup cs, _, hg, ⟨vs, e, hr⟩ => ⟨vs, e, AVsRep.mono hsz h cs vs (fun g hh => hg g (by simpa [AV.refs] using hh)) hr⟩
  | .fn _ a b, _, hg, ⟨va, vb, e, h1, h2⟩ => ⟨va, vb, e, AVsRep.mono hsz h a va (fun g hh => hg g (by simp [AV.refs, hh])) h1, AVsRep.mono hsz h b vb (fun g hh => hg g (by simp [AV.refs, hh])) h2⟩
  | .raw _, _, _, hr => hr
theorem AVsRep.mono {w w' : World} {S S' : Nat → Prop} {σ σ' : Nat → Option Sum} (hsz : w.heap.size ≤ w'.heap.size) (h : ∀ b, S b → b < w.heap.size → S' b ∧ w'.heap[b]? = w.heap[b]?) :
    ∀ (a : List AV) (v : List Value), (∀ g, refsL a g = true → σ' g = σ g) → AVsRep w S σ a v → AVsRep w' S' σ' a v
  | [], _, _, hr => hr
  | a :: r, _, hg, ⟨v, vr, e, h1, h2⟩ => ⟨v, vr, e, AVRep.mono hsz h a v (fun g hh => hg g (by simp [refsL, hh])) h1, AVsRep.mono hsz h r vr (fun g hh => hg g (by simp [refsL, hh])) h2⟩
end

theorem AVsRep.length {w : World} {S : Nat → Prop} {σ : Nat → Option Sum} : ∀ (a : List AV) (v : List Value), AVsRep w S σ a v → v.length = a.length
  | [], _, hr => by simp only [AVsRep] at hr; subst hr; rfl
  | a :: r, _, ⟨v, vr, e, _, h2⟩ => by subst e; simp [AVsRep.length r vr h2]

theorem AVsRep.get {w : World} {S : Nat → Prop} {σ : Nat → Option Sum} : ∀ (a : List AV) (v : List Value) (i : Nat) (x : AV), AVsRep w S σ a v → a[i]? = some x → ∃ u, v[i]? = some u ∧ AVRep w S σ x u
  | [], _, _, _, _, h => by simp at h
  | a :: r, _, 0, x, ⟨v, vr, e, h1, _⟩, h => by subst e; simp at h; subst h; exact ⟨v, rfl, h1⟩
  | a :: r, _, i + 1, x, ⟨v, vr, e, _, h2⟩, h => by subst e; simp at h; obtain ⟨u, hu, hr⟩ := AVsRep.get r vr i x h2 h; exact ⟨u, by simpa using hu, hr⟩

/-! The state -/

/-- Blocks that stay as they are: not those of a row of ours. -/
def stab (w : World) (ι : Plc) (H : Heap) (b : Nat) : Prop :=
  b < w.heap.size ∧ ∀ h r p, H[h]? = some (some r) → ι h = some p → p.1 ≠ b

/-- Where data may lie. -/
def dst (D : Nat → Prop) (w : World) (ι : Plc) (H : Heap) (b : Nat) : Prop := D b ∧ stab w ι H b

def SeqRep (w : World) (S : Nat → Prop) (t : Ty) (xs : List t.den) (cur : Array Value) (o : Nat) : Prop :=
  ∀ (i : Nat) x, xs[i]? = some x → ∃ cs, DCells w S t x cs ∧ ∀ j v, cs[j]? = some v → cur[o + i * t.cells + j]? = some v

def RowRep (w : World) (S : Nat → Prop) (σ : Nat → Option Sum) (p : Option (Nat × Nat × Nat)) : Row → Prop
  | .seq t xs =>
    match p with
    | none => xs = []
    | some (b, o, c) => ∃ cur e, w.heap[b]? = some (.cells cur e (0, 0)) ∧ cur.size = o + c * t.cells ∧ xs.length ≤ c ∧ c ≤ maxLen ∧ SeqRep w S t xs cur o
  | .box cs => ∃ b o c cur e, p = some (b, o, c) ∧ w.heap[b]? = some (.cells cur e (0, 0)) ∧ ∀ j a, cs[j]? = some a → ∃ v, cur[o + j]? = some v ∧ v.oneCell' = true ∧ AVRep w S σ a v

structure HRep (D : Nat → Prop) (w : World) (ι : Plc) (H : Heap) : Prop where
  rows : ∀ h r, H[h]? = some (some r) → RowRep w (dst D w ι H) (sumOf ι H) (ι h) r
  sep : ∀ h h' r r' p p', H[h]? = some (some r) → H[h']? = some (some r') → ι h = some p → ι h' = some p' → h ≠ h' → p.1 ≠ p'.1
  own : ∀ h r p, H[h]? = some (some r) → ι h = some p → D p.1

theorem RowRep.lt {w : World} {S : Nat → Prop} {σ : Nat → Option Sum} {p : Nat × Nat × Nat} {r : Row} (h : RowRep w S σ (some p) r) : p.1 < w.heap.size := by
  cases r with
  | seq t xs => obtain ⟨cur, e, hb, _⟩ := h; exact (Array.getElem?_eq_some_iff.1 hb).1
  | box cs => obtain ⟨b, o, c, cur, e, hp, hb, _⟩ := h; cases hp; exact (Array.getElem?_eq_some_iff.1 hb).1

/-- What is asked of the world between two moments: the blocks of `S0` have not turned. -/
structure Kept (S0 : Nat → Prop) (w0 w : World) : Prop where
  os : w.os = w0.os
  tape : w.tape = w0.tape
  output : w.output = w0.output
  size : w0.heap.size ≤ w.heap.size
  block : ∀ b, S0 b → w.heap[b]? = w0.heap[b]?
  frz : ∀ a, w.frozen? a = w0.frozen? a

theorem Kept.refl (S0 : Nat → Prop) (w : World) : Kept S0 w w := ⟨rfl, rfl, rfl, Nat.le_refl _, fun _ _ => rfl, fun _ => rfl⟩
theorem Kept.trans {S0 S1 : Nat → Prop} {a b c : World} (h : Kept S0 a b) (k : Kept S1 b c) (hs : ∀ x, S0 x → S1 x) : Kept S0 a c :=
  ⟨k.os.trans h.os, k.tape.trans h.tape, k.output.trans h.output, Nat.le_trans h.size k.size, fun x hx => (k.block x (hs x hx)).trans (h.block x hx), fun a => (k.frz a).trans (h.frz a)⟩

theorem frz_alloc (w : World) (c : Array Value) (t : TypeId) (a : Addr) : (w.alloc (.cells c t)).frozen? a = w.frozen? a := Go.RowKit.frozen?_alloc_cells w c t a

theorem frz_setRow (w : World) (b : Nat) (cur : Array Value) (a : Addr) : (w.setRow b cur).frozen? a = w.frozen? a := by
  simp only [World.frozen?, World.setRow, Array.getElem?_modify]
  by_cases h : b = a.block
  · rw [if_pos h]
    cases hx : w.heap[a.block]? with
    | none => simp
    | some o => cases o <;> simp
  · rw [if_neg h]

/-- The frame of one call: where it began, what must stay, the rows that were handed in. -/
structure Base where
  w0 : World
  S0 : Nat → Prop
  D : Nat → Prop
  σ0 : Nat → Option Sum
  k : Nat
  new : ∀ b, w0.heap.size ≤ b → D b

/-- The tables lie where they are looked for. -/
def GlobsOk (w : World) (S : Nat → Prop) : Prop := ∀ g t xs, gtab g = some ⟨t, xs⟩ → TabAt w S g t xs

theorem GlobsOk.mono {w w' : World} {S S' : Nat → Prop} (hsz : w.heap.size ≤ w'.heap.size) (h : ∀ b, S b → b < w.heap.size → S' b ∧ w'.heap[b]? = w.heap[b]?) (hg : GlobsOk w S) : GlobsOk w' S' :=
  fun g t xs ht => (hg g t xs ht).mono hsz h

structure Inv (B : Base) (s : St) (tmps : Array Value) (w : World) (ι : Plc) : Prop where
  kept : Kept B.S0 B.w0 w
  hrep : HRep B.D w ι s.heap
  stay : ∀ b, B.S0 b → stab w ι s.heap b
  io : ∀ h, h < B.k → sumOf ι s.heap h = B.σ0 h ∧ ∃ r, s.heap[h]? = some (some r)
  env : ∀ (i : Nat) (a : AV), s.env[i]? = some a → ∃ v, tmps[i]? = some v ∧ AVRep w (dst B.D w ι s.heap) (sumOf ι s.heap) a v
  glob : GlobsOk w (dst B.D w ι s.heap)

def Rep (B : Base) (s : St) (a : Act) (w : World) : Prop := a.defers = [] ∧ ∃ ι, Inv B s a.tmps w ι

end Go.Rv

universe u
namespace Go.Rv

/-! Types, as the walk uses them -/

inductive TK where
  | scalar | bool | int (k : IntKind) | str | slice (e : TypeId) | arr (n : Nat) (e : TypeId) | strct (fs : List (Nat × TypeId))

structure TI where
  kind : TK
  size : Nat
  bytes : Nat
  ty : Option Ty
  zero : List Value

abbrev TT := TypeId → Option TI

/-- What a function answers: what is reckoned, and how it is borne. -/
structure Ans where
  τ : Type
  o : Option τ
  enc : τ → AV × Heap

def Ans.run (a : Ans) : Option (AV × Heap) := a.o.map a.enc
def Ans.no : Ans := ⟨Unit, none, fun _ => (.undef, [])⟩

structure Ctx where
  T : TT
  orc : FuncId → List AV → Heap → Ans
  io : FuncId → Nat → Bool
  k : Nat

/-! Answers: with `Option` for what is reckoned, with `Prop` for what is shown -/

structure Alg (R : Sort u) where
  fail : R
  bind : ∀ {α : Type}, Option α → (α → R) → R

inductive wpO {α : Type} : Option α → (α → Prop) → Prop
  | mk {a : α} {K : α → Prop} (h : K a) : wpO (some a) K

def optAlg (β : Type) : Alg (Option β) := ⟨none, fun o f => o.bind f⟩
def propAlg : Alg Prop := ⟨False, fun o f => wpO o f⟩

theorem wpO_some {α : Type} (a : α) (K : α → Prop) : wpO (some a) K = K a := propext ⟨fun h => (by cases h; assumption), .mk⟩
theorem wpO_none {α : Type} (K : α → Prop) : wpO none K = False := propext ⟨fun h => (by cases h), False.elim⟩
theorem wpO_bind {α β : Type} (o : Option α) (f : α → Option β) (K : β → Prop) : wpO (o.bind f) K = wpO o (fun a => wpO (f a) K) := by
  cases o <;> simp [wpO_some, wpO_none]
theorem wpO_map {α β : Type} (o : Option α) (f : α → β) (K : β → Prop) : wpO (o.map f) K = wpO o (fun a => K (f a)) := by
  cases o <;> simp [wpO_some, wpO_none]
theorem wpO_mono {α : Type} {o : Option α} {K K' : α → Prop} (h : ∀ a, K a → K' a) (hh : wpO o K) : wpO o K' := by
  cases o with
  | none => cases hh
  | some a => exact .mk (h a (by cases hh; assumption))
theorem wpO_iff {α : Type} {o : Option α} {K : α → Prop} : wpO o K ↔ ∃ a, o = some a ∧ K a := by
  cases o <;> simp [wpO_some, wpO_none]

/-! Primitive answers -/

def inb (i : Int) (n : Nat) : Option Nat := if 0 ≤ i ∧ i < (n : Int) then some i.toNat else none
def idx {α : Type} (xs : List α) (i : Int) : Option α := if 0 ≤ i then xs[i.toNat]? else none
def inc (i : Int) (n : Nat) : Option Nat := if 0 ≤ i ∧ i ≤ (n : Int) then some i.toNat else none
def room (n : Nat) : Option Unit := if n ≤ 1099511627776 then some () else none
def same (a b : Nat) : Option Unit := if a = b then some () else none
def quo (k : IntKind) (a b : Int) : Option Int := if b = 0 then none else some (k.wrap (a.tdiv b))
def rem (a b : Int) : Option Int := if b = 0 then none else some (a.tmod b)
def shl (k : IntKind) (a b : Int) : Option Int := if b < 0 then none else some (k.wrap (a * 2 ^ (min b.toNat k.bits)))
def shr (k : IntKind) (a b : Int) : Option Int := if b < 0 then none else some (a.fdiv (2 ^ (min b.toNat k.bits)))
def iand (k : IntKind) (a b : Int) : Int := k.wrap ((BitVec.ofInt k.bits a &&& BitVec.ofInt k.bits b).toNat)
def ior (k : IntKind) (a b : Int) : Int := k.wrap ((BitVec.ofInt k.bits a ||| BitVec.ofInt k.bits b).toNat)
def ixor (k : IntKind) (a b : Int) : Int := k.wrap ((BitVec.ofInt k.bits a ^^^ BitVec.ofInt k.bits b).toNat)
def iandn (k : IntKind) (a b : Int) : Int := k.wrap ((BitVec.ofInt k.bits a &&& ~~~BitVec.ofInt k.bits b).toNat)
def cat (a b : ByteArray) : Option ByteArray := if a.size + b.size ≤ maxLen then some (a ++ b) else none
def imax (a b : Int) : Int := if b > a then b else a
def imin (a b : Int) : Int := if b < a then b else a
def bidx (s : ByteArray) (i : Int) : Option Int := if 0 ≤ i then (s[i.toNat]?).map (fun b => (b.toNat : Int)) else none
def seqs (a b : ByteArray) : Bool := a.toList == b.toList

/-! Reading shapes -/

def constAV : Value → AV
  | .bool b => .dat .bool b
  | .int k n => .dat (.int k) n
  | .string x => .dat .str x
  | .slice none 0 0 => .nils
  | v => .raw v

def evalO (s : St) : Operand → Option AV
  | .tmp t => s.env[t]?
  | .const v => some (constAV v)
  | .func f => some (.fn f [] [])
  | .global g => match gtab g with | some q => some (.tab q.1 q.2) | none => none

def St.row (s : St) (h : Nat) : Option Row := match s.heap[h]? with | some (some r) => some r | _ => none
def St.put (s : St) (d : Option Tmp) (a : AV) : St := match d with | some t => { s with env := s.env.set t a } | none => s

def leaves : (t : Ty) → t.den → List AV
  | .pair a b, x => leaves a x.1 ++ leaves b x.2
  | .unit, _ => []
  | .int k, x => [.dat (.int k) x]
  | .bool, x => [.dat .bool x]
  | .str, x => [.dat .str x]
  | .list t, x => [.dat (.list t) x]

def castD (t t' : Ty) (x : t'.den) : Option t.den := if h : t' = t then some (h ▸ x) else none

def Ty.zero : (t : Ty) → t.den
  | .int _ => (0 : Int)
  | .bool => false
  | .str => ByteArray.empty
  | .list _ => []
  | .unit => ()
  | .pair a b => (a.zero, b.zero)

def zeroOk : Ty → List Value → Bool
  | .int k, [.int k' n] => k == k' && n == 0
  | .bool, [.bool b] => !b
  | .str, [.string s] => s.data.toList.isEmpty
  | .list _, [.slice none 0 0] => true
  | .unit, [] => true
  | .pair a b, vs => zeroOk a (vs.take a.cells) && zeroOk b (vs.drop a.cells)
  | _, _ => false

/-- An element read as the datum of a type. -/
def toDat (t : Ty) : AV → Option t.den
  | .dat t' x => castD t t' x
  | .nils => match t with | .list _ => some [] | _ => none
  | _ => none

/-- The elements that a slice shows. -/
def elems (s : St) (t : Ty) : AV → Option (List t.den)
  | .dat (.list t') xs => castD (.list t) (.list t') xs
  | .nils => some []
  | .slc h => match s.row h with | some (.seq t' xs) => castD (.list t) (.list t') xs | _ => none
  | .win h off len => match s.row h with | some (.seq t' xs) => castD (.list t) (.list t') ((xs.drop off).take len) | _ => none
  | _ => none

def AV.single : AV → Bool
  | .dat t _ => t.cells == 1
  | .nils | .slc _ | .win _ _ _ | .ptr _ _ | .elt _ _ _ | .relt _ _ _ | .fn _ _ _ => true
  | .raw v => match v with | .pointer none => true | .nilFunc => true | _ => false
  | _ => false

def scrub (h : Nat) (a : AV) : AV := bif a.refs h then .undef else a
def scrubRow (h : Nat) : Row → Row
  | .seq t xs => .seq t xs
  | .box cs => .box (cs.map (scrub h))
def St.scrub (s : St) (h : Nat) : St := { env := s.env.map (Rv.scrub h), heap := s.heap.map (Option.map (scrubRow h)) }
def St.setRow (s : St) (h : Nat) (r : Row) : St := { s with heap := s.heap.set h (some r) }

def isStruct : TK → Bool
  | .strct _ | .arr _ _ => true
  | _ => false

/-! Operations that make one value and leave memory alone -/

def isBool (T : TT) (t : TypeId) : Bool :=
  match T t with
  | some ti => match ti.kind with
    | .bool => true
    | _ => false
  | none => false

def abin {R : Sort u} (A : Alg R) (ib : Bool) (op : BinOp) (x y : AV) (K : AV → R) : R :=
  match x, y with
  | .dat (.int k) a, .dat (.int k') b =>
    match op with
    | .shl => A.bind (shl k a b) fun n => K (.dat (.int k) n)
    | .shr => A.bind (shr k a b) fun n => K (.dat (.int k) n)
    | _ =>
      if k = k' then
        match op with
        | .add => K (.dat (.int k) (k.wrap (a + b)))
        | .sub => K (.dat (.int k) (k.wrap (a - b)))
        | .mul => K (.dat (.int k) (k.wrap (a * b)))
        | .quo => A.bind (quo k a b) fun n => K (.dat (.int k) n)
        | .rem => A.bind (rem a b) fun n => K (.dat (.int k) n)
        | .and => K (.dat (.int k) (iand k a b))
        | .or => K (.dat (.int k) (ior k a b))
        | .xor => K (.dat (.int k) (ixor k a b))
        | .andNot => K (.dat (.int k) (iandn k a b))
        | .eql => K (.dat .bool (a == b))
        | .neq => K (.dat .bool (a != b))
        | .lss => K (.dat .bool (decide (a < b)))
        | .leq => K (.dat .bool (decide (a ≤ b)))
        | .gtr => K (.dat .bool (decide (a > b)))
        | .geq => K (.dat .bool (decide (a ≥ b)))
        | _ => A.fail
      else A.fail
  | .dat .str a, .dat .str b =>
    match op with
    | .add => A.bind (cat a b) fun n => K (.dat .str n)
    | .eql => K (.dat .bool (seqs a b))
    | .neq => K (.dat .bool (!seqs a b))
    | _ => A.fail
  | .dat .bool a, .dat .bool b =>
    match ib with
    | true =>
      match op with
      | .eql => K (.dat .bool (a == b))
      | .neq => K (.dat .bool (a != b))
      | _ => A.fail
    | false => A.fail
  | _, _ => A.fail

def aun {R : Sort u} (A : Alg R) (op : UnOp) (x : AV) (K : AV → R) : R :=
  match op, x with
  | .not, .dat .bool b => K (.dat .bool (!b))
  | .neg, .dat (.int k) n => K (.dat (.int k) (k.wrap (0 - n)))
  | _, _ => A.fail

def acut {R : Sort u} (A : Alg R) (lo hi : Option AV) (L : Nat) (k : Nat → Nat → R) : R :=
  match lo, hi with
  | none, none => k 0 L
  | none, some (.dat (.int _) h) => A.bind (inc h L) fun r => k 0 r
  | some (.dat (.int _) l), none => A.bind (inc l L) fun q => k q L
  | some (.dat (.int _) l), some (.dat (.int _) h) => A.bind (inc h L) fun r => A.bind (inc l r) fun q => k q r
  | _, _ => A.fail

def aslice {R : Sort u} (A : Alg R) (T : TT) (s : St) (t : TypeId) (x : AV) (lo hi : Option AV) (K : AV → R) : R :=
  match T t with
  | some ti => match ti.kind with
    | .slice e => match T e with
      | some ie => match x with
        | .dat (.list u) xs => if u.cells = ie.size then acut A lo hi xs.length fun q r => K (.dat (.list u) ((xs.take r).drop q)) else A.fail
        | .slc h => match s.row h with
          | some (.seq u xs) => if u.cells = ie.size then acut A lo hi xs.length fun q r => K (.win h q (r - q)) else A.fail
          | _ => A.fail
        | .win h off len => match s.row h with
          | some (.seq u _) => if u.cells = ie.size then acut A lo hi len fun q r => K (.win h (off + q) (r - q)) else A.fail
          | _ => A.fail
        | _ => A.fail
      | none => A.fail
    | .str => match x with
      | .dat .str b => acut A lo hi b.size fun q r => K (.dat .str (b.extract q r))
      | _ => A.fail
    | _ => A.fail
  | none => A.fail

def evalOp (s : St) : Option Operand → Option (Option AV)
  | none => some none
  | some x => match evalO s x with | some a => some (some a) | none => none

def alen (s : St) : AV → Option Nat
  | .dat (.list _) xs => some xs.length
  | .dat .str x => some x.size
  | .nils => some 0
  | .slc h => match s.row h with | some (.seq _ xs) => some xs.length | _ => none
  | .win _ _ len => some len
  | _ => none

/-- The data of one kind with which cells begin. -/
def prefDat (u : Ty) : List AV → List u.den
  | [] => []
  | a :: r => match toDat u a with
    | some x => x :: prefDat u r
    | none => []

def headTy : List AV → Option Ty
  | .dat u _ :: _ => some u
  | _ => none

/-- A list with another item at a place, told item by item. -/
def putAt {α : Type} (m : Nat) (x : α) : Nat → List α → List α
  | _, [] => []
  | j, a :: r => (cond (m == j) x a) :: putAt m x (j + 1) r

def within (i n : Nat) : Option Unit := if i < n then some () else none

/-- Cells from a place on, one of which is another. -/
def putCell (u : Ty) (x : u.den) (i off : Nat) (cs : List AV) : List AV := cs.take off ++ (putAt i x 0 (prefDat u (cs.drop off))).map (.dat u) ++ cs.drop (off + (prefDat u (cs.drop off)).length)

/-- An array as a value: all its cells are data of one kind. -/
def arrDat (T : TT) (e : TypeId) (c : Nat) (cs : List AV) : Option ((u : Ty) × List u.den) :=
  match T e, headTy cs with
  | some ie, some u => if ie.size = 1 ∧ isStruct ie.kind = false ∧ cs.length = c ∧ (prefDat u cs).length = c then some ⟨u, prefDat u cs⟩ else none
  | _, _ => none

def aindexAddr {R : Sort u} (A : Alg R) (T : TT) (s : St) (t : TypeId) (x i : AV) (K : AV → R) : R :=
  match i with
  | .dat (.int _) n =>
    match T t with
    | some ti =>
      match ti.kind with
      | .slice e => match T e with
        | some ie => match x with
          | .dat (.list u) xs => if u.cells = ie.size then A.bind (idx xs n) fun v => K (.relt u v 0) else A.fail
          | .slc h => match s.row h with
            | some (.seq u xs) => if u.cells = ie.size then A.bind (inb n xs.length) fun m => K (.elt h m 0) else A.fail
            | _ => A.fail
          | .win h off len => match s.row h with
            | some (.seq u _) => if u.cells = ie.size then A.bind (inb n len) fun m => K (.elt h (off + m) 0) else A.fail
            | _ => A.fail
          | _ => A.fail
        | none => A.fail
      | .arr c e => match T e with
        | some ie => match x with
          | .ptr h off => match s.row h with
            | some (.seq u xs) => if u.cells = ie.size ∧ off = 0 then A.bind (same xs.length c) fun _ => A.bind (inb n c) fun m => K (.elt h m 0) else A.fail
            | some (.box cs) => if ie.size = 1 ∧ off + c ≤ cs.length then A.bind (inb n c) fun m => K (.elt h m off) else A.fail
            | _ => A.fail
          | .tab u xs => if u.cells = ie.size then A.bind (same xs.length c) fun _ => A.bind (idx xs n) fun v => K (.relt u v 0) else A.fail
          | _ => A.fail
        | none => A.fail
      | _ => A.fail
    | none => A.fail
  | _ => A.fail

def aload {R : Sort u} (A : Alg R) (T : TT) (s : St) (t : TypeId) (p : AV) (K : AV → R) : R :=
  match T t with
  | none => A.fail
  | some ti =>
    let fin (cs : List AV) (off : Nat) : R :=
      if isStruct ti.kind then (if off + ti.size ≤ cs.length then K (.agg ((cs.drop off).take ti.size)) else A.fail)
      else match cs[off]? with | some a => K a | none => A.fail
    match p with
    | .relt u x off => fin (leaves u x) off
    | .elt h i off => match s.row h with
      | some (.seq u xs) => A.bind xs[i]? fun x => fin (leaves u x) off
      | some (.box cs) => match headTy (cs.drop off) with
        | some u => A.bind (prefDat u (cs.drop off))[i]? fun x => fin [.dat u x] 0
        | none => A.fail
      | _ => A.fail
    | .ptr h off => match s.row h with
      | some (.box cs) => fin cs off
      | _ => A.fail
    | _ => A.fail

def afieldAddr {R : Sort u} (A : Alg R) (T : TT) (t : TypeId) (x : AV) (f : Nat) (K : AV → R) : R :=
  match T t with
  | some ti => match ti.kind with
    | .strct fs => match fs[f]? with
      | some (off, ft) => match T ft with
        | some fi => if fi.size = 0 then A.fail else match x with
          | .ptr h o => K (.ptr h (o + off))
          | .elt h i o => K (.elt h i (o + off))
          | .relt u y o => K (.relt u y (o + off))
          | _ => A.fail
        | none => A.fail
      | none => A.fail
    | _ => A.fail
  | none => A.fail

def afield {R : Sort u} (A : Alg R) (T : TT) (t : TypeId) (x : AV) (f : Nat) (K : AV → R) : R :=
  match T t, x with
  | some ti, .agg cs => match ti.kind with
    | .strct fs => match fs[f]? with
      | some (off, ft) => match T ft with
        | some fi =>
          if isStruct fi.kind then (if off + fi.size ≤ cs.length then K (.agg ((cs.drop off).take fi.size)) else A.fail)
          else match cs[off]? with | some a => K a | none => A.fail
        | none => A.fail
      | none => A.fail
    | _ => A.fail
  | _, _ => A.fail

def overwrite (cs : List AV) (off : Nat) (new : List AV) : List AV := cs.take off ++ new ++ cs.drop (off + new.length)

/-- The cells of a struct that is built of parts. -/
def abuildCells (T : TT) (fs : List (Nat × TypeId)) : List (Nat × AV) → List AV → Option (List AV)
  | [], cs => some cs
  | (f, a) :: r, cs =>
    match fs[f]? with
    | some (off, ft) => match T ft with
      | some fi =>
        match a with
        | .agg new => if isStruct fi.kind && new.length == fi.size && decide (off + new.length ≤ cs.length) then abuildCells T fs r (overwrite cs off new) else none
        | a => if !isStruct fi.kind && fi.size == 1 && a.single && decide (off < cs.length) then abuildCells T fs r (cs.set off a) else none
      | none => none
    | none => none

def partsAV (s : St) : List (Nat × Operand) → Option (List (Nat × AV))
  | [] => some []
  | (i, x) :: r => match evalO s x, partsAV s r with
    | some a, some l => some ((i, a) :: l)
    | _, _ => none

def argsAV (s : St) : List Operand → Option (List AV)
  | [] => some []
  | x :: r => match evalO s x, argsAV s r with
    | some a, some l => some (a :: l)
    | _, _ => none

/-- A datum out of the cells that bear it; what is left of them. -/
def unleaf : (t : Ty) → List AV → Option (t.den × List AV)
  | .pair a b, cs => match unleaf a cs with
    | some (x, r) => match unleaf b r with
      | some (y, r') => some ((x, y), r')
      | none => none
    | none => none
  | .unit, cs => some ((), cs)
  | .int k, cs => match cs with
    | c :: r => match toDat (.int k) c with
      | some x => some (x, r)
      | none => none
    | [] => none
  | .bool, cs => match cs with
    | c :: r => match toDat .bool c with
      | some x => some (x, r)
      | none => none
    | [] => none
  | .str, cs => match cs with
    | c :: r => match toDat .str c with
      | some x => some (x, r)
      | none => none
    | [] => none
  | .list t, cs => match cs with
    | c :: r => match toDat (.list t) c with
      | some x => some (x, r)
      | none => none
    | [] => none

/-- A part of a row that is built. -/
def partDat (t : Ty) : AV → Option t.den
  | .agg cs => match unleaf t cs with
    | some (x, []) => some x
    | _ => none
  | a => toDat t a

def listDat (t : Ty) : Nat → List (Nat × AV) → Option (List t.den)
  | _, [] => some []
  | n, (i, a) :: r => if i = n then (match partDat t a, listDat t (n + 1) r with | some x, some l => some (x :: l) | _, _ => none) else none

/-! Calls: what is handed to the callee, and what comes back -/

mutual
def AV.ren (f : Nat → Nat) : AV → AV
  | .slc h => .slc (f h)
  | .win h o l => .win (f h) o l
  | .ptr h o => .ptr (f h) o
  | .elt h i o => .elt (f h) i o
  | .agg cs => .agg (renL f cs)
  | .tup cs => .tup (renL f cs)
  | .fn g a b => .fn g (renL f a) (renL f b)
  | a => a
def renL (f : Nat → Nat) : List AV → List AV
  | [] => []
  | a :: r => a.ren f :: renL f r
end

def Row.ren (f : Nat → Nat) : Row → Row
  | .seq t xs => .seq t xs
  | .box cs => .box (renL f cs)

mutual
def AV.ids : AV → List Nat
  | .slc h | .win h _ _ | .ptr h _ | .elt h _ _ => [h]
  | .agg cs | .tup cs => idsL cs
  | .fn _ a b => idsL a ++ idsL b
  | _ => []
def idsL : List AV → List Nat
  | [] => []
  | a :: r => a.ids ++ idsL r
end

def Row.ids : Row → List Nat
  | .seq _ _ => []
  | .box cs => idsL cs

def addNew (acc : List Nat) : List Nat → List Nat
  | [] => acc
  | h :: r => if acc.contains h then addNew acc r else addNew (acc ++ [h]) r

/-- All rows that are reached, in the order in which they are met. -/
def reach (H : Heap) : Nat → Nat → List Nat → List Nat
  | 0, _, acc => acc
  | n + 1, i, acc =>
    match acc[i]? with
    | none => acc
    | some h => match H[h]? with
      | some (some r) => reach H n (i + 1) (addNew acc r.ids)
      | _ => reach H n (i + 1) acc

def place (ids : List Nat) (h : Nat) : Nat := (ids.idxOf? h).getD ids.length

/-- An argument: slices are handed over by what they hold, unless the parameter is one that is written. -/
def handArg (s : St) (T : TT) (io : Bool) (t : TypeId) : AV → Option AV
  | .slc h => if io then some (.slc h) else match s.row h with
    | some (.seq u xs) => some (.dat (.list u) xs)
    | _ => none
  | .win h off len => if io then none else match s.row h with
    | some (.seq u xs) => some (.dat (.list u) ((xs.drop off).take len))
    | _ => none
  | .nils => match T t with
    | some ti => match ti.ty with
      | some (.list u) => some (.dat (.list u) [])
      | _ => none
    | none => none
  | .undef => none
  | .elt _ _ _ => none
  | .relt _ _ _ => none
  | .tab _ _ => none
  | a => some a

def handArgs (s : St) (T : TT) (io : Nat → Bool) : Nat → List TypeId → List AV → Option (List AV)
  | _, _, [] => some []
  | n, t :: ts, a :: r => match handArg s T (io n) t a, handArgs s T io (n + 1) ts r with
    | some x, some l => some (x :: l)
    | _, _ => none
  | _, [], _ :: _ => none

def Ty.hasList : Ty → Bool
  | .list _ => true
  | .pair a b => a.hasList || b.hasList
  | _ => false
mutual
def AV.hasList : AV → Bool
  | .dat t _ => t.hasList
  | .relt _ _ _ => true
  | .tab _ _ => true
  | .agg cs | .tup cs => hasListL cs
  | .fn _ a b => hasListL a || hasListL b
  | _ => false
def hasListL : List AV → Bool
  | [] => false
  | a :: r => a.hasList || hasListL r
end
def Row.hasList : Row → Bool
  | .seq t _ => t.hasList
  | .box cs => hasListL cs

def nodupB : List Nat → Bool
  | [] => true
  | a :: r => !r.contains a && nodupB r

def closedB (H : Heap) (ids : List Nat) : List Nat → Bool
  | [] => true
  | h :: r => (match H[h]? with | some (some x) => x.ids.all (fun g => ids.contains g) | _ => false) && closedB H ids r

def freshB (H : Heap) (base : Nat) : Nat → Bool
  | 0 => true
  | n + 1 => (match H[base + n]? with | some none => true | _ => false) && freshB H base n

def subHeap (H : Heap) (ids : List Nat) : Heap := ids.map fun h => match H[h]? with | some (some r) => some (r.ren (place ids)) | _ => none
def backTo (ids : List Nat) (base : Nat) (j : Nat) : Nat := match ids[j]? with | some h => h | none => base + (j - ids.length)

/-- Rows that were handed over by what they hold. -/
def roIds : List AV → List AV → List Nat
  | a :: r, b :: r' => (match a, b with
    | .slc h, .dat _ _ => [h]
    | .win h _ _, .dat _ _ => [h]
    | _, _ => []) ++ roIds r r'
  | _, _ => []

def putRows (f : Nat → Nat) : Nat → Heap → Heap → Heap
  | _, [], H => H
  | j, r :: rest, H => putRows f (j + 1) rest (match r with | some x => H.set (f j) (some (x.ren f)) | none => H)

/-- How many new rows a call may hand back. -/
def width : Nat := 4

def acall {R : Sort u} (A : Alg R) (C : Ctx) (base : Nat) (s : St) (f : FuncId) (args : List AV) (types : List TypeId) (K : AV → St → R) : R :=
  match handArgs s C.T (C.io f) 0 types args with
  | none => A.fail
  | some avs =>
    let ids := reach s.heap (s.heap.length + 1) 0 (addNew [] (idsL avs))
    let ro := roIds args avs
    if nodupB ids && closedB s.heap ids ids && (idsL avs).all (fun g => ids.contains g) && ro.all (fun h => !ids.contains h) && freshB s.heap base width then
      let ans := C.orc f (renL (place ids) avs) (subHeap s.heap ids)
      A.bind ans.o fun x =>
        let q := ans.enc x
        if decide (q.2.length ≤ ids.length + width) && decide (ids.length ≤ q.2.length) && (ro.isEmpty || !(q.1.hasList || q.2.any fun r => match r with | some x => x.hasList | none => false)) then
          K (q.1.ren (backTo ids base)) { s with heap := putRows (backTo ids base) 0 q.2 s.heap }
        else A.fail
    else A.fail

end Go.Rv

namespace Go.Rv

def mk (n m : Int) : Option Nat := if 0 ≤ n ∧ n ≤ m ∧ m ≤ 1099511627776 then some n.toNat else none

/-- A new row, at a number that is free. -/
def allocRow {R : Sort u} (A : Alg R) (s : St) (base : Nat) (r : Row) (K : St → R) : R :=
  match s.heap[base]? with
  | some none => K (s.setRow base r)
  | _ => A.fail

def elemOf (T : TT) (t : TypeId) : Option TI :=
  match T t with
  | some ti => match ti.kind with | .slice e => T e | _ => none
  | none => none

def astore {R : Sort u} (A : Alg R) (T : TT) (s : St) (t : TypeId) (p v : AV) (K : St → R) : R :=
  match T t with
  | none => A.fail
  | some ti =>
    if isStruct ti.kind then
      match p, v with
      | .ptr h off, .agg new => match s.row h with
        | some (.box cs) => if new.length = ti.size ∧ 0 < new.length ∧ off + new.length ≤ cs.length ∧ new.all AV.single = true then K (s.setRow h (.box (overwrite cs off new))) else A.fail
        | _ => A.fail
      | _, _ => A.fail
    else if ti.size = 1 then
      match p with
      | .elt h i off => match s.row h with
        | some (.seq u xs) => match toDat u v with
          | some x => if u.cells = 1 ∧ off = 0 then K (s.setRow h (.seq u (xs.set i x))) else A.fail
          | none => A.fail
        | some (.box cs) => match headTy (cs.drop off) with
          | some u => match toDat u v with
            | some x => A.bind (within i (prefDat u (cs.drop off)).length) fun _ => K (s.setRow h (.box (putCell u x i off cs)))
            | none => A.fail
          | none => A.fail
        | _ => A.fail
      | .ptr h off => match s.row h with
        | some (.box cs) => if v.single = true ∧ off < cs.length then K (s.setRow h (.box (cs.set off v))) else A.fail
        | _ => A.fail
      | _ => A.fail
    else A.fail

def aappend {R : Sort u} (A : Alg R) (C : Ctx) (base : Nat) (s : St) (t : TypeId) (x y : AV) (K : AV → St → R) : R :=
  match elemOf C.T t with
  | some ie => match ie.ty with
    | some u =>
      if u.cells = ie.size ∧ 0 < ie.size ∧ ie.bytes ≤ 128 ∧ zeroOk u ie.zero = true then
        match elems s u y with
        | some ys => match x with
          | .nils => A.bind (room ys.length) fun _ => allocRow A s base (.seq u ys) fun s' => K (.slc base) s'
          | .slc h => match s.row h with
            | some (.seq u' xs) => match castD (.list u) (.list u') xs with
              | some xs' => if C.k ≤ h then A.bind (room (xs'.length + ys.length)) fun _ => K (.slc h) ((s.scrub h).setRow h (.seq u (xs' ++ ys))) else A.fail
              | none => A.fail
            | _ => A.fail
          | .win h off len => match s.row h with
            | some (.seq u' xs) => match castD (.list u) (.list u') xs with
              | some xs' => if C.k ≤ h then A.bind (room (len + ys.length)) fun _ => K (.slc h) ((s.scrub h).setRow h (.seq u ((xs'.drop off).take len ++ ys))) else A.fail
              | none => A.fail
            | _ => A.fail
          | _ => A.fail
        | none => A.fail
      else A.fail
    | none => A.fail
  | none => A.fail

def foldInt (f : Int → Int → Int) (k : IntKind) : Int → List AV → Option Int
  | n, [] => some n
  | n, .dat (.int k') m :: r => if k = k' then foldInt f k (f n m) r else none
  | _, _ => none

def lift {R : Sort u} {α : Type} (A : Alg R) (x : Option α) (k : α → R) : R := match x with | some a => k a | none => A.fail

def cstep {R : Sort u} (A : Alg R) (C : Ctx) (base : Nat) (o : Oper) (s : St) (K : St → R) : R :=
  let out (a : AV) : R := K (s.put o.dst a)
  let ev (x : Operand) (k : AV → R) : R := lift A (evalO s x) k
  match o.op with
  | .move x => ev x out
  | .assign x => ev x fun a => match a with
    | .nils => match elemOf C.T o.type with
      | some ie => match ie.ty with
        | some u => allocRow A s base (.seq u []) fun s' => K (s'.put o.dst (.slc base))
        | none => A.fail
      | none => A.fail
    | a => out a
  | .pick c a b => ev c fun c => match c with
    | .dat .bool g => ev a fun x => ev b fun y => out (cond g x y)
    | _ => A.fail
  | .alloc e => match C.T e with
    | some ti => match ti.kind with
      | .arr n e' => match C.T e' with
        | some ie => match ie.ty with
          | some u => if u.cells = 1 ∧ zeroOk u ie.zero = true ∧ ti.zero.length = n ∧ n ≤ 1024 ∧ ti.zero.all (fun v => zeroOk u [v]) = true then
              allocRow A s base (.seq u (List.replicate n u.zero)) fun s' => K (s'.put o.dst (.ptr base 0)) else A.fail
          | none => A.fail
        | none => A.fail
      | _ => if (ti.zero.map constAV).all AV.single = true then allocRow A s base (.box (ti.zero.map constAV)) fun s' => K (s'.put o.dst (.ptr base 0)) else A.fail
    | none => A.fail
  | .box _ v => ev v fun a => match a with
    | .agg cs => if cs.all AV.single = true then allocRow A s base (.box cs) fun s' => K (s'.put o.dst (.ptr base 0)) else A.fail
    | a => if a.single = true then allocRow A s base (.box [a]) fun s' => K (s'.put o.dst (.ptr base 0)) else A.fail
  | .build t ps => match C.T t, partsAV s ps.toList with
    | some ti, some l => match ti.kind with
      | .strct fs => if fs.all (fun f => (C.T f.2).isSome) = true then lift A (abuildCells C.T fs l (ti.zero.map constAV)) fun cs => out (.agg cs) else A.fail
      | _ => A.fail
    | _, _ => A.fail
  | .buildSlice t n ps => match elemOf C.T t, partsAV s ps.toList with
    | some ie, some l => match ie.ty with
      | some u => match listDat u 0 l with
        | some xs => if l.length = n ∧ n ≤ 1024 ∧ u.cells = ie.size ∧ 0 < ie.size ∧ ie.size ≤ 1024 then (match s.heap[base]? with
            | none => out (if n = 0 then .nils else .dat (.list u) xs)
            | _ => allocRow A s base (.seq u xs) fun s' => K (s'.put o.dst (.slc base))) else A.fail
        | none => A.fail
      | none => A.fail
    | _, _ => A.fail
  | .makeSlice t l c => match elemOf C.T t, evalO s l, evalO s c with
    | some ie, some (.dat (.int _) n), some (.dat (.int _) m) => match ie.ty with
      | some u => if u.cells = ie.size ∧ 0 < ie.size ∧ ie.bytes ≤ 128 ∧ zeroOk u ie.zero = true then
          A.bind (mk n m) fun q => allocRow A s base (.seq u (List.replicate q u.zero)) fun s' => K (s'.put o.dst (.slc base)) else A.fail
      | none => A.fail
    | _, _, _ => A.fail
  | .load t p => ev p fun p => aload A C.T s t p out
  | .store t p v => ev p fun p => ev v fun v => astore A C.T s t p v fun s' => K (s'.put o.dst .undef)
  | .nilCheck x => ev x fun a => match a with
    | .ptr _ _ | .elt _ _ _ | .relt _ _ _ => out a
    | _ => A.fail
  | .binOp op t x y _ => ev x fun x => ev y fun y => abin A (isBool C.T t) op x y out
  | .unOp op _ x => ev x fun x => aun A op x out
  | .convert st dt x => ev x fun x => match C.T st, C.T dt, x with
    | some _, some ti, .dat (.int _) n => match ti.kind with
      | .int k => out (.dat (.int k) (k.wrap n))
      | _ => A.fail
    | _, _, _ => A.fail
  | .makeFunc (.func f) first caps => match argsAV s first.toList, argsAV s caps.toList with
    | some a, some b => out (.fn f a b)
    | _, _ => A.fail
  | .slice t x lo hi none => match evalO s x, evalOp s lo, evalOp s hi with
    | some a, some l, some h => aslice A C.T s t a l h out
    | _, _, _ => A.fail
  | .fieldAddr t x f => ev x fun x => afieldAddr A C.T t x f out
  | .field t x f => ev x fun x => afield A C.T t x f out
  | .indexAddr t x i => ev x fun x => ev i fun i => aindexAddr A C.T s t x i out
  | .index t x i => match C.T t, evalO s x, evalO s i with
    | some ti, some (.dat .str b), some (.dat (.int _) n) => match ti.kind with
      | .str => A.bind (bidx b n) fun m => out (.dat (.int .u8) m)
      | _ => A.fail
    | some ti, some (.agg cs), some (.dat (.int _) n) => match ti.kind with
      | .arr c e => lift A (arrDat C.T e c cs) fun q => A.bind (idx q.2 n) fun x => out (.dat q.1 x)
      | _ => A.fail
    | _, _, _ => A.fail
  | .extract x i => ev x fun x => match x with
    | .tup cs => lift A cs[i]? out
    | _ => A.fail
  | .call c => match c.callee with
    | .builtin .len => match c.args.toList, c.argTypes.toList with
      | [x], [t] => ev x fun x => match C.T t with
        | some ti => (match ti.kind, x with
          | .slice _, .dat .str _ => A.fail
          | .str, .dat (.list _) _ => A.fail
          | .str, .dat .str _ => lift A (alen s x) fun n => out (.dat (.int .i64) n)
          | .slice _, x => lift A (alen s x) fun n => out (.dat (.int .i64) n)
          | _, _ => A.fail)
        | none => A.fail
      | _, _ => A.fail
    | .builtin .append => match c.args.toList, c.argTypes.toList with
      | [x, y], [t, t2] => if t = t2 then ev x fun x => ev y fun y => aappend A C base s t x y fun a s' => K (s'.put o.dst a) else A.fail
      | _, _ => A.fail
    | .builtin .max => match argsAV s c.args.toList with
      | some (.dat (.int k) n :: r) => lift A ((foldInt imax k n r).map (AV.dat (.int k))) out
      | _ => A.fail
    | .builtin .min => match argsAV s c.args.toList with
      | some (.dat (.int k) n :: r) => lift A ((foldInt imin k n r).map (AV.dat (.int k))) out
      | _ => A.fail
    | .value f => ev f fun f => match f with
      | .fn g first caps => match argsAV s c.args.toList with
        | some args => acall A C base s g (first ++ args ++ caps) (first.map (fun _ => 0) ++ c.argTypes.toList ++ caps.map (fun _ => 0)) fun a s' => K (s'.put o.dst a)
        | none => A.fail
      | _ => A.fail
    | _ => A.fail
  | _ => A.fail

/-! A row that is a datum from now on -/

mutual
def frz (h : Nat) (t : Ty) (xs : List t.den) : AV → AV
  | .slc g => cond (Nat.beq g h) (.dat (.list t) xs) (.slc g)
  | .win g o l => cond (Nat.beq g h) (.dat (.list t) ((xs.drop o).take l)) (.win g o l)
  | .ptr g o => cond (Nat.beq g h) .undef (.ptr g o)
  | .elt g i o => cond (Nat.beq g h) .undef (.elt g i o)
  | .agg cs => .agg (frzL h t xs cs)
  | .tup cs => .tup (frzL h t xs cs)
  | .fn f a b => .fn f (frzL h t xs a) (frzL h t xs b)
  | a => a
def frzL (h : Nat) (t : Ty) (xs : List t.den) : List AV → List AV
  | [] => []
  | a :: r => frz h t xs a :: frzL h t xs r
end

def frzRow (h : Nat) (t : Ty) (xs : List t.den) : Row → Row
  | .seq u ys => .seq u ys
  | .box cs => .box (frzL h t xs cs)

def St.freeze (k h : Nat) (s : St) : St :=
  cond (Nat.ble k h) (match s.row h with
    | some (.seq t xs) => ⟨frzL h t xs s.env, (s.heap.map (Option.map (frzRow h t xs))).set h none⟩
    | _ => s) s

/-- A slice of a whole row, as a window of it. -/
def winify (s : St) : AV → AV
  | .slc h => match s.row h with | some (.seq _ xs) => .win h 0 xs.length | _ => .slc h
  | a => a

def St.frzAV (k : Nat) (s : St) : AV → St
  | .slc h => s.freeze k h
  | .win h _ _ => s.freeze k h
  | _ => s

/-- A turn of the state that turns nothing of the world. -/
structure Turn where
  at_ : Nat
  slot : Nat
  win : Bool
  cell : Option Nat

def turnOne (k : Nat) (p : Turn) (s : St) : St :=
  match p.cell with
  | none => match s.env[p.slot]? with
    | some a => cond p.win { s with env := s.env.set p.slot (winify s a) } (s.frzAV k a)
    | none => s
  | some c => match s.env[p.slot]? with
    | some (.ptr h _) => match s.row h with
      | some (.box cs) => match cs[c]? with
        | some a => cond p.win (s.setRow h (.box (cs.set c (winify s a)))) (s.frzAV k a)
        | none => s
      | _ => s
    | _ => s

/-- What is turned ahead of operation i. -/
def freezeAt (k i : Nat) : List Turn → St → St
  | [], s => s
  | p :: r, s => cond (Nat.beq p.at_ i) (freezeAt k i r (turnOne k p s)) (freezeAt k i r s)

/-! A region -/

/-- Shown: at a test both ways, each with its outcome laid in. -/
def crun (C : Ctx) (ops : List Oper) (fr : List Turn) (B0 : Nat) : Nat → List Oper → St → (St → Prop) → Prop
  | i, [], s, K => K (freezeAt C.k i fr s)
  | i, o :: r, s0, K =>
    let s := freezeAt C.k i fr s0
    match o.guard with
    | none => cstep propAlg C (B0 + i * width) o s fun s' => crun C ops fr B0 (i + 1) r s' K
    | some (j, want) => match (ops[j]?).bind (·.dst) with
      | none => False
      | some t => match s.env[t]? with
        | some (.dat .bool g) =>
          cond g
            (cond want (cstep propAlg C (B0 + i * width) o { s with env := s.env.set t (.dat .bool true) } fun s' => crun C ops fr B0 (i + 1) r s' K) (crun C ops fr B0 (i + 1) r ({ s with env := s.env.set t (.dat .bool true) }.put o.dst (.tup [])) K))
            (cond want (crun C ops fr B0 (i + 1) r ({ s with env := s.env.set t (.dat .bool false) }.put o.dst (.tup [])) K) (cstep propAlg C (B0 + i * width) o { s with env := s.env.set t (.dat .bool false) } fun s' => crun C ops fr B0 (i + 1) r s' K))
        | some (.tup []) => crun C ops fr B0 (i + 1) r (s.put o.dst (.tup [])) K
        | _ => False

/-- The same, reckoned. -/
def orun (C : Ctx) (ops : List Oper) (fr : List Turn) (B0 : Nat) : Nat → List Oper → St → Option St
  | i, [], s => some (freezeAt C.k i fr s)
  | i, o :: r, s0 =>
    let s := freezeAt C.k i fr s0
    match o.guard with
    | none => (cstep (optAlg St) C (B0 + i * width) o s some).bind (orun C ops fr B0 (i + 1) r)
    | some (j, want) => match (ops[j]?).bind (·.dst) with
      | none => none
      | some t => match s.env[t]? with
        | some (.dat .bool g) =>
          if g = want then (cstep (optAlg St) C (B0 + i * width) o s some).bind (orun C ops fr B0 (i + 1) r)
          else orun C ops fr B0 (i + 1) r (s.put o.dst (.tup []))
        | some (.tup []) => orun C ops fr B0 (i + 1) r (s.put o.dst (.tup []))
        | _ => none

/-! A region whose order is left open -/

/-- One value, out of the operands and of what memory holds; memory stays. -/
def pureOp : Op → Bool
  | .move _ | .pick .. | .nilCheck _ | .binOp .. | .unOp .. | .convert .. | .makeFunc .. | .fieldAddr .. | .field .. | .extract .. | .index .. | .build .. => true
  | .indexAddr .. | .load .. | .slice .. => true
  | .call c => match c.callee with | .builtin .len | .builtin .max | .builtin .min => true | _ => false
  | _ => false

/-- Does not look at memory. -/
def heapFree : Op → Bool
  | .indexAddr .. | .load .. | .slice .. | .call _ => false
  | _ => true

def isAppend : Op → Bool
  | .call c => match c.callee with | .builtin .append => true | _ => false
  | _ => false

/-- Builds a row, which is a datum at once if it is marked as calm. -/
def isBuild : Op → Bool
  | .buildSlice _ _ _ => true
  | _ => false

/-- Leaves the rows that are there as they are. -/
def calmKind (calm : List Nat) (j : Nat) : Op → Bool
  | .store .. => false
  | .call c => match c.callee with | .value _ => calm.contains j | .builtin .append => calm.contains j | _ => true
  | _ => true

/-- The rows that are handed to a callee. -/
def callIds (C : Ctx) (o : Oper) (s : St) : List Nat :=
  match o.op with
  | .call c => match c.callee with
    | .value f => match evalO s f with
      | some (.fn g first caps) => match argsAV s c.args.toList with
        | some args => match handArgs s C.T (C.io g) 0 (first.map (fun _ => 0) ++ c.argTypes.toList ++ caps.map (fun _ => 0)) (first ++ args ++ caps) with
          | some avs => idsL avs
          | none => []
        | none => []
      | _ => []
    | _ => []
  | _ => []

/-- Does an operation wait for i, or for one of some that wait for i? -/
def waits (i : Nat) (l : List Nat) (o : Oper) : Bool := o.after.any fun e => Region.binds .any e && (e.on == i || l.contains e.on)

/-- Those that wait for i, directly or not. -/
def waitL (ops : Array Oper) (listed : Array Bool) (i : Nat) : List Nat :=
  (List.range ops.size).foldl (fun l j => match ops[j]? with
    | some o => cond (!listed.getD j true && waits i l o) (j :: l) l
    | none => l) []

def waitOk (ops : Array Oper) (listed : Array Bool) (i : Nat) (l : List Nat) : Bool :=
  l.all fun b => !listed.getD b true && (match ops[b]? with | some o => waits i l o | none => false)

def freeB (ops : Array Oper) (calm : List Nat) (listed : Array Bool) (i : Nat) (oi : Oper) : Bool :=
  let l := waitL ops listed i
  waitOk ops listed i l && (List.range ops.size).all fun j => j == i || listed.getD j true || l.contains j || (match ops[j]? with
    | some oj => oi.apart ops oj && (heapFree oi.op || calm.contains i || calmKind calm j oj.op) && (!isAppend oj.op || calm.contains j)
    | none => true)

def isAlloc : Op → Bool
  | .alloc _ => true
  | _ => false

def isValueCall : Op → Bool
  | .call c => match c.callee with | .value _ => true | _ => false
  | _ => false

/-- May an operation come ahead of new cells that are laid beside it? -/
def loneOp (calm : List Nat) (i : Nat) (o : Op) : Bool := isAlloc o || (isValueCall o && calm.contains i)

def loneB (ops : Array Oper) (listed : Array Bool) (i : Nat) (oi : Oper) : Bool :=
  let l := waitL ops listed i
  waitOk ops listed i l && (List.range ops.size).all fun j => j == i || listed.getD j true || l.contains j || (match ops[j]? with
    | some oj => oi.apart ops oj && (isAlloc oj.op && oj.guard.isNone)
    | none => true)

/-- An order in which the operations are taken, each of them the only one that may come up, or one that may come ahead of all others that may. -/
def schedFrom (ops : Array Oper) (calm : List Nat) : List Nat → Array Bool → Bool
  | [], listed => (Region.ready .any ops listed).isEmpty
  | i :: r, listed =>
    (Region.ready .any ops listed).contains i && ((Region.ready .any ops listed) == [i] || (match ops[i]? with | some oi => (pureOp oi.op || (isBuild oi.op && calm.contains i)) && freeB ops calm listed i oi | none => false)
        || (match ops[i]? with | some oi => (loneOp calm i oi.op && oi.guard.isNone) && loneB ops listed i oi | none => false))
      && schedFrom ops calm r (listed.setIfInBounds i true)

def schedB (ops : Array Oper) (calm order : List Nat) : Bool :=
  Region.noSelect ops && order.length == ops.size && schedFrom ops calm order (Array.replicate ops.size false)

/-- Where an operation lays its new rows; a row that is to be a datum at once gets no number. -/
def baseAt (calm : List Nat) (B0 i : Nat) (o : Oper) (s : St) : Nat :=
  match o.op with
  | .buildSlice _ _ _ => cond (calm.contains i) s.heap.length (B0 + i * width)
  | _ => B0 + i * width

/-- What is appended to an empty slice without room makes a new row; all else stays. -/
def nilAppend (o : Oper) (s : St) : Bool :=
  match o.op with
  | .call c => match c.callee with
    | .builtin .append => match c.args.toList with
      | [x, _] => match evalO s x with
        | some .nils => true
        | _ => false
      | _ => false
    | _ => false
  | _ => false

/-- All operands are plain: they refer to no row. -/
def plainOps (o : Oper) (s : St) : Bool := o.op.operands.toList.all fun x => match evalO s x with
  | some a => a.ids.isEmpty
  | none => true

def calmNow (C : Ctx) (calm : List Nat) (i : Nat) (o : Oper) (s : St) : Bool := !calm.contains i || ((callIds C o s).isEmpty && (!isAppend o.op || nilAppend o s) && (!pureOp o.op || plainOps o s))

def crunS (C : Ctx) (ops : List Oper) (calm : List Nat) (B0 : Nat) : List Nat → St → (St → Prop) → Prop
  | [], s, K => K s
  | i :: r, s, K =>
    match ops[i]? with
    | none => False
    | some o =>
      match o.guard with
      | none => cond (calmNow C calm i o s) (cstep propAlg C (baseAt calm B0 i o s) o s fun s' => crunS C ops calm B0 r s' K) False
      | some (j, want) => match (ops[j]?).bind (·.dst) with
        | none => False
        | some t => match s.env[t]? with
          | some (.dat .bool g) =>
            cond g
              (cond want (cond (calmNow C calm i o { s with env := s.env.set t (.dat .bool true) }) (cstep propAlg C (baseAt calm B0 i o s) o { s with env := s.env.set t (.dat .bool true) } fun s' => crunS C ops calm B0 r s' K) False) (crunS C ops calm B0 r ({ s with env := s.env.set t (.dat .bool true) }.put o.dst (.tup [])) K))
              (cond want (crunS C ops calm B0 r ({ s with env := s.env.set t (.dat .bool false) }.put o.dst (.tup [])) K) (cond (calmNow C calm i o { s with env := s.env.set t (.dat .bool false) }) (cstep propAlg C (baseAt calm B0 i o s) o { s with env := s.env.set t (.dat .bool false) } fun s' => crunS C ops calm B0 r s' K) False))
          | some (.tup []) => crunS C ops calm B0 r (s.put o.dst (.tup [])) K
          | _ => False

/-- One operation, reckoned. -/
def stepAt (C : Ctx) (ops : List Oper) (calm : List Nat) (B0 i : Nat) (s : St) : Option St :=
  match ops[i]? with
  | none => none
  | some o =>
    match o.guard with
    | none => if calmNow C calm i o s = true then cstep (optAlg St) C (baseAt calm B0 i o s) o s some else none
    | some (j, want) => match (ops[j]?).bind (·.dst) with
      | none => none
      | some t => match s.env[t]? with
        | some (.dat .bool g) => if g = want then (if calmNow C calm i o s = true then cstep (optAlg St) C (baseAt calm B0 i o s) o s some else none) else some (s.put o.dst (.tup []))
        | some (.tup []) => some (s.put o.dst (.tup []))
        | _ => none

def orunS (C : Ctx) (ops : List Oper) (calm : List Nat) (B0 : Nat) : List Nat → St → Option St
  | [], s => some s
  | i :: r, s => (stepAt C ops calm B0 i s).bind (orunS C ops calm B0 r)

/-! What is kept of a state -/

def mask (live : List Nat) : Nat → List AV → List AV
  | _, [] => []
  | i, a :: r => (if live.contains i then a else .undef) :: mask live (i + 1) r

def normO (k : Nat) (live : List Nat) (s : St) : Option St :=
  let env := mask live 0 s.env
  let ids := reach s.heap (s.heap.length + 1) 0 (addNew (List.range k) (idsL env))
  if nodupB ids && closedB s.heap ids ids && (idsL env).all (fun g => ids.contains g) && (ids.take k == List.range k) then
    some ⟨renL (place ids) env, subHeap s.heap ids⟩
  else none

def withNorm (k : Nat) (live : List Nat) (s : St) (K : St → Prop) : Prop :=
  match normO k live s with
  | some s' => K s'
  | none => False

inductive Ann where
  | leaf (live : List Nat)
  | leafF (fr : List Turn) (live : List Nat)
  | draw (calm order : List Nat) (fr : List Turn) (live : List Nat)
  | seq (a b : Ann)
  | cond (a b : Ann)
  | block (a : Ann)
  | loop (a : Ann)

def onNormal (f : St → Prop) (K : Exit → St → Prop) (e : Exit) (s : St) : Prop :=
  match e with
  | .normal => f s
  | e => K e s

def onExit (id : Nat) (K : Exit → St → Prop) (e : Exit) (s : St) : Prop :=
  match e with
  | .exit i => if i = id then K .normal s else K (.exit i) s
  | e => K e s

def awpLoop (body : St → (Exit → St → Prop) → Prop) : Nat → St → (Exit → St → Prop) → Prop
  | 0, _, _ => False
  | n + 1, s, K => body s (onNormal (fun s' => awpLoop body n s' K) K)

def awp (C : Ctx) (L : Nat) : Code → Ann → St → (Exit → St → Prop) → Prop
  | .skip, .leaf live, s, K => withNorm C.k live s (K .normal)
  | .ret, .leaf live, s, K => withNorm C.k live s (K .ret)
  | .exit id, .leaf live, s, K => withNorm C.k live s (K (.exit id))
  | .skip, .leafF fr live, s, K => withNorm C.k live (freezeAt C.k 0 fr s) (K .normal)
  | .ret, .leafF fr live, s, K => withNorm C.k live (freezeAt C.k 0 fr s) (K .ret)
  | .exit id, .leafF fr live, s, K => withNorm C.k live (freezeAt C.k 0 fr s) (K (.exit id))
  | .region _ ops false, .leaf live, s, K =>
    crun C ops.toList [] s.heap.length 0 ops.toList { s with heap := s.heap ++ List.replicate (ops.size * width) none } fun s' => withNorm C.k live s' (K .normal)
  | .region _ ops false, .leafF fr live, s, K =>
    crun C ops.toList fr s.heap.length 0 ops.toList { s with heap := s.heap ++ List.replicate (ops.size * width) none } fun s' => withNorm C.k live s' (K .normal)
  | .region _ ops true, .draw calm order fr live, s, K =>
    cond (schedB ops calm order) (crunS C ops.toList calm s.heap.length order { s with heap := s.heap ++ List.replicate (ops.size * width) none } fun s' => withNorm C.k live (freezeAt C.k 0 fr s') (K .normal)) False
  | .seq a b, .seq x y, s, K => awp C L a x s (onNormal (fun s' => awp C L b y s' K) K)
  | .cond c a b, .cond x y, s, K => match evalO s c with
    | some (.dat .bool g) => _root_.cond g (awp C L a x s K) (awp C L b y s K)
    | _ => False
  | .block id c, .block x, s, K => awp C L c x s (onExit id K)
  | .loop c, .loop x, s, K => awpLoop (fun s K => awp C L c x s K) L s K
  | _, _, _, _ => False

end Go.Rv

namespace Go.Rv

mutual
theorem AVRep.refs_some {w : World} {S : Nat → Prop} {σ : Nat → Option Sum} : ∀ (a : AV) (v : Value) (g : Nat), AVRep w S σ a v → a.refs g = true → ∃ s, σ g = some s
  | .slc h, _, g, ⟨s, hs, _⟩, hg => by simp [AV.refs] at hg; subst hg; exact ⟨s, hs⟩
  | .win h _ _, _, g, ⟨s, hs, _⟩, hg => by simp [AV.refs] at hg; subst hg; exact ⟨s, hs⟩
  | .ptr h _, _, g, ⟨s, _, _, _, hs, _⟩, hg => by simp [AV.refs] at hg; subst hg; exact ⟨s, hs⟩
  | .elt h _ _, _, g, ⟨s, _, _, _, hs, _⟩, hg => by simp [AV.refs] at hg; subst hg; exact ⟨s, hs⟩
  | .agg cs, _, g, ⟨vs, _, hr⟩, hg => AVsRep.refs_some cs vs g hr (by simpa [AV.refs] using hg)
  | .tup cs, _, g, ⟨vs, _, hr⟩, hg => AVsRep.refs_some cs vs g hr (by simpa [AV.refs] using hg)
  | .fn _ a b, _, g, ⟨va, vb, _, h1, h2⟩, hg => by
    simp [AV.refs] at hg
    rcases hg with hg | hg
    · exact AVsRep.refs_some a va g h1 hg
    · exact AVsRep.refs_some b vb g h2 hg
  | .undef, _, _, _, hg => by simp [AV.refs] at hg
  | .dat _ _, _, _, _, hg => by simp [AV.refs] at hg
  | .nils, _, _, _, hg => by simp [AV.refs] at hg
  | .relt _ _ _, _, _, _, hg => by simp [AV.refs] at hg
  | .tab _ _, _, _, _, hg => by simp [AV.refs] at hg
  | .raw _, _, _, _, hg => by simp [AV.refs] at hg
theorem AVsRep.refs_some {w : World} {S : Nat → Prop} {σ : Nat → Option Sum} : ∀ (a : List AV) (v : List Value) (g : Nat), AVsRep w S σ a v → refsL a g = true → ∃ s, σ g = some s
  | [], _, _, _, hg => by simp [refsL] at hg
  | a :: r, _, g, ⟨v, vr, _, h1, h2⟩, hg => by
    simp [refsL] at hg
    rcases hg with hg | hg
    · exact AVRep.refs_some a v g h1 hg
    · exact AVsRep.refs_some r vr g h2 hg
end

theorem constAV_rep {w : World} {S : Nat → Prop} {σ : Nat → Option Sum} (v : Value) : AVRep w S σ (constAV v) v := by
  unfold constAV
  split <;> simp [AVRep, DCells]

section
variable {B : Base} {s : St} {tmps : Array Value} {w : World} {ι : Plc}

theorem evalO_rep (h : Inv B s tmps w ι) {x : Operand} {a : AV} (he : evalO s x = some a) (ds : List Deferred) : AVRep w (dst B.D w ι s.heap) (sumOf ι s.heap) a (Act.eval ⟨tmps, ds⟩ x) := by
  cases x with
  | tmp t =>
    obtain ⟨v, hv, hr⟩ := h.env t a he
    have : Act.eval ⟨tmps, ds⟩ (.tmp t) = v := by simp [Act.eval, Array.getD_eq_getD_getElem?, hv]
    rw [this]; exact hr
  | const v => simp [evalO] at he; subst he; exact constAV_rep v
  | global g =>
    simp only [evalO] at he
    split at he
    · rename_i q hq
      cases he
      exact ⟨g, rfl, h.glob g q.1 q.2 hq⟩
    · cases he
  | func f => simp [evalO] at he; subst he; exact ⟨[], [], rfl, rfl, rfl⟩

theorem Inv.put (h : Inv B s tmps w ι) (d : Option Tmp) {a : AV} {v : Value} (hr : AVRep w (dst B.D w ι s.heap) (sumOf ι s.heap) a v) (ds : List Deferred) :
    Inv B (s.put d a) (Act.put ⟨tmps, ds⟩ d v).tmps w ι := by
  cases d with
  | none => exact h
  | some t =>
    refine ⟨h.kept, h.hrep, h.stay, h.io, fun i b hb => ?_, h.glob⟩
    simp only [St.put, Act.put] at hb ⊢
    rw [List.getElem?_set] at hb
    split at hb
    · rename_i hit
      subst hit
      split at hb
      · rename_i hlt
        obtain ⟨u, hu, _⟩ := h.env t (s.env[t]) (by simp [hlt])
        have hts : t < tmps.size := (Array.getElem?_eq_some_iff.1 hu).1
        simp at hb; subst hb
        exact ⟨v, by simp [hts], hr⟩
      · cases hb
    · rename_i hit
      obtain ⟨u, hu, hr'⟩ := h.env i b hb
      exact ⟨u, by rw [Array.getElem?_setIfInBounds_ne hit]; exact hu, hr'⟩

/-! From one moment to a later one -/

structure Trans (w : World) (ι : Plc) (H : Heap) (w' : World) (ι' : Plc) (H' : Heap) (good : Nat → Prop) : Prop where
  size : w.heap.size ≤ w'.heap.size
  stb : ∀ b, stab w ι H b → stab w' ι' H' b ∧ w'.heap[b]? = w.heap[b]?
  sum : ∀ g, good g → sumOf ι' H' g = sumOf ι H g

variable {w' : World} {ι' : Plc} {H H' : Heap} {good : Nat → Prop}

theorem Trans.av {D : Nat → Prop} (t : Trans w ι H w' ι' H' good) {a : AV} {v : Value} (hg : ∀ g, a.refs g = true → good g) (h : AVRep w (dst D w ι H) (sumOf ι H) a v) :
    AVRep w' (dst D w' ι' H') (sumOf ι' H') a v :=
  AVRep.mono t.size (fun b hb _ => ⟨⟨hb.1, (t.stb b hb.2).1⟩, (t.stb b hb.2).2⟩) a v (fun g hh => t.sum g (hg g hh)) h

theorem Trans.avs {D : Nat → Prop} (t : Trans w ι H w' ι' H' good) {a : List AV} {v : List Value} (hg : ∀ g, refsL a g = true → good g) (h : AVsRep w (dst D w ι H) (sumOf ι H) a v) :
    AVsRep w' (dst D w' ι' H') (sumOf ι' H') a v :=
  AVsRep.mono t.size (fun b hb _ => ⟨⟨hb.1, (t.stb b hb.2).1⟩, (t.stb b hb.2).2⟩) a v (fun g hh => t.sum g (hg g hh)) h

theorem Trans.dat {D : Nat → Prop} (t : Trans w ι H w' ι' H' good) {u : Ty} {x : u.den} {c : List Value} (h : DCells w (dst D w ι H) u x c) : DCells w' (dst D w' ι' H') u x c :=
  DCells.mono t.size (fun b hb _ => ⟨⟨hb.1, (t.stb b hb.2).1⟩, (t.stb b hb.2).2⟩) u x c h

def Row.refs : Row → Nat → Bool
  | .seq _ _, _ => false
  | .box cs, g => refsL cs g

theorem refsL_get {cs : List AV} {j : Nat} {a : AV} {g : Nat} (h : cs[j]? = some a) (hg : a.refs g = true) : refsL cs g = true := by
  induction cs generalizing j with
  | nil => simp at h
  | cons c r ih =>
    cases j with
    | zero => simp at h; subst h; simp [refsL, hg]
    | succ j => simp at h; simp [refsL, ih h]

theorem Trans.globs {D : Nat → Prop} (t : Trans w ι H w' ι' H' good) (h : GlobsOk w (dst D w ι H)) : GlobsOk w' (dst D w' ι' H') :=
  h.mono t.size (fun b hb _ => ⟨⟨hb.1, (t.stb b hb.2).1⟩, (t.stb b hb.2).2⟩)

/-- A row whose block has not turned. -/
theorem Trans.row {D : Nat → Prop} (t : Trans w ι H w' ι' H' good) {r : Row} {p : Option (Nat × Nat × Nat)} (hg : ∀ g, r.refs g = true → good g)
    (hb : ∀ b o c, p = some (b, o, c) → w'.heap[b]? = w.heap[b]?) (h : RowRep w (dst D w ι H) (sumOf ι H) p r) : RowRep w' (dst D w' ι' H') (sumOf ι' H') p r := by
  cases r with
  | seq u xs =>
    cases p with
    | none => exact h
    | some q =>
      obtain ⟨b, o, c⟩ := q
      obtain ⟨cur, e, h1, h2, h3, h4, h5⟩ := h
      refine ⟨cur, e, (hb b o c rfl).trans h1, h2, h3, h4, fun i x hx => ?_⟩
      obtain ⟨cs, hd, hc⟩ := h5 i x hx
      exact ⟨cs, t.dat hd, hc⟩
  | box cs =>
    obtain ⟨b, o, c, cur, e, rfl, h1, h2⟩ := h
    refine ⟨b, o, c, cur, e, rfl, (hb b o c rfl).trans h1, fun j a hj => ?_⟩
    obtain ⟨v, hv, h1c, hr⟩ := h2 j a hj
    exact ⟨v, hv, h1c, t.av (fun g hh => hg g (refsL_get hj hh)) hr⟩

/-- A draw. -/
theorem Inv.drew (h : Inv B s tmps w ι) (n : Nat) : Inv B s tmps { w with drawn := n } ι := by
  have t : Trans w ι s.heap { w with drawn := n } ι s.heap (fun _ => True) := ⟨Nat.le_refl _, fun b hb => ⟨hb, rfl⟩, fun _ _ => rfl⟩
  refine ⟨⟨h.kept.os, h.kept.tape, h.kept.output, h.kept.size, h.kept.block, h.kept.frz⟩, ⟨fun g r hr => ?_, h.hrep.sep, h.hrep.own⟩, h.stay, h.io, fun i a ha => ?_, t.globs h.glob⟩
  · exact t.row (fun _ _ => trivial) (fun _ _ _ _ => rfl) (h.hrep.rows g r hr)
  · obtain ⟨v, hv, hr⟩ := h.env i a ha
    exact ⟨v, hv, t.av (fun _ _ => trivial) hr⟩

/-! A new row -/

def setPlc (ι : Plc) (g : Nat) (p : Option (Nat × Nat × Nat)) : Plc := fun h => if h = g then p else ι h

theorem sumOf_set_ne {r : Row} {g h : Nat} {p : Option (Nat × Nat × Nat)} (hne : h ≠ g) : sumOf (setPlc ι g p) (H.set g (some r)) h = sumOf ι H h := by
  unfold sumOf setPlc
  rw [List.getElem?_set_ne (Ne.symm hne), if_neg hne]

theorem sumOf_set_self {r : Row} {g : Nat} {p : Option (Nat × Nat × Nat)} (hlt : g < H.length) : sumOf (setPlc ι g p) (H.set g (some r)) g = some ⟨p, r.cells, r.len⟩ := by
  simp [sumOf, setPlc, hlt]

/-- The general step: row g becomes r at place p; all references in the environment and the other rows are good. -/
theorem Inv.turn (h : Inv B s tmps w ι) {s' : St} {tmps' : Array Value} {g : Nat} {r : Row} {p : Option (Nat × Nat × Nat)} (good : Nat → Prop)
    (hg : s'.heap[g]? = some (some r))
    (hother : ∀ (h' : Nat) (r' : Row), h' ≠ g → s'.heap[h']? = some (some r') → ∃ r0, s.heap[h']? = some (some r0) ∧ r'.cells = r0.cells ∧ r'.len = r0.len ∧
      (∀ (S : Nat → Prop) (σ : Nat → Option Sum) (w : World) q, RowRep w S σ q r0 → RowRep w S σ q r') ∧ (∀ x, r'.refs x = true → good x))
    (hback : ∀ (h' : Nat) (r0 : Row), h' ≠ g → s.heap[h']? = some (some r0) → ∃ r', s'.heap[h']? = some (some r'))
    (hk : Kept (stab w ι s.heap) w w')
    (hoth : ∀ (h' : Nat) (r0 : Row) q, h' ≠ g → s.heap[h']? = some (some r0) → ι h' = some q → w'.heap[q.1]? = w.heap[q.1]?)
    (hplace : ∀ q, p = some q → (q.1 < w'.heap.size ∧ ¬ stab w ι s.heap q.1 ∧ ∀ (h' : Nat) (r0 : Row) q', h' ≠ g → s.heap[h']? = some (some r0) → ι h' = some q' → q'.1 ≠ q.1))
    (hgoodg : good g → sumOf (setPlc ι g p) s'.heap g = sumOf ι s.heap g)
    (hgood : ∀ x, good x → (∃ r0, s.heap[x]? = some (some r0)))
    (hrow : Trans w ι s.heap w' (setPlc ι g p) s'.heap good → RowRep w' (dst B.D w' (setPlc ι g p) s'.heap) (sumOf (setPlc ι g p) s'.heap) p r)
    (henv : ∀ (i : Nat) (a : AV), s'.env[i]? = some a → ∃ v, tmps'[i]? = some v ∧ ((∃ a0, AVRep w (dst B.D w ι s.heap) (sumOf ι s.heap) a0 v ∧ (a = a0 ∨ a = .undef) ∧ ∀ x, a.refs x = true → good x) ∨
      (Trans w ι s.heap w' (setPlc ι g p) s'.heap good → AVRep w' (dst B.D w' (setPlc ι g p) s'.heap) (sumOf (setPlc ι g p) s'.heap) a v)))
    (hio : g < B.k → sumOf (setPlc ι g p) s'.heap g = sumOf ι s.heap g) (hown : ∀ q, p = some q → B.D q.1) :
    Inv B s' tmps' w' (setPlc ι g p) := by
  have hst : ∀ b, stab w ι s.heap b → stab w' (setPlc ι g p) s'.heap b := by
    intro b hb
    refine ⟨Nat.lt_of_lt_of_le hb.1 hk.size, fun h' r' q hr' hq => ?_⟩
    by_cases hh : h' = g
    · subst hh
      simp only [setPlc, if_pos] at hq
      intro e
      exact (hplace q hq).2.1 (e ▸ hb)
    · obtain ⟨r0, hr0, _⟩ := hother h' r' hh hr'
      simp only [setPlc, if_neg hh] at hq
      exact hb.2 h' r0 q hr0 hq
  have ht : Trans w ι s.heap w' (setPlc ι g p) s'.heap good := by
    refine ⟨hk.size, fun b hb => ⟨hst b hb, hk.block b hb⟩, fun x hx => ?_⟩
    by_cases hxg : x = g
    · subst hxg; exact hgoodg hx
    · obtain ⟨r0, hr0⟩ := hgood x hx
      obtain ⟨r', hr'⟩ := hback x r0 hxg hr0
      obtain ⟨r1, hr1, hc, hl, _⟩ := hother x r' hxg hr'
      have : r1 = r0 := by rw [hr0] at hr1; simpa using hr1.symm
      subst this
      simp [sumOf, hr', hr0, setPlc, hxg, hc, hl]
  refine ⟨h.kept.trans hk h.stay, ⟨fun h' r' hr' => ?_, fun h1 h2 r1 r2 p1 p2 e1 e2 q1 q2 hne => ?_, fun h' r' q hr' hq => ?_⟩, fun b hb => hst b (h.stay b hb), fun h' hh' => ?_, fun i a ha => ?_, ht.globs h.glob⟩
  · by_cases hh : h' = g
    · subst hh
      rw [hg] at hr'
      simp at hr'; subst hr'
      simp only [setPlc, if_pos]
      exact hrow ht
    · obtain ⟨r0, hr0, _, _, hrep, hgd⟩ := hother h' r' hh hr'
      simp only [setPlc, if_neg hh]
      refine ht.row hgd (fun b o c hp => hoth h' r0 (b, o, c) hh hr0 hp) ?_
      exact hrep _ _ _ _ (h.hrep.rows h' r0 hr0)
  · by_cases hh1 : h1 = g
    · have hh2 : h2 ≠ g := fun e => hne (hh1.trans e.symm)
      obtain ⟨r0, hr0, _⟩ := hother h2 r2 hh2 e2
      simp only [setPlc, if_pos hh1, if_neg hh2] at q1 q2
      exact fun e => (hplace p1 q1).2.2 h2 r0 p2 hh2 hr0 q2 e.symm
    · obtain ⟨r0, hr0, _⟩ := hother h1 r1 hh1 e1
      by_cases hh2 : h2 = g
      · simp only [setPlc, if_neg hh1, if_pos hh2] at q1 q2
        exact (hplace p2 q2).2.2 h1 r0 p1 hh1 hr0 q1
      · obtain ⟨r0', hr0', _⟩ := hother h2 r2 hh2 e2
        simp only [setPlc, if_neg hh1, if_neg hh2] at q1 q2
        exact h.hrep.sep h1 h2 r0 r0' p1 p2 hr0 hr0' q1 q2 hne
  · by_cases hh : h' = g
    · simp only [setPlc, if_pos hh] at hq
      exact hown q hq
    · obtain ⟨r0, hr0, _⟩ := hother h' r' hh hr'
      simp only [setPlc, if_neg hh] at hq
      exact h.hrep.own h' r0 q hr0 hq
  · obtain ⟨hi, r0, hr0⟩ := h.io h' hh'
    by_cases hh : h' = g
    · subst hh
      exact ⟨(hio hh').trans hi, r, hg⟩
    · obtain ⟨r', hr'⟩ := hback h' r0 hh hr0
      obtain ⟨r1, hr1, hc, hl, _⟩ := hother h' r' hh hr'
      have he : r1 = r0 := by rw [hr0] at hr1; simpa using hr1.symm
      subst he
      exact ⟨by rw [← hi]; simp [sumOf, hr', hr0, setPlc, hh, hc, hl], r', hr'⟩
  · obtain ⟨v, hv, hr⟩ := henv i a ha
    refine ⟨v, hv, ?_⟩
    rcases hr with ⟨a0, hr0, rfl | rfl, hgd⟩ | hr
    · exact ht.av hgd hr0
    · trivial
    · exact hr ht

theorem sumOf_some {x : Nat} {q : Sum} (h : sumOf ι H x = some q) : ∃ r0, H[x]? = some (some r0) := by
  unfold sumOf at h
  split at h
  · exact ⟨_, by assumption⟩
  · cases h

theorem sumOf_of {x : Nat} {r : Row} (h : H[x]? = some (some r)) : sumOf ι H x = some ⟨ι x, r.cells, r.len⟩ := by
  simp [sumOf, h]

theorem RowRep.refs_some {S : Nat → Prop} {σ : Nat → Option Sum} {p : Option (Nat × Nat × Nat)} {r : Row} (h : RowRep w S σ p r) (x : Nat) (hx : r.refs x = true) : ∃ q, σ x = some q := by
  cases r with
  | seq t xs => simp [Row.refs] at hx
  | box cs =>
    obtain ⟨b, o, c, cur, e, _, _, h2⟩ := h
    simp only [Row.refs] at hx
    have : ∀ (cs : List AV), (∀ (j : Nat) (a : AV), cs[j]? = some a → ∃ v, AVRep w S σ a v) → refsL cs x = true → ∃ q, σ x = some q := by
      intro cs
      induction cs with
      | nil => intro _ h; simp [refsL] at h
      | cons a r ih =>
        intro hall h
        simp [refsL] at h
        rcases h with h | h
        · obtain ⟨v, hv⟩ := hall 0 a rfl
          exact AVRep.refs_some a v x hv h
        · exact ih (fun j b hb => hall (j + 1) b hb) h
    exact this cs (fun j a hj => by obtain ⟨v, _, _, hr⟩ := h2 j a hj; exact ⟨v, hr⟩) hx

/-- A new block, a new row. -/
theorem Inv.alloc (h : Inv B s tmps w ι) {g : Nat} (hfree : s.heap[g]? = some none) (r : Row) (cur : Array Value) (e : TypeId) (p : Option (Nat × Nat × Nat))
    (hp : p = none ∨ ∃ o c, p = some (w.heap.size, o, c))
    (hrow : Trans w ι s.heap (w.alloc (.cells cur e)) (setPlc ι g p) (s.heap.set g (some r)) (fun x => ∃ r0, s.heap[x]? = some (some r0)) →
      RowRep (w.alloc (.cells cur e)) (dst B.D (w.alloc (.cells cur e)) (setPlc ι g p) (s.heap.set g (some r))) (sumOf (setPlc ι g p) (s.heap.set g (some r))) p r) :
    Inv B (s.setRow g r) tmps (w.alloc (.cells cur e)) (setPlc ι g p) := by
  have hlt : g < s.heap.length := (List.getElem?_eq_some_iff.1 hfree).1
  have hold : ∀ b, b < w.heap.size → (w.alloc (.cells cur e)).heap[b]? = w.heap[b]? := fun b hb => heap_alloc_old w _ b hb
  have hsz : (w.alloc (.cells cur e)).heap.size = w.heap.size + 1 := by simp
  refine h.turn (s' := s.setRow g r) (g := g) (r := r) (p := p) (fun x => ∃ r0, s.heap[x]? = some (some r0)) (by simp [St.setRow, hlt]) ?_ ?_ ?_ ?_ ?_ ?_ (fun x hx => hx) hrow ?_ ?_ ?_
  · intro h' r' hne hr'
    simp only [St.setRow] at hr'
    rw [List.getElem?_set_ne (Ne.symm hne)] at hr'
    exact ⟨r', hr', rfl, rfl, fun _ _ _ _ hh => hh, fun x hx => by
      obtain ⟨q, hq⟩ := (h.hrep.rows h' r' hr').refs_some x hx
      exact sumOf_some hq⟩
  · intro h' r0 hne hr0
    exact ⟨r0, by simp only [St.setRow]; rw [List.getElem?_set_ne (Ne.symm hne)]; exact hr0⟩
  · exact ⟨rfl, rfl, rfl, by omega, fun b hb => hold b hb.1, frz_alloc _ _ _⟩
  · intro h' r0 q hne hr0 hq
    have := h.hrep.rows h' r0 hr0
    rw [hq] at this
    exact hold _ this.lt
  · intro q hq
    rcases hp with hp | ⟨o, c, hp⟩
    · rw [hp] at hq; cases hq
    · rw [hp] at hq; cases hq
      refine ⟨by omega, fun hs => Nat.lt_irrefl _ hs.1, fun h' r0 q' hne hr0 hq' => ?_⟩
      have := h.hrep.rows h' r0 hr0
      rw [hq'] at this
      exact Nat.ne_of_lt this.lt
  · rintro ⟨r0, hr0⟩; rw [hfree] at hr0; simp at hr0
  · intro i a ha
    obtain ⟨v, hv, hr⟩ := h.env i a ha
    exact ⟨v, hv, .inl ⟨a, hr, .inl rfl, fun x hx => by obtain ⟨q, hq⟩ := AVRep.refs_some a v x hr hx; exact sumOf_some hq⟩⟩
  · intro hk
    obtain ⟨_, r0, hr0⟩ := h.io g hk
    rw [hfree] at hr0; simp at hr0
  · intro q hq
    rcases hp with hp | ⟨o, c, hp⟩
    · rw [hp] at hq; cases hq
    · rw [hp] at hq; cases hq
      exact B.new _ h.kept.size

/-- A row is written; it keeps its place and its length. -/
theorem Inv.write (h : Inv B s tmps w ι) {g : Nat} {r0 : Row} (hg : s.heap[g]? = some (some r0)) (r : Row) (hc : r.cells = r0.cells) (hl : r.len = r0.len)
    {b o c : Nat} (hp : ι g = some (b, o, c)) {old : Array Value} {e : TypeId} (hb : w.heap[b]? = some (.cells old e (0, 0))) (cur : Array Value)
    (hrow : Trans w ι s.heap (w.setRow b cur) (setPlc ι g (some (b, o, c))) (s.heap.set g (some r)) (fun x => ∃ r0, s.heap[x]? = some (some r0)) →
      RowRep (w.setRow b cur) (dst B.D (w.setRow b cur) (setPlc ι g (some (b, o, c))) (s.heap.set g (some r))) (sumOf (setPlc ι g (some (b, o, c))) (s.heap.set g (some r))) (some (b, o, c)) r) :
    Inv B (s.setRow g r) tmps (w.setRow b cur) (setPlc ι g (some (b, o, c))) := by
  have hlt : g < s.heap.length := (List.getElem?_eq_some_iff.1 hg).1
  have hns : ¬ stab w ι s.heap b := fun hs => hs.2 g r0 _ hg hp rfl
  refine h.turn (s' := s.setRow g r) (g := g) (r := r) (p := some (b, o, c)) (fun x => ∃ r0, s.heap[x]? = some (some r0)) (by simp [St.setRow, hlt]) ?_ ?_ ?_ ?_ ?_ ?_ (fun x hx => hx) hrow ?_ ?_ ?_
  · intro h' r' hne hr'
    simp only [St.setRow] at hr'
    rw [List.getElem?_set_ne (Ne.symm hne)] at hr'
    exact ⟨r', hr', rfl, rfl, fun _ _ _ _ hh => hh, fun x hx => by
      obtain ⟨q, hq⟩ := (h.hrep.rows h' r' hr').refs_some x hx
      exact sumOf_some hq⟩
  · intro h' r0 hne hr0
    exact ⟨r0, by simp only [St.setRow]; rw [List.getElem?_set_ne (Ne.symm hne)]; exact hr0⟩
  · exact ⟨rfl, rfl, rfl, by simp, fun x hx => setRow_other w b x cur (fun e => hns (e ▸ hx)), frz_setRow _ _ _⟩
  · intro h' r1 q hne hr1 hq
    exact setRow_other w b q.1 cur (fun e => h.hrep.sep h' g r1 r0 q (b, o, c) hr1 hg hq hp hne e)
  · intro q hq
    cases hq
    refine ⟨by simp; exact (Array.getElem?_eq_some_iff.1 hb).1, hns, fun h' r1 q' hne hr1 hq' => ?_⟩
    exact h.hrep.sep h' g r1 r0 q' (b, o, c) hr1 hg hq' hp hne
  · intro _
    simp only [St.setRow]
    rw [sumOf_set_self hlt, sumOf_of hg, hp, hc, hl]
  · intro i a ha
    obtain ⟨v, hv, hr⟩ := h.env i a ha
    exact ⟨v, hv, .inl ⟨a, hr, .inl rfl, fun x hx => by obtain ⟨q, hq⟩ := AVRep.refs_some a v x hr hx; exact sumOf_some hq⟩⟩
  · intro _
    simp only [St.setRow]
    rw [sumOf_set_self hlt, sumOf_of hg, hp, hc, hl]
  · intro q hq
    cases hq
    exact h.hrep.own g r0 _ hg hp

end
end Go.Rv

namespace Go.Rv

def kindOk (P : Program) (t : TypeId) : TK → Prop
  | .int k => P.underlying t = some (.int k)
  | .str => P.underlying t = some .string
  | .slice e => P.underlying t = some (.slice e)
  | .arr n e => P.underlying t = some (.array n e)
  | .strct fs => ∃ f, P.underlying t = some (.struct f) ∧ f.toList.map (fun x => (x.offset, x.type)) = fs
  | .bool => P.underlying t = some .bool
  | .scalar => ∃ d, P.underlying t = some d ∧ (match d with | .struct _ | .array _ _ => false | _ => true) = true

structure TIOk (P : Program) (t : TypeId) (ti : TI) : Prop where
  info : ∃ i, P.info? t = some i ∧ i.size = ti.size ∧ i.bytes = ti.bytes ∧ ∃ z, i.zero = some z ∧ z.cells.toList = ti.zero
  kind : kindOk P t ti.kind

def TOk (P : Program) (T : TT) : Prop := ∀ t ti, T t = some ti → TIOk P t ti

section
variable {P : Program} {w w1 : World} {S : Nat → Prop} {σ : Nat → Option Sum}

theorem run_isAgg {t : TypeId} {ti : TI} (h : TIOk P t ti) : (isAgg t).run P w = .ok (isStruct ti.kind) w := by
  have hk := h.kind
  unfold isAgg
  cases hh : ti.kind with
  | int k => rw [hh] at hk; simp [Sem.run_bind, run_underlying hk, isStruct]
  | bool => rw [hh] at hk; simp [Sem.run_bind, run_underlying hk, isStruct]
  | str => rw [hh] at hk; simp [Sem.run_bind, run_underlying hk, isStruct]
  | slice e => rw [hh] at hk; simp [Sem.run_bind, run_underlying hk, isStruct]
  | arr n e => rw [hh] at hk; simp [Sem.run_bind, run_underlying hk, isStruct]
  | strct fs => rw [hh] at hk; obtain ⟨f, hk, _⟩ := hk; simp [Sem.run_bind, run_underlying hk, isStruct]
  | scalar =>
    rw [hh] at hk; obtain ⟨d, hk, hd⟩ := hk
    simp only [Sem.run_bind, run_underlying hk, Result.andThen_ok, isStruct]
    cases d <;> simp_all

theorem run_sizeOf {t : TypeId} {ti : TI} (h : TIOk P t ti) : (sizeOf t).run P w = .ok ti.size w := by
  obtain ⟨i, hi, hs, _⟩ := h.info
  simp [sizeOf, typeInfo, hi, hs]

theorem dat_int {k : IntKind} {n : Int} {v : Value} (h : AVRep w S σ (.dat (.int k) n) v) : v = .int k n := by
  simpa [AVRep, DCells] using h
theorem dat_bool {b : Bool} {v : Value} (h : AVRep w S σ (.dat .bool b) v) : v = .bool b := by
  simpa [AVRep, DCells] using h
theorem dat_str {b : ByteArray} {v : Value} (h : AVRep w S σ (.dat .str b) v) : v = .string b := by
  simpa [AVRep, DCells] using h
theorem rep_int (k : IntKind) (n : Int) : AVRep w S σ (.dat (.int k) n) (.int k n) := rfl
theorem rep_bool (b : Bool) : AVRep w S σ (.dat .bool b) (.bool b) := rfl
theorem rep_str (b : ByteArray) : AVRep w S σ (.dat .str b) (.string b) := rfl

theorem isBool_ok {T : TT} (hT : TOk P T) {t : TypeId} (h : isBool T t = true) : P.underlying t = some .bool := by
  unfold isBool at h
  split at h
  · rename_i ti hti
    have hk := (hT t ti hti).kind
    split at h
    · rename_i hh
      rw [hh] at hk
      exact hk
    · cases h
  · cases h

theorem run_equalIn_bool (d : Nat) {t : TypeId} (hu : P.underlying t = some .bool) (a b : Bool) : (Op.equalIn (d + 1) t (.bool a) (.bool b)).run P w1 = .ok (a == b) w1 := by
  simp only [Op.equalIn, Sem.run_bind, run_underlying hu, Result.andThen_ok, Sem.run_pure]

theorem run_equal_bool {t : TypeId} (hu : P.underlying t = some .bool) (a b : Bool) : (Op.equal t (.bool a) (.bool b)).run P w1 = .ok (a == b) w1 := run_equalIn_bool 9999 hu a b

theorem run_eql_bool {t : TypeId} (hu : P.underlying t = some .bool) (a b : Bool) : (binOp .eql t (.bool a) (.bool b)).run P w1 = .ok (.bool (a == b)) w1 := by
  show (do let r ← Op.equal t (.bool a) (.bool b); pure (Value.bool r) : Sem Value).run P w1 = _
  simp only [Sem.run_bind, run_equal_bool hu, Result.andThen_ok, Sem.run_pure]

theorem run_neq_bool {t : TypeId} (hu : P.underlying t = some .bool) (a b : Bool) : (binOp .neq t (.bool a) (.bool b)).run P w1 = .ok (.bool (a != b)) w1 := by
  show (do let r ← Op.equal t (.bool a) (.bool b); pure (Value.bool (!r)) : Sem Value).run P w1 = _
  simp only [Sem.run_bind, run_equal_bool hu, Result.andThen_ok, Sem.run_pure]
  rfl

theorem abin_ok {β : Type} {ib : Bool} {op : BinOp} {x y : AV} {K : AV → Option β} {r : β} (t : TypeId) (hib : ib = true → P.underlying t = some .bool) (h : abin (optAlg β) ib op x y K = some r) {vx vy : Value} (hx : AVRep w S σ x vx) (hy : AVRep w S σ y vy) (ox oy : Operand) :
    ∃ a v, K a = some r ∧ AVRep w S σ a v ∧ (do eqGuard op t ox oy vx vy; binOp op t vx vy : Sem Value).run P w1 = .ok v w1 := by
  unfold abin at h
  split at h
  · rename_i k a k' b
    have ex := dat_int hx
    have ey := dat_int hy
    subst ex ey
    have hg : (eqGuard op t ox oy (.int k a) (.int k' b)).run P w1 = .ok () w1 := by
      unfold eqGuard; cases op <;> simp
    simp only [Sem.run_bind, hg, Result.andThen_ok]
    split at h
    · simp only [optAlg, shl] at h
      split at h
      · cases h
      · rename_i hb
        exact ⟨_, _, h, rep_int _ _, by simp [binOp, Op.shift, hb]⟩
    · simp only [optAlg, shr] at h
      split at h
      · cases h
      · rename_i hb
        exact ⟨_, _, h, rep_int _ _, by simp [binOp, Op.shift, hb]⟩
    · split at h
      · rename_i hk
        subst hk
        split at h
        · exact ⟨_, _, h, rep_int _ _, by simp [binOp, Op.intArith]⟩
        · exact ⟨_, _, h, rep_int _ _, by simp [binOp, Op.intArith]⟩
        · exact ⟨_, _, h, rep_int _ _, by simp [binOp, Op.intArith]⟩
        · simp only [optAlg, quo] at h
          split at h
          · cases h
          · rename_i hb
            exact ⟨_, _, h, rep_int _ _, by simp [binOp, Op.intDiv, hb]⟩
        · simp only [optAlg, rem] at h
          split at h
          · cases h
          · rename_i hb
            exact ⟨_, _, h, rep_int _ _, by simp [binOp, Op.intDiv, hb]⟩
        · exact ⟨_, _, h, rep_int _ _, by simp [binOp, Op.intBits, iand]⟩
        · exact ⟨_, _, h, rep_int _ _, by simp [binOp, Op.intBits, ior]⟩
        · exact ⟨_, _, h, rep_int _ _, by simp [binOp, Op.intBits, ixor]⟩
        · exact ⟨_, _, h, rep_int _ _, by simp [binOp, Op.intBits, iandn]⟩
        · exact ⟨_, _, h, rep_bool _, by simp [binOp, Op.intCmp]⟩
        · exact ⟨_, _, h, rep_bool _, by simp [binOp, Op.intCmp]⟩
        · exact ⟨_, _, h, rep_bool _, by simp [binOp, Op.intCmp]⟩
        · exact ⟨_, _, h, rep_bool _, by simp [binOp, Op.intCmp]⟩
        · exact ⟨_, _, h, rep_bool _, by simp [binOp, Op.intCmp]⟩
        · exact ⟨_, _, h, rep_bool _, by simp [binOp, Op.intCmp]⟩
        · cases h
      · cases h
  · rename_i a b
    have ex := dat_str hx
    have ey := dat_str hy
    subst ex ey
    have hg : (eqGuard op t ox oy (.string a) (.string b)).run P w1 = .ok () w1 := by
      unfold eqGuard; cases op <;> simp
    simp only [Sem.run_bind, hg, Result.andThen_ok]
    split at h
    · simp only [optAlg, cat] at h
      split at h
      · rename_i hl
        refine ⟨_, _, h, rep_str _, ?_⟩
        have h2 : ¬ (((a.size + b.size : Nat) : Int) > IntKind.i64.max) := by
          have : IntKind.i64.max = 9223372036854775807 := by decide
          rw [this]; simp only [maxLen] at hl; omega
        simp only [binOp, Op.stringOp, if_neg h2]
        simp
      · cases h
    · exact ⟨_, _, h, rep_bool _, by simp [binOp, Op.stringOp, seqs]⟩
    · exact ⟨_, _, h, rep_bool _, by simp [binOp, Op.stringOp, seqs]⟩
    · cases h
  · rename_i a b
    have ex := dat_bool hx
    have ey := dat_bool hy
    subst ex ey
    have hg : (eqGuard op t ox oy (.bool a) (.bool b)).run P w1 = .ok () w1 := by
      unfold eqGuard; cases op <;> simp
    simp only [Sem.run_bind, hg, Result.andThen_ok]
    split at h
    · have hu := hib rfl
      split at h
      · exact ⟨_, _, h, rep_bool _, run_eql_bool hu a b⟩
      · exact ⟨_, _, h, rep_bool _, run_neq_bool hu a b⟩
      · cases h
    · cases h
  · cases h

theorem aun_ok {β : Type} {op : UnOp} {x : AV} {K : AV → Option β} {r : β} (h : aun (optAlg β) op x K = some r) {vx : Value} (hx : AVRep w S σ x vx) :
    ∃ a v, K a = some r ∧ AVRep w S σ a v ∧ (Op.unary op vx).run P w1 = .ok v w1 := by
  unfold aun at h
  split at h
  · have ex := dat_bool hx
    subst ex
    exact ⟨_, _, h, rep_bool _, by simp [Op.unary]⟩
  · have ex := dat_int hx
    subst ex
    exact ⟨_, _, h, rep_int _ _, by simp [Op.unary, Op.intArith]⟩
  · cases h

/-! Leaves of a datum -/

theorem AVsRep.append {a b : List AV} {va vb : List Value} (h1 : AVsRep w S σ a va) (h2 : AVsRep w S σ b vb) : AVsRep w S σ (a ++ b) (va ++ vb) := by
  induction a generalizing va with
  | nil => simp only [AVsRep] at h1; subst h1; exact h2
  | cons x r ih => obtain ⟨v, vr, rfl, hv, hr⟩ := h1; exact ⟨v, vr ++ vb, rfl, hv, ih hr⟩

theorem AVsRep.drop : ∀ (n : Nat) {a : List AV} {va : List Value}, AVsRep w S σ a va → AVsRep w S σ (a.drop n) (va.drop n)
  | 0, _, _, h => h
  | n + 1, [], va, h => by simp only [AVsRep] at h; subst h; rfl
  | n + 1, x :: r, va, ⟨v, vr, e, _, hr⟩ => by subst e; exact AVsRep.drop n hr

theorem AVsRep.take : ∀ (n : Nat) {a : List AV} {va : List Value}, AVsRep w S σ a va → AVsRep w S σ (a.take n) (va.take n)
  | 0, _, _, _ => rfl
  | n + 1, [], va, h => by simp only [AVsRep] at h; subst h; rfl
  | n + 1, x :: r, va, ⟨v, vr, e, hv, hr⟩ => by subst e; exact ⟨v, vr.take n, rfl, hv, AVsRep.take n hr⟩

theorem AVsRep.set : ∀ (n : Nat) {a : List AV} {va : List Value} {x : AV} {v : Value}, AVsRep w S σ a va → AVRep w S σ x v → AVsRep w S σ (a.set n x) (va.set n v)
  | _, [], va, _, _, h, _ => by simp only [AVsRep] at h; subst h; simp [AVsRep]
  | 0, y :: r, va, x, v, ⟨u, vr, e, _, hr⟩, hv => by subst e; exact ⟨v, vr, rfl, hv, hr⟩
  | n + 1, y :: r, va, x, v, ⟨u, vr, e, hu, hr⟩, hv => by subst e; exact ⟨u, vr.set n v, rfl, hu, AVsRep.set n hr hv⟩

theorem leaves_rep : ∀ (t : Ty) (x : t.den) (cs : List Value), DCells w S t x cs → AVsRep w S σ (leaves t x) cs
  | .int _, _, cs, h => by have e : cs = [.int _ _] := h; subst e; exact ⟨_, [], rfl, rfl, rfl⟩
  | .bool, _, cs, h => by have e : cs = [.bool _] := h; subst e; exact ⟨_, [], rfl, rfl, rfl⟩
  | .str, _, cs, h => by have e : cs = [.string _] := h; subst e; exact ⟨_, [], rfl, rfl, rfl⟩
  | .unit, _, cs, h => by have e : cs = [] := h; subst e; rfl
  | .pair a b, x, cs, ⟨c1, c2, e, h1, h2⟩ => by subst e; exact (leaves_rep a x.1 c1 h1).append (leaves_rep b x.2 c2 h2)
  | .list t, xs, cs, h => by
    have h' := h
    obtain ⟨a, cap, e, _, _⟩ := h'
    subst e
    exact ⟨_, [], rfl, h, rfl⟩

end
end Go.Rv

set_option linter.unusedSimpArgs false
set_option linter.unusedVariables false
namespace Go.Rv

theorem addr_add (b o j : Nat) : (⟨b, o, none⟩ : Addr).add j = ⟨b, o + j, none⟩ := by
  unfold Addr.add; split <;> simp_all

section
variable {P : Program} {T : TT} {B : Base} {s : St} {tmps : Array Value} {w : World} {ι : Plc}

theorem box_list {S : Nat → Prop} {σ : Nat → Option Sum} {cur : Array Value} : ∀ (cs : List AV) (o : Nat),
    (∀ (j : Nat) (a : AV), cs[j]? = some a → ∃ v, cur[o + j]? = some v ∧ v.oneCell' = true ∧ AVRep w S σ a v) →
    ∃ vs, AVsRep w S σ cs vs ∧ (∀ (j : Nat) (v : Value), vs[j]? = some v → cur[o + j]? = some v) ∧ (∀ v ∈ vs, v.oneCell' = true)
  | [], _, _ => ⟨[], rfl, by simp, by simp⟩
  | a :: r, o, h => by
    obtain ⟨v, hv, h1, hr⟩ := h 0 a rfl
    obtain ⟨vs, h2, h3, h4⟩ := box_list r (o + 1) (fun j b hb => by
      obtain ⟨u, hu, h1', hr'⟩ := h (j + 1) b (by simpa using hb)
      exact ⟨u, by rw [← hu]; congr 1; omega, h1', hr'⟩)
    refine ⟨v :: vs, ⟨v, vs, rfl, hr, h2⟩, fun j u hu => ?_, fun u hu => ?_⟩
    · cases j with
      | zero => simp at hu; subst hu; exact hv
      | succ j => simp at hu; rw [← h3 j u hu]; congr 1; omega
    · rcases List.mem_cons.1 hu with rfl | hu
      · exact h1
      · exact h4 u hu

theorem cells_of_block {b : Nat} {cur : Array Value} {e : TypeId} {fr : Nat × Nat} (hb : w.heap[b]? = some (.cells cur e fr)) (j : Nat) : w.cell? ⟨b, j, none⟩ = cur[j]? := by
  simp [World.cell?, hb]

/-- What is read of cells that bear a list of values. -/
theorem fin_ok {β : Type} {t : TypeId} {ti : TI} (hti : TIOk P t ti) {S : Nat → Prop} {σ : Nat → Option Sum} {as : List AV} {cs : List Value} {b o off : Nat} {K : AV → Option β} {r : β}
    (h : (if isStruct ti.kind then (if off + ti.size ≤ as.length then K (.agg ((as.drop off).take ti.size)) else none) else match as[off]? with | some a => K a | none => none) = some r)
    (hrep : AVsRep w S σ as cs) (hcs : HasCells w b o cs) :
    ∃ a v, K a = some r ∧ AVRep w S σ a v ∧ (loadVar t ⟨b, o + off, none⟩).run P w = .ok v w := by
  have hlen := hrep.length
  simp only [loadVar, Sem.run_bind, run_isAgg hti, Result.andThen_ok]
  split at h
  · rename_i hs
    split at h
    · rename_i hle
      have hl : ((cs.drop off).take ti.size).length = ti.size := by simp; omega
      refine ⟨_, .agg ((cs.drop off).take ti.size).toArray, h, ⟨_, rfl, (hrep.drop off).take ti.size⟩, ?_⟩
      have hload := run_loadCells_list (P := P) w ⟨b, o + off, none⟩ ((cs.drop off).take ti.size) (fun j v hv => by
        rw [addr_add]
        rw [List.getElem?_take] at hv
        split at hv
        · rw [List.getElem?_drop] at hv
          have := hcs _ v hv
          rw [← this]; congr 2; omega
        · cases hv)
      rw [hl] at hload
      simp [hs, Sem.run_bind, run_sizeOf hti, hload]
    · cases h
  · rename_i hs
    split at h
    · rename_i a ha
      obtain ⟨v, hv, hr⟩ := hrep.get _ _ off a ha
      refine ⟨a, v, h, hr, ?_⟩
      have := hcs off v hv
      simp only [hs]
      simp [load, Sem.run, this]
    · cases h

theorem seq_cells {h i : Nat} {u : Ty} {xs : List u.den} {x : u.den} (hH : HRep B.D w ι s.heap) (hr : s.heap[h]? = some (some (.seq u xs))) {b o c : Nat} (hp : ι h = some (b, o, c)) (hx : xs[i]? = some x) :
    ∃ cs, DCells w (dst B.D w ι s.heap) u x cs ∧ HasCells w b (o + i * u.cells) cs := by
  have := hH.rows h _ hr
  rw [hp] at this
  obtain ⟨cur, e, h1, h2, h3, h4, h5⟩ := this
  obtain ⟨cs, hd, hc⟩ := h5 i x hx
  exact ⟨cs, hd, fun j v hv => by rw [cells_of_block h1]; exact hc j v hv⟩

theorem row_eq {h : Nat} {r : Row} (hr : s.row h = some r) : s.heap[h]? = some (some r) := by
  unfold St.row at hr
  split at hr
  · rename_i r' h'; simp at hr; subst hr; exact h'
  · cases hr

theorem toDat_rep {S : Nat → Prop} {σ : Nat → Option Sum} {u : Ty} {a : AV} {x : u.den} {v : Value} (h : toDat u a = some x) (hr : AVRep w S σ a v) : DCells w S u x [v] := by
  cases a with
  | dat t y =>
    simp only [toDat, castD] at h
    split at h
    · rename_i e; subst e; simp at h; subst h; exact hr
    · cases h
  | nils =>
    simp only [toDat] at h
    cases u <;> simp at h
    subst h
    obtain ⟨a, rfl⟩ := hr
    exact ⟨a, 0, rfl, Nat.le_refl _, .inl rfl⟩
  | _ => simp [toDat] at h

theorem prefDat_get {u : Ty} : ∀ {cs : List AV} {i : Nat} {x : u.den}, (prefDat u cs)[i]? = some x → ∃ a, cs[i]? = some a ∧ toDat u a = some x
  | [], _, _, h => by simp [prefDat] at h
  | a :: r, i, x, h => by
    unfold prefDat at h
    split at h
    · rename_i y hy
      cases i with
      | zero => simp at h; subst h; exact ⟨a, rfl, hy⟩
      | succ i => simp at h; obtain ⟨b, hb, hx⟩ := prefDat_get h; exact ⟨b, by simpa using hb, hx⟩
    · simp at h

theorem prefDat_le (u : Ty) : ∀ (cs : List AV), (prefDat u cs).length ≤ cs.length
  | [] => by simp [prefDat]
  | a :: r => by
    unfold prefDat
    split
    · simpa using prefDat_le u r
    · simp

theorem aload_ok (hT : TOk P T) (hI : Inv B s tmps w ι) {β : Type} {t : TypeId} {p : AV} {K : AV → Option β} {r : β} (h : aload (optAlg β) T s t p K = some r) {vp : Value}
    (hp : AVRep w (dst B.D w ι s.heap) (sumOf ι s.heap) p vp) :
    ∃ a v, K a = some r ∧ AVRep w (dst B.D w ι s.heap) (sumOf ι s.heap) a v ∧ (Instr.loadAt t vp).run P w = .ok v w := by
  unfold aload at h
  split at h
  · cases h
  · rename_i ti hti
    have hti := hT t ti hti
    simp only [optAlg] at h
    split at h
    · rename_i u x off
      obtain ⟨b, o, cs, rfl, _, _, hd, hc⟩ := hp
      obtain ⟨a, v, h1, h2, h3⟩ := fin_ok hti h (leaves_rep u x cs hd) hc
      exact ⟨a, v, h1, h2, by simp [Instr.loadAt, Instr.sureAddr, Sem.run_bind, h3]⟩
    · rename_i g i off
      obtain ⟨q, b, o, c, hq, hpl, hlt, rfl⟩ := hp
      split at h
      · rename_i u xs hrow
        have hr := row_eq hrow
        cases hx : xs[i]? with
        | none => simp [hx] at h
        | some x =>
          simp only [hx, Option.bind_some] at h
          have hs := sumOf_of (ι := ι) hr
          rw [hq] at hs
          simp at hs
          subst hs
          obtain ⟨cs, hd, hc⟩ := seq_cells hI.hrep hr hpl hx
          obtain ⟨a, v, h1, h2, h3⟩ := fin_ok hti h (leaves_rep u x cs hd) hc
          exact ⟨a, v, h1, h2, by simp only [Row.cells]; simp [Instr.loadAt, Instr.sureAddr, Sem.run_bind, h3]⟩
      · rename_i cs hrow
        have hr := row_eq hrow
        split at h
        · rename_i u hu
          cases hx : (prefDat u (cs.drop off))[i]? with
          | none => simp [hx] at h
          | some x =>
            simp only [hx, Option.bind_some] at h
            have hs := sumOf_of (ι := ι) hr
            rw [hq] at hs
            simp at hs
            subst hs
            obtain ⟨b', o', c', cur, e, he, hb, hall⟩ := hI.hrep.rows g _ hr
            simp only at hpl
            rw [hpl] at he
            cases he
            obtain ⟨a, ha, hax⟩ := prefDat_get hx
            rw [List.getElem?_drop] at ha
            obtain ⟨v, hv, _, hrv⟩ := hall _ a ha
            have hd := toDat_rep hax hrv
            obtain ⟨a1, v1, h1, h2, h3⟩ := fin_ok (cs := [v]) (b := b) (o := o + (off + i)) hti h ⟨v, [], rfl, hd, rfl⟩ (by
              intro j y hy
              have hj : j = 0 := by
                have := (List.getElem?_eq_some_iff.1 hy).1
                simp at this
                exact this
              subst hj
              simp at hy
              subst hy
              rw [cells_of_block hb]
              exact hv)
            refine ⟨a1, v1, h1, h2, ?_⟩
            have e3 : o + i * 1 + off = o + (off + i) + 0 := by omega
            simp only [Row.cells]
            simp only [e3]
            simp [Instr.loadAt, Instr.sureAddr, Sem.run_bind]
            simpa using h3
        · cases h
      · cases h
    · rename_i g off
      obtain ⟨q, b, o, c, hq, hpl, rfl⟩ := hp
      split at h
      · rename_i cs hrow
        have hr := row_eq hrow
        have hs := sumOf_of (ι := ι) hr
        rw [hq] at hs
        simp at hs
        subst hs
        obtain ⟨b', o', c', cur, e, he, hb, hall⟩ := hI.hrep.rows g _ hr
        simp only at hpl
        rw [hpl] at he
        cases he
        obtain ⟨vs, hv1, hv2, _⟩ := box_list cs o hall
        obtain ⟨a, v, h1, h2, h3⟩ := fin_ok hti h hv1 (b := b) (o := o) (fun j v hv => by rw [cells_of_block hb]; exact hv2 j v hv)
        exact ⟨a, v, h1, h2, by simp [Instr.loadAt, Instr.sureAddr, Sem.run_bind, h3]⟩
      · cases h
    · cases h

theorem afieldAddr_ok (hT : TOk P T) {β : Type} {S : Nat → Prop} {σ : Nat → Option Sum} {t : TypeId} {x : AV} {f : Nat} {K : AV → Option β} {r : β} (h : afieldAddr (optAlg β) T t x f K = some r) {vx : Value}
    (hx : AVRep w S σ x vx) : ∃ a v, K a = some r ∧ AVRep w S σ a v ∧ (Instr.fieldAt t vx f).run P w = .ok v w := by
  unfold afieldAddr at h
  split at h
  · rename_i ti hti
    have hti := hT t ti hti
    split at h
    · rename_i fs hfs
      have hk := hti.kind
      rw [hfs] at hk
      obtain ⟨fields, hu, hmap⟩ := hk
      split at h
      · rename_i off ft hf
        have hfield : ∃ fd, fields[f]? = some fd ∧ fd.offset = off ∧ fd.type = ft := by
          rw [← hmap] at hf
          simp only [List.getElem?_map, Array.getElem?_toList, Option.map_eq_some_iff] at hf
          obtain ⟨fd, h1, h2⟩ := hf
          simp at h2
          exact ⟨fd, h1, h2.1, h2.2⟩
        obtain ⟨fd, hfd, rfl, rfl⟩ := hfield
        split at h
        · rename_i fi hfi
          have hfi := hT _ fi hfi
          split at h
          · cases h
          · rename_i hne
            have hplace : ∀ b o, (fieldPlace ⟨b, o, none⟩ fd).run P w = .ok ⟨b, o + fd.offset, none⟩ w := by
              intro b o
              simp only [fieldPlace, Sem.run_bind, run_sizeOf hfi, Result.andThen_ok, hne, if_false]
              simp [addr_add]
            split at h
            · rename_i g o
              obtain ⟨q, b, o', c, hq, hpl, rfl⟩ := hx
              exact ⟨_, .pointer (some ⟨b, o' + (o + fd.offset), none⟩), h, ⟨q, b, o', c, hq, hpl, rfl⟩, by
                simp [Instr.fieldAt, Sem.run_bind, run_underlying hu, hfd, Instr.sureAddr, hplace, Nat.add_assoc]⟩
            · rename_i g i o
              obtain ⟨q, b, o', c, hq, hpl, hlt, rfl⟩ := hx
              exact ⟨_, .pointer (some ⟨b, o' + i * q.cells + (o + fd.offset), none⟩), h, ⟨q, b, o', c, hq, hpl, hlt, rfl⟩, by
                simp [Instr.fieldAt, Sem.run_bind, run_underlying hu, hfd, Instr.sureAddr, hplace, Nat.add_assoc]⟩
            · rename_i u y o
              obtain ⟨b, o', cs, rfl, h1, h2, h3, h4⟩ := hx
              exact ⟨_, .pointer (some ⟨b, o' + (o + fd.offset), none⟩), h, ⟨b, o', cs, rfl, h1, h2, h3, h4⟩, by
                simp [Instr.fieldAt, Sem.run_bind, run_underlying hu, hfd, Instr.sureAddr, hplace, Nat.add_assoc]⟩
            · cases h
        · cases h
      · cases h
    · cases h
  · cases h

theorem afield_ok (hT : TOk P T) {β : Type} {S : Nat → Prop} {σ : Nat → Option Sum} {t : TypeId} {x : AV} {f : Nat} {K : AV → Option β} {r : β} (h : afield (optAlg β) T t x f K = some r) {vx : Value}
    (hx : AVRep w S σ x vx) : ∃ a v, K a = some r ∧ AVRep w S σ a v ∧ (Instr.field t vx f).run P w = .ok v w := by
  unfold afield at h
  split at h
  · rename_i ti cs hti
    have hti := hT t ti hti
    obtain ⟨vs, rfl, hrep⟩ := hx
    have hlen := hrep.length
    split at h
    · rename_i fs hfs
      have hk := hti.kind
      rw [hfs] at hk
      obtain ⟨fields, hu, hmap⟩ := hk
      split at h
      · rename_i off ft hf
        have hfield : ∃ fd, fields[f]? = some fd ∧ fd.offset = off ∧ fd.type = ft := by
          rw [← hmap] at hf
          simp only [List.getElem?_map, Array.getElem?_toList, Option.map_eq_some_iff] at hf
          obtain ⟨fd, h1, h2⟩ := hf
          simp at h2
          exact ⟨fd, h1, h2.1, h2.2⟩
        obtain ⟨fd, hfd, rfl, rfl⟩ := hfield
        split at h
        · rename_i fi hfi
          have hfi := hT _ fi hfi
          split at h
          · rename_i hs
            split at h
            · rename_i hle
              refine ⟨_, .agg ((vs.drop fd.offset).take fi.size).toArray, h, ⟨_, rfl, (hrep.drop _).take _⟩, ?_⟩
              simp [Instr.field, Sem.run_bind, run_underlying hu, hfd, asAgg, part, run_isAgg hfi, hs, run_sizeOf hfi]
            · cases h
          · rename_i hs
            split at h
            · rename_i a ha
              obtain ⟨v, hv, hr⟩ := hrep.get _ _ _ a ha
              refine ⟨a, v, h, hr, ?_⟩
              simp [Instr.field, Sem.run_bind, run_underlying hu, hfd, asAgg, part, run_isAgg hfi, hs, hv]
            · cases h
        · cases h
      · cases h
    · cases h
  · cases h

end
end Go.Rv

set_option linter.unusedSimpArgs false
set_option linter.unusedVariables false
namespace Go.Rv

section
variable {P : Program} {T : TT} {B : Base} {s : St} {tmps : Array Value} {w : World} {ι : Plc}

theorem sum_of_row {g : Nat} {u : Ty} {xs : List u.den} {q : Sum} (hr : s.heap[g]? = some (some (.seq u xs))) (hq : sumOf ι s.heap g = some q) : q = ⟨ι g, u.cells, xs.length⟩ := by
  have := sumOf_of (ι := ι) hr
  rw [hq] at this
  exact Option.some.inj this

/-- An address into a slice. -/
theorem indexAt_slice {t e : TypeId} {ti ie : TI} (hti : TIOk P t ti) (hk : ti.kind = .slice e) (hie : TIOk P e ie) (b o len cap : Nat) (k : IntKind) (n : Int) (h0 : 0 ≤ n) (h1 : n < (len : Int)) :
    (Instr.indexAt t (.slice (some ⟨b, o, none⟩) len cap) (.int k n)).run P w = .ok (.pointer (some ⟨b, o + n.toNat * ie.size, none⟩)) w := by
  have hu : P.underlying t = some (.slice e) := by have := hti.kind; rw [hk] at this; exact this
  simp [Instr.indexAt, asIntOf, Sem.run_bind, run_underlying hu, h0, h1, run_sizeOf hie, addr_add]

theorem aindexAddr_ok (hT : TOk P T) (hI : Inv B s tmps w ι) {β : Type} {t : TypeId} {x i : AV} {K : AV → Option β} {r : β} (h : aindexAddr (optAlg β) T s t x i K = some r) {vx vi : Value}
    (hx : AVRep w (dst B.D w ι s.heap) (sumOf ι s.heap) x vx) (hi : AVRep w (dst B.D w ι s.heap) (sumOf ι s.heap) i vi) :
    ∃ a v, K a = some r ∧ AVRep w (dst B.D w ι s.heap) (sumOf ι s.heap) a v ∧ (Instr.indexAt t vx vi).run P w = .ok v w := by
  unfold aindexAddr at h
  split at h
  · rename_i k n
    have e := dat_int hi
    subst e
    split at h
    · rename_i ti hti
      have hti := hT t ti hti
      split at h
      · rename_i e hke
        split at h
        · rename_i ie hie
          have hie := hT e ie hie
          simp only [optAlg] at h
          split at h
          · rename_i u xs
            split at h
            · rename_i hc
              cases hx' : idx xs n with
              | none => simp [hx'] at h
              | some y =>
                simp only [hx', Option.bind_some] at h
                unfold idx at hx'
                split at hx'
                · rename_i h0
                  obtain ⟨a, cap, e1, hcap, hr⟩ := hx
                  simp at e1
                  subst e1
                  have hlt : n.toNat < xs.length := (List.getElem?_eq_some_iff.1 hx').1
                  rcases hr with rfl | ⟨b, o, rfl, hS, hbl, hall⟩
                  · simp at hlt
                  · obtain ⟨cs, hd, hh⟩ := hall _ y hx'
                    exact ⟨_, .pointer (some ⟨b, o + n.toNat * ie.size, none⟩), h, ⟨b, o + n.toNat * u.cells, cs, by simp [hc], hS, hbl, hd, hh⟩,
                      indexAt_slice hti hke hie b o xs.length cap k n h0 (by omega)⟩
                · cases hx'
            · cases h
          · rename_i g
            split at h
            · rename_i u xs hrow
              have hr := row_eq hrow
              split at h
              · rename_i hc
                obtain ⟨q, hq, hw⟩ := hx
                have hq' := sum_of_row hr hq
                subst hq'
                unfold inb at h
                split at h
                · rename_i hn
                  simp only [Option.bind_some] at h
                  unfold WinAt at hw
                  simp only at hw
                  split at hw
                  · rename_i b o c hp
                    obtain ⟨hle, hw⟩ := hw
                    rcases hw with rfl | ⟨hc0, _, _⟩
                    · exact ⟨_, .pointer (some ⟨b, o + n.toNat * ie.size, none⟩), h, ⟨_, b, o, c, hq, hp, by simp; omega, by simp [hc]⟩, by
                        have := indexAt_slice (w := w) hti hke hie b (o + 0 * u.cells) xs.length (c - 0) k n hn.1 hn.2
                        simpa [hc] using this⟩
                    · omega
                  · omega
                · simp at h
              · cases h
            · cases h
          · rename_i g off len
            split at h
            · rename_i u xs hrow
              have hr := row_eq hrow
              split at h
              · rename_i hc
                obtain ⟨q, hq, hwl, hw⟩ := hx
                have hq' := sum_of_row hr hq
                subst hq'
                unfold inb at h
                split at h
                · rename_i hn
                  simp only [Option.bind_some] at h
                  unfold WinAt at hw
                  simp only at hw
                  split at hw
                  · rename_i b o c hp
                    obtain ⟨hle, hw⟩ := hw
                    rcases hw with rfl | ⟨hc0, _, _⟩
                    · exact ⟨_, .pointer (some ⟨b, o + (off + n.toNat) * ie.size, none⟩), h, ⟨_, b, o, c, hq, hp, by simp at hwl ⊢; omega, by simp [hc]⟩, by
                        have := indexAt_slice (w := w) hti hke hie b (o + off * u.cells) len (c - off) k n hn.1 hn.2
                        simpa [hc, Nat.add_mul, Nat.add_assoc] using this⟩
                    · omega
                  · omega
                · simp at h
              · cases h
            · cases h
          · cases h
        · cases h
      · rename_i c0 e hke
        split at h
        · rename_i ie hie
          have hie := hT e ie hie
          have hu : P.underlying t = some (.array c0 e) := by have := hti.kind; rw [hke] at this; exact this
          simp only [optAlg] at h
          split at h
          · rename_i g off
            split at h
            · rename_i u xs hrow
              have hr := row_eq hrow
              split at h
              · rename_i hc
                obtain ⟨hc, h00⟩ := hc
                subst h00
                unfold same inb at h
                split at h
                · rename_i hlen
                  simp only [Option.bind_some] at h
                  split at h
                  · rename_i hn
                    simp only [Option.bind_some] at h
                    obtain ⟨q, b, o, c, hq, hp, rfl⟩ := hx
                    have hq' := sum_of_row hr hq
                    subst hq'
                    exact ⟨_, .pointer (some ⟨b, o + n.toNat * ie.size, none⟩), h, ⟨_, b, o, c, hq, hp, by simp; omega, by simp [hc]⟩, by
                      simp [Instr.indexAt, asIntOf, Sem.run_bind, run_underlying hu, hn.1, hn.2, run_sizeOf hie, addr_add, Instr.sureAddr]⟩
                  · simp at h
                · simp at h
              · cases h
            · rename_i cs hrow
              have hr := row_eq hrow
              split at h
              · rename_i hc
                obtain ⟨hc1, hc2⟩ := hc
                unfold inb at h
                split at h
                · rename_i hn
                  simp only [Option.bind_some] at h
                  obtain ⟨q, b, o, c, hq, hp, rfl⟩ := hx
                  have hs := sumOf_of (ι := ι) hr
                  rw [hq] at hs
                  have hs := Option.some.inj hs
                  subst hs
                  exact ⟨_, .pointer (some ⟨b, o + off + n.toNat * ie.size, none⟩), h, ⟨_, b, o, c, hq, hp, by simp only [Row.len]; omega, by simp [Row.cells, hc1]; omega⟩, by
                    simp [Instr.indexAt, asIntOf, Sem.run_bind, run_underlying hu, hn.1, hn.2, run_sizeOf hie, addr_add, Instr.sureAddr]⟩
                · simp at h
              · cases h
            · cases h
          · rename_i u xs
            split at h
            · rename_i hc
              unfold same idx at h
              split at h
              · rename_i hlen
                simp only [Option.bind_some] at h
                split at h
                · rename_i hn
                  cases hx2 : xs[n.toNat]? with
                  | none => rw [hx2] at h; simp at h
                  | some y =>
                    rw [hx2] at h
                    simp only [Option.bind_some] at h
                    obtain ⟨b, rfl, hS, hlt, hall⟩ := hx
                    obtain ⟨cs, hd, hcs⟩ := hall n.toNat y hx2
                    have hnl : n.toNat < xs.length := (List.getElem?_eq_some_iff.1 hx2).1
                    have hn2 : (n : Int) < (c0 : Int) := (Int.toNat_lt (show (0 : Int) ≤ n from hn)).1 (hlen ▸ hnl)
                    exact ⟨_, .pointer (some ⟨b, n.toNat * ie.size, none⟩), h, ⟨b, n.toNat * ie.size, cs, by simp, hS, hlt, hd, by rw [← hc]; exact hcs⟩, by
                      simp [Instr.indexAt, asIntOf, Sem.run_bind, run_underlying hu, hn, hn2, run_sizeOf hie, addr_add, Instr.sureAddr]⟩
                · simp at h
              · simp at h
            · cases h
          · cases h
        · cases h
      · cases h
    · cases h
  · cases h

/-! Length -/

theorem alen_ok (hI : Inv B s tmps w ι) {x : AV} {n : Nat} (h : alen s x = some n) {vx : Value} (hx : AVRep w (dst B.D w ι s.heap) (sumOf ι s.heap) x vx) :
    (∃ b, x = .dat .str b ∧ vx = .string b ∧ n = b.size) ∨ ((∀ b, x ≠ .dat .str b) ∧ ∃ a c, vx = .slice a n c) := by
  unfold alen at h
  split at h
  · obtain ⟨a, cap, e, _⟩ := hx
    simp at e h
    subst e h
    exact .inr ⟨by simp, _, _, rfl⟩
  · have e := dat_str hx
    simp at h
    subst e h
    exact .inl ⟨_, rfl, rfl, rfl⟩
  · obtain ⟨a, rfl⟩ := hx
    simp at h
    subst h
    exact .inr ⟨by simp, _, _, rfl⟩
  · split at h
    · rename_i u xs hrow
      obtain ⟨q, hq, hw⟩ := hx
      have hq' := sum_of_row (row_eq hrow) hq
      subst hq'
      simp at h
      subst h
      refine .inr ⟨by simp, ?_⟩
      unfold WinAt at hw
      simp only [Row.len] at hw
      split at hw
      · obtain ⟨h1, rfl | ⟨h2, a, rfl⟩⟩ := hw
        · exact ⟨_, _, rfl⟩
        · exact ⟨a, 0, by congr 1; omega⟩
      · obtain ⟨_, h2, a, rfl⟩ := hw
        exact ⟨a, 0, by rw [h2]⟩
    · cases h
  · obtain ⟨q, hq, hl, hw⟩ := hx
    simp at h
    subst h
    refine .inr ⟨by simp, ?_⟩
    unfold WinAt at hw
    split at hw
    · obtain ⟨h1, rfl | ⟨h2, a, rfl⟩⟩ := hw
      · exact ⟨_, _, rfl⟩
      · exact ⟨a, 0, by congr 1; omega⟩
    · obtain ⟨_, h2, a, rfl⟩ := hw
      exact ⟨a, 0, by rw [h2]⟩
  · cases h

end
end Go.Rv

set_option linter.unusedSimpArgs false
set_option linter.unusedVariables false
namespace Go.Rv

section
variable {P : Program} {T : TT} {B : Base} {s : St} {tmps : Array Value} {w : World} {ι : Plc}

theorem run_sliceBound {i : Int} {y : Nat} {k : IntKind} {c : BoundsCode} {n : Nat} (h : inc i y = some n) {y' : Nat} (hy : y ≤ y') :
    n ≤ y ∧ (Instr.sliceBound (.int k i) y' c).run P w = .ok n w := by
  unfold inc at h
  split at h
  · rename_i hc
    simp at h
    subst h
    have h2 : i ≤ (y' : Int) := by omega
    exact ⟨by omega, by simp [Instr.sliceBound, asIntOf, hc.1, h2]⟩
  · cases h

theorem acut_ok {S : Nat → Prop} {σ : Nat → Option Sum} {β : Type} {lo hi : Option AV} {L : Nat} {k : Nat → Nat → Option β} {r : β} (h : acut (optAlg β) lo hi L k = some r)
    {vlo vhi : Option Value} (hlo : ∀ a, lo = some a → ∃ v, vlo = some v ∧ AVRep w S σ a v) (hhi : ∀ a, hi = some a → ∃ v, vhi = some v ∧ AVRep w S σ a v)
    (nlo : lo = none → vlo = none) (nhi : hi = none → vhi = none) :
    ∃ q m, k q m = some r ∧ q ≤ m ∧ m ≤ L ∧ ∀ cap b, L ≤ cap → (Instr.sliceBounds b L cap vlo vhi none).run P w = .ok (q, m, cap) w := by
  unfold acut at h
  split at h
  · rw [nlo rfl, nhi rfl]
    exact ⟨0, L, h, by omega, Nat.le_refl _, fun cap b hc => by simp [Instr.sliceBounds]⟩
  · rename_i kk n
    obtain ⟨v, rfl, hv⟩ := hhi _ rfl
    have e := dat_int hv
    subst e
    rw [nlo rfl]
    simp only [optAlg] at h
    cases hn : inc n L with
    | none => simp [hn] at h
    | some m =>
      simp only [hn, Option.bind_some] at h
      exact ⟨0, m, h, by omega, (run_sliceBound (P := P) (w := w) (k := kk) (c := .index) hn (Nat.le_refl _)).1, fun cap b hc => by
        have := (run_sliceBound (P := P) (w := w) (k := kk) (c := if b then .sliceAcap else .sliceAlen) hn hc).2
        simp [Instr.sliceBounds, Sem.run_bind, this]⟩
  · rename_i kk n
    obtain ⟨v, rfl, hv⟩ := hlo _ rfl
    have e := dat_int hv
    subst e
    rw [nhi rfl]
    simp only [optAlg] at h
    cases hn : inc n L with
    | none => simp [hn] at h
    | some q =>
      simp only [hn, Option.bind_some] at h
      have hb := run_sliceBound (P := P) (w := w) (k := kk) (c := .sliceB) hn (Nat.le_refl _)
      exact ⟨q, L, h, hb.1, Nat.le_refl _, fun cap b hc => by simp [Instr.sliceBounds, Sem.run_bind, hb.2]⟩
  · rename_i k1 l k2 n
    obtain ⟨v1, rfl, hv1⟩ := hlo _ rfl
    obtain ⟨v2, rfl, hv2⟩ := hhi _ rfl
    have e := dat_int hv1
    subst e
    have e := dat_int hv2
    subst e
    simp only [optAlg] at h
    cases hn : inc n L with
    | none => simp [hn] at h
    | some m =>
      simp only [hn, Option.bind_some] at h
      cases hl : inc l m with
      | none => simp [hl] at h
      | some q =>
        simp only [hl, Option.bind_some] at h
        have hb := run_sliceBound (P := P) (w := w) (k := k1) (c := .sliceB) hl (Nat.le_refl _)
        exact ⟨q, m, h, hb.1, (run_sliceBound (P := P) (w := w) (k := k2) (c := .index) hn (Nat.le_refl _)).1, fun cap b hc => by
          have := (run_sliceBound (P := P) (w := w) (k := k2) (c := if b then .sliceAcap else .sliceAlen) hn hc).2
          simp [Instr.sliceBounds, Sem.run_bind, this, hb.2]⟩
  · cases h

theorem run_slice {t e : TypeId} {ti ie : TI} (hti : TIOk P t ti) (hk : ti.kind = .slice e) (hie : TIOk P e ie) {a : Option Addr} {len cap q m : Nat} {vlo vhi : Option Value}
    (hb : (Instr.sliceBounds true len cap vlo vhi none).run P w = .ok (q, m, cap) w) :
    (Instr.sliceAt t (.slice a len cap) vlo vhi none).run P w = .ok (.slice (if cap = q then a else a.map (·.add (q * ie.size))) (m - q) (cap - q)) w := by
  have hu : P.underlying t = some (.slice e) := by have := hti.kind; rw [hk] at this; exact this
  simp [Instr.sliceAt, Instr.slice, Sem.run_bind, run_underlying hu, hb, run_sizeOf hie]

theorem run_slice_str {t : TypeId} {ti : TI} (hti : TIOk P t ti) (hk : ti.kind = .str) {b : ByteArray} {q m : Nat} {vlo vhi : Option Value}
    (hb : (Instr.sliceBounds false b.size b.size vlo vhi none).run P w = .ok (q, m, b.size) w) :
    (Instr.sliceAt t (.string b) vlo vhi none).run P w = .ok (.string (b.extract q m)) w := by
  have hu : P.underlying t = some .string := by have := hti.kind; rw [hk] at this; exact this
  simp [Instr.sliceAt, Instr.slice, Sem.run_bind, run_underlying hu, hb]

/-- The value of a window, cut once more. -/
theorem WinAt.cut {q : Sum} {off len : Nat} {v : Value} (h : WinAt q off len v) {i m : Nat} (him : i ≤ m) (hm : m ≤ len) :
    ∃ a cap, v = .slice a len cap ∧ len ≤ cap ∧ WinAt q (off + i) (m - i) (.slice (if cap = i then a else a.map (·.add (i * q.cells))) (m - i) (cap - i)) := by
  unfold WinAt at h ⊢
  split at h
  · rename_i b o c hp
    obtain ⟨hle, h⟩ := h
    rcases h with rfl | ⟨hc, a, rfl⟩
    · refine ⟨_, _, rfl, by omega, by omega, ?_⟩
      split
      · rename_i hci
        right
        exact ⟨by omega, _, by congr 1 <;> omega⟩
      · left
        have e1 : o + off * q.cells + i * q.cells = o + (off + i) * q.cells := by rw [Nat.add_mul, Nat.add_assoc]
        have e2 : c - off - i = c - (off + i) := by omega
        simp only [Option.map_some, addr_add, e1, e2]
    · have h0 : len = 0 := by omega
      have hi0 : i = 0 := by omega
      have hm0 : m = 0 := by omega
      subst h0 hi0 hm0
      exact ⟨a, 0, rfl, by omega, by omega, .inr ⟨by omega, a, by simp⟩⟩
  · obtain ⟨h0, h1, a, rfl⟩ := h
    have hi0 : i = 0 := by omega
    have hm0 : m = 0 := by omega
    subst h0 h1 hi0 hm0
    exact ⟨a, 0, rfl, by omega, by omega, by omega, a, by simp⟩

theorem aslice_ok (hT : TOk P T) (hI : Inv B s tmps w ι) {β : Type} {t : TypeId} {x : AV} {lo hi : Option AV} {K : AV → Option β} {r : β} (h : aslice (optAlg β) T s t x lo hi K = some r) {vx : Value}
    (hx : AVRep w (dst B.D w ι s.heap) (sumOf ι s.heap) x vx) {vlo vhi : Option Value}
    (hlo : ∀ a, lo = some a → ∃ v, vlo = some v ∧ AVRep w (dst B.D w ι s.heap) (sumOf ι s.heap) a v) (hhi : ∀ a, hi = some a → ∃ v, vhi = some v ∧ AVRep w (dst B.D w ι s.heap) (sumOf ι s.heap) a v)
    (nlo : lo = none → vlo = none) (nhi : hi = none → vhi = none) :
    ∃ a v, K a = some r ∧ AVRep w (dst B.D w ι s.heap) (sumOf ι s.heap) a v ∧ (Instr.sliceAt t vx vlo vhi none).run P w = .ok v w := by
  unfold aslice at h
  split at h
  · rename_i ti hti
    have hti := hT t ti hti
    split at h
    · rename_i e hke
      split at h
      · rename_i ie hie
        have hie := hT e ie hie
        split at h
        · rename_i u xs
          split at h
          · rename_i hc
            obtain ⟨q, m, h1, h2, h3, h4⟩ := acut_ok (P := P) (w := w) h hlo hhi nlo nhi
            obtain ⟨a, cap, e1, hcap, hr⟩ := hx
            simp at e1
            subst e1
            refine ⟨_, _, h1, ?_, run_slice hti hke hie (h4 cap true hcap)⟩
            have hlen : ((xs.take m).drop q).length = m - q := by simp; omega
            refine ⟨if cap = q then a else a.map (·.add (q * ie.size)), cap - q, by rw [hlen], by rw [hlen]; omega, ?_⟩
            by_cases hqm : q = m
            · left
              apply List.eq_nil_of_length_eq_zero
              omega
            · right
              rcases hr with rfl | ⟨b, o, rfl, hS, hbl, hall⟩
              · simp at h3; omega
              · have hcq : cap ≠ q := by omega
                refine ⟨b, o + q * u.cells, by simp [hcq, addr_add, hc], hS, hbl, fun i y hy => ?_⟩
                have hy' : xs[q + i]? = some y := by
                  rw [List.getElem?_drop, List.getElem?_take] at hy
                  split at hy
                  · exact hy
                  · cases hy
                obtain ⟨c, hd, hh⟩ := hall _ y hy'
                exact ⟨c, hd, by rw [Nat.add_assoc, ← Nat.add_mul]; exact hh⟩
          · cases h
        · rename_i g
          split at h
          · rename_i u xs hrow
            have hr := row_eq hrow
            split at h
            · rename_i hc
              obtain ⟨q, m, h1, h2, h3, h4⟩ := acut_ok (P := P) (w := w) h hlo hhi nlo nhi
              obtain ⟨sm, hq, hw⟩ := hx
              have hq' := sum_of_row hr hq
              subst hq'
              obtain ⟨a, cap, rfl, hcap, hw'⟩ := hw.cut h2 h3
              refine ⟨_, _, h1, ?_, run_slice hti hke hie (h4 cap true hcap)⟩
              exact ⟨_, hq, by simp; omega, by simpa [hc] using hw'⟩
            · cases h
          · cases h
        · rename_i g off len
          split at h
          · rename_i u xs hrow
            have hr := row_eq hrow
            split at h
            · rename_i hc
              obtain ⟨q, m, h1, h2, h3, h4⟩ := acut_ok (P := P) (w := w) h hlo hhi nlo nhi
              obtain ⟨sm, hq, hl, hw⟩ := hx
              have hq' := sum_of_row hr hq
              subst hq'
              obtain ⟨a, cap, rfl, hcap, hw'⟩ := hw.cut h2 h3
              refine ⟨_, _, h1, ?_, run_slice hti hke hie (h4 cap true hcap)⟩
              exact ⟨_, hq, by simp at hl ⊢; omega, by simpa [hc] using hw'⟩
            · cases h
          · cases h
        · cases h
      · cases h
    · rename_i hks
      split at h
      · rename_i b
        obtain ⟨q, m, h1, h2, h3, h4⟩ := acut_ok (P := P) (w := w) h hlo hhi nlo nhi
        have e := dat_str hx
        subst e
        exact ⟨_, _, h1, rep_str _, run_slice_str hti hks (h4 b.size false (Nat.le_refl _))⟩
      · cases h
    · cases h
  · cases h

end
end Go.Rv

set_option linter.unusedSimpArgs false
set_option linter.unusedVariables false
namespace Go.Rv

theorem splice_get {α : Type} (l : List α) (n : Nat) (vs : List α) (h : n + vs.length ≤ l.length) (m : Nat) :
    (l.take n ++ vs ++ l.drop (n + vs.length))[m]? = if n ≤ m ∧ m < n + vs.length then vs[m - n]? else l[m]? := by
  have hn : (l.take n).length = n := by simp; omega
  by_cases h1 : m < n
  · rw [List.append_assoc, List.getElem?_append_left (by omega), List.getElem?_take, if_pos h1, if_neg (by omega)]
  · by_cases h2 : m < n + vs.length
    · rw [List.append_assoc, List.getElem?_append_right (by omega), hn, List.getElem?_append_left (by omega), if_pos ⟨by omega, h2⟩]
    · rw [List.getElem?_append_right (by simp; omega), if_neg (by omega)]
      simp only [List.length_append, hn, List.getElem?_drop]
      congr 1; omega

theorem oneCell_cells {v : Value} (h : v.oneCell' = true) : v.cells = #[v] := by
  cases v <;> simp_all [Value.oneCell', Value.cells]

section
variable {P : Program} {T : TT} {B : Base} {s : St} {tmps : Array Value} {w : World} {ι : Plc}

theorem single_one {S : Nat → Prop} {σ : Nat → Option Sum} {a : AV} {v : Value} (h : a.single = true) (hr : AVRep w S σ a v) : v.oneCell' = true := by
  cases a with
  | undef => simp [AV.single] at h
  | dat t x => exact DCells.one t x [v] hr v (by simp)
  | nils => obtain ⟨a, rfl⟩ := hr; rfl
  | slc g =>
    obtain ⟨q, _, hw⟩ := hr
    unfold WinAt at hw
    split at hw
    · obtain ⟨_, rfl | ⟨_, a, rfl⟩⟩ := hw <;> rfl
    · obtain ⟨_, _, a, rfl⟩ := hw; rfl
  | win g o l =>
    obtain ⟨q, _, _, hw⟩ := hr
    unfold WinAt at hw
    split at hw
    · obtain ⟨_, rfl | ⟨_, a, rfl⟩⟩ := hw <;> rfl
    · obtain ⟨_, _, a, rfl⟩ := hw; rfl
  | ptr g o => obtain ⟨_, _, _, _, _, _, rfl⟩ := hr; rfl
  | elt g i o => obtain ⟨_, _, _, _, _, _, _, rfl⟩ := hr; rfl
  | relt t x o => obtain ⟨_, _, _, rfl, _⟩ := hr; rfl
  | tab t x => simp [AV.single] at h
  | agg cs => simp [AV.single] at h
  | tup cs => simp [AV.single] at h
  | fn f a b => obtain ⟨_, _, rfl, _⟩ := hr; rfl
  | raw u =>
    have e : v = u := hr
    subst e
    simp only [AV.single] at h
    split at h <;> first | rfl | cases h

theorem list_cells {S : Nat → Prop} {σ : Nat → Option Sum} : ∀ {cs : List AV} {vs : List Value}, AVsRep w S σ cs vs → cs.all AV.single = true → ∀ v ∈ vs, v.oneCell' = true
  | [], vs, h, _, v, hv => by simp only [AVsRep] at h; subst h; cases hv
  | a :: r, _, ⟨u, ur, e, h1, h2⟩, ha, v, hv => by
    subst e
    simp only [List.all_cons, Bool.and_eq_true] at ha
    rcases List.mem_cons.1 hv with rfl | hv
    · exact single_one ha.1 h1
    · exact list_cells h2 ha.2 v hv

theorem refs_good (hI : Inv B s tmps w ι) {a : AV} {v : Value} (hr : AVRep w (dst B.D w ι s.heap) (sumOf ι s.heap) a v) : ∀ g, a.refs g = true → ∃ r0, s.heap[g]? = some (some r0) :=
  fun g hg => by obtain ⟨q, hq⟩ := AVRep.refs_some a v g hr hg; exact sumOf_some hq

theorem refsL_good (hI : Inv B s tmps w ι) {a : List AV} {v : List Value} (hr : AVsRep w (dst B.D w ι s.heap) (sumOf ι s.heap) a v) : ∀ g, refsL a g = true → ∃ r0, s.heap[g]? = some (some r0) :=
  fun g hg => by obtain ⟨q, hq⟩ := AVsRep.refs_some a v g hr hg; exact sumOf_some hq

theorem run_storeVar {t : TypeId} {ti : TI} (hti : TIOk P t ti) {v : Value} {b o : Nat} {cur : Array Value} {e : TypeId} (hb : w.heap[b]? = some (.cells cur e (0, 0)))
    (hs : v.cells.size = ti.size) (hf : o + v.cells.size ≤ cur.size) (h1 : ∀ x ∈ v.cells.toList, x.oneCell' = true) :
    (storeVar t ⟨b, o, none⟩ v).run P w = .ok () (w.setRow b (cur.toList.take o ++ v.cells.toList ++ cur.toList.drop (o + v.cells.toList.length)).toArray) := by
  have := run_storeCells_at P b o e v.cells.toList 0 cur w hb (by simpa using hf) h1
  simp only [Nat.add_zero] at this
  simp [storeVar, Sem.run_bind, run_sizeOf hti, hs, this]

theorem putAt_get {α : Type} (m : Nat) (x : α) : ∀ (l : List α) (j k : Nat), (putAt m x j l)[k]? = if m = j + k ∧ k < l.length then some x else l[k]?
  | [], _, _ => by simp [putAt]
  | a :: r, j, k => by
    unfold putAt
    cases k with
    | zero =>
      by_cases h : m = j
      · subst h; simp
      · rw [List.getElem?_cons_zero, if_neg (by omega), List.getElem?_cons_zero]
        rw [show (m == j) = false by simpa using h]
        rfl
    | succ k =>
      rw [List.getElem?_cons_succ, putAt_get m x r (j + 1) k, List.getElem?_cons_succ]
      by_cases h : m = j + 1 + k ∧ k < r.length
      · rw [if_pos h, if_pos ⟨by omega, by simp; omega⟩]
      · rw [if_neg h, if_neg (by simp only [List.length_cons]; omega)]

theorem putAt_length {α : Type} (m : Nat) (x : α) : ∀ (l : List α) (j : Nat), (putAt m x j l).length = l.length
  | [], _ => rfl
  | a :: r, j => by unfold putAt; simp [putAt_length m x r (j + 1)]

/-- A datum of one cell that stands for another abstract value of it. -/
theorem av_of_dat {S : Nat → Prop} {σ : Nat → Option Sum} {u : Ty} {a : AV} {x : u.den} {v : Value} (h : toDat u a = some x) (hr : AVRep w S σ a v) : AVRep w S σ (.dat u x) v := toDat_rep h hr

theorem putCell_length (u : Ty) (x : u.den) (i off : Nat) (cs : List AV) (h : off ≤ cs.length) : (putCell u x i off cs).length = cs.length := by
  have := prefDat_le u (cs.drop off)
  unfold putCell
  simp only [List.length_append, List.length_take, List.length_map, putAt_length, List.length_drop] at this ⊢
  omega

theorem putCell_get {u : Ty} {x : u.den} {i off : Nat} {cs : List AV} (h : i < (prefDat u (cs.drop off)).length) {j : Nat} {a : AV} (ha : (putCell u x i off cs)[j]? = some a) :
    (j = off + i ∧ a = .dat u x) ∨ (j ≠ off + i ∧ ∃ b, cs[j]? = some b ∧ (a = b ∨ ∃ y, toDat u b = some y ∧ a = .dat u y)) := by
  have hle := prefDat_le u (cs.drop off)
  rw [List.length_drop] at hle
  have hoff : off ≤ cs.length := by omega
  unfold putCell at ha
  by_cases h1 : j < off
  · rw [List.append_assoc, List.getElem?_append_left (by simp; omega), List.getElem?_take, if_pos h1] at ha
    exact .inr ⟨by omega, a, ha, .inl rfl⟩
  · by_cases h2 : j < off + (prefDat u (cs.drop off)).length
    · rw [List.getElem?_append_left (by simp [putAt_length]; omega), List.getElem?_append_right (by simp; omega)] at ha
      simp only [List.length_take, Nat.min_eq_left hoff, List.getElem?_map, putAt_get, Nat.zero_add] at ha
      by_cases h3 : i = j - off ∧ j - off < (prefDat u (cs.drop off)).length
      · rw [if_pos h3] at ha
        simp at ha
        exact .inl ⟨by omega, ha.symm⟩
      · rw [if_neg h3] at ha
        cases hy : (prefDat u (cs.drop off))[j - off]? with
        | none => rw [hy] at ha; simp at ha
        | some y =>
          rw [hy] at ha
          simp at ha
          obtain ⟨b, hb, hby⟩ := prefDat_get hy
          rw [List.getElem?_drop, show off + (j - off) = j by omega] at hb
          exact .inr ⟨by omega, b, hb, .inr ⟨y, hby, ha.symm⟩⟩
    · rw [List.getElem?_append_right (by simp [putAt_length]; omega)] at ha
      simp only [List.length_append, List.length_take, Nat.min_eq_left hoff, List.length_map, putAt_length, List.getElem?_drop] at ha
      rw [show off + (prefDat u (cs.drop off)).length + (j - (off + (prefDat u (cs.drop off)).length)) = j by omega] at ha
      exact .inr ⟨by omega, a, ha, .inl rfl⟩

theorem astore_ok (hT : TOk P T) (hI : Inv B s tmps w ι) {β : Type} {t : TypeId} {p v : AV} {K : St → Option β} {r : β} (h : astore (optAlg β) T s t p v K = some r) {vp vv : Value}
    (hp : AVRep w (dst B.D w ι s.heap) (sumOf ι s.heap) p vp) (hv : AVRep w (dst B.D w ι s.heap) (sumOf ι s.heap) v vv) :
    ∃ s' w' ι', K s' = some r ∧ Inv B s' tmps w' ι' ∧ (Instr.storeAt t vp vv).run P w = .ok () w' := by
  unfold astore at h
  split at h
  · cases h
  · rename_i ti hti
    have hti := hT t ti hti
    split at h
    · split at h
      · rename_i g off new
        split at h
        · rename_i cs hrow
          have hr := row_eq hrow
          split at h
          · rename_i hc
            obtain ⟨hc1, hc0, hc2, hc3⟩ := hc
            obtain ⟨q, b, o, c, hq, hpl, rfl⟩ := hp
            have hs := sumOf_of (ι := ι) hr
            rw [hq] at hs
            have hs := Option.some.inj hs
            subst hs
            obtain ⟨b', o', c', cur, e, he, hb, hall⟩ := hI.hrep.rows g _ hr
            simp only at hpl
            rw [hpl] at he
            cases he
            obtain ⟨vs, rfl, hvs⟩ := hv
            have hvl := hvs.length
            have hcells : (Value.agg vs.toArray).cells.toList = vs := rfl
            have hsz : (Value.agg vs.toArray).cells.size = vs.length := by simp [Value.cells]
            have hcur : ∀ j, j < cs.length → o + j < cur.size := fun j hj => by
              obtain ⟨u, hu, _⟩ := hall j cs[j] (by simp [hj])
              exact (Array.getElem?_eq_some_iff.1 hu).1
            have hfit : o + off + vs.length ≤ cur.size := by
              have := hcur (off + vs.length - 1) (by omega); omega
            have h1 := list_cells hvs hc3
            have hrun := run_storeVar (v := .agg vs.toArray) (o := o + off) hti hb (by rw [hsz]; omega) (by rw [hsz]; exact hfit) (by rw [hcells]; exact h1)
            rw [hcells] at hrun
            have hgd := refsL_good hI hvs
            refine ⟨_, _, _, h, hI.write hr (.box (overwrite cs off new)) rfl (by simp [Row.len, overwrite]; omega) hpl hb (cur.toList.take (o + off) ++ vs ++ cur.toList.drop (o + off + vs.length)).toArray ?_, ?_⟩
            · intro ht
              refine ⟨b, o, c, _, e, rfl, setRow_heap w b cur _ e _ hb, fun j a hj => ?_⟩
              have hget : ∀ m, (cur.toList.take (o + off) ++ vs ++ cur.toList.drop (o + off + vs.length)).toArray[m]? = if o + off ≤ m ∧ m < o + off + vs.length then vs[m - (o + off)]? else cur[m]? := by
                intro m
                have := splice_get cur.toList (o + off) vs (by simpa using hfit) m
                rw [List.getElem?_toArray, this]
                simp
              unfold overwrite at hj
              rw [splice_get cs off new hc2 j] at hj
              split at hj
              · rename_i hjr
                obtain ⟨z, hz, hzr⟩ := hvs.get _ _ _ a hj
                refine ⟨z, by rw [hget, if_pos (by omega)]; rw [← hz]; congr 1; omega, h1 z (List.mem_of_getElem? hz), ht.av (fun x hx => hgd x (refsL_get hj hx)) hzr⟩
              · rename_i hjr
                obtain ⟨z, hz, hz1, hzr⟩ := hall j a hj
                refine ⟨z, by rw [hget, if_neg (by omega)]; exact hz, hz1, ht.av (fun x hx => ?_) hzr⟩
                obtain ⟨q, hq⟩ := AVRep.refs_some a z x hzr hx
                exact sumOf_some hq
            · simpa [Instr.storeAt, Instr.sureAddr, Sem.run_bind] using hrun
          · cases h
        · cases h
      · cases h
    · split at h
      · rename_i hst hsz1
        split at h
        · rename_i g i off
          split at h
          · rename_i u xs hrow
            have hr := row_eq hrow
            split at h
            · rename_i x hx
              split at h
              · rename_i hu1
                obtain ⟨hu1, h00⟩ := hu1
                subst h00
                obtain ⟨q, b, o, c, hq, hpl, hlt, rfl⟩ := hp
                have hq' := sum_of_row hr hq
                subst hq'
                simp only at hpl hlt
                have hrr := hI.hrep.rows g _ hr
                rw [hpl] at hrr
                obtain ⟨cur, e, hb, hcs, hxc, hcm, hseq⟩ := hrr
                have hd := toDat_rep hx hv
                have h1 := DCells.one u x [vv] hd vv (by simp)
                have hcell := oneCell_cells h1
                have hfit : o + i * u.cells + 1 ≤ cur.size := by rw [hcs, hu1]; omega
                have hrun := run_storeVar (v := vv) (o := o + i * u.cells + 0) hti hb (by rw [hcell]; simp [hsz1]) (by rw [hcell]; simpa using hfit) (by rw [hcell]; simpa using h1)
                rw [hcell] at hrun
                refine ⟨_, _, _, h, hI.write hr (.seq u (xs.set i x)) rfl (by simp [Row.len]) hpl hb (cur.toList.take (o + i * u.cells) ++ [vv] ++ cur.toList.drop (o + i * u.cells + 1)).toArray ?_, ?_⟩
                · intro ht
                  refine ⟨_, e, setRow_heap w b cur _ e _ hb, ?_, by simpa using hxc, hcm, ?_⟩
                  · simp; omega
                  · intro j y hy
                    rw [List.getElem?_set] at hy
                    have hget : ∀ m, (cur.toList.take (o + i * u.cells) ++ [vv] ++ cur.toList.drop (o + i * u.cells + 1)).toArray[m]? = if m = o + i * u.cells then some vv else cur[m]? := by
                      intro m
                      have := splice_get cur.toList (o + i * u.cells) [vv] (by simpa using hfit) m
                      simp only [List.length_singleton] at this
                      rw [List.getElem?_toArray, this]
                      by_cases hm : m = o + i * u.cells
                      · subst hm; simp
                      · rw [if_neg (by omega), if_neg hm]; simp
                    split at hy
                    · rename_i hij
                      subst hij
                      have hy := Option.some.inj hy
                      subst hy
                      refine ⟨[vv], ht.dat hd, fun m z hz => ?_⟩
                      have hm0 : m = 0 := by
                        have := (List.getElem?_eq_some_iff.1 hz).1
                        simp at this
                        exact this
                      subst hm0
                      rw [hget, if_pos (by omega)]; simpa using hz
                    · rename_i hij
                      obtain ⟨cs, hd', hc'⟩ := hseq j y hy
                      refine ⟨cs, ht.dat hd', fun m z hz => ?_⟩
                      have hcl := DCells.length _ _ _ hd'
                      have hm : m = 0 := by have := (List.getElem?_eq_some_iff.1 hz).1; omega
                      subst hm
                      rw [hget, if_neg (by rw [hu1]; omega)]
                      exact hc' 0 z hz
                · simp only [Row.cells] at hrun ⊢
                  simpa [Instr.storeAt, Instr.sureAddr, Sem.run_bind] using hrun
              · cases h
            · cases h
          · rename_i cs hrow
            have hr := row_eq hrow
            split at h
            · rename_i u hu
              split at h
              · rename_i x hx
                simp only [optAlg, within] at h
                split at h
                · rename_i hin
                  simp only [Option.bind_some] at h
                  obtain ⟨q, b, o, c, hq, hpl, _, rfl⟩ := hp
                  have hs := sumOf_of (ι := ι) hr
                  rw [hq] at hs
                  have hs := Option.some.inj hs
                  subst hs
                  obtain ⟨b', o', c', cur, e, he, hb, hall⟩ := hI.hrep.rows g _ hr
                  simp only at hpl
                  rw [hpl] at he
                  cases he
                  have hle := prefDat_le u (cs.drop off)
                  rw [List.length_drop] at hle
                  have hoff : off + i < cs.length := by omega
                  have hd := toDat_rep hx hv
                  have h1 := DCells.one u x [vv] hd vv (by simp)
                  have hcell := oneCell_cells h1
                  obtain ⟨u0, hu0, _⟩ := hall (off + i) cs[off + i] (by simp [hoff])
                  have hfit : o + (off + i) + 1 ≤ cur.size := (Array.getElem?_eq_some_iff.1 hu0).1
                  have hrun := run_storeVar (v := vv) (o := o + (off + i)) hti hb (by rw [hcell]; simp [hsz1]) (by rw [hcell]; simpa using hfit) (by rw [hcell]; simpa using h1)
                  rw [hcell] at hrun
                  refine ⟨_, _, _, h, hI.write hr (.box (putCell u x i off cs)) rfl (by simp only [Row.len]; exact putCell_length u x i off cs (by omega)) hpl hb (cur.toList.take (o + (off + i)) ++ [vv] ++ cur.toList.drop (o + (off + i) + 1)).toArray ?_, ?_⟩
                  · intro ht
                    refine ⟨b, o, c, _, e, rfl, setRow_heap w b cur _ e _ hb, fun j a hj => ?_⟩
                    have hget : ∀ m, (cur.toList.take (o + (off + i)) ++ [vv] ++ cur.toList.drop (o + (off + i) + 1)).toArray[m]? = if m = o + (off + i) then some vv else cur[m]? := by
                      intro m
                      have := splice_get cur.toList (o + (off + i)) [vv] (by simpa using hfit) m
                      simp only [List.length_singleton] at this
                      rw [List.getElem?_toArray, this]
                      by_cases hm : m = o + (off + i)
                      · subst hm; simp
                      · rw [if_neg (by omega), if_neg hm]; simp
                    rcases putCell_get hin hj with ⟨rfl, rfl⟩ | ⟨hne, d, hd1, hd2⟩
                    · exact ⟨vv, by rw [hget]; simp, h1, ht.dat hd⟩
                    · obtain ⟨z, hz, hz1, hzr⟩ := hall j d hd1
                      refine ⟨z, by rw [hget, if_neg (by omega)]; exact hz, hz1, ?_⟩
                      rcases hd2 with rfl | ⟨y, hy, rfl⟩
                      · refine ht.av (fun x hx => ?_) hzr
                        obtain ⟨q, hq⟩ := AVRep.refs_some _ z x hzr hx
                        exact sumOf_some hq
                      · exact ht.dat (toDat_rep hy hzr)
                  · simp only [Row.cells] at hrun ⊢
                    have e3 : o + i * 1 + off = o + (off + i) := by omega
                    rw [e3]
                    simpa [Instr.storeAt, Instr.sureAddr, Sem.run_bind] using hrun
                · simp at h
              · cases h
            · cases h
          · cases h
        · rename_i g off
          split at h
          · rename_i cs hrow
            have hr := row_eq hrow
            split at h
            · rename_i hc
              obtain ⟨hsg, hoff⟩ := hc
              obtain ⟨q, b, o, c, hq, hpl, rfl⟩ := hp
              have hs := sumOf_of (ι := ι) hr
              rw [hq] at hs
              have hs := Option.some.inj hs
              subst hs
              obtain ⟨b', o', c', cur, e, he, hb, hall⟩ := hI.hrep.rows g _ hr
              simp only at hpl
              rw [hpl] at he
              cases he
              have h1 := single_one hsg hv
              have hcell := oneCell_cells h1
              obtain ⟨u0, hu0, _⟩ := hall off cs[off] (by simp [hoff])
              have hfit : o + off + 1 ≤ cur.size := (Array.getElem?_eq_some_iff.1 hu0).1
              have hrun := run_storeVar (v := vv) (o := o + off) hti hb (by rw [hcell]; simp [hsz1]) (by rw [hcell]; simpa using hfit) (by rw [hcell]; simpa using h1)
              rw [hcell] at hrun
              have hgd := refs_good hI hv
              refine ⟨_, _, _, h, hI.write hr (.box (cs.set off v)) rfl (by simp [Row.len]) hpl hb (cur.toList.take (o + off) ++ [vv] ++ cur.toList.drop (o + off + 1)).toArray ?_, ?_⟩
              · intro ht
                refine ⟨b, o, c, _, e, rfl, setRow_heap w b cur _ e _ hb, fun j a hj => ?_⟩
                have hget : ∀ m, (cur.toList.take (o + off) ++ [vv] ++ cur.toList.drop (o + off + 1)).toArray[m]? = if m = o + off then some vv else cur[m]? := by
                  intro m
                  have := splice_get cur.toList (o + off) [vv] (by simpa using hfit) m
                  simp only [List.length_singleton] at this
                  rw [List.getElem?_toArray, this]
                  by_cases hm : m = o + off
                  · subst hm; simp
                  · rw [if_neg (by omega), if_neg hm]; simp
                rw [List.getElem?_set] at hj
                split at hj
                · rename_i hij
                  subst hij
                  simp at hj
                  subst hj
                  exact ⟨vv, by rw [hget]; simp, h1, ht.av hgd hv⟩
                · rename_i hij
                  obtain ⟨z, hz, hz1, hzr⟩ := hall j a hj
                  refine ⟨z, by rw [hget, if_neg (by omega)]; exact hz, hz1, ht.av (fun x hx => ?_) hzr⟩
                  obtain ⟨q, hq⟩ := AVRep.refs_some a z x hzr hx
                  exact sumOf_some hq
              · simpa [Instr.storeAt, Instr.sureAddr, Sem.run_bind] using hrun
            · cases h
          · cases h
        · cases h
      · cases h

end
end Go.Rv

set_option linter.unusedSimpArgs false
set_option linter.unusedVariables false
namespace Go.Rv

section
variable {P : Program} {T : TT} {B : Base} {s : St} {tmps : Array Value} {w : World} {ι : Plc}

theorem allocRow_opt {β : Type} {base : Nat} {r : Row} {K : St → Option β} {x : β} (h : allocRow (optAlg β) s base r K = some x) : s.heap[base]? = some none ∧ K (s.setRow base r) = some x := by
  unfold allocRow at h
  split at h
  · exact ⟨by assumption, h⟩
  · cases h

theorem elemOf_some {t : TypeId} {ie : TI} (h : elemOf T t = some ie) : ∃ ti e, T t = some ti ∧ ti.kind = .slice e ∧ T e = some ie := by
  unfold elemOf at h
  split at h
  · rename_i ti hti
    split at h
    · rename_i e he
      exact ⟨ti, e, hti, he, h⟩
    · cases h
  · cases h

/-- A row without a place. -/
theorem Inv.addNil (h : Inv B s tmps w ι) {g : Nat} (hfree : s.heap[g]? = some none) (u : Ty) : Inv B (s.setRow g (.seq u [])) tmps w (setPlc ι g none) := by
  have hlt : g < s.heap.length := (List.getElem?_eq_some_iff.1 hfree).1
  refine h.turn (s' := s.setRow g (.seq u [])) (g := g) (r := .seq u []) (p := none) (fun x => ∃ r0, s.heap[x]? = some (some r0)) (by simp [St.setRow, hlt]) ?_ ?_ (Kept.refl _ _) (fun _ _ _ _ _ _ => rfl) ?_ ?_ (fun x hx => hx) (fun _ => rfl) ?_ ?_ (fun q hq => by cases hq)
  · intro h' r' hne hr'
    simp only [St.setRow] at hr'
    rw [List.getElem?_set_ne (Ne.symm hne)] at hr'
    exact ⟨r', hr', rfl, rfl, fun _ _ _ _ hh => hh, fun x hx => by
      obtain ⟨q, hq⟩ := (h.hrep.rows h' r' hr').refs_some x hx
      exact sumOf_some hq⟩
  · intro h' r0 hne hr0
    exact ⟨r0, by simp only [St.setRow]; rw [List.getElem?_set_ne (Ne.symm hne)]; exact hr0⟩
  · intro q hq; cases hq
  · rintro ⟨r0, hr0⟩; rw [hfree] at hr0; simp at hr0
  · intro i a ha
    obtain ⟨v, hv, hr⟩ := h.env i a ha
    exact ⟨v, hv, .inl ⟨a, hr, .inl rfl, fun x hx => by obtain ⟨q, hq⟩ := AVRep.refs_some a v x hr hx; exact sumOf_some hq⟩⟩
  · intro hk
    obtain ⟨_, r0, hr0⟩ := h.io g hk
    rw [hfree] at hr0; simp at hr0

/-- A slice of a row that lies in a new block of its own. -/
theorem Inv.newSeq (h : Inv B s tmps w ι) {g : Nat} (hfree : s.heap[g]? = some none) (u : Ty) (xs : List u.den) (cur : Array Value) (e : TypeId) (c : Nat)
    (hcur : cur.size = c * u.cells) (hxc : xs.length ≤ c) (hcm : c ≤ maxLen)
    (hseq : SeqRep w (dst B.D w ι s.heap) u xs cur 0) :
    Inv B (s.setRow g (.seq u xs)) tmps (w.alloc (.cells cur e)) (setPlc ι g (some (w.heap.size, 0, c))) ∧
    AVRep (w.alloc (.cells cur e)) (dst B.D (w.alloc (.cells cur e)) (setPlc ι g (some (w.heap.size, 0, c))) (s.setRow g (.seq u xs)).heap) (sumOf (setPlc ι g (some (w.heap.size, 0, c))) (s.setRow g (.seq u xs)).heap)
      (.slc g) (.slice (some ⟨w.heap.size, 0, none⟩) xs.length c) := by
  have hlt : g < s.heap.length := (List.getElem?_eq_some_iff.1 hfree).1
  refine ⟨h.alloc hfree (.seq u xs) cur e _ (.inr ⟨0, c, rfl⟩) fun ht => ⟨cur, e, heap_alloc_new w _, by simpa using hcur, hxc, hcm, fun i x hx => ?_⟩, ⟨_, sumOf_set_self hlt, ?_⟩⟩
  · obtain ⟨cs, hd, hc⟩ := hseq i x hx
    exact ⟨cs, ht.dat hd, hc⟩
  · exact ⟨by simpa [Row.len] using hxc, .inl (by simp [Row.len, Row.cells])⟩

/-- A new block that bears a datum from the beginning. -/
theorem Inv.newDat (h : Inv B s tmps w ι) (u : Ty) (xs : List u.den) (cur : Array Value) (e : TypeId) (c : Nat) (hxc : xs.length ≤ c) (hseq : SeqRep w (dst B.D w ι s.heap) u xs cur 0) :
    Inv B s tmps (w.alloc (.cells cur e)) ι ∧
    AVRep (w.alloc (.cells cur e)) (dst B.D (w.alloc (.cells cur e)) ι s.heap) (sumOf ι s.heap) (.dat (.list u) xs) (.slice (some ⟨w.heap.size, 0, none⟩) xs.length c) := by
  have hold : ∀ b, b < w.heap.size → (w.alloc (.cells cur e)).heap[b]? = w.heap[b]? := fun b hb => heap_alloc_old w _ b hb
  have hsz : (w.alloc (.cells cur e)).heap.size = w.heap.size + 1 := by simp
  have hst : ∀ b, stab w ι s.heap b → stab (w.alloc (.cells cur e)) ι s.heap b := fun b hb => ⟨by have := hb.1; omega, hb.2⟩
  have ht : Trans w ι s.heap (w.alloc (.cells cur e)) ι s.heap (fun _ => True) := ⟨by omega, fun b hb => ⟨hst b hb, hold b hb.1⟩, fun _ _ => rfl⟩
  have hk : Kept (stab w ι s.heap) w (w.alloc (.cells cur e)) := ⟨rfl, rfl, rfl, by omega, fun b hb => hold b hb.1, frz_alloc _ _ _⟩
  refine ⟨⟨h.kept.trans hk h.stay, ⟨fun g r hr => ?_, h.hrep.sep, h.hrep.own⟩, fun b hb => hst b (h.stay b hb), h.io, fun i a ha => ?_, ht.globs h.glob⟩, ?_⟩
  · have hrow := h.hrep.rows g r hr
    refine ht.row (fun _ _ => trivial) (fun b o c' hp => ?_) hrow
    rw [hp] at hrow
    exact hold b hrow.lt
  · obtain ⟨v, hv, hr⟩ := h.env i a ha
    exact ⟨v, hv, ht.av (fun _ _ => trivial) hr⟩
  · refine ⟨some ⟨w.heap.size, 0, none⟩, c, rfl, hxc, .inr ⟨w.heap.size, 0, rfl, ⟨B.new _ h.kept.size, by omega, fun g r p hr hp => ?_⟩, by omega, fun i x hx => ?_⟩⟩
    · have hrow := h.hrep.rows g r hr
      rw [hp] at hrow
      exact Nat.ne_of_lt hrow.lt
    · obtain ⟨cs, hd, hc⟩ := hseq i x hx
      refine ⟨cs, ht.dat hd, fun j v hv => ?_⟩
      rw [cells_of_block (heap_alloc_new w _)]
      exact hc j v hv

theorem Inv.newBox (h : Inv B s tmps w ι) {g : Nat} (hfree : s.heap[g]? = some none) (cs : List AV) (vs : List Value) (e : TypeId)
    (hrep : AVsRep w (dst B.D w ι s.heap) (sumOf ι s.heap) cs vs) (h1 : ∀ v ∈ vs, v.oneCell' = true) :
    Inv B (s.setRow g (.box cs)) tmps (w.alloc (.cells vs.toArray e)) (setPlc ι g (some (w.heap.size, 0, 0))) ∧
    AVRep (w.alloc (.cells vs.toArray e)) (dst B.D (w.alloc (.cells vs.toArray e)) (setPlc ι g (some (w.heap.size, 0, 0))) (s.setRow g (.box cs)).heap) (sumOf (setPlc ι g (some (w.heap.size, 0, 0))) (s.setRow g (.box cs)).heap)
      (.ptr g 0) (.pointer (some ⟨w.heap.size, 0, none⟩)) := by
  have hlt : g < s.heap.length := (List.getElem?_eq_some_iff.1 hfree).1
  have hgd := refsL_good h hrep
  refine ⟨h.alloc hfree (.box cs) vs.toArray e _ (.inr ⟨0, 0, rfl⟩) fun ht => ⟨_, _, _, vs.toArray, e, rfl, heap_alloc_new w _, fun j a hj => ?_⟩, ⟨_, _, _, _, sumOf_set_self hlt, rfl, by simp⟩⟩
  obtain ⟨v, hv, hr⟩ := hrep.get _ _ j a hj
  exact ⟨v, by simpa using hv, h1 v (List.mem_of_getElem? hv), ht.av (fun x hx => hgd x (refsL_get hj hx)) hr⟩

theorem run_newRow (e : TypeId) (cur : Array Value) : (newRow e cur).run P w = .ok ⟨w.heap.size, 0, none⟩ (w.alloc (.cells cur e)) := by
  simp [newRow]

theorem put_cells : ∀ (l : List Value) (k off : Nat) (cells : Array Value), off + k + l.length ≤ cells.size →
    ((l.zipIdx k).foldl (fun cs (x : Value × Nat) => cs.setIfInBounds (off + x.2) x.1) cells).size = cells.size ∧
    ∀ m, ((l.zipIdx k).foldl (fun cs (x : Value × Nat) => cs.setIfInBounds (off + x.2) x.1) cells)[m]? = if off + k ≤ m ∧ m < off + k + l.length then l[m - (off + k)]? else cells[m]?
  | [], k, off, cells, _ => ⟨rfl, fun m => by rw [if_neg (by simp)]; rfl⟩
  | v :: r, k, off, cells, h => by
    simp only [List.length_cons] at h
    obtain ⟨h1, h2⟩ := put_cells r (k + 1) off (cells.setIfInBounds (off + k) v) (by simp; omega)
    simp only [List.zipIdx_cons, List.foldl_cons, List.length_cons]
    refine ⟨by rw [h1]; simp, fun m => ?_⟩
    rw [h2]
    by_cases hm : off + (k + 1) ≤ m ∧ m < off + (k + 1) + r.length
    · rw [if_pos hm, if_pos (by omega), show m - (off + k) = (m - (off + (k + 1))) + 1 by omega]; simp
    · rw [if_neg hm]
      by_cases hmi : m = off + k
      · subst hmi
        rw [if_pos (by omega)]
        have : off + k < cells.size := by omega
        simp [this]
      · rw [if_neg (by omega), Array.getElem?_setIfInBounds_ne (Ne.symm hmi)]

theorem fill_many (sz : Nat) (l : List (Nat × Value)) : ∀ (k : Nat) (cells : Array Value), (∀ j x, l[j]? = some x → x.1 = k + j ∧ x.2.cells.size = sz) → (k + l.length) * sz ≤ cells.size →
    ∃ out, Instr.fill (fun i => some (i * sz, sz)) cells l = some out ∧ out.size = cells.size ∧ (∀ m, m < k * sz → out[m]? = cells[m]?) ∧
      ∀ i y, l[i]? = some y → ∀ j c, y.2.cells[j]? = some c → out[(k + i) * sz + j]? = some c := by
  induction l with
  | nil => intro k cells _ _; exact ⟨cells, rfl, rfl, fun _ _ => rfl, fun i y h => by simp at h⟩
  | cons x r ih =>
    intro k cells h hl
    obtain ⟨hx1, hx2⟩ := h 0 x rfl
    obtain ⟨i, v⟩ := x
    simp only [Nat.add_zero] at hx1
    subst hx1
    simp only at hx2
    simp only [List.length_cons] at hl
    have hls : (i + (r.length + 1)) * sz = i * sz + sz + r.length * sz := by rw [Nat.add_mul, Nat.add_mul]; omega
    have hbase : i * sz + sz ≤ cells.size := by omega
    have hvl : v.cells.toList.length = sz := by simpa using hx2
    obtain ⟨p1, p2⟩ := put_cells v.cells.toList 0 (i * sz) cells (by omega)
    generalize hc1 : ((v.cells.toList.zipIdx 0).foldl (fun cs (x : Value × Nat) => cs.setIfInBounds (i * sz + x.2) x.1) cells) = c1 at p1 p2
    obtain ⟨out, h1, h2, h3, h4⟩ := ih (i + 1) c1 (fun j y hy => by
      have := h (j + 1) y (by simpa using hy)
      exact ⟨by rw [this.1]; omega, this.2⟩) (by rw [p1, Nat.add_mul, Nat.add_mul]; omega)
    have hstep : (i + 1) * sz = i * sz + sz := by rw [Nat.add_mul]; omega
    refine ⟨out, ?_, by rw [h2, p1], fun m hm => ?_, fun t y hy j c hc => ?_⟩
    · have hcond : ¬ (v.cells.size ≠ sz ∨ i * sz + v.cells.size > cells.size) := by rw [hx2]; simp; omega
      simp only [Instr.fill]
      rw [if_neg (by simpa using hcond)]
      have e : (v.cells.zipIdx.foldl (fun cs (x : Value × Nat) => cs.setIfInBounds (i * sz + x.2) x.1) cells) = c1 := by
        rw [← hc1, ← Array.foldl_toList, Array.toList_zipIdx]
      simp only [e]
      exact h1
    · rw [h3 m (by omega), p2, if_neg (by omega)]
    · cases t with
      | zero =>
        simp at hy
        subst hy
        have hj : j < sz := by
          have := (Array.getElem?_eq_some_iff.1 hc).1
          simp only at this
          omega
        rw [Nat.add_zero, h3 _ (by omega), p2, if_pos (by omega)]
        have : i * sz + j - (i * sz + 0) = j := by omega
        rw [this]
        simpa using hc
      | succ t =>
        have := h4 t y (by simpa using hy) j c hc
        rw [show i + (t + 1) = i + 1 + t by omega]
        exact this

theorem partsAV_rep (hI : Inv B s tmps w ι) (ds : List Deferred) : ∀ (ps : List (Nat × Operand)) (l : List (Nat × AV)), partsAV s ps = some l →
    (ps.map fun (p : Nat × Operand) => (p.1, Act.eval ⟨tmps, ds⟩ p.2)).length = l.length ∧
    ∀ (j : Nat) (x : Nat × AV), l[j]? = some x → ∃ v, (ps.map fun (p : Nat × Operand) => (p.1, Act.eval ⟨tmps, ds⟩ p.2))[j]? = some (x.1, v) ∧ AVRep w (dst B.D w ι s.heap) (sumOf ι s.heap) x.2 v
  | [], l, h => by simp [partsAV] at h; subst h; simp
  | (i, x) :: r, l, h => by
    simp only [partsAV] at h
    split at h
    · rename_i a l' ha hl'
      simp at h; subst h
      obtain ⟨h1, h2⟩ := partsAV_rep hI ds r l' hl'
      refine ⟨by simpa using h1, fun j y hy => ?_⟩
      cases j with
      | zero => simp at hy; subst hy; exact ⟨_, rfl, evalO_rep hI ha ds⟩
      | succ j => simp at hy; simpa using h2 j y hy
    · cases h

theorem argsAV_rep (hI : Inv B s tmps w ι) (ds : List Deferred) : ∀ (xs : List Operand) (l : List AV), argsAV s xs = some l →
    AVsRep w (dst B.D w ι s.heap) (sumOf ι s.heap) l (xs.map (Act.eval ⟨tmps, ds⟩))
  | [], l, h => by simp [argsAV] at h; subst h; rfl
  | x :: r, l, h => by
    simp only [argsAV] at h
    split at h
    · rename_i a l' ha hl'
      simp at h; subst h
      exact ⟨_, _, rfl, evalO_rep hI ha ds, argsAV_rep hI ds r l' hl'⟩
    · cases h

theorem unleaf_rep {S : Nat → Prop} {σ : Nat → Option Sum} : ∀ (t : Ty) (cs : List AV) (x : t.den) (r : List AV) (vs : List Value), unleaf t cs = some (x, r) → AVsRep w S σ cs vs →
    ∃ v1 v2, vs = v1 ++ v2 ∧ DCells w S t x v1 ∧ AVsRep w S σ r v2
  | .unit, cs, x, r, vs, h, hr => by
    simp only [unleaf, Option.some.injEq, Prod.mk.injEq] at h
    obtain ⟨_, rfl⟩ := h
    exact ⟨[], vs, rfl, rfl, hr⟩
  | .pair a b, cs, x, r, vs, h, hr => by
    simp only [unleaf] at h
    split at h
    · rename_i y r1 h1
      split at h
      · rename_i z r2 h2
        simp only [Option.some.injEq, Prod.mk.injEq] at h
        obtain ⟨rfl, rfl⟩ := h
        obtain ⟨v1, v2, rfl, d1, hr1⟩ := unleaf_rep a cs y r1 vs h1 hr
        obtain ⟨v3, v4, rfl, d2, hr2⟩ := unleaf_rep b r1 z r2 v2 h2 hr1
        exact ⟨v1 ++ v3, v4, by simp, ⟨v1, v3, rfl, d1, d2⟩, hr2⟩
      · cases h
    · cases h
  | .int k, cs, x, r, vs, h, hr => by
    simp only [unleaf] at h
    cases cs with
    | nil => cases h
    | cons c cr =>
      simp only at h
      split at h
      · rename_i y hy
        simp only [Option.some.injEq, Prod.mk.injEq] at h
        obtain ⟨rfl, rfl⟩ := h
        obtain ⟨v, vr, rfl, h1, h2⟩ := hr
        exact ⟨[v], vr, rfl, toDat_rep hy h1, h2⟩
      · cases h
  | .bool, cs, x, r, vs, h, hr => by
    simp only [unleaf] at h
    cases cs with
    | nil => cases h
    | cons c cr =>
      simp only at h
      split at h
      · rename_i y hy
        simp only [Option.some.injEq, Prod.mk.injEq] at h
        obtain ⟨rfl, rfl⟩ := h
        obtain ⟨v, vr, rfl, h1, h2⟩ := hr
        exact ⟨[v], vr, rfl, toDat_rep hy h1, h2⟩
      · cases h
  | .str, cs, x, r, vs, h, hr => by
    simp only [unleaf] at h
    cases cs with
    | nil => cases h
    | cons c cr =>
      simp only at h
      split at h
      · rename_i y hy
        simp only [Option.some.injEq, Prod.mk.injEq] at h
        obtain ⟨rfl, rfl⟩ := h
        obtain ⟨v, vr, rfl, h1, h2⟩ := hr
        exact ⟨[v], vr, rfl, toDat_rep hy h1, h2⟩
      · cases h
  | .list t, cs, x, r, vs, h, hr => by
    simp only [unleaf] at h
    cases cs with
    | nil => cases h
    | cons c cr =>
      simp only at h
      split at h
      · rename_i y hy
        simp only [Option.some.injEq, Prod.mk.injEq] at h
        obtain ⟨rfl, rfl⟩ := h
        obtain ⟨v, vr, rfl, h1, h2⟩ := hr
        exact ⟨[v], vr, rfl, toDat_rep hy h1, h2⟩
      · cases h

theorem partDat_rep {S : Nat → Prop} {σ : Nat → Option Sum} {u : Ty} {a : AV} {x : u.den} {v : Value} (h : partDat u a = some x) (hr : AVRep w S σ a v) : DCells w S u x v.cells.toList := by
  have leaf : ∀ {a : AV}, toDat u a = some x → AVRep w S σ a v → DCells w S u x v.cells.toList := fun h hr => by
    have hd := toDat_rep h hr
    have h1 := DCells.one u x [v] hd v (by simp)
    rw [oneCell_cells h1]
    exact hd
  cases a with
  | agg cs =>
    simp only [partDat] at h
    split at h
    · rename_i y hy
      simp only [Option.some.injEq] at h
      subst h
      obtain ⟨vs, rfl, hvs⟩ := hr
      obtain ⟨v1, v2, rfl, hd, h2⟩ := unleaf_rep u cs y [] vs hy hvs
      have e2 : v2 = [] := h2
      subst e2
      simpa [Value.cells] using hd
    · cases h
  | _ => exact leaf (by simpa only [partDat] using h) hr

theorem listDat_rep {S : Nat → Prop} {σ : Nat → Option Sum} (u : Ty) : ∀ (l : List (Nat × AV)) (n : Nat) (xs : List u.den) (vs : List (Nat × Value)), listDat u n l = some xs → vs.length = l.length →
    (∀ (j : Nat) (x : Nat × AV), l[j]? = some x → ∃ v, vs[j]? = some (x.1, v) ∧ AVRep w S σ x.2 v) →
    xs.length = l.length ∧ (∀ j y, vs[j]? = some y → y.1 = n + j ∧ y.2.cells.size = u.cells) ∧ ∀ (j : Nat) x, xs[j]? = some x → ∃ y, vs[j]? = some y ∧ DCells w S u x y.2.cells.toList
  | [], n, xs, vs, h, hl, _ => by
    simp [listDat] at h; subst h
    have : vs = [] := List.eq_nil_of_length_eq_zero (by simpa using hl)
    subst this
    simp
  | (i, a) :: r, n, xs, vs, h, hl, hr => by
    simp only [listDat] at h
    split at h
    · rename_i hin
      subst hin
      split at h
      · rename_i x l' hx hl'
        simp at h; subst h
        cases vs with
        | nil => simp at hl
        | cons y vr =>
          obtain ⟨v, hv, hrep⟩ := hr 0 (i, a) rfl
          simp at hv
          subst hv
          obtain ⟨h1, h2, h3⟩ := listDat_rep u r (i + 1) l' vr hl' (by simpa using hl) (fun j x hx => by simpa using hr (j + 1) x (by simpa using hx))
          have hd := partDat_rep hx hrep
          refine ⟨by simpa using h1, fun j y hy => ?_, fun j z hz => ?_⟩
          · cases j with
            | zero => simp at hy; subst hy; exact ⟨rfl, by have := DCells.length u x _ hd; simpa using this⟩
            | succ j => simp at hy; have := h2 j y hy; exact ⟨by rw [this.1]; omega, this.2⟩
          · cases j with
            | zero => simp at hz; subst hz; exact ⟨_, rfl, hd⟩
            | succ j => simp at hz; obtain ⟨y, hy, hyd⟩ := h3 j z hz; exact ⟨y, by simpa using hy, hyd⟩
      · cases h
    · cases h

/-- A row that is built, as cells in a new block. -/
theorem buildSlice_run (hT : TOk P T) (hI : Inv B s tmps w ι) {t : TypeId} {ie : TI} (he : elemOf T t = some ie) {u : Ty} {n : Nat} {l : List (Nat × AV)} {xs : List u.den} (hl : listDat u 0 l = some xs)
    (hn : l.length = n) (hn2 : n ≤ 1024) (hu : u.cells = ie.size) (h0 : 0 < ie.size) (hs : ie.size ≤ 1024) {vs : List (Nat × Value)} (hvl : vs.length = l.length)
    (hvs : ∀ (j : Nat) (x : Nat × AV), l[j]? = some x → ∃ v, vs[j]? = some (x.1, v) ∧ AVRep w (dst B.D w ι s.heap) (sumOf ι s.heap) x.2 v) :
    ∃ (e : TypeId) (out : Array Value), xs.length = n ∧ out.size = n * u.cells ∧ SeqRep w (dst B.D w ι s.heap) u xs out 0 ∧
      (Instr.buildSlice t n vs.toArray).run P w = .ok (.slice (some ⟨w.heap.size, 0, none⟩) n n) (w.alloc (.cells out e)) := by
  obtain ⟨ti, e, hti, hke, hie⟩ := elemOf_some he
  have hti := hT _ _ hti
  have hie := hT _ _ hie
  have hun : P.underlying t = some (.slice e) := by have := hti.kind; rw [hke] at this; exact this
  obtain ⟨h1, h2, h3⟩ := listDat_rep u l 0 xs vs hl hvl hvs
  obtain ⟨inf, hinf, hsz, _, z, hz, _⟩ := hie.info
  have hsu : inf.size = u.cells := by omega
  have hfill : ∀ c0 : Array Value, c0.size = n * u.cells → ∃ out, Instr.fill (fun i => some (i * u.cells, u.cells)) c0 vs = some out ∧ out.size = n * u.cells ∧ SeqRep w (dst B.D w ι s.heap) u xs out 0 := by
    intro c0 hc0
    obtain ⟨out, ho, hos, _, hget⟩ := fill_many u.cells vs 0 c0 h2 (by rw [hc0, Nat.zero_add, hvl, hn]; exact Nat.le_refl _)
    refine ⟨out, ho, by omega, fun i x hx => ?_⟩
    obtain ⟨y, hy, hd⟩ := h3 i x hx
    refine ⟨y.2.cells.toList, hd, fun j v hv => ?_⟩
    have := hget i y hy j v (by simpa using hv)
    simpa using this
  have hxn : xs.length = n := by omega
  have hbig : ¬ (16777216 < n * u.cells) := by
    have : n * u.cells ≤ 1024 * 1024 := Nat.mul_le_mul hn2 (by omega)
    omega
  by_cases hn0 : n = 0
  · subst hn0
    obtain ⟨out, ho, hos, hsq⟩ := hfill #[] (by simp)
    refine ⟨e, out, hxn, hos, hsq, ?_⟩
    have hr0 : (Array.map (fun _ => (default : Value)) (Array.range 0)) = #[] := by simp
    simp [Instr.buildSlice, Sem.run_bind, run_underlying hun, sizeOf, typeInfo, hinf, hsu]
    rw [hr0, ho]
    simp [run_newRow]
  · have hnz : ¬ (n * u.cells = 0) := by
      intro h
      rcases Nat.mul_eq_zero.1 h with h | h <;> omega
    obtain ⟨out, ho, hos, hsq⟩ := hfill ((Array.range (n * u.cells)).map (z.cells[· % z.cells.size]!)) (by simp)
    refine ⟨e, out, hxn, hos, hsq, ?_⟩
    have hu0 : ¬ (u.cells = 0) := by omega
    simp [Instr.buildSlice, Sem.run_bind, run_underlying hun, sizeOf, typeInfo, hinf, hsu, hbig, hn0, hu0, zeroValue, hz, ho, run_newRow]
    exact fun h => absurd h hnz

theorem buildSlice_ok (hT : TOk P T) (hI : Inv B s tmps w ι) {t : TypeId} {ie : TI} (he : elemOf T t = some ie) {u : Ty} {n : Nat} {l : List (Nat × AV)} {xs : List u.den} (hl : listDat u 0 l = some xs)
    (hn : l.length = n) (hn2 : n ≤ 1024) (hu : u.cells = ie.size) (h0 : 0 < ie.size) (hs : ie.size ≤ 1024) {base : Nat} (hfree : s.heap[base]? = some none) {vs : List (Nat × Value)} (hvl : vs.length = l.length)
    (hvs : ∀ (j : Nat) (x : Nat × AV), l[j]? = some x → ∃ v, vs[j]? = some (x.1, v) ∧ AVRep w (dst B.D w ι s.heap) (sumOf ι s.heap) x.2 v) :
    ∃ v w' ι', (Instr.buildSlice t n vs.toArray).run P w = .ok v w' ∧ Inv B (s.setRow base (.seq u xs)) tmps w' ι' ∧ AVRep w' (dst B.D w' ι' (s.setRow base (.seq u xs)).heap) (sumOf ι' (s.setRow base (.seq u xs)).heap) (.slc base) v := by
  obtain ⟨e, out, hxn, hos, hsq, hrun⟩ := buildSlice_run hT hI he hl hn hn2 hu h0 hs hvl hvs
  obtain ⟨hA, hB⟩ := hI.newSeq hfree u xs out e n hos (by omega) (by simp [maxLen]; omega) hsq
  refine ⟨_, _, _, hrun, hA, ?_⟩
  rw [hxn] at hB
  exact hB

theorem buildDat_ok (hT : TOk P T) (hI : Inv B s tmps w ι) {t : TypeId} {ie : TI} (he : elemOf T t = some ie) {u : Ty} {n : Nat} {l : List (Nat × AV)} {xs : List u.den} (hl : listDat u 0 l = some xs)
    (hn : l.length = n) (hn2 : n ≤ 1024) (hu : u.cells = ie.size) (h0 : 0 < ie.size) (hs : ie.size ≤ 1024) {vs : List (Nat × Value)} (hvl : vs.length = l.length)
    (hvs : ∀ (j : Nat) (x : Nat × AV), l[j]? = some x → ∃ v, vs[j]? = some (x.1, v) ∧ AVRep w (dst B.D w ι s.heap) (sumOf ι s.heap) x.2 v) :
    ∃ v w', (Instr.buildSlice t n vs.toArray).run P w = .ok v w' ∧ Inv B s tmps w' ι ∧ AVRep w' (dst B.D w' ι s.heap) (sumOf ι s.heap) (if n = 0 then .nils else .dat (.list u) xs) v := by
  obtain ⟨e, out, hxn, hos, hsq, hrun⟩ := buildSlice_run hT hI he hl hn hn2 hu h0 hs hvl hvs
  obtain ⟨hA, hB⟩ := hI.newDat u xs out e n (by omega) hsq
  refine ⟨_, _, hrun, hA, ?_⟩
  rw [hxn] at hB
  by_cases h : n = 0
  · subst h
    exact ⟨_, rfl⟩
  · rw [if_neg h]
    exact hB

theorem zero_cells0 (S : Nat → Prop) : ∀ (u : Ty) (z : List Value), zeroOk u z = true → DCells w S u u.zero z
  | .int k, z, h => by
    match z, h with
    | [.int k' n], h =>
      simp only [zeroOk, Bool.and_eq_true, beq_iff_eq] at h
      obtain ⟨rfl, rfl⟩ := h
      rfl
  | .bool, z, h => by
    match z, h with
    | [.bool b], h =>
      simp only [zeroOk, Bool.not_eq_true'] at h
      subst h
      rfl
  | .str, z, h => by
    match z, h with
    | [.string b], h =>
      have : b = ByteArray.empty := by
        rcases b with ⟨⟨l⟩⟩
        simp [zeroOk] at h
        subst h; rfl
      subst this
      rfl
  | .list t, z, h => by
    match z, h with
    | [.slice none 0 0], h => exact ⟨none, 0, rfl, Nat.le_refl _, .inl rfl⟩
  | .unit, z, h => by
    match z, h with
    | [], h => rfl
  | .pair a b, z, h => by
    simp only [zeroOk, Bool.and_eq_true] at h
    exact ⟨z.take a.cells, z.drop a.cells, (List.take_append_drop _ _).symm, zero_cells0 S a _ h.1, zero_cells0 S b _ h.2⟩

theorem zero_cells {u : Ty} {z : List Value} (h : zeroOk u z = true) (S : Nat → Prop) : DCells w S u u.zero z := zero_cells0 S u z h

theorem zero_len {u : Ty} {z : List Value} (h : zeroOk u z = true) : z.length = u.cells := DCells.length u u.zero z (zero_cells0 (w := default) (fun _ => True) u z h)

theorem makeSlice_ok (hT : TOk P T) (hI : Inv B s tmps w ι) {t : TypeId} {ie : TI} (he : elemOf T t = some ie) {u : Ty} {k1 k2 : IntKind} {n m : Int} {q : Nat} (hm : mk n m = some q)
    (hu : u.cells = ie.size) (h0 : 0 < ie.size) (hb : ie.bytes ≤ 128) (hz : zeroOk u ie.zero = true) {base : Nat} (hfree : s.heap[base]? = some none) :
    ∃ v w' ι', (Instr.makeSlice t (.int k1 n) (.int k2 m)).run P w = .ok v w' ∧ Inv B (s.setRow base (.seq u (List.replicate q u.zero))) tmps w' ι' ∧
      AVRep w' (dst B.D w' ι' (s.setRow base (.seq u (List.replicate q u.zero))).heap) (sumOf ι' (s.setRow base (.seq u (List.replicate q u.zero))).heap) (.slc base) v := by
  obtain ⟨ti, e, hti, hke, hie⟩ := elemOf_some he
  have hti := hT _ _ hti
  have hie := hT _ _ hie
  have hun : P.underlying t = some (.slice e) := by have := hti.kind; rw [hke] at this; exact this
  obtain ⟨inf, hinf, hsz, hby, z, hzz, hzc⟩ := hie.info
  have hz1 := zero_len hz
  have hsu : inf.size = u.cells := by omega
  have hu0 : 0 < u.cells := by omega
  unfold mk at hm
  split at hm
  · rename_i hc
    obtain ⟨hn0, hnm, hmx⟩ := hc
    simp at hm
    subst hm
    have hwn : IntKind.i64.wrap n = n := by
      simp only [IntKind.wrap, IntKind.bits, IntKind.signed]
      simp [Int.bmod]; omega
    have hwm : IntKind.i64.wrap m = m := by
      simp only [IntKind.wrap, IntKind.bits, IntKind.signed]
      simp [Int.bmod]; omega
    have hbytes : (inf.bytes : Int) ≤ 128 := by omega
    have hprod : (inf.bytes : Int) * m ≤ 140737488355328 := by
      have h1 : (inf.bytes : Int) * m ≤ 128 * m := Int.mul_le_mul_of_nonneg_right hbytes (by omega)
      omega
    have hzs : z.cells.size = u.cells := by
      have : z.cells.toList.length = u.cells := by rw [hzc]; exact hz1
      simpa using this
    have hzd : DCells w (dst B.D w ι s.heap) u u.zero z.cells.toList := by rw [hzc]; exact zero_cells hz _
    generalize hcur : (Array.range (m.toNat * u.cells)).map (fun i => z.cells[i % z.cells.size]!) = cur
    have hcs : cur.size = m.toNat * u.cells := by rw [← hcur]; simp
    have hseq : SeqRep w (dst B.D w ι s.heap) u (List.replicate n.toNat u.zero) cur 0 := by
      intro i x hx
      have hi := (List.getElem?_eq_some_iff.1 hx).1
      simp at hi
      have hx0 : x = u.zero := by rw [List.getElem?_replicate] at hx; split at hx <;> simp_all
      subst hx0
      refine ⟨z.cells.toList, hzd, fun j v hv => ?_⟩
      have hj : j < u.cells := by have := (List.getElem?_eq_some_iff.1 hv).1; simp at this; omega
      have him : i < m.toNat := by omega
      have hlt : i * u.cells + j < m.toNat * u.cells := by
        have : (i + 1) * u.cells ≤ m.toNat * u.cells := Nat.mul_le_mul_right _ him
        rw [Nat.add_mul] at this
        omega
      have hmod : (i * u.cells + j) % u.cells = j := by rw [Nat.mul_comm, Nat.mul_add_mod, Nat.mod_eq_of_lt hj]
      rw [Nat.zero_add, ← hcur]
      have hvj : z.cells[j]? = some v := by simpa using hv
      have hjz : j < z.cells.size := by omega
      simp [hlt, hzs, hmod, hvj, getElem!_pos z.cells j hjz]
      rw [Array.getElem?_eq_getElem hjz] at hvj
      exact Option.some.inj hvj
    obtain ⟨hA, hB⟩ := hI.newSeq hfree u (List.replicate n.toNat u.zero) cur e m.toNat hcs (by simp; omega) (by simp [maxLen]; omega) hseq
    refine ⟨_, _, _, ?_, hA, hB⟩
    have hnotneg : ¬ (m < 0) := by omega
    have hl1 : ¬ (n < 0) := by omega
    have hl2 : ¬ (m < n) := by omega
    have hbig : ¬ (281474976710656 < (inf.bytes : Int) * m) := by omega
    have hroom : ¬ (roomBytes < m.toNat * inf.bytes) := by
      have : ((m.toNat * inf.bytes : Nat) : Int) = (inf.bytes : Int) * m := by
        rw [Int.natCast_mul, Int.toNat_of_nonneg (by omega), Int.mul_comm]
      have hr : roomBytes = 140737488355328 := by decide
      omega
    have hun0 : ¬ (u.cells = 0) := by omega
    by_cases hm0 : m.toNat = 0
    · have hr0 : cur = #[] := by
        apply Array.eq_empty_of_size_eq_zero
        rw [hcs, hm0]; simp
      rw [hr0]
      have hrr : (Array.map (fun _ => (default : Value)) (Array.range 0)) = #[] := by simp
      simp [Instr.makeSlice, Sem.run_bind, run_underlying hun, asInt, asIntOf, typeInfo, hinf, hwn, hwm, hnotneg, hl1, hl2, hbig, askRoom, hroom, sizeOf, hsu, hm0, run_newRow]
      rw [hrr]
    · have hnz : ¬ (m.toNat * u.cells = 0) := by
        intro h
        rcases Nat.mul_eq_zero.1 h with h | h <;> omega
      simp [Instr.makeSlice, Sem.run_bind, run_underlying hun, asInt, asIntOf, typeInfo, hinf, hwn, hwm, hnotneg, hl1, hl2, hbig, askRoom, hroom, sizeOf, hsu, hm0, hun0, zeroValue, hzz, hcur, run_newRow]
      exact fun h => absurd h hnz
  · cases hm

end
end Go.Rv

set_option linter.unusedSimpArgs false
set_option linter.unusedVariables false
namespace Go.Rv

section
variable {P : Program} {T : TT} {B : Base} {s : St} {tmps : Array Value} {w : World} {ι : Plc}

def SeqL (w : World) (S : Nat → Prop) (u : Ty) (ys : List u.den) (news : List Value) : Prop :=
  ∀ (i : Nat) x, ys[i]? = some x → ∃ c, DCells w S u x c ∧ ∀ j v, c[j]? = some v → news[i * u.cells + j]? = some v

theorem gather {S : Nat → Prop} (u : Ty) (b : Nat) : ∀ (ys : List u.den) (o : Nat), (∀ (i : Nat) x, ys[i]? = some x → ∃ c, DCells w S u x c ∧ HasCells w b (o + i * u.cells) c) →
    ∃ news : List Value, news.length = ys.length * u.cells ∧ HasCells w b o news ∧ (∀ v ∈ news, v.oneCell' = true) ∧ SeqL w S u ys news
  | [], o, _ => ⟨[], by simp, by intro j v h; simp at h, by simp, by intro i x h; simp at h⟩
  | y :: r, o, h => by
    obtain ⟨c, hd, hc⟩ := h 0 y rfl
    simp only [Nat.zero_mul, Nat.add_zero] at hc
    have hl := DCells.length _ _ _ hd
    obtain ⟨news, h1, h2, h3, h4⟩ := gather u b r (o + u.cells) (fun i x hx => by
      obtain ⟨c', hd', hc'⟩ := h (i + 1) x (by simpa using hx)
      refine ⟨c', hd', ?_⟩
      have : o + u.cells + i * u.cells = o + (i + 1) * u.cells := by rw [Nat.add_mul]; omega
      rw [this]; exact hc')
    refine ⟨c ++ news, by simp [hl, h1, Nat.add_mul, Nat.add_comm], fun j v hv => ?_, fun v hv => ?_, fun i x hx => ?_⟩
    · by_cases hj : j < c.length
      · rw [List.getElem?_append_left hj] at hv; exact hc j v hv
      · rw [List.getElem?_append_right (by omega)] at hv
        have := h2 _ v hv
        rw [← this]; congr 2; omega
    · rcases List.mem_append.1 hv with hv | hv
      · exact DCells.one _ _ _ hd v hv
      · exact h3 v hv
    · cases i with
      | zero =>
        simp at hx; subst hx
        refine ⟨c, hd, fun j v hv => ?_⟩
        have := (List.getElem?_eq_some_iff.1 hv).1
        rw [List.getElem?_append_left (by omega)]
        simpa using hv
      | succ i =>
        simp at hx
        obtain ⟨c', hd', hc'⟩ := h4 i x hx
        refine ⟨c', hd', fun j v hv => ?_⟩
        have := hc' j v hv
        rw [List.getElem?_append_right (by rw [hl, Nat.add_mul]; omega), ← this]
        congr 1
        rw [hl, Nat.add_mul]; omega

theorem castD_some {t t' : Ty} {x : t'.den} {y : t.den} (h : castD t t' x = some y) : ∃ e : t' = t, y = e ▸ x := by
  unfold castD at h
  split at h
  · rename_i e; simp at h; exact ⟨e, h.symm⟩
  · cases h

/-- The cells of a slice that is read. -/
theorem elems_rep (hI : Inv B s tmps w ι) {u : Ty} {y : AV} {ys : List u.den} (h : elems s u y = some ys) {vy : Value} (hy : AVRep w (dst B.D w ι s.heap) (sumOf ι s.heap) y vy) :
    ∃ a c, vy = .slice a ys.length c ∧ (ys = [] ∨ ∃ b o, a = some ⟨b, o, none⟩ ∧ ∀ (i : Nat) x, ys[i]? = some x → ∃ c, DCells w (dst B.D w ι s.heap) u x c ∧ HasCells w b (o + i * u.cells) c) := by
  unfold elems at h
  split at h
  · rename_i t' xs
    obtain ⟨e, rfl⟩ := castD_some h
    cases e
    obtain ⟨a, cap, e1, hle, hr⟩ := hy
    simp at e1
    subst e1
    refine ⟨a, cap, rfl, ?_⟩
    rcases hr with hr | ⟨b, o, ha, _, _, hall⟩
    · exact .inl hr
    · exact .inr ⟨b, o, ha, hall⟩
  · simp at h; subst h
    obtain ⟨a, rfl⟩ := hy
    exact ⟨a, 0, rfl, .inl rfl⟩
  · rename_i g
    split at h
    · rename_i t' xs hrow
      have hr := row_eq hrow
      obtain ⟨e, rfl⟩ := castD_some h
      cases e
      obtain ⟨q, hq, hw⟩ := hy
      have hq' := sum_of_row hr hq
      subst hq'
      unfold WinAt at hw
      simp only at hw
      split at hw
      · rename_i b o c hp
        obtain ⟨hle, rfl | ⟨h0, a, rfl⟩⟩ := hw
        · refine ⟨_, _, rfl, .inr ⟨b, o + 0 * u.cells, rfl, fun i x hx => ?_⟩⟩
          obtain ⟨cs, hd, hc⟩ := seq_cells hI.hrep hr hp hx
          exact ⟨cs, hd, by simpa using hc⟩
        · have hz : xs.length = 0 := by omega
          exact ⟨a, 0, by rw [hz], .inl (List.eq_nil_of_length_eq_zero hz)⟩
      · obtain ⟨_, hz, a, rfl⟩ := hw
        exact ⟨a, 0, by rw [hz], .inl (List.eq_nil_of_length_eq_zero hz)⟩
    · cases h
  · rename_i g off len
    split at h
    · rename_i t' xs hrow
      have hr := row_eq hrow
      obtain ⟨e, rfl⟩ := castD_some h
      cases e
      obtain ⟨q, hq, hl, hw⟩ := hy
      have hq' := sum_of_row hr hq
      subst hq'
      simp only at hl
      have hlen : ((xs.drop off).take len).length = len := by simp; omega
      unfold WinAt at hw
      simp only at hw
      split at hw
      · rename_i b o c hp
        obtain ⟨hle, rfl | ⟨h0, a, rfl⟩⟩ := hw
        · refine ⟨_, _, by rw [hlen], .inr ⟨b, o + off * u.cells, rfl, fun i x hx => ?_⟩⟩
          have hx' : xs[off + i]? = some x := by
            rw [List.getElem?_take] at hx
            split at hx
            · rw [List.getElem?_drop] at hx; exact hx
            · cases hx
          obtain ⟨cs, hd, hc⟩ := seq_cells hI.hrep hr hp hx'
          exact ⟨cs, hd, by rw [Nat.add_assoc, ← Nat.add_mul]; exact hc⟩
        · have hz : len = 0 := by omega
          exact ⟨a, 0, by rw [hlen, hz], .inl (List.eq_nil_of_length_eq_zero (hlen.trans hz))⟩
      · obtain ⟨_, hz, a, rfl⟩ := hw
        exact ⟨a, 0, by rw [hlen, hz], .inl (List.eq_nil_of_length_eq_zero (hlen.trans hz))⟩
    · cases h
  · cases h

/-- Room is there: the new elements are written behind the old ones. -/
theorem run_append_in {t ty e : TypeId} {i : TypeInfo} (ht : P.underlying t = some (.slice e)) (hi : P.info? e = some i) {b o L c m cy : Nat} {cur : Array Value} {e' : TypeId} (hg : w.heap[b]? = some (.cells cur e' (0, 0)))
    {vy : Option Addr} {news : List Value} (hf : (Builtin.firstCells i.size m (.slice vy m cy)).run P w = .ok news.toArray w) (h1 : ∀ v ∈ news, v.oneCell' = true) (hroom : L + m ≤ c) (hfit : o + L * i.size + news.length ≤ cur.size) :
    (Builtin.append_ #[t, t] ty #[.slice (some ⟨b, o, none⟩) L c, .slice vy m cy]).run P w =
      .ok (.slice (some ⟨b, o, none⟩) (L + m) c) (w.setRow b (cur.toList.take (o + L * i.size) ++ news ++ cur.toList.drop (o + L * i.size + news.length)).toArray) := by
  have hst := run_storeCells_at P b (o + L * i.size) e' news 0 cur w hg (by simpa using hfit) h1
  simp only [Nat.add_zero] at hst
  simp [Builtin.append_, run_underlying ht, sizeOf, typeInfo, hi, Builtin.lenOf, hroom, hf, addr_add, hst]

theorem run_append_idle {t ty e : TypeId} {i : TypeInfo} (ht : P.underlying t = some (.slice e)) (hi : P.info? e = some i) {a vy : Option Addr} {cy : Nat} :
    (Builtin.append_ #[t, t] ty #[.slice a 0 0, .slice vy 0 cy]).run P w = .ok (.slice a 0 0) w := by
  cases a <;> cases vy <;> simp [Builtin.append_, run_underlying ht, sizeOf, typeInfo, hi, Builtin.lenOf, Builtin.firstCells, loadCells, loadCellsFrom, storeCells]

def AppendEnds (w : World) (S : Nat → Prop) (u : Ty) (zs ys : List u.den) (place : Option (Nat × Nat × Nat)) (v' : Value) (w' : World) (p : Option (Nat × Nat × Nat)) : Prop :=
  (zs = [] ∧ ys = [] ∧ w' = w ∧ p = none ∧ ∃ a, v' = .slice a 0 0) ∨
  (∃ b o c cur e cur', place = some (b, o, c) ∧ p = some (b, o, c) ∧ w.heap[b]? = some (.cells cur e (0, 0)) ∧ w' = w.setRow b cur' ∧ v' = .slice (some ⟨b, o, none⟩) (zs.length + ys.length) c ∧
    zs.length + ys.length ≤ c ∧ cur'.size = o + c * u.cells ∧ SeqRep w S u (zs ++ ys) cur' o) ∨
  (∃ c cur e, p = some (w.heap.size, 0, c) ∧ w' = w.drew.alloc (.cells cur e) ∧ v' = .slice (some ⟨w.heap.size, 0, none⟩) (zs.length + ys.length) c ∧
    zs.length + ys.length ≤ c ∧ c ≤ maxLen ∧ cur.size = c * u.cells ∧ SeqRep w S u (zs ++ ys) cur 0)

theorem SeqL.append {S : Nat → Prop} {u : Ty} {zs ys : List u.den} {a b : List Value} (ha : SeqL w S u zs a) (hb : SeqL w S u ys b) (hl : a.length = zs.length * u.cells) : SeqL w S u (zs ++ ys) (a ++ b) := by
  intro i x hx
  by_cases hi : i < zs.length
  · rw [List.getElem?_append_left hi] at hx
    obtain ⟨c, hd, hc⟩ := ha i x hx
    refine ⟨c, hd, fun j v hv => ?_⟩
    have hj := (List.getElem?_eq_some_iff.1 hv).1
    have hcl := DCells.length _ _ _ hd
    have : (i + 1) * u.cells ≤ zs.length * u.cells := Nat.mul_le_mul_right _ hi
    rw [Nat.add_mul] at this
    rw [List.getElem?_append_left (by omega)]
    exact hc j v hv
  · rw [List.getElem?_append_right (by omega)] at hx
    obtain ⟨c, hd, hc⟩ := hb _ x hx
    refine ⟨c, hd, fun j v hv => ?_⟩
    have := hc j v hv
    have h2 : zs.length * u.cells ≤ i * u.cells := Nat.mul_le_mul_right _ (by omega)
    rw [List.getElem?_append_right (by omega), ← this]
    congr 1
    rw [hl, Nat.mul_comm (i - zs.length), Nat.mul_sub, Nat.mul_comm u.cells i, Nat.mul_comm u.cells]
    omega

theorem append_run (hT : TOk P T) {S : Nat → Prop} {t ty : TypeId} {ie : TI} (he : elemOf T t = some ie) {u : Ty} (hu : u.cells = ie.size) (h0 : 0 < ie.size) (hb : ie.bytes ≤ 128) (hzl0 : ie.zero.length = u.cells)
    {zs ys : List u.den} (hroom : room (zs.length + ys.length) = some ()) {vx vy : Value} {place : Option (Nat × Nat × Nat)}
    (hx : (zs = [] ∧ ∃ a, vx = .slice a 0 0) ∨ (∃ b o c cur e, place = some (b, o, c) ∧ vx = .slice (some ⟨b, o, none⟩) zs.length c ∧ w.heap[b]? = some (.cells cur e (0, 0)) ∧ zs.length ≤ c ∧ c ≤ maxLen ∧ cur.size = o + c * u.cells ∧ SeqRep w S u zs cur o))
    (hy : ∃ a c, vy = .slice a ys.length c ∧ (ys = [] ∨ ∃ b o, a = some ⟨b, o, none⟩ ∧ ∀ (i : Nat) x, ys[i]? = some x → ∃ c, DCells w S u x c ∧ HasCells w b (o + i * u.cells) c)) :
    ∃ v' w' p, (Builtin.append_ #[t, t] ty #[vx, vy]).run P w = .ok v' w' ∧ AppendEnds w S u zs ys place v' w' p := by
  obtain ⟨ti, e, hti, hke, hie⟩ := elemOf_some he
  have hti := hT _ _ hti
  have hie := hT _ _ hie
  have hun : P.underlying t = some (.slice e) := by have := hti.kind; rw [hke] at this; exact this
  obtain ⟨inf, hinf, hsz, hby, z, hzz, hzc⟩ := hie.info
  have hsu : inf.size = u.cells := by omega
  obtain ⟨ay, cy, rfl, hys⟩ := hy
  have hlen : zs.length + ys.length ≤ 1099511627776 := by
    unfold room at hroom
    split at hroom
    · assumption
    · cases hroom
  have hbytes : (zs.length + ys.length) * inf.bytes ≤ 140737488355328 := by
    have : (zs.length + ys.length) * inf.bytes ≤ 1099511627776 * 128 := Nat.mul_le_mul hlen (by omega)
    omega
  -- the source
  obtain ⟨news, hnl, hfirst, hone, hsl⟩ : ∃ news : List Value, news.length = ys.length * u.cells ∧ (∀ w1 : World, w1.heap = w.heap → (Builtin.firstCells inf.size ys.length (.slice ay ys.length cy)).run P w1 = .ok news.toArray w1) ∧
      (∀ v ∈ news, v.oneCell' = true) ∧ SeqL w S u ys news := by
    rcases hys with rfl | ⟨b, o, rfl, hall⟩
    · refine ⟨[], by simp, fun w1 _ => ?_, by simp, by intro i x h; simp at h⟩
      cases ay <;> simp [Builtin.firstCells, loadCells, loadCellsFrom]
    · obtain ⟨news, h1, h2, h3, h4⟩ := gather u b ys o hall
      refine ⟨news, h1, fun w1 hw1 => ?_, h3, h4⟩
      exact run_firstCells_some w1 inf.size ys.length ⟨b, o, none⟩ ys.length cy news (by rw [h1, hsu]) (fun j v hv => by
        rw [addr_add]
        have := h2 j v hv
        simp only [World.cell?] at this ⊢
        rw [hw1]; exact this)
  -- the new block, if one is made
  have grow : ∀ (b : Addr) (c : Nat) (olds : List Value), olds.length = zs.length * u.cells → (∀ j v, olds[j]? = some v → w.cell? (b.add j) = some v) → SeqL w S u zs olds → c < zs.length + ys.length →
      ∃ v' w' p, (Builtin.append_ #[t, t] ty #[.slice (some b) zs.length c, .slice ay ys.length cy]).run P w = .ok v' w' ∧ AppendEnds w S u zs ys place v' w' p := by
    intro b c olds hol hoc hos hlt
    have hys0 : ys.length ≠ 0 ∨ ay = none ∨ ∃ a, ay = some a := by cases ay <;> simp
    have hn : ¬ (zs.length + ys.length ≤ c) := by omega
    have h63 : ¬ (9223372036854775807 < ((zs.length : Int) + (ys.length : Int))) := by omega
    have h48 : ¬ (281474976710656 < Builtin.nextslicecap (zs.length + ys.length) c * inf.bytes) := by
      have := growslice_fits (old := c) (by omega) hbytes; omega
    have hf := hfirst w.drew rfl
    have hfo := run_firstCells_some (P := P) w.drew inf.size zs.length b zs.length c olds (by rw [hol, hsu]) (by simpa using hoc)
    have hge := grownCap_ge w (zs.length + ys.length) c e
    have hcm := grownCap_le_maxLen w (zs.length + ys.length) c e (by simp only [maxLen]; omega)
    refine ⟨_, _, some (w.heap.size, 0, grownCap w (zs.length + ys.length) c e), ?_, .inr (.inr ⟨grownCap w (zs.length + ys.length) c e, olds.toArray ++ news.toArray ++ Builtin.zeroCells z.cells (grownCap w (zs.length + ys.length) c e - (zs.length + ys.length)), e, rfl, rfl, rfl, hge, hcm, ?_, ?_⟩)⟩
    · simp [Builtin.append_, run_underlying hun, sizeOf, typeInfo, zeroValue, hinf, hzz, Builtin.lenOf, hn, h63, h48, Question.forced, hf, hfo, newRow, grownCap]
      congr 2
      apply Array.ext'
      simp [List.append_assoc]
    · have hzl : z.cells.size = u.cells := by rw [← hzl0, ← hzc]; simp
      simp only [Array.size_append, List.size_toArray, size_zeroCells, hzl, hol, hnl, ← Nat.add_mul]
      congr 1
      omega
    · intro i x hx
      obtain ⟨cs, hd, hc⟩ := (hos.append hsl hol) i x hx
      refine ⟨cs, hd, fun j v hv => ?_⟩
      have := hc j v hv
      have hlt := (List.getElem?_eq_some_iff.1 this).1
      simp only [Nat.zero_add]
      rw [Array.getElem?_append_left (by simp at hlt ⊢; omega)]
      simpa using this
  rcases hx with ⟨rfl, a, rfl⟩ | ⟨b, o, c, cur, e', rfl, rfl, hblk, hzc, hcm, hcs, hseq⟩
  · by_cases hy0 : ys.length = 0
    · have : ys = [] := List.eq_nil_of_length_eq_zero hy0
      subst this
      exact ⟨_, _, none, run_append_idle hun hinf, .inl ⟨rfl, rfl, rfl, rfl, a, rfl⟩⟩
    · cases a with
      | some b => exact grow b 0 [] (by simp) (by simp) (by intro i x h; simp at h) (by simp; omega)
      | none =>
        rcases hys with rfl | ⟨b, o, rfl, hall⟩
        · simp at hy0
        · have hge := grownCap_ge w ys.length 0 e
          have hcm := grownCap_le_maxLen w ys.length 0 e (by simp only [maxLen]; simp at hlen; omega)
          have hf := hfirst w.drew rfl
          have hn : ys.length ≠ 0 := hy0
          have h63' : ¬ (9223372036854775807 < (ys.length : Int)) := by simp at hlen; omega
          have h48' : ¬ (281474976710656 < Builtin.nextslicecap ys.length 0 * inf.bytes) := by
            rw [nextslicecap_zero (by omega)]; simp at hbytes; omega
          refine ⟨_, _, some (w.heap.size, 0, grownCap w ys.length 0 e), ?_, .inr (.inr ⟨grownCap w ys.length 0 e, news.toArray ++ Builtin.zeroCells z.cells (grownCap w ys.length 0 e - ys.length), e, rfl, rfl, by simp; rfl, by simpa using hge, hcm, ?_, ?_⟩)⟩
          · simp [Builtin.append_, run_underlying hun, sizeOf, typeInfo, zeroValue, hinf, hzz, Builtin.lenOf, hn, h63', h48', Question.forced, run_firstCells_none, hf, newRow, grownCap]
          · have hzl : z.cells.size = u.cells := by rw [← hzl0, ← hzc]; simp
            simp only [Array.size_append, List.size_toArray, size_zeroCells, hzl, hnl, ← Nat.add_mul]
            congr 1
            omega
          · intro i x hx
            simp only [List.nil_append] at hx
            obtain ⟨cs, hd, hc⟩ := hsl i x hx
            refine ⟨cs, hd, fun j v hv => ?_⟩
            have := hc j v hv
            have hlt := (List.getElem?_eq_some_iff.1 this).1
            simp only [Nat.zero_add]
            rw [Array.getElem?_append_left (by simpa using hlt)]
            simpa using this
  · by_cases hfit : zs.length + ys.length ≤ c
    · have hfl : o + zs.length * inf.size + news.length ≤ cur.size := by
        rw [hnl, hsu, hcs, Nat.add_assoc, ← Nat.add_mul]
        exact Nat.add_le_add_left (Nat.mul_le_mul_right _ hfit) _
      have hrun := run_append_in (ty := ty) hun hinf (b := b) (o := o) (L := zs.length) (c := c) (m := ys.length) (cy := cy) hblk (hfirst w rfl) hone hfit hfl
      refine ⟨_, _, some (b, o, c), hrun, .inr (.inl ⟨b, o, c, cur, e', _, rfl, rfl, hblk, rfl, rfl, hfit, ?_, ?_⟩)⟩
      · simp; omega
      · rw [hsu]
        have hget : ∀ m, (cur.toList.take (o + zs.length * u.cells) ++ news ++ cur.toList.drop (o + zs.length * u.cells + news.length)).toArray[m]? = if o + zs.length * u.cells ≤ m ∧ m < o + zs.length * u.cells + news.length then news[m - (o + zs.length * u.cells)]? else cur[m]? := by
          intro m
          have := splice_get cur.toList (o + zs.length * u.cells) news (by rw [hsu] at hfl; simpa using hfl) m
          rw [List.getElem?_toArray, this]
          simp
        intro i x hx
        by_cases hi : i < zs.length
        · rw [List.getElem?_append_left hi] at hx
          obtain ⟨cs, hd, hc⟩ := hseq i x hx
          refine ⟨cs, hd, fun j v hv => ?_⟩
          have hj := (List.getElem?_eq_some_iff.1 hv).1
          have hcl := DCells.length _ _ _ hd
          have : (i + 1) * u.cells ≤ zs.length * u.cells := Nat.mul_le_mul_right _ hi
          rw [Nat.add_mul] at this
          rw [hget, if_neg (by omega)]
          exact hc j v hv
        · rw [List.getElem?_append_right (by omega)] at hx
          obtain ⟨cs, hd, hc⟩ := hsl _ x hx
          refine ⟨cs, hd, fun j v hv => ?_⟩
          have := hc j v hv
          have hj := (List.getElem?_eq_some_iff.1 this).1
          have h2 : zs.length * u.cells ≤ i * u.cells := Nat.mul_le_mul_right _ (by omega)
          have h3 : (i - zs.length) * u.cells = i * u.cells - zs.length * u.cells := by rw [Nat.mul_comm (i - zs.length), Nat.mul_sub, Nat.mul_comm u.cells i, Nat.mul_comm u.cells]
          rw [h3] at hj this
          rw [hget, if_pos (by omega), ← this]
          congr 1
          omega
    · have hall : ∀ (i : Nat) x, zs[i]? = some x → ∃ c, DCells w S u x c ∧ HasCells w b (o + i * u.cells) c := fun i x hx => by
        obtain ⟨cs, hd, hc⟩ := hseq i x hx
        exact ⟨cs, hd, fun j v hv => by rw [cells_of_block hblk]; exact hc j v hv⟩
      obtain ⟨olds, h1, h2, h3, h4⟩ := gather u b zs o hall
      exact grow ⟨b, o, none⟩ c olds h1 (fun j v hv => by rw [addr_add]; exact h2 j v hv) h4 (by omega)

end
end Go.Rv

set_option linter.unusedSimpArgs false
set_option linter.unusedVariables false
namespace Go.Rv

section
variable {P : Program} {T : TT} {B : Base} {s : St} {tmps : Array Value} {w : World} {ι : Plc}

theorem scrub_refs {h : Nat} {a : AV} {x : Nat} (hx : (scrub h a).refs x = true) : a.refs x = true ∧ x ≠ h := by
  unfold scrub at hx
  cases hc : a.refs h with
  | true => rw [hc] at hx; simp [AV.refs] at hx
  | false =>
    rw [hc] at hx
    simp at hx
    exact ⟨hx, fun e => by subst e; rw [hx] at hc; cases hc⟩

theorem scrub_or (h : Nat) (a : AV) : scrub h a = a ∨ scrub h a = .undef := by
  unfold scrub
  cases a.refs h <;> simp

theorem refsL_map_scrub {h : Nat} {x : Nat} : ∀ {cs : List AV}, refsL (cs.map (scrub h)) x = true → refsL cs x = true ∧ x ≠ h
  | [], hx => by simp [refsL] at hx
  | a :: r, hx => by
    simp only [List.map_cons, refsL, Bool.or_eq_true] at hx
    rcases hx with hx | hx
    · have := scrub_refs hx; exact ⟨by simp [refsL, this.1], this.2⟩
    · have := refsL_map_scrub hx; exact ⟨by simp [refsL, this.1], this.2⟩

theorem scrubRow_rep {w : World} {S : Nat → Prop} {σ : Nat → Option Sum} {q : Option (Nat × Nat × Nat)} {h : Nat} {r : Row} (hr : RowRep w S σ q r) : RowRep w S σ q (scrubRow h r) := by
  cases r with
  | seq u xs => exact hr
  | box cs =>
    obtain ⟨b, o, c, cur, e, hp, hb, hall⟩ := hr
    refine ⟨b, o, c, cur, e, hp, hb, fun j a hj => ?_⟩
    rw [List.getElem?_map] at hj
    cases hc : cs[j]? with
    | none => simp [hc] at hj
    | some a0 =>
      simp [hc] at hj
      obtain ⟨v, h1, h2, h3⟩ := hall j a0 hc
      refine ⟨v, h1, h2, ?_⟩
      rcases scrub_or h a0 with e | e <;> rw [← hj, e]
      · exact h3
      · trivial

/-- A row that has grown: all that referred to it is forgotten. -/
theorem Inv.grow (h : Inv B s tmps w ι) {g : Nat} {r0 : Row} (hg : s.heap[g]? = some (some r0)) (hk : B.k ≤ g) (u : Ty) (ys : List u.den) {w' : World} {p : Option (Nat × Nat × Nat)}
    (hkept : Kept (stab w ι s.heap) w w') (hoth : ∀ (h' : Nat) (r1 : Row) q, h' ≠ g → s.heap[h']? = some (some r1) → ι h' = some q → w'.heap[q.1]? = w.heap[q.1]?)
    (hplace : ∀ q, p = some q → (q.1 < w'.heap.size ∧ ¬ stab w ι s.heap q.1 ∧ ∀ (h' : Nat) (r1 : Row) q', h' ≠ g → s.heap[h']? = some (some r1) → ι h' = some q' → q'.1 ≠ q.1))
    (hown : ∀ q, p = some q → B.D q.1)
    (hrow : Trans w ι s.heap w' (setPlc ι g p) ((s.scrub g).setRow g (.seq u ys)).heap (fun x => x ≠ g ∧ ∃ r1, s.heap[x]? = some (some r1)) →
      RowRep w' (dst B.D w' (setPlc ι g p) ((s.scrub g).setRow g (.seq u ys)).heap) (sumOf (setPlc ι g p) ((s.scrub g).setRow g (.seq u ys)).heap) p (.seq u ys)) :
    Inv B ((s.scrub g).setRow g (.seq u ys)) tmps w' (setPlc ι g p) ∧ sumOf (setPlc ι g p) ((s.scrub g).setRow g (.seq u ys)).heap g = some ⟨p, u.cells, ys.length⟩ := by
  have hlt : g < s.heap.length := (List.getElem?_eq_some_iff.1 hg).1
  refine ⟨h.turn (s' := (s.scrub g).setRow g (.seq u ys)) (g := g) (r := .seq u ys) (p := p) (fun x => x ≠ g ∧ ∃ r1, s.heap[x]? = some (some r1)) (by simp [St.setRow, St.scrub, hlt]) ?_ ?_ hkept hoth hplace ?_ (fun x hx => hx.2) hrow ?_ ?_ hown, ?_⟩
  · intro h' r' hne hr'
    simp only [St.setRow, St.scrub] at hr'
    rw [List.getElem?_set_ne (Ne.symm hne), List.getElem?_map] at hr'
    cases hc : s.heap[h']? with
    | none => simp [hc] at hr'
    | some x =>
      cases x with
      | none => simp [hc] at hr'
      | some r1 =>
        simp [hc] at hr'
        subst hr'
        refine ⟨r1, rfl, by cases r1 <;> rfl, by cases r1 <;> simp [scrubRow, Row.len], fun S σ w q hh => scrubRow_rep hh, fun x hx => ?_⟩
        cases r1 with
        | seq u xs => simp [scrubRow, Row.refs] at hx
        | box cs =>
          simp only [scrubRow, Row.refs] at hx
          have := refsL_map_scrub hx
          refine ⟨this.2, ?_⟩
          obtain ⟨q, hq⟩ := (h.hrep.rows h' _ hc).refs_some x this.1
          exact sumOf_some hq
  · intro h' r1 hne hr1
    exact ⟨scrubRow g r1, by simp only [St.setRow, St.scrub]; rw [List.getElem?_set_ne (Ne.symm hne), List.getElem?_map, hr1]; rfl⟩
  · rintro ⟨hne, _⟩; exact absurd rfl hne
  · intro i a ha
    simp only [St.setRow, St.scrub, List.getElem?_map] at ha
    cases hc : s.env[i]? with
    | none => simp [hc] at ha
    | some a0 =>
      simp [hc] at ha
      obtain ⟨v, hv, hr⟩ := h.env i a0 hc
      refine ⟨v, hv, .inl ⟨a0, hr, by rw [← ha]; exact scrub_or g a0, fun x hx => ?_⟩⟩
      rw [← ha] at hx
      have := scrub_refs hx
      refine ⟨this.2, ?_⟩
      obtain ⟨q, hq⟩ := AVRep.refs_some a0 v x hr this.1
      exact sumOf_some hq
  · intro hk'; omega
  · simp only [St.setRow]
    exact sumOf_set_self (by simp [St.scrub, hlt])

theorem append_grow (hI : Inv B s tmps w ι) {g : Nat} {r0 : Row} (hg : s.heap[g]? = some (some r0)) (hk : B.k ≤ g) {u : Ty} {zs ys : List u.den} {place : Option (Nat × Nat × Nat)}
    (hpl : ∀ b o c, place = some (b, o, c) → ∃ o' c', ι g = some (b, o', c')) (hcm : ∀ b o c, place = some (b, o, c) → c ≤ maxLen) {v' : Value} {w' : World} {p : Option (Nat × Nat × Nat)}
    (h : AppendEnds w (dst B.D w ι s.heap) u zs ys place v' w' p) :
    ∃ ι', Inv B ((s.scrub g).setRow g (.seq u (zs ++ ys))) tmps w' ι' ∧ AVRep w' (dst B.D w' ι' ((s.scrub g).setRow g (.seq u (zs ++ ys))).heap) (sumOf ι' ((s.scrub g).setRow g (.seq u (zs ++ ys))).heap) (.slc g) v' := by
  rcases h with ⟨rfl, rfl, rfl, rfl, a, rfl⟩ | ⟨b, o, c, cur, e, cur', hp, rfl, hb, rfl, rfl, hle, hsz, hseq⟩ | ⟨c, cur, e, rfl, rfl, rfl, hle, hcm', hsz, hseq⟩
  · obtain ⟨h1, h2⟩ := hI.grow hg hk u ([] ++ []) (w' := w') (p := none) (Kept.refl _ _) (fun _ _ _ _ _ _ => rfl) (by intro q hq; cases hq) (by intro q hq; cases hq) (fun _ => by simp [RowRep])
    exact ⟨_, h1, _, h2, by simp, by simp, a, by simp⟩
  · obtain ⟨o', c', hι⟩ := hpl b o c hp
    have hns : ¬ stab w ι s.heap b := fun hs => hs.2 g r0 _ hg hι rfl
    obtain ⟨h1, h2⟩ := hI.grow hg hk u (zs ++ ys) (w' := w.setRow b cur') (p := some (b, o, c)) ⟨rfl, rfl, rfl, by simp, fun x hx => setRow_other w b x cur' (fun e => hns (e ▸ hx)), frz_setRow _ _ _⟩
      (fun h' r1 q hne hr1 hq => setRow_other w b q.1 cur' (fun e => hI.hrep.sep h' g r1 r0 q _ hr1 hg hq hι hne e))
      (by
        intro q hq
        cases hq
        exact ⟨by simp; exact (Array.getElem?_eq_some_iff.1 hb).1, hns, fun h' r1 q' hne hr1 hq' => by
          have := hI.hrep.sep h' g r1 r0 q' (b, o', c') hr1 hg hq' hι hne
          exact this⟩)
      (by intro q hq; cases hq; exact hI.hrep.own g r0 (b, o', c') hg hι)
      (fun ht => ⟨cur', e, setRow_heap w b cur _ e _ hb, hsz, by simpa using hle, hcm b o c hp, fun i x hx => by
        obtain ⟨cs, hd, hc⟩ := hseq i x hx
        exact ⟨cs, ht.dat hd, hc⟩⟩)
    exact ⟨_, h1, _, h2, by simpa using hle, .inl (by simp)⟩
  · have hsz' : (w.drew.alloc (.cells cur e)).heap.size = w.heap.size + 1 := by simp
    obtain ⟨h1, h2⟩ := hI.grow hg hk u (zs ++ ys) (w' := w.drew.alloc (.cells cur e)) (p := some (w.heap.size, 0, c)) ⟨rfl, rfl, rfl, by omega, fun x hx => heap_alloc_old w.drew _ x hx.1, fun a => frz_alloc w.drew _ _ a⟩
      (fun h' r1 q hne hr1 hq => by
        have := hI.hrep.rows h' r1 hr1
        rw [hq] at this
        exact heap_alloc_old w.drew _ _ this.lt)
      (by
        intro q hq
        cases hq
        refine ⟨by omega, fun hs => Nat.lt_irrefl _ hs.1, fun h' r1 q' hne hr1 hq' => ?_⟩
        have := hI.hrep.rows h' r1 hr1
        rw [hq'] at this
        exact Nat.ne_of_lt this.lt)
      (by intro q hq; cases hq; exact B.new _ hI.kept.size)
      (fun ht => ⟨cur, e, heap_alloc_new w.drew _, by simpa using hsz, by simpa using hle, hcm', fun i x hx => by
        obtain ⟨cs, hd, hc⟩ := hseq i x hx
        exact ⟨cs, ht.dat hd, hc⟩⟩)
    exact ⟨_, h1, _, h2, by simpa using hle, .inl (by simp)⟩

theorem room_unit {n : Nat} {β : Type} {f : Unit → Option β} {r : β} (h : (room n).bind f = some r) : room n = some () ∧ f () = some r := by
  cases hr : room n with
  | none => simp [hr] at h
  | some x => cases x; simp [hr] at h; exact ⟨rfl, h⟩

theorem aappend_ok {C : Ctx} (hT : TOk P C.T) (hk : C.k = B.k) (hI : Inv B s tmps w ι) {β : Type} {base : Nat} {t ty : TypeId} {x y : AV} {K : AV → St → Option β} {r : β} (h : aappend (optAlg β) C base s t x y K = some r) {vx vy : Value}
    (hx : AVRep w (dst B.D w ι s.heap) (sumOf ι s.heap) x vx) (hy : AVRep w (dst B.D w ι s.heap) (sumOf ι s.heap) y vy) :
    ∃ a v s' w' ι', K a s' = some r ∧ (Builtin.append_ #[t, t] ty #[vx, vy]).run P w = .ok v w' ∧ Inv B s' tmps w' ι' ∧ AVRep w' (dst B.D w' ι' s'.heap) (sumOf ι' s'.heap) a v := by
  unfold aappend at h
  split at h
  · rename_i ie hie
    split at h
    · rename_i u hu
      split at h
      · rename_i hc
        obtain ⟨hc1, hc2, hc3, hc4⟩ := hc
        have hzl : ie.zero.length = u.cells := by have := zero_len hc4; omega
        split at h
        · rename_i ys hys
          have hyr := elems_rep hI hys hy
          simp only [optAlg] at h
          split at h
          · obtain ⟨hroom, h⟩ := room_unit h
            obtain ⟨hfree, h⟩ := allocRow_opt h
            obtain ⟨v', w', p, hrun, hend⟩ := append_run (ty := ty) (place := none) hT hie hc1 hc2 hc3 hzl (zs := []) (ys := ys) (by simpa using hroom) (.inl ⟨rfl, hx⟩) hyr
            rcases hend with ⟨_, rfl, rfl, rfl, a, rfl⟩ | ⟨b, o, c, cur, e, cur', hp, _⟩ | ⟨c, cur, e, rfl, rfl, rfl, hle, hcm', hsz, hseq⟩
            · refine ⟨_, _, _, _, _, h, hrun, hI.addNil hfree u, _, sumOf_set_self (List.getElem?_eq_some_iff.1 hfree).1, ?_⟩
              exact ⟨rfl, rfl, a, rfl⟩
            · cases hp
            · obtain ⟨hA, hB⟩ := (hI.drew (w.drawn + 1)).newSeq hfree u ys cur e c hsz (by simpa using hle) hcm' (by
                intro i x hx
                obtain ⟨cs, hd, hc⟩ := hseq i x (by simpa using hx)
                exact ⟨cs, DCells.mono (w := w) (w' := { w with drawn := w.drawn + 1 }) (S := dst B.D w ι s.heap) (S' := dst B.D { w with drawn := w.drawn + 1 } ι s.heap) (Nat.le_refl _) (fun b hb _ => ⟨hb, rfl⟩) u x cs hd, hc⟩)
              exact ⟨_, _, _, _, _, h, hrun, hA, by simpa using hB⟩
          · rename_i g
            split at h
            · rename_i u' xs hrow
              have hr := row_eq hrow
              split at h
              · rename_i xs' hcast
                obtain ⟨e, hxs⟩ := castD_some hcast
                cases e
                have hxs : xs' = xs := hxs
                subst hxs
                split at h
                · rename_i hkg
                  obtain ⟨hroom, h⟩ := room_unit h
                  obtain ⟨q, hq, hw⟩ := hx
                  have hq' := sum_of_row hr hq
                  subst hq'
                  have hrr := hI.hrep.rows g _ hr
                  obtain ⟨v', w', p, hrun, hend⟩ := append_run (ty := ty) (place := ι g) (S := dst B.D w ι s.heap) hT hie hc1 hc2 hc3 hzl (zs := xs') (ys := ys) hroom (vx := vx) (by
                    unfold WinAt at hw
                    simp only at hw
                    split at hw
                    · rename_i b o c hp
                      rw [hp] at hrr
                      obtain ⟨cur, e, h1, h2, h3, h4, h5⟩ := hrr
                      obtain ⟨hle, rfl | ⟨hc0, a, rfl⟩⟩ := hw
                      · exact .inr ⟨b, o, c, cur, e, hp, by simp, h1, h3, h4, h2, h5⟩
                      · exact .inl ⟨List.eq_nil_of_length_eq_zero (by omega), a, rfl⟩
                    · obtain ⟨_, hz, a, rfl⟩ := hw
                      exact .inl ⟨List.eq_nil_of_length_eq_zero hz, a, rfl⟩) hyr
                  obtain ⟨ι', hA, hB⟩ := append_grow hI hr (by omega) (fun b o c hp => ⟨o, c, hp⟩) (fun b o c hp => by
                    rw [hp] at hrr
                    obtain ⟨cur, e, h1, h2, h3, h4, h5⟩ := hrr
                    exact h4) hend
                  exact ⟨_, _, _, _, ι', h, hrun, hA, hB⟩
                · cases h
              · cases h
            · cases h
          · rename_i g off len
            split at h
            · rename_i u' xs hrow
              have hr := row_eq hrow
              split at h
              · rename_i xs' hcast
                obtain ⟨e, hxs⟩ := castD_some hcast
                cases e
                have hxs : xs' = xs := hxs
                subst hxs
                split at h
                · rename_i hkg
                  obtain ⟨hroom, h⟩ := room_unit h
                  obtain ⟨q, hq, hl, hw⟩ := hx
                  have hq' := sum_of_row hr hq
                  subst hq'
                  simp only at hl
                  have hrr := hI.hrep.rows g _ hr
                  have hlen : ((xs'.drop off).take len).length = len := by simp; omega
                  obtain ⟨v', w', p, hrun, hend⟩ := append_run (ty := ty) (place := match ι g with | some (b, o, c) => some (b, o + off * u.cells, c - off) | none => none) (S := dst B.D w ι s.heap) hT hie hc1 hc2 hc3 hzl (zs := (xs'.drop off).take len) (ys := ys) (by rw [hlen]; exact hroom) (vx := vx) (by
                    unfold WinAt at hw
                    simp only at hw
                    split at hw
                    · rename_i b o c hp
                      rw [hp] at hrr
                      obtain ⟨cur, e, h1, h2, h3, h4, h5⟩ := hrr
                      obtain ⟨hle, rfl | ⟨hc0, a, rfl⟩⟩ := hw
                      · refine .inr ⟨b, o + off * u.cells, c - off, cur, e, by simp [hp], by rw [hlen], h1, by omega, by omega, ?_, fun i x hx => ?_⟩
                        · rw [h2, Nat.add_assoc, ← Nat.add_mul]; congr 2; omega
                        · have hx' : xs'[off + i]? = some x := by
                            rw [List.getElem?_take] at hx
                            split at hx
                            · rw [List.getElem?_drop] at hx; exact hx
                            · cases hx
                          obtain ⟨cs, hd, hc⟩ := h5 _ x hx'
                          refine ⟨cs, hd, fun j v hv => ?_⟩
                          have := hc j v hv
                          rw [Nat.add_mul] at this
                          rw [← this]; congr 1; omega
                      · exact .inl ⟨List.eq_nil_of_length_eq_zero (by omega), a, rfl⟩
                    · obtain ⟨_, hz, a, rfl⟩ := hw
                      exact .inl ⟨List.eq_nil_of_length_eq_zero (by omega), a, rfl⟩) hyr
                  obtain ⟨ι', hA, hB⟩ := append_grow hI hr (by omega) (fun b o c hp => by
                    cases hι : ι g with
                    | none => rw [hι] at hp; cases hp
                    | some q =>
                      obtain ⟨b0, o0, c0⟩ := q
                      rw [hι] at hp
                      simp at hp
                      exact ⟨o0, c0, by rw [hp.1]⟩) (fun b o c hp => by
                    cases hι : ι g with
                    | none => rw [hι] at hp; cases hp
                    | some q =>
                      obtain ⟨b0, o0, c0⟩ := q
                      rw [hι] at hp hrr
                      obtain ⟨cur, e, h1, h2, h3, h4, h5⟩ := hrr
                      simp at hp
                      omega) hend
                  exact ⟨_, _, _, _, ι', h, hrun, hA, hB⟩
                · cases h
              · cases h
            · cases h
          · cases h
        · cases h
      · cases h
    · cases h
  · cases h

end
end Go.Rv

set_option linter.unusedSimpArgs false
set_option linter.unusedVariables false
namespace Go.Rv

abbrev Fun := List AV → Heap → Ans

/-- A function of the program does what `F` reckons. -/
def Sound (P : Program) (f : FuncId) (F : Fun) : Prop :=
  ∀ avs H r H', (F avs H).run = some (r, H') → ∀ (D : Nat → Prop) (w : World) (args : List Value) (ι : Plc), (∀ b, w.heap.size ≤ b → D b) → HRep D w ι H → GlobsOk w (dst D w ι H) → (∀ h, h < H.length → ∃ x, H[h]? = some (some x)) →
    AVsRep w (dst D w ι H) (sumOf ι H) avs args →
    Calls P f args.toArray w (fun e w' => ∃ v ι', e = .returned v ∧ Kept (stab w ι H) w w' ∧ HRep D w' ι' H' ∧ (∀ b, stab w ι H b → stab w' ι' H' b) ∧
      (∀ h, h < H.length → sumOf ι' H' h = sumOf ι H h) ∧ AVRep w' (dst D w' ι' H') (sumOf ι' H') r v)

mutual
theorem refs_ids : ∀ (a : AV) (g : Nat), a.refs g = true → g ∈ a.ids
  | .slc h, g, hg => by simp [AV.refs] at hg; simp [AV.ids, hg]
  | .win h _ _, g, hg => by simp [AV.refs] at hg; simp [AV.ids, hg]
  | .ptr h _, g, hg => by simp [AV.refs] at hg; simp [AV.ids, hg]
  | .elt h _ _, g, hg => by simp [AV.refs] at hg; simp [AV.ids, hg]
  | .agg cs, g, hg => by simp only [AV.ids]; exact refsL_ids cs g (by simpa [AV.refs] using hg)
  | .tup cs, g, hg => by simp only [AV.ids]; exact refsL_ids cs g (by simpa [AV.refs] using hg)
  | .fn _ a b, g, hg => by
    simp only [AV.refs, Bool.or_eq_true] at hg
    simp only [AV.ids, List.mem_append]
    exact hg.imp (refsL_ids a g) (refsL_ids b g)
  | .undef, g, hg => by simp [AV.refs] at hg
  | .dat _ _, g, hg => by simp [AV.refs] at hg
  | .nils, g, hg => by simp [AV.refs] at hg
  | .relt _ _ _, g, hg => by simp [AV.refs] at hg
  | .tab _ _, g, hg => by simp [AV.refs] at hg
  | .raw _, g, hg => by simp [AV.refs] at hg
theorem refsL_ids : ∀ (a : List AV) (g : Nat), refsL a g = true → g ∈ idsL a
  | [], g, hg => by simp [refsL] at hg
  | a :: r, g, hg => by
    simp only [refsL, Bool.or_eq_true] at hg
    simp only [idsL, List.mem_append]
    exact hg.imp (refs_ids a g) (refsL_ids r g)
end

theorem DCells.free {w : World} {S S' : Nat → Prop} : ∀ (t : Ty) (x : t.den) (cs : List Value), t.hasList = false → DCells w S t x cs → DCells w S' t x cs
  | .int _, _, _, _, hd => hd
  | .bool, _, _, _, hd => hd
  | .str, _, _, _, hd => hd
  | .unit, _, _, _, hd => hd
  | .pair a b, _, _, hl, ⟨c1, c2, e, h1, h2⟩ => by
    simp only [Ty.hasList, Bool.or_eq_false_iff] at hl
    exact ⟨c1, c2, e, DCells.free a _ _ hl.1 h1, DCells.free b _ _ hl.2 h2⟩
  | .list t, _, _, hl, _ => by simp [Ty.hasList] at hl

theorem DCells.sub {w : World} {S S' : Nat → Prop} (h : ∀ b, S b → S' b) {t : Ty} {x : t.den} {cs : List Value} (hd : DCells w S t x cs) : DCells w S' t x cs :=
  DCells.mono (Nat.le_refl _) (fun b hb _ => ⟨h b hb, rfl⟩) t x cs hd

mutual
theorem AVRep.ren {w : World} {S S' : Nat → Prop} {σ σ' : Nat → Option Sum} {f : Nat → Nat} : ∀ (a : AV) (v : Value), ((∀ b, S b → S' b) ∨ a.hasList = false) → (∀ g, a.refs g = true → σ' (f g) = σ g) → AVRep w S σ a v → AVRep w S' σ' (a.ren f) v
  | .undef, _, _, _, _ => trivial
  | .dat t x, v, hS, _, hr => by
    rcases hS with hS | hS
    · exact DCells.sub hS hr
    · exact DCells.free t x _ (by simpa [AV.hasList] using hS) hr
  | .nils, _, _, _, hr => hr
  | .slc g, _, _, hg, ⟨s, hs, hw⟩ => ⟨s, (hg g (by simp [AV.refs])).trans hs, hw⟩
  | .win g _ _, _, _, hg, ⟨s, hs, hw⟩ => ⟨s, (hg g (by simp [AV.refs])).trans hs, hw⟩
  | .ptr g _, _, _, hg, ⟨s, b, o, c, hs, hw⟩ => ⟨s, b, o, c, (hg g (by simp [AV.refs])).trans hs, hw⟩
  | .elt g _ _, _, _, hg, ⟨s, b, o, c, hs, hw⟩ => ⟨s, b, o, c, (hg g (by simp [AV.refs])).trans hs, hw⟩
  | .relt t x _, _, hS, _, ⟨b, o, cs, e, hs, hlt, hd, hc⟩ => by
    rcases hS with hS | hS
    · exact ⟨b, o, cs, e, hS b hs, hlt, DCells.sub hS hd, hc⟩
    · simp [AV.hasList] at hS
  | .tab t xs, _, hS, _, ⟨b, e, h1, h2, h3⟩ => by
    rcases hS with hS | hS
    · exact ⟨b, e, hS b h1, h2, fun i x hx => by obtain ⟨c, hc, hh⟩ := h3 i x hx; exact ⟨c, DCells.sub hS hc, hh⟩⟩
    · simp [AV.hasList] at hS
  | .agg cs, _, hS, hg, ⟨vs, e, hr⟩ => ⟨vs, e, AVsRep.ren cs vs (hS.imp id (by simp [AV.hasList])) (fun g hh => hg g (by simpa [AV.refs] using hh)) hr⟩
  | .tup cs, _, hS, hg, ⟨vs, e, hr⟩ => ⟨vs, e, AVsRep.ren cs vs (hS.imp id (by simp [AV.hasList])) (fun g hh => hg g (by simpa [AV.refs] using hh)) hr⟩
  | .fn _ a b, _, hS, hg, ⟨va, vb, e, h1, h2⟩ =>
    ⟨va, vb, e, AVsRep.ren a va (hS.imp id (by simp [AV.hasList]; exact fun h _ => h)) (fun g hh => hg g (by simp [AV.refs, hh])) h1, AVsRep.ren b vb (hS.imp id (by simp [AV.hasList])) (fun g hh => hg g (by simp [AV.refs, hh])) h2⟩
  | .raw _, _, _, _, hr => hr
theorem AVsRep.ren {w : World} {S S' : Nat → Prop} {σ σ' : Nat → Option Sum} {f : Nat → Nat} : ∀ (a : List AV) (v : List Value), ((∀ b, S b → S' b) ∨ hasListL a = false) → (∀ g, refsL a g = true → σ' (f g) = σ g) → AVsRep w S σ a v → AVsRep w S' σ' (renL f a) v
  | [], _, _, _, hr => hr
  | a :: r, _, hS, hg, ⟨v, vr, e, h1, h2⟩ =>
    ⟨v, vr, e, AVRep.ren a v (hS.imp id (by simp [hasListL]; exact fun h _ => h)) (fun g hh => hg g (by simp [refsL, hh])) h1, AVsRep.ren r vr (hS.imp id (by simp [hasListL])) (fun g hh => hg g (by simp [refsL, hh])) h2⟩
end

theorem renL_get {f : Nat → Nat} : ∀ {cs : List AV} {j : Nat} {a : AV}, (renL f cs)[j]? = some a → ∃ a0, cs[j]? = some a0 ∧ a = a0.ren f
  | [], _, _, h => by simp [renL] at h
  | c :: r, 0, a, h => by simp [renL] at h; exact ⟨c, rfl, h.symm⟩
  | c :: r, j + 1, a, h => by simp [renL] at h; simpa using renL_get h

theorem renL_length {f : Nat → Nat} : ∀ (cs : List AV), (renL f cs).length = cs.length
  | [] => rfl
  | c :: r => by simp [renL, renL_length r]

theorem hasListL_get : ∀ {cs : List AV} {j : Nat} {a : AV}, cs[j]? = some a → hasListL cs = false → a.hasList = false
  | [], _, _, h, _ => by simp at h
  | c :: r, 0, a, h, hl => by simp at h; subst h; simp [hasListL] at hl; exact hl.1
  | c :: r, j + 1, a, h, hl => by simp at h; simp [hasListL] at hl; exact hasListL_get h hl.2

theorem RowRep.ren {w : World} {S S' : Nat → Prop} {σ σ' : Nat → Option Sum} {f : Nat → Nat} {p : Option (Nat × Nat × Nat)} {r : Row} (hS : (∀ b, S b → S' b) ∨ r.hasList = false)
    (hg : ∀ g, r.refs g = true → σ' (f g) = σ g) (h : RowRep w S σ p r) : RowRep w S' σ' p (r.ren f) := by
  cases r with
  | seq t xs =>
    cases p with
    | none => exact h
    | some q =>
      obtain ⟨b, o, c⟩ := q
      obtain ⟨cur, e, h1, h2, h3, h4, h5⟩ := h
      refine ⟨cur, e, h1, h2, h3, h4, fun i x hx => ?_⟩
      obtain ⟨cs, hd, hc⟩ := h5 i x hx
      rcases hS with hS | hS
      · exact ⟨cs, DCells.sub hS hd, hc⟩
      · exact ⟨cs, DCells.free t x _ (by simpa [Row.hasList] using hS) hd, hc⟩
  | box cs =>
    obtain ⟨b, o, c, cur, e, hp, h1, h2⟩ := h
    refine ⟨b, o, c, cur, e, hp, h1, fun j a hj => ?_⟩
    obtain ⟨a0, hj0, rfl⟩ := renL_get hj
    obtain ⟨v, hv, h1c, hr⟩ := h2 j a0 hj0
    exact ⟨v, hv, h1c, AVRep.ren a0 v (hS.imp id (fun hl => hasListL_get hj0 (by simpa [Row.hasList] using hl))) (fun g hh => hg g (refsL_get hj0 hh)) hr⟩

theorem Row.ren_cells (f : Nat → Nat) (r : Row) : (r.ren f).cells = r.cells := by cases r <;> rfl
theorem Row.ren_len (f : Nat → Nat) (r : Row) : (r.ren f).len = r.len := by cases r <;> simp [Row.ren, Row.len, renL_length]

theorem nodup_inj : ∀ {l : List Nat}, nodupB l = true → ∀ {i j : Nat} {x : Nat}, l[i]? = some x → l[j]? = some x → i = j
  | [], _, i, _, _, h, _ => by simp at h
  | a :: r, hn, i, j, x, hi, hj => by
    simp only [nodupB, Bool.and_eq_true, Bool.not_eq_true'] at hn
    have hna : ∀ k, r[k]? ≠ some a := fun k hk => by
      have : a ∈ r := List.mem_of_getElem? hk
      have hc := hn.1
      simp [this] at hc
    cases i with
    | zero =>
      cases j with
      | zero => rfl
      | succ j => simp at hi hj; subst hi; exact absurd hj (hna j)
    | succ i =>
      cases j with
      | zero => simp at hi hj; subst hj; exact absurd hi (hna i)
      | succ j => simp at hi hj; rw [nodup_inj hn.2 hi hj]

theorem place_get {ids : List Nat} {h : Nat} (hm : h ∈ ids) : ids[place ids h]? = some h := by
  unfold place
  obtain ⟨i, hi, hx⟩ := List.getElem_of_mem hm
  cases hq : ids.idxOf? h with
  | none =>
    rw [List.idxOf?, List.findIdx?_eq_none_iff] at hq
    exact absurd (hq h hm) (by simp)
  | some j =>
    simp only [Option.getD_some]
    rw [List.idxOf?] at hq
    obtain ⟨hj, he, _⟩ := List.findIdx?_eq_some_iff_getElem.1 hq
    simp at he
    rw [List.getElem?_eq_getElem hj, he]

theorem closed_get {H : Heap} {ids : List Nat} : ∀ {l : List Nat}, closedB H ids l = true → ∀ {h : Nat}, h ∈ l → ∃ r, H[h]? = some (some r) ∧ ∀ g ∈ r.ids, g ∈ ids
  | [], _, _, hm => by cases hm
  | a :: l, hc, h, hm => by
    simp only [closedB, Bool.and_eq_true] at hc
    rcases List.mem_cons.1 hm with rfl | hm
    · have h1 := hc.1
      split at h1
      · rename_i x hx
        exact ⟨x, hx, fun g hg => by
          have := List.all_eq_true.1 h1 g hg
          simpa using this⟩
      · cases h1
    · exact closed_get hc.2 hm

theorem fresh_get {H : Heap} {base : Nat} : ∀ {n : Nat}, freshB H base n = true → ∀ {j : Nat}, j < n → H[base + j]? = some none
  | 0, _, _, hj => by omega
  | n + 1, hf, j, hj => by
    simp only [freshB, Bool.and_eq_true] at hf
    by_cases hjn : j = n
    · subst hjn
      have h1 := hf.1
      split at h1
      · assumption
      · cases h1
    · exact fresh_get hf.2 (by omega)

theorem Row.refs_ids {r : Row} {g : Nat} (h : r.refs g = true) : g ∈ r.ids := by
  cases r with
  | seq t xs => simp [Row.refs] at h
  | box cs => exact refsL_ids cs g h

/-! putRows -/

theorem putRows_length (f : Nat → Nat) : ∀ (Hs : Heap) (n : Nat) (H : Heap), (putRows f n Hs H).length = H.length
  | [], _, _ => rfl
  | r :: rest, n, H => by
    simp only [putRows]
    rw [putRows_length f rest]
    split <;> simp

theorem putRows_miss (f : Nat → Nat) (g : Nat) : ∀ (Hs : Heap) (n : Nat) (H : Heap), (∀ (j : Nat) r, Hs[j]? = some (some r) → f (n + j) ≠ g) → (putRows f n Hs H)[g]? = H[g]?
  | [], _, _, _ => rfl
  | r :: rest, n, H, h => by
    simp only [putRows]
    rw [putRows_miss f g rest (n + 1) _ (fun j x hx => by
      have := h (j + 1) x (by simpa using hx)
      rw [show n + 1 + j = n + (j + 1) by omega]; exact this)]
    split
    · rename_i x
      have := h 0 x rfl
      simp only [Nat.add_zero] at this
      rw [List.getElem?_set_ne this]
    · rfl

theorem putRows_hit (f : Nat → Nat) : ∀ (Hs : Heap) (n : Nat) (H : Heap) (j : Nat) (r : Row), Hs[j]? = some (some r) → f (n + j) < H.length → (∀ (i : Nat) x, Hs[i]? = some (some x) → f (n + i) = f (n + j) → i = j) →
    (putRows f n Hs H)[f (n + j)]? = some (some (r.ren f))
  | [], _, _, _, _, h, _, _ => by simp at h
  | y :: rest, n, H, 0, r, h, hl, hinj => by
    simp at h
    subst h
    simp only [putRows, Nat.add_zero]
    rw [putRows_miss f (f n) rest (n + 1) _ (fun j x hx e => by
      have := hinj (j + 1) x (by simpa using hx) (by rw [show n + (j + 1) = n + 1 + j by omega]; exact e)
      omega)]
    simp at hl
    simp [hl]
  | y :: rest, n, H, j + 1, r, h, hl, hinj => by
    simp at h
    simp only [putRows]
    have e : n + (j + 1) = n + 1 + j := by omega
    rw [e] at hl ⊢
    refine putRows_hit f rest (n + 1) _ j r h (by split <;> simpa using hl) (fun i x hx he => ?_)
    have := hinj (i + 1) x (by simpa using hx) (by rw [show n + (i + 1) = n + 1 + i by omega, e]; exact he)
    omega

end Go.Rv

set_option linter.unusedSimpArgs false
set_option linter.unusedVariables false
namespace Go.Rv

section
variable {P : Program} {T : TT} {B : Base} {s : St} {tmps : Array Value} {w : World} {ι : Plc}

theorem DCells.list_of {S : Nat → Prop} {u : Ty} {xs : List u.den} {b o c : Nat} (hle : xs.length ≤ c) (hb : S b) (hlt : b < w.heap.size)
    (hall : ∀ (i : Nat) x, xs[i]? = some x → ∃ cs, DCells w S u x cs ∧ HasCells w b (o + i * u.cells) cs) : DCells w S (.list u) xs [.slice (some ⟨b, o, none⟩) xs.length c] :=
  ⟨some ⟨b, o, none⟩, c, rfl, hle, .inr ⟨b, o, rfl, hb, hlt, hall⟩⟩

/-- What a slice of ours shows, as a datum. -/
theorem slc_dat (hH : HRep B.D w ι s.heap) {S1 : Nat → Prop} (hS : ∀ b, dst B.D w ι s.heap b → S1 b) {g : Nat} {u : Ty} {xs : List u.den} (hr : s.heap[g]? = some (some (.seq u xs))) (hown : ∀ p, ι g = some p → S1 p.1)
    {off len : Nat} {q : Sum} (hq : sumOf ι s.heap g = some q) (hl : off + len ≤ q.len) {v : Value} (hw : WinAt q off len v) : DCells w S1 (.list u) ((xs.drop off).take len) [v] := by
  have hq' := sum_of_row hr hq
  subst hq'
  simp only at hl
  have hlen : ((xs.drop off).take len).length = len := by simp; omega
  unfold WinAt at hw
  simp only at hw
  split at hw
  · rename_i b o c hp
    obtain ⟨hle, rfl | ⟨h0, a, rfl⟩⟩ := hw
    · have hrr := hH.rows g _ hr
      rw [hp] at hrr
      have hlt : b < w.heap.size := hrr.lt
      have := DCells.list_of (w := w) (S := S1) (u := u) (xs := (xs.drop off).take len) (b := b) (o := o + off * u.cells) (c := c - off) (by omega) (hown _ hp) hlt (fun i x hx => by
        have hx' : xs[off + i]? = some x := by
          rw [List.getElem?_take] at hx
          split at hx
          · rw [List.getElem?_drop] at hx; exact hx
          · cases hx
        obtain ⟨cs, hd, hc⟩ := seq_cells hH hr hp hx'
        exact ⟨cs, DCells.sub hS hd, by rw [Nat.add_assoc, ← Nat.add_mul]; exact hc⟩)
      rw [hlen] at this
      exact this
    · have hz : len = 0 := by omega
      subst hz
      exact ⟨a, 0, by simp, by simp, .inl (by simp)⟩
  · obtain ⟨_, hz, a, rfl⟩ := hw
    subst hz
    exact ⟨a, 0, by simp, by simp, .inl (by simp)⟩

theorem handArg_rep (hI : Inv B s tmps w ι) {S1 : Nat → Prop} (hS : ∀ b, dst B.D w ι s.heap b → S1 b) {io : Bool} {t : TypeId} {a x : AV} (h : handArg s T io t a = some x)
    (hro : ∀ g ∈ roIds [a] [x], ∀ p, ι g = some p → S1 p.1) {v : Value} (hv : AVRep w (dst B.D w ι s.heap) (sumOf ι s.heap) a v) : AVRep w S1 (sumOf ι s.heap) x v := by
  have keep : ∀ a : AV, AVRep w (dst B.D w ι s.heap) (sumOf ι s.heap) a v → AVRep w S1 (sumOf ι s.heap) a v := fun a ha =>
    AVRep.mono (Nat.le_refl _) (fun b hb _ => ⟨hS b hb, rfl⟩) a v (fun _ _ => rfl) ha
  unfold handArg at h
  split at h
  · rename_i g
    split at h
    · simp at h; subst h; exact keep _ hv
    · split at h
      · rename_i u xs hrow
        simp at h
        subst h
        obtain ⟨q, hq, hw⟩ := hv
        have hr := row_eq hrow
        have hq' := sum_of_row hr hq
        subst hq'
        have := slc_dat hI.hrep hS hr (fun p hp => hro g (by simp [roIds]) p hp) hq (by simp) hw
        simp only [List.drop_zero, List.take_length] at this
        exact this
      · cases h
  · rename_i g off len
    split at h
    · cases h
    · split at h
      · rename_i u xs hrow
        simp at h
        subst h
        obtain ⟨q, hq, hl, hw⟩ := hv
        exact slc_dat hI.hrep hS (row_eq hrow) (fun p hp => hro g (by simp [roIds]) p hp) hq hl hw
      · cases h
  · split at h
    · split at h
      · simp at h; subst h
        obtain ⟨a, rfl⟩ := hv
        exact ⟨a, 0, rfl, Nat.le_refl _, .inl rfl⟩
      · cases h
    · cases h
  · cases h
  · cases h
  · cases h
  · cases h
  · simp at h; subst h; exact keep _ hv

theorem handArgs_rep (hI : Inv B s tmps w ι) {S1 : Nat → Prop} (hS : ∀ b, dst B.D w ι s.heap b → S1 b) {io : Nat → Bool} : ∀ (as : List AV) (n : Nat) (ts : List TypeId) (xs : List AV) (vs : List Value), handArgs s T io n ts as = some xs →
    (∀ g ∈ roIds as xs, ∀ p, ι g = some p → S1 p.1) → AVsRep w (dst B.D w ι s.heap) (sumOf ι s.heap) as vs → AVsRep w S1 (sumOf ι s.heap) xs vs
  | [], n, ts, xs, vs, h, _, hv => by
    cases ts <;> simp [handArgs] at h <;> subst h <;> exact hv
  | a :: r, n, [], xs, vs, h, _, hv => by simp [handArgs] at h
  | a :: r, n, t :: ts, xs, vs, h, hro, hv => by
    simp only [handArgs] at h
    split at h
    · rename_i x l hx hl
      simp at h
      subst h
      obtain ⟨v, vr, rfl, h1, h2⟩ := hv
      have hsplit : roIds (a :: r) (x :: l) = roIds [a] [x] ++ roIds r l := by
        simp [roIds]
      rw [hsplit] at hro
      exact ⟨v, vr, rfl, handArg_rep hI hS hx (fun g hg => hro g (List.mem_append_left _ hg)) h1, handArgs_rep hI hS r (n + 1) ts l vr hl (fun g hg => hro g (List.mem_append_right _ hg)) h2⟩
    · cases h

theorem sub_get {H : Heap} {ids : List Nat} {j : Nat} {r : Row} (h : (subHeap H ids)[j]? = some (some r)) : ∃ g r0, ids[j]? = some g ∧ H[g]? = some (some r0) ∧ r = r0.ren (place ids) := by
  unfold subHeap at h
  rw [List.getElem?_map] at h
  cases hi : ids[j]? with
  | none => simp [hi] at h
  | some g =>
    simp only [hi, Option.map_some] at h
    cases hg : H[g]? with
    | none => simp [hg] at h
    | some x =>
      cases x with
      | none => simp [hg] at h
      | some r0 => simp [hg] at h; exact ⟨g, r0, rfl, hg, h.symm⟩

theorem sub_of {H : Heap} {ids : List Nat} {j g : Nat} {r0 : Row} (hi : ids[j]? = some g) (hg : H[g]? = some (some r0)) : (subHeap H ids)[j]? = some (some (r0.ren (place ids))) := by
  simp [subHeap, hi, hg]

theorem acall_ok {C : Ctx} (horc : ∀ f, Sound P f (C.orc f)) (hI : Inv B s tmps w ι) {β : Type} {base : Nat} {f : FuncId} {args : List AV} {types : List TypeId} {K : AV → St → Option β} {r : β}
    (h : acall (optAlg β) C base s f args types K = some r) {vs : List Value} (hv : AVsRep w (dst B.D w ι s.heap) (sumOf ι s.heap) args vs) :
    ∃ a s', K a s' = some r ∧ Calls P f vs.toArray w (fun e w' => ∃ v ι', e = .returned v ∧ Inv B s' tmps w' ι' ∧ AVRep w' (dst B.D w' ι' s'.heap) (sumOf ι' s'.heap) a v) := by
  unfold acall at h
  split at h
  · cases h
  · rename_i avs havs
    simp only at h
    split at h
    · rename_i hchk
      generalize hids : reach s.heap (s.heap.length + 1) 0 (addNew [] (idsL avs)) = ids at h hchk
      generalize hro : roIds args avs = ro at h hchk
      simp only [Bool.and_eq_true] at hchk
      obtain ⟨⟨⟨⟨hnd, hcl⟩, hall⟩, hroi⟩, hfr⟩ := hchk
      simp only [optAlg] at h
      cases horx : (C.orc f (renL (place ids) avs) (subHeap s.heap ids)).o with
      | none => simp [horx] at h
      | some qx =>
        simp only [horx, Option.bind_some] at h
        generalize hq0 : (C.orc f (renL (place ids) avs) (subHeap s.heap ids)).enc qx = q at h
        obtain ⟨ra, H'⟩ := q
        have horun : (C.orc f (renL (place ids) avs) (subHeap s.heap ids)).run = some (ra, H') := by simp [Ans.run, horx, hq0]
        split at h
        · rename_i hchk2
          simp only [Bool.and_eq_true, decide_eq_true_eq] at hchk2
          obtain ⟨⟨hw1, hw2⟩, halias⟩ := hchk2
          refine ⟨_, _, h, ?_⟩
          -- the callee's view
          let ιs : Plc := fun j => match ids[j]? with | some g => ι g | none => none
          have hidx : ∀ g, g ∈ ids → ids[place ids g]? = some g := fun g hg => place_get hg
          have hsum : ∀ g, g ∈ ids → sumOf ιs (subHeap s.heap ids) (place ids g) = sumOf ι s.heap g := fun g hg => by
            obtain ⟨r0, hr0, _⟩ := closed_get hcl hg
            have := sub_of (hidx g hg) hr0
            simp [sumOf, this, hr0, ιs, hidx g hg, Row.ren_cells, Row.ren_len]
          have hstab : ∀ b, stab w ι s.heap b → stab w ιs (subHeap s.heap ids) b := fun b hb => by
            refine ⟨hb.1, fun j r p hj hp => ?_⟩
            obtain ⟨g, r0, hi, hg, _⟩ := sub_get hj
            simp only [ιs, hi] at hp
            exact hb.2 g r0 p hg hp
          have hother : ∀ g r0 p, g ∉ ids → s.heap[g]? = some (some r0) → ι g = some p → stab w ιs (subHeap s.heap ids) p.1 := fun g r0 p hng hr0 hp => by
            have hrr := hI.hrep.rows g r0 hr0
            rw [hp] at hrr
            refine ⟨hrr.lt, fun j r p' hj hp' => ?_⟩
            obtain ⟨g', r', hi, hg', _⟩ := sub_get hj
            simp only [ιs, hi] at hp'
            exact hI.hrep.sep g' g r' r0 p' p hg' hr0 hp' hp (fun e => hng (e ▸ List.mem_of_getElem? hi))
          let D1 : Nat → Prop := fun b => dst B.D w ι s.heap b ∨ (∃ g ∈ ro, ∃ p, ι g = some p ∧ p.1 = b) ∨ w.heap.size ≤ b ∨ (∃ g ∈ ids, ∃ p, ι g = some p ∧ p.1 = b)
          have hS : ∀ b, dst B.D w ι s.heap b → dst D1 w ιs (subHeap s.heap ids) b := fun b hb => ⟨.inl hb, hstab b hb.2⟩
          have hrorow : ∀ g ∈ ro, ∃ r0, s.heap[g]? = some (some r0) := fun g hg => by
              -- a row that was handed over is there
              have key : ∀ (as xs : List AV) (vs : List Value), AVsRep w (dst B.D w ι s.heap) (sumOf ι s.heap) as vs → g ∈ roIds as xs → ∃ r0, s.heap[g]? = some (some r0) := by
                intro as
                induction as with
                | nil => intro xs vs _ hg; cases xs <;> simp [roIds] at hg
                | cons a r ih =>
                  intro xs vs hvs hg
                  obtain ⟨v, vr, rfl, h1, h2⟩ := hvs
                  cases xs with
                  | nil => simp [roIds] at hg
                  | cons x xr =>
                    simp only [roIds, List.mem_append] at hg
                    rcases hg with hg | hg
                    · have : a.refs g = true := by
                        split at hg
                        · simp at hg; subst hg; simp [AV.refs]
                        · simp at hg; subst hg; simp [AV.refs]
                        · cases hg
                      obtain ⟨q, hq⟩ := AVRep.refs_some a v g h1 this
                      exact sumOf_some hq
                    · exact ih xr vr h2 hg
              exact key args avs vs hv (by rw [hro]; exact hg)
          have hroS : ∀ g ∈ roIds args avs, ∀ p, ι g = some p → dst D1 w ιs (subHeap s.heap ids) p.1 := fun g hg p hp => by
            rw [hro] at hg
            have hng : g ∉ ids := by
              have := List.all_eq_true.1 hroi g hg
              simpa using this
            have hrow : ∃ r0, s.heap[g]? = some (some r0) := hrorow g hg
            obtain ⟨r0, hr0⟩ := hrow
            exact ⟨.inr (.inl ⟨g, hg, p, hp, rfl⟩), hother g r0 p hng hr0 hp⟩
          have hargs : AVsRep w (dst D1 w ιs (subHeap s.heap ids)) (sumOf ιs (subHeap s.heap ids)) (renL (place ids) avs) vs := by
            have h1 := handArgs_rep hI hS args 0 types avs vs havs hroS hv
            refine AVsRep.ren avs vs (.inl fun b hb => hb) (fun g hg => ?_) h1
            have hm : g ∈ ids := by
              have := List.all_eq_true.1 hall g (refsL_ids avs g hg)
              simpa using this
            exact hsum g hm
          have hHs : HRep D1 w ιs (subHeap s.heap ids) := by
            refine ⟨fun j r hj => ?_, fun j1 j2 r1 r2 p1 p2 e1 e2 q1 q2 hne => ?_, fun j r p hj hp => ?_⟩
            · obtain ⟨g, r0, hi, hg, rfl⟩ := sub_get hj
              have hι : ιs j = ι g := by simp [ιs, hi]
              rw [hι]
              refine RowRep.ren (.inl hS) (fun x hx => ?_) (hI.hrep.rows g r0 hg)
              obtain ⟨r1, hr1, hin⟩ := closed_get hcl (List.mem_of_getElem? hi)
              have : r1 = r0 := by rw [hg] at hr1; simpa using hr1.symm
              subst this
              exact hsum x (hin x (Row.refs_ids hx))
            · obtain ⟨g1, r1', hi1, hg1, _⟩ := sub_get e1
              obtain ⟨g2, r2', hi2, hg2, _⟩ := sub_get e2
              simp only [ιs, hi1] at q1
              simp only [ιs, hi2] at q2
              exact hI.hrep.sep g1 g2 r1' r2' p1 p2 hg1 hg2 q1 q2 (fun e => hne (nodup_inj hnd hi1 (e ▸ hi2)))
            · obtain ⟨g, r0, hi, hg, _⟩ := sub_get hj
              simp only [ιs, hi] at hp
              exact .inr (.inr (.inr ⟨g, List.mem_of_getElem? hi, p, hp, rfl⟩))
          have hglob : GlobsOk w (dst D1 w ιs (subHeap s.heap ids)) := hI.glob.mono (Nat.le_refl _) (fun b hb _ => ⟨hS b hb, rfl⟩)
          have hpres : ∀ j, j < (subHeap s.heap ids).length → ∃ x, (subHeap s.heap ids)[j]? = some (some x) := fun j hj => by
            have hj' : j < ids.length := by simpa [subHeap] using hj
            obtain ⟨r0, hr0, _⟩ := closed_get hcl (List.getElem_mem hj')
            exact ⟨_, sub_of (List.getElem?_eq_getElem hj') hr0⟩
          refine (horc f _ _ _ _ horun D1 w vs ιs (fun b hb => .inr (.inr (.inl hb))) hHs hglob hpres hargs).mono fun e w' hpost => ?_
          obtain ⟨v, ιc, rfl, hk, hHc, hst, hsumc, hres⟩ := hpost
          -- what comes back
          let bk := backTo ids base
          have hbk1 : ∀ j g, ids[j]? = some g → bk j = g := fun j g hj => by simp [bk, backTo, hj]
          have hbk2 : ∀ j, ids.length ≤ j → bk j = base + (j - ids.length) := fun j hj => by
            simp [bk, backTo, List.getElem?_eq_none hj]
          have hbkrow : ∀ j, j < H'.length → (j < ids.length ∧ ∃ r0, s.heap[bk j]? = some (some r0) ∧ bk j ∈ ids) ∨ (ids.length ≤ j ∧ s.heap[bk j]? = some none) := fun j hj => by
            by_cases hji : j < ids.length
            · obtain ⟨r0, hr0, _⟩ := closed_get hcl (List.getElem_mem hji)
              have := hbk1 j _ (List.getElem?_eq_getElem hji)
              exact .inl ⟨hji, r0, by rw [this]; exact hr0, by rw [this]; exact List.getElem_mem hji⟩
            · refine .inr ⟨by omega, ?_⟩
              rw [hbk2 j (by omega)]
              exact fresh_get hfr (by omega)
          have hinj : ∀ i j, i < H'.length → j < H'.length → bk i = bk j → i = j := fun i j hi hj e => by
            by_cases hii : i < ids.length
            · by_cases hjj : j < ids.length
              · have h1 := hbk1 i _ (List.getElem?_eq_getElem hii)
                have h2 := hbk1 j _ (List.getElem?_eq_getElem hjj)
                refine nodup_inj hnd (List.getElem?_eq_getElem hii) ?_
                rw [List.getElem?_eq_getElem hjj, ← h1, ← h2, e]
              · rcases hbkrow i hi with ⟨_, r0, h1, _⟩ | ⟨h1, _⟩
                · rcases hbkrow j hj with ⟨h2, _⟩ | ⟨_, h2⟩
                  · omega
                  · rw [e, h2] at h1; simp at h1
                · omega
            · by_cases hjj : j < ids.length
              · rcases hbkrow j hj with ⟨_, r0, h1, _⟩ | ⟨h1, _⟩
                · rcases hbkrow i hi with ⟨h2, _⟩ | ⟨_, h2⟩
                  · omega
                  · rw [← e, h2] at h1; simp at h1
                · omega
              · rw [hbk2 i (by omega), hbk2 j (by omega)] at e
                omega
          let H2 := putRows bk 0 H' s.heap
          let isB : Nat → Nat → Prop := fun g j => j < H'.length ∧ bk j = g
          let ι2 : Plc := fun g => match (List.range H'.length).find? (fun j => bk j == g) with | some j => ιc j | none => ι g
          have hι2b : ∀ j, j < H'.length → ι2 (bk j) = ιc j := fun j hj => by
            have : (List.range H'.length).find? (fun i => bk i == bk j) = some j := by
              cases hf : (List.range H'.length).find? (fun i => bk i == bk j) with
              | none =>
                have := List.find?_eq_none.1 hf j (List.mem_range.2 hj)
                simp at this
              | some i =>
                have h1 := List.find?_some hf
                have h2 := List.mem_of_find?_eq_some hf
                simp at h1 h2
                rw [hinj i j h2 hj h1]
            simp [ι2, this]
          have hι2o : ∀ g, (∀ j, j < H'.length → bk j ≠ g) → ι2 g = ι g := fun g hg => by
            have : (List.range H'.length).find? (fun i => bk i == g) = none := by
              rw [List.find?_eq_none]
              intro i hi
              simp at hi ⊢
              exact hg i hi
            simp [ι2, this]
          have hlenH : ∀ j, j < H'.length → bk j < s.heap.length := fun j hj => by
            rcases hbkrow j hj with ⟨_, r0, h1, _⟩ | ⟨_, h1⟩ <;> exact (List.getElem?_eq_some_iff.1 h1).1
          have hH2b : ∀ (j : Nat) r, H'[j]? = some (some r) → H2[bk j]? = some (some (r.ren bk)) := fun j r hj => by
            have hjl := (List.getElem?_eq_some_iff.1 hj).1
            have := putRows_hit bk H' 0 s.heap j r hj (by simpa using hlenH j hjl) (fun i x hx he => hinj i j (List.getElem?_eq_some_iff.1 hx).1 hjl (by simpa using he))
            simpa [H2] using this
          have hH2m : ∀ g, (∀ (j : Nat) r, H'[j]? = some (some r) → bk j ≠ g) → H2[g]? = s.heap[g]? := fun g hg => by
            exact putRows_miss bk g H' 0 s.heap (fun j r hj => by simpa using hg j r hj)
          have hH2 : ∀ g r, H2[g]? = some (some r) → (∃ j r0, H'[j]? = some (some r0) ∧ bk j = g ∧ r = r0.ren bk ∧ ι2 g = ιc j) ∨ ((∀ j, j < H'.length → bk j ≠ g) ∧ s.heap[g]? = some (some r) ∧ ι2 g = ι g ∧ g ∉ ids) := fun g r hg => by
            by_cases hex : ∃ j, j < H'.length ∧ bk j = g
            · obtain ⟨j, hj, rfl⟩ := hex
              left
              cases hjr : H'[j]? with
              | none => rw [List.getElem?_eq_none_iff] at hjr; omega
              | some x =>
                cases x with
                | some r0 =>
                  have := hH2b j r0 hjr
                  rw [hg] at this
                  simp at this
                  exact ⟨j, r0, hjr, rfl, this, hι2b j hj⟩
                | none =>
                  -- no row there: what stood before must have been none
                  have hm : H2[bk j]? = s.heap[bk j]? := hH2m _ (fun i x hi e => by
                    have := hinj i j (List.getElem?_eq_some_iff.1 hi).1 hj e
                    subst this
                    rw [hjr] at hi; simp at hi)
                  rcases hbkrow j hj with ⟨hji, r0, h1, _⟩ | ⟨_, h1⟩
                  · have hs := hsumc j (by simpa [subHeap] using hji)
                    obtain ⟨x, hx⟩ := hpres j (by simpa [subHeap] using hji)
                    rw [sumOf_of hx] at hs
                    obtain ⟨r1, hr1⟩ := sumOf_some hs
                    rw [hjr] at hr1; simp at hr1
                  · rw [hm, h1] at hg; simp at hg
            · right
              have hno : ∀ j, j < H'.length → bk j ≠ g := fun j hj e => hex ⟨j, hj, e⟩
              refine ⟨hno, ?_, hι2o g hno, fun hgi => ?_⟩
              · rw [← hH2m g (fun j r hj => hno j (List.getElem?_eq_some_iff.1 hj).1)]; exact hg
              · have h1 := hidx g hgi
                have h2 := (List.getElem?_eq_some_iff.1 h1).1
                exact hno (place ids g) (by omega) (hbk1 _ _ h1)
          have hsum2 : ∀ j r, H'[j]? = some (some r) → sumOf ι2 H2 (bk j) = sumOf ιc H' j := fun j r hj => by
            have hjl := (List.getElem?_eq_some_iff.1 hj).1
            rw [sumOf_of (hH2b j r hj), sumOf_of hj, hι2b j hjl, Row.ren_cells, Row.ren_len]
          have hst2 : ∀ b, stab w ι s.heap b → stab w' ι2 H2 b := fun b hb => by
            have h1 := hst b (hstab b hb)
            refine ⟨h1.1, fun g r p hg hp => ?_⟩
            rcases hH2 g r hg with ⟨j, r0, hj, _, _, hι⟩ | ⟨_, hr0, hι, _⟩
            · rw [hι] at hp; exact h1.2 j r0 p hj hp
            · rw [hι] at hp; exact hb.2 g r p hr0 hp
          have ht : Trans w ι s.heap w' ι2 H2 (fun x => ∃ r0, s.heap[x]? = some (some r0)) := by
            refine ⟨hk.size, fun b hb => ⟨hst2 b hb, hk.block b (hstab b hb)⟩, fun g ⟨r0, hr0⟩ => ?_⟩
            by_cases hgi : g ∈ ids
            · have h1 := hidx g hgi
              have h2 := (List.getElem?_eq_some_iff.1 h1).1
              have h3 := hsumc (place ids g) (by simpa [subHeap] using h2)
              rw [hsum g hgi, sumOf_of hr0] at h3
              obtain ⟨r1, hr1⟩ := sumOf_some h3
              have h4 := hsum2 _ r1 hr1
              rw [hbk1 _ _ h1] at h4
              rw [h4, h3, sumOf_of hr0]
            · have hno : ∀ j, j < H'.length → bk j ≠ g := fun j hj e => by
                rcases hbkrow j hj with ⟨_, r1, _, h2⟩ | ⟨_, h2⟩
                · exact hgi (e ▸ h2)
                · rw [e, hr0] at h2; simp at h2
              have hm := hH2m g (fun j r hj => hno j (List.getElem?_eq_some_iff.1 hj).1)
              simp [sumOf, hm, hr0, hι2o g hno]
          have hDst : ro = [] → ∀ b, dst D1 w' ιc H' b → dst B.D w' ι2 H2 b := fun hro0 b hb => by
            obtain ⟨hd, hs⟩ := hb
            rcases hd with hd | ⟨g, hg, _⟩ | hd | ⟨g, hg, p0, hp0, hb0⟩
            · exact ⟨hd.1, hst2 b hd.2⟩
            · rw [hro0] at hg; cases hg
            rotate_left
            · obtain ⟨r0, hr0, _⟩ := closed_get hcl hg
              refine ⟨by rw [← hb0]; exact hI.hrep.own g r0 p0 hr0 hp0, hs.1, fun g2 r p hg2 hp => ?_⟩
              rcases hH2 g2 r hg2 with ⟨j, r1, hj, _, _, hι⟩ | ⟨_, hr1, hι, hng⟩
              · rw [hι] at hp; exact hs.2 j r1 p hj hp
              · rw [hι] at hp
                rw [← hb0]
                exact hI.hrep.sep g2 g r r0 p p0 hr1 hr0 hp hp0 (fun e => hng (e ▸ hg))
            · refine ⟨B.new b (Nat.le_trans hI.kept.size hd), hs.1, fun g r p hg hp => ?_⟩
              rcases hH2 g r hg with ⟨j, r0, hj, _, _, hι⟩ | ⟨_, hr0, hι, _⟩
              · rw [hι] at hp; exact hs.2 j r0 p hj hp
              · rw [hι] at hp
                have hrr := hI.hrep.rows g r hr0
                rw [hp] at hrr
                have := hrr.lt
                omega
          have hfreeR : (∀ b, dst D1 w' ιc H' b → dst B.D w' ι2 H2 b) ∨ ra.hasList = false := by
            cases hroe : ro with
            | nil => exact .inl (hDst hroe)
            | cons a r =>
              right
              rw [hroe] at halias
              simp only [List.isEmpty_cons, Bool.false_or, Bool.not_eq_true', Bool.or_eq_false_iff] at halias
              exact halias.1
          have hfreeH : ∀ (j : Nat) r0, H'[j]? = some (some r0) → (∀ b, dst D1 w' ιc H' b → dst B.D w' ι2 H2 b) ∨ r0.hasList = false := fun j r0 hj => by
            cases hroe : ro with
            | nil => exact .inl (hDst hroe)
            | cons a r =>
              right
              rw [hroe] at halias
              simp only [List.isEmpty_cons, Bool.false_or, Bool.not_eq_true', Bool.or_eq_false_iff] at halias
              have := List.any_eq_false.1 halias.2 _ (List.mem_of_getElem? hj)
              simpa using this
          have hrefR : ∀ (a : AV) (u : Value), AVRep w' (dst D1 w' ιc H') (sumOf ιc H') a u → ∀ g, a.refs g = true → sumOf ι2 H2 (bk g) = sumOf ιc H' g := fun a u ha g hg => by
            obtain ⟨q, hq⟩ := AVRep.refs_some a u g ha hg
            obtain ⟨r1, hr1⟩ := sumOf_some hq
            exact hsum2 g r1 hr1
          refine ⟨v, ι2, rfl, ⟨hI.kept.trans hk (fun b hb => hstab b (hI.stay b hb)), ⟨fun g r hg => ?_, fun g1 g2 r1 r2 p1 p2 e1 e2 q1 q2 hne => ?_, fun g r p hg hp => ?_⟩, fun b hb => hst2 b (hI.stay b hb), fun g hg => ?_, fun i a ha => ?_, ht.globs hI.glob⟩, ?_⟩
          · rcases hH2 g r hg with ⟨j, r0, hj, _, rfl, hι⟩ | ⟨hno, hr0, hι, hgi⟩
            · rw [hι]
              refine RowRep.ren (hfreeH j r0 hj) (fun x hx => ?_) (hHc.rows j r0 hj)
              obtain ⟨q, hq⟩ := (hHc.rows j r0 hj).refs_some x hx
              obtain ⟨r1, hr1⟩ := sumOf_some hq
              exact hsum2 x r1 hr1
            · rw [hι]
              refine ht.row (fun x hx => ?_) (fun b o c hp => hk.block b (hother g r (b, o, c) hgi hr0 hp)) (hI.hrep.rows g r hr0)
              obtain ⟨q, hq⟩ := (hI.hrep.rows g r hr0).refs_some x hx
              exact sumOf_some hq
          · rcases hH2 g1 r1 e1 with ⟨j1, s1, hj1, hb1, _, hι1⟩ | ⟨_, hr1, hι1, hgi1⟩ <;> rcases hH2 g2 r2 e2 with ⟨j2, s2, hj2, hb2, _, hι2⟩ | ⟨_, hr2, hι2, hgi2⟩
            · rw [hι1] at q1; rw [hι2] at q2
              exact hHc.sep j1 j2 s1 s2 p1 p2 hj1 hj2 q1 q2 (fun e => hne (by rw [← hb1, ← hb2, e]))
            · rw [hι1] at q1; rw [hι2] at q2
              exact (hst _ (hother g2 r2 p2 hgi2 hr2 q2)).2 j1 s1 p1 hj1 q1
            · rw [hι1] at q1; rw [hι2] at q2
              exact fun e => (hst _ (hother g1 r1 p1 hgi1 hr1 q1)).2 j2 s2 p2 hj2 q2 e.symm
            · rw [hι1] at q1; rw [hι2] at q2
              exact hI.hrep.sep g1 g2 r1 r2 p1 p2 hr1 hr2 q1 q2 hne
          · rcases hH2 g r hg with ⟨j, r0, hj, _, _, hι⟩ | ⟨_, hr0, hι, _⟩
            · rw [hι] at hp
              rcases hHc.own j r0 p hj hp with hd | ⟨g', hg', p', hp', hb'⟩ | hd | ⟨g', hg', p', hp', hb'⟩
              · exact hd.1
              · rw [← hb']
                obtain ⟨r1, hr1⟩ := hrorow g' hg'
                exact hI.hrep.own g' r1 p' hr1 hp'
              · exact B.new _ (Nat.le_trans hI.kept.size hd)
              · rw [← hb']
                obtain ⟨r1, hr1, _⟩ := closed_get hcl hg'
                exact hI.hrep.own g' r1 p' hr1 hp'
            · rw [hι] at hp
              exact hI.hrep.own g r p hr0 hp
          · obtain ⟨h1, r0, hr0⟩ := hI.io g hg
            have h2 := ht.sum g ⟨r0, hr0⟩
            refine ⟨h2.trans h1, ?_⟩
            rw [sumOf_of hr0] at h2
            exact sumOf_some h2
          · obtain ⟨u, hu, hr⟩ := hI.env i a ha
            refine ⟨u, hu, ht.av (fun x hx => ?_) hr⟩
            obtain ⟨q, hq⟩ := AVRep.refs_some a u x hr hx
            exact sumOf_some hq
          · exact AVRep.ren ra v hfreeR (hrefR ra v hres) hres
        · cases h
    · cases h

end
end Go.Rv

set_option linter.unusedSimpArgs false
set_option linter.unusedVariables false
namespace Go.Rv

section
variable {B : Base} {s : St} {tmps : Array Value} {w : World} {ι : Plc}

theorem beq_ne {g h : Nat} (e : g ≠ h) : Nat.beq g h = false := by
  cases hb : Nat.beq g h with
  | false => rfl
  | true => exact absurd (Nat.eq_of_beq_eq_true hb) e

mutual
theorem frz_rep {h : Nat} {t : Ty} {xs : List t.den} {S S' : Nat → Prop} {σ σ' : Nat → Option Sum} (hS : ∀ b, S b → S' b) (hσ : ∀ g, g ≠ h → σ' g = σ g)
    (hrow : ∀ {off len : Nat} {q : Sum} {v : Value}, σ h = some q → off + len ≤ q.len → WinAt q off len v → DCells w S' (.list t) ((xs.drop off).take len) [v])
    (hlen : ∀ q, σ h = some q → q.len = xs.length) :
    ∀ (a : AV) (v : Value), AVRep w S σ a v → AVRep w S' σ' (frz h t xs a) v
  | .undef, _, _ => trivial
  | .dat t x, v, hr => DCells.sub hS hr
  | .nils, _, hr => hr
  | .slc g, v, ⟨q, hq, hw⟩ => by
    by_cases e : g = h
    · subst e
      simp only [frz, Nat.beq_refl, cond_true]
      have := hrow (off := 0) (len := q.len) hq (by simp) hw
      rw [hlen q hq] at this
      simp only [List.drop_zero, List.take_length] at this
      exact this
    · simp only [frz, beq_ne e, cond_false]
      exact ⟨q, (hσ g e).trans hq, hw⟩
  | .win g o l, v, ⟨q, hq, hl, hw⟩ => by
    by_cases e : g = h
    · subst e
      simp only [frz, Nat.beq_refl, cond_true]
      exact hrow hq hl hw
    · simp only [frz, beq_ne e, cond_false]
      exact ⟨q, (hσ g e).trans hq, hl, hw⟩
  | .ptr g o, v, ⟨q, b, o', c, hq, hr⟩ => by
    by_cases e : g = h
    · subst e
      simp only [frz, Nat.beq_refl, cond_true]
      trivial
    · simp only [frz, beq_ne e, cond_false]
      exact ⟨q, b, o', c, (hσ g e).trans hq, hr⟩
  | .elt g i o, v, ⟨q, b, o', c, hq, hr⟩ => by
    by_cases e : g = h
    · subst e
      simp only [frz, Nat.beq_refl, cond_true]
      trivial
    · simp only [frz, beq_ne e, cond_false]
      exact ⟨q, b, o', c, (hσ g e).trans hq, hr⟩
  | .relt t x _, _, ⟨b, o, cs, e, hs, hlt, hd, hc⟩ => ⟨b, o, cs, e, hS b hs, hlt, DCells.sub hS hd, hc⟩
  | .tab t xs, _, ⟨b, e, ht⟩ => ⟨b, e, ht.mono (Nat.le_refl _) (fun b hb _ => ⟨hS b hb, rfl⟩)⟩
  | .agg cs, _, ⟨vs, e, hr⟩ => ⟨vs, e, frzL_rep hS hσ hrow hlen cs vs hr⟩
  | .tup cs, _, ⟨vs, e, hr⟩ => ⟨vs, e, frzL_rep hS hσ hrow hlen cs vs hr⟩
  | .fn _ a b, _, ⟨va, vb, e, h1, h2⟩ => ⟨va, vb, e, frzL_rep hS hσ hrow hlen a va h1, frzL_rep hS hσ hrow hlen b vb h2⟩
  | .raw _, _, hr => hr
theorem frzL_rep {h : Nat} {t : Ty} {xs : List t.den} {S S' : Nat → Prop} {σ σ' : Nat → Option Sum} (hS : ∀ b, S b → S' b) (hσ : ∀ g, g ≠ h → σ' g = σ g)
    (hrow : ∀ {off len : Nat} {q : Sum} {v : Value}, σ h = some q → off + len ≤ q.len → WinAt q off len v → DCells w S' (.list t) ((xs.drop off).take len) [v])
    (hlen : ∀ q, σ h = some q → q.len = xs.length) :
    ∀ (a : List AV) (v : List Value), AVsRep w S σ a v → AVsRep w S' σ' (frzL h t xs a) v
  | [], _, hr => hr
  | a :: r, _, ⟨v, vr, e, h1, h2⟩ => ⟨v, vr, e, frz_rep hS hσ hrow hlen a v h1, frzL_rep hS hσ hrow hlen r vr h2⟩
end

theorem frzL_get {h : Nat} {t : Ty} {xs : List t.den} : ∀ {cs : List AV} {j : Nat} {a : AV}, (frzL h t xs cs)[j]? = some a → ∃ a0, cs[j]? = some a0 ∧ a = frz h t xs a0
  | [], _, _, hh => by simp [frzL] at hh
  | c :: r, 0, a, hh => by simp [frzL] at hh; exact ⟨c, rfl, hh.symm⟩
  | c :: r, j + 1, a, hh => by simp [frzL] at hh; simpa using frzL_get hh

theorem frzL_length {h : Nat} {t : Ty} {xs : List t.den} : ∀ (cs : List AV), (frzL h t xs cs).length = cs.length
  | [] => rfl
  | c :: r => by simp [frzL, frzL_length r]

theorem RowRep.sub {S S' : Nat → Prop} {σ : Nat → Option Sum} (hS : ∀ b, S b → S' b) {p : Option (Nat × Nat × Nat)} {r : Row} (h : RowRep w S σ p r) : RowRep w S' σ p r := by
  cases r with
  | seq u ys =>
    cases p with
    | none => exact h
    | some p =>
      obtain ⟨b, o, c⟩ := p
      obtain ⟨cur, e, h1, h2, h3, h4, h5⟩ := h
      refine ⟨cur, e, h1, h2, h3, h4, fun i x hx => ?_⟩
      obtain ⟨cs, hd, hc⟩ := h5 i x hx
      exact ⟨cs, DCells.sub hS hd, hc⟩
  | box cs =>
    obtain ⟨b, o, c, cur, e, hp, h1, h2⟩ := h
    refine ⟨b, o, c, cur, e, hp, h1, fun j a hj => ?_⟩
    obtain ⟨v, hv, h1c, hr⟩ := h2 j a hj
    exact ⟨v, hv, h1c, AVRep.mono (Nat.le_refl _) (fun b hb _ => ⟨hS b hb, rfl⟩) _ v (fun _ _ => rfl) hr⟩

theorem freeze_ok (hI : Inv B s tmps w ι) {h : Nat} (hk : B.k ≤ h) {t : Ty} {xs : List t.den} (hr : s.heap[h]? = some (some (.seq t xs))) :
    Inv B ⟨frzL h t xs s.env, (s.heap.map (Option.map (frzRow h t xs))).set h none⟩ tmps w ι := by
  have hlt : h < s.heap.length := (List.getElem?_eq_some_iff.1 hr).1
  generalize hH : (s.heap.map (Option.map (frzRow h t xs))).set h none = H'
  have hget : ∀ g r', H'[g]? = some (some r') → g ≠ h ∧ ∃ r, s.heap[g]? = some (some r) ∧ r' = frzRow h t xs r := fun g r' hg => by
    subst hH
    by_cases e : g = h
    · subst e
      rw [List.getElem?_set_self (by simpa using hlt)] at hg
      cases hg
    · refine ⟨e, ?_⟩
      rw [List.getElem?_set_ne (Ne.symm e), List.getElem?_map] at hg
      cases hc : s.heap[g]? with
      | none => rw [hc] at hg; simp at hg
      | some x =>
        cases x with
        | none => rw [hc] at hg; simp at hg
        | some r => rw [hc] at hg; simp at hg; exact ⟨r, rfl, hg.symm⟩
  have hback : ∀ g r, g ≠ h → s.heap[g]? = some (some r) → H'[g]? = some (some (frzRow h t xs r)) := fun g r e hg => by
    subst hH
    rw [List.getElem?_set_ne (Ne.symm e), List.getElem?_map, hg]
    rfl
  have hrc : ∀ r : Row, (frzRow h t xs r).cells = r.cells := fun r => by cases r <;> rfl
  have hrl : ∀ r : Row, (frzRow h t xs r).len = r.len := fun r => by cases r <;> simp [frzRow, Row.len, frzL_length]
  have hst : ∀ b, stab w ι s.heap b → stab w ι H' b := fun b hb => ⟨hb.1, fun g r' p hg hp => by
    obtain ⟨_, r, hg', _⟩ := hget g r' hg
    exact hb.2 g r p hg' hp⟩
  have hS : ∀ b, dst B.D w ι s.heap b → dst B.D w ι H' b := fun b hb => ⟨hb.1, hst b hb.2⟩
  have hblk : ∀ p, ι h = some p → dst B.D w ι H' p.1 := fun p hp => by
    refine ⟨hI.hrep.own h _ p hr hp, ?_, fun g r' p' hg hp' => ?_⟩
    · have := hI.hrep.rows h _ hr
      rw [hp] at this
      exact this.lt
    · obtain ⟨hne, r, hg', _⟩ := hget g r' hg
      exact hI.hrep.sep g h r _ p' p hg' hr hp' hp hne
  have hσ : ∀ g, g ≠ h → sumOf ι H' g = sumOf ι s.heap g := fun g e => by
    cases hc : s.heap[g]? with
    | none =>
      have : H'[g]? = none := by
        subst hH
        rw [List.getElem?_set_ne (Ne.symm e), List.getElem?_map, hc]; rfl
      simp [sumOf, this, hc]
    | some x =>
      cases x with
      | none =>
        have : H'[g]? = some none := by
          subst hH
          rw [List.getElem?_set_ne (Ne.symm e), List.getElem?_map, hc]; rfl
        simp [sumOf, this, hc]
      | some r => simp [sumOf, hback g r e hc, hc, hrc, hrl]
  have hrow : ∀ {off len : Nat} {q : Sum} {v : Value}, sumOf ι s.heap h = some q → off + len ≤ q.len → WinAt q off len v → DCells w (dst B.D w ι H') (.list t) ((xs.drop off).take len) [v] :=
    fun hq hl hw => slc_dat hI.hrep hS hr hblk hq hl hw
  have hlen : ∀ q, sumOf ι s.heap h = some q → q.len = xs.length := fun q hq => by
    rw [sumOf_of hr] at hq
    cases hq
    rfl
  refine ⟨hI.kept, ⟨fun g r' hg => ?_, fun g1 g2 r1 r2 p1 p2 e1 e2 q1 q2 hne => ?_, fun g r' p hg hp => ?_⟩, fun b hb => hst b (hI.stay b hb), fun g hg => ?_, fun i a ha => ?_, hI.glob.mono (Nat.le_refl _) (fun b hb _ => ⟨hS b hb, rfl⟩)⟩
  · obtain ⟨hne, r, hg', rfl⟩ := hget g r' hg
    have h0 := hI.hrep.rows g r hg'
    cases r with
    | seq u ys =>
      cases hp : ι g with
      | none => rw [hp] at h0; exact h0
      | some p =>
        rw [hp] at h0
        obtain ⟨b, o, c⟩ := p
        obtain ⟨cur, e, h1, h2, h3, h4, h5⟩ := h0
        refine ⟨cur, e, h1, h2, h3, h4, fun i x hx => ?_⟩
        obtain ⟨cs, hd, hc⟩ := h5 i x hx
        exact ⟨cs, DCells.sub hS hd, hc⟩
    | box cs =>
      obtain ⟨b, o, c, cur, e, hp, h1, h2⟩ := h0
      refine ⟨b, o, c, cur, e, hp, h1, fun j a hj => ?_⟩
      obtain ⟨a0, hj0, rfl⟩ := frzL_get hj
      obtain ⟨v, hv, h1c, hr'⟩ := h2 j a0 hj0
      exact ⟨v, hv, h1c, frz_rep hS hσ hrow hlen a0 v hr'⟩
  · obtain ⟨_, s1, hg1, _⟩ := hget g1 r1 e1
    obtain ⟨_, s2, hg2, _⟩ := hget g2 r2 e2
    exact hI.hrep.sep g1 g2 s1 s2 p1 p2 hg1 hg2 q1 q2 hne
  · obtain ⟨_, r, hg', _⟩ := hget g r' hg
    exact hI.hrep.own g r p hg' hp
  · obtain ⟨h1, r, h2⟩ := hI.io g hg
    have hne : g ≠ h := by omega
    exact ⟨(hσ g hne).trans h1, _, hback g r hne h2⟩
  · obtain ⟨a0, h0, rfl⟩ := frzL_get ha
    obtain ⟨v, hv, hr'⟩ := hI.env i a0 h0
    exact ⟨v, hv, frz_rep hS hσ hrow hlen a0 v hr'⟩

theorem Rep.freeze {s : St} {a : Act} {w : World} (hR : Rep B s a w) (h : Nat) : Rep B (s.freeze B.k h) a w := by
  unfold St.freeze
  cases hb : Nat.ble B.k h with
  | false => exact hR
  | true =>
    simp only [cond_true]
    split
    · rename_i t xs hrow
      obtain ⟨hd, ι, hI⟩ := hR
      exact ⟨hd, ι, freeze_ok hI (Nat.le_of_ble_eq_true hb) (row_eq hrow)⟩
    · exact hR

theorem Rep.frzAV {s : St} {a : Act} {w : World} (hR : Rep B s a w) (x : AV) : Rep B (s.frzAV B.k x) a w := by
  unfold St.frzAV
  split
  · exact hR.freeze _
  · exact hR.freeze _
  · exact hR

theorem winify_rep {S : Nat → Prop} {a : AV} {v : Value} (hr : AVRep w S (sumOf ι s.heap) a v) : AVRep w S (sumOf ι s.heap) (winify s a) v := by
  unfold winify
  split
  · rename_i h
    split
    · rename_i t xs hrow
      obtain ⟨q, hq, hw⟩ := hr
      have hq' := sum_of_row (row_eq hrow) hq
      subst hq'
      exact ⟨_, hq, by simp, hw⟩
    · exact hr
  · exact hr

theorem winify_refs {a : AV} {x : Nat} (h : (winify s a).refs x = true) : a.refs x = true := by
  unfold winify at h
  split at h
  · split at h
    · simpa [AV.refs] using h
    · exact h
  · exact h

theorem Inv.putEnv (hI : Inv B s tmps w ι) {t : Nat} {a : AV} (ha : s.env[t]? = some a) : Inv B { s with env := s.env.set t (winify s a) } tmps w ι := by
  refine ⟨hI.kept, hI.hrep, hI.stay, hI.io, fun i b hb => ?_, hI.glob⟩
  simp only at hb
  rw [List.getElem?_set] at hb
  split at hb
  · rename_i hit
    subst hit
    split at hb
    · obtain ⟨v, hv, hr⟩ := hI.env t a ha
      cases hb
      exact ⟨v, hv, winify_rep hr⟩
    · cases hb
  · exact hI.env i b hb

theorem Inv.setCell (hI : Inv B s tmps w ι) {h c : Nat} {cs : List AV} {a : AV} (hrow : s.heap[h]? = some (some (.box cs))) (ha : cs[c]? = some a) :
    Inv B (s.setRow h (.box (cs.set c (winify s a)))) tmps w ι := by
  have hlt : h < s.heap.length := (List.getElem?_eq_some_iff.1 hrow).1
  have hσ : sumOf ι (s.setRow h (.box (cs.set c (winify s a)))).heap = sumOf ι s.heap := by
    funext g
    by_cases e : g = h
    · subst e
      have h1 : (s.setRow g (.box (cs.set c (winify s a)))).heap[g]? = some (some (.box (cs.set c (winify s a)))) := by simp [St.setRow, hlt]
      rw [sumOf_of h1, sumOf_of hrow]
      simp [Row.cells, Row.len]
    · simp [sumOf, St.setRow, List.getElem?_set_ne (Ne.symm e)]
  have hget : ∀ g r, (s.setRow h (.box (cs.set c (winify s a)))).heap[g]? = some (some r) → ∃ r0, s.heap[g]? = some (some r0) ∧ (g ≠ h → r = r0) ∧ (g = h → r = .box (cs.set c (winify s a)) ∧ r0 = .box cs) := fun g r hg => by
    by_cases e : g = h
    · subst e
      simp [St.setRow, hlt] at hg
      exact ⟨_, hrow, fun hh => absurd rfl hh, fun _ => ⟨hg.symm, rfl⟩⟩
    · simp only [St.setRow] at hg
      rw [List.getElem?_set_ne (Ne.symm e)] at hg
      exact ⟨r, hg, fun _ => rfl, fun hh => absurd hh e⟩
  have hst : ∀ b, stab w ι s.heap b → stab w ι (s.setRow h (.box (cs.set c (winify s a)))).heap b := fun b hb => ⟨hb.1, fun g r p hg hp => by
    obtain ⟨r0, h0, _⟩ := hget g r hg
    exact hb.2 g r0 p h0 hp⟩
  have hS : ∀ b, dst B.D w ι s.heap b → dst B.D w ι (s.setRow h (.box (cs.set c (winify s a)))).heap b := fun b hb => ⟨hb.1, hst b hb.2⟩
  refine ⟨hI.kept, ⟨fun g r hg => ?_, fun g1 g2 r1 r2 p1 p2 e1 e2 q1 q2 hne => ?_, fun g r p hg hp => ?_⟩, fun b hb => hst b (hI.stay b hb), fun g hg => ?_, fun i b hb => ?_, hI.glob.mono (Nat.le_refl _) (fun b hb _ => ⟨hS b hb, rfl⟩)⟩
  · obtain ⟨r0, h0, h1, h2⟩ := hget g r hg
    rw [hσ]
    have hrr := hI.hrep.rows g r0 h0
    by_cases e : g = h
    · obtain ⟨rfl, rfl⟩ := h2 e
      obtain ⟨b, o, cc, cur, e', hp, h3, h4⟩ := hrr
      refine ⟨b, o, cc, cur, e', hp, h3, fun j x hj => ?_⟩
      rw [List.getElem?_set] at hj
      split at hj
      · rename_i hcj
        subst hcj
        split at hj
        · cases hj
          obtain ⟨v, hv, h1c, hr⟩ := h4 c a ha
          exact ⟨v, hv, h1c, AVRep.mono (Nat.le_refl _) (fun b hb _ => ⟨hS b hb, rfl⟩) _ v (fun _ _ => rfl) (winify_rep hr)⟩
        · cases hj
      · obtain ⟨v, hv, h1c, hr⟩ := h4 j x hj
        exact ⟨v, hv, h1c, AVRep.mono (Nat.le_refl _) (fun b hb _ => ⟨hS b hb, rfl⟩) _ v (fun _ _ => rfl) hr⟩
    · have := h1 e
      subst this
      exact RowRep.sub hS hrr
  · obtain ⟨s1, g1', _⟩ := hget g1 r1 e1
    obtain ⟨s2, g2', _⟩ := hget g2 r2 e2
    exact hI.hrep.sep g1 g2 s1 s2 p1 p2 g1' g2' q1 q2 hne
  · obtain ⟨r0, h0, _⟩ := hget g r hg
    exact hI.hrep.own g r0 p h0 hp
  · rw [hσ]
    obtain ⟨h1, r, h2⟩ := hI.io g hg
    refine ⟨h1, ?_⟩
    rw [← hσ] at h1
    have : sumOf ι (s.setRow h (.box (cs.set c (winify s a)))).heap g = some ⟨ι g, r.cells, r.len⟩ := by rw [hσ]; exact sumOf_of h2
    exact sumOf_some this
  · obtain ⟨v, hv, hr⟩ := hI.env i b hb
    rw [hσ]
    exact ⟨v, hv, AVRep.mono (Nat.le_refl _) (fun b hb _ => ⟨hS b hb, rfl⟩) _ v (fun _ _ => rfl) hr⟩

theorem Rep.turnOne {a : Act} {w : World} (p : Turn) {s : St} (hR : Rep B s a w) : Rep B (turnOne B.k p s) a w := by
  unfold Rv.turnOne
  split
  · split
    · rename_i x hx
      cases p.win with
      | true =>
        obtain ⟨hd, ι, hI⟩ := hR
        exact ⟨hd, ι, hI.putEnv hx⟩
      | false => exact hR.frzAV x
    · exact hR
  · split
    · split
      · rename_i hrow
        split
        · rename_i x hx
          cases p.win with
          | true =>
            obtain ⟨hd, ι, hI⟩ := hR
            exact ⟨hd, ι, hI.setCell (row_eq hrow) hx⟩
          | false => exact hR.frzAV x
        · exact hR
      · exact hR
    · exact hR

theorem Rep.freezeAt {a : Act} {w : World} (i : Nat) : ∀ (fr : List Turn) {s : St}, Rep B s a w → Rep B (freezeAt B.k i fr s) a w
  | [], _, hR => hR
  | p :: r, s, hR => by
    unfold Rv.freezeAt
    cases Nat.beq p.at_ i with
    | false => exact Rep.freezeAt i r hR
    | true => exact Rep.freezeAt i r (hR.turnOne p)

end
end Go.Rv
