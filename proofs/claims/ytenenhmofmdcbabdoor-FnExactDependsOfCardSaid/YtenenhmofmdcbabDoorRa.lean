/-
  Data, abstract values, rows, and how they lie in a world. Conditions: none.
-/
import Derived.Test.YtenenhmofmdcbabDoorRz
import Derived.Orders
import Derived.Laws.Append
import Derived.Laws.CopyRow
import Derived.Laws.Rows
import Derived.RowKit3
import GoSem.ClaimData
namespace Go.Rv

def Ty.cells : Ty → Nat
  | .unit => 0
  | .pair a b => a.cells + b.cells
  | _ => 1

def HasCells (w : World) (b o : Nat) (cs : List Value) : Prop := ∀ j v, cs[j]? = some v → w.cell? ⟨b, o + j, none⟩ = some v

/-- The cells `cs` bear the datum `x`; slices in it lie in blocks of `S`. -/
def DCells (w : World) (S : Nat → Prop) : (t : Ty) → t.den → List Value → Prop
  | .int k, x, cs => cs = [.int k x]
  | .bool, x, cs => cs = [.bool x]
  | .str, x, cs => cs = [.string x]
  | .unit, _, cs => cs = []
  | .pair a b, x, cs => ∃ c1 c2, cs = c1 ++ c2 ∧ DCells w S a x.1 c1 ∧ DCells w S b x.2 c2
  | .list t, xs, cs => ∃ a cap, cs = [.slice a xs.length cap] ∧ xs.length ≤ cap ∧
      (xs = [] ∨ ∃ b o, a = some ⟨b, o, none⟩ ∧ S b ∧ b < w.heap.size ∧ ∀ (i : Nat) x, xs[i]? = some x → ∃ c, DCells w S t x c ∧ HasCells w b (o + i * t.cells) c)

theorem HasCells.mono {w w' : World} {b o : Nat} {cs : List Value} (h : HasCells w b o cs) (hb : w'.heap[b]? = w.heap[b]?) : HasCells w' b o cs := by
  intro j v hv
  have := h j v hv
  simp only [World.cell?] at this ⊢
  rw [hb]; exact this

theorem DCells.mono {w w' : World} {S S' : Nat → Prop} (hsz : w.heap.size ≤ w'.heap.size) (h : ∀ b, S b → b < w.heap.size → S' b ∧ w'.heap[b]? = w.heap[b]?) :
    ∀ (t : Ty) (x : t.den) (cs : List Value), DCells w S t x cs → DCells w' S' t x cs
  | .int _, _, _, hd => hd
  | .bool, _, _, hd => hd
  | .str, _, _, hd => hd
  | .unit, _, _, hd => hd
  | .pair a b, _, _, ⟨c1, c2, e, h1, h2⟩ => ⟨c1, c2, e, DCells.mono hsz h a _ _ h1, DCells.mono hsz h b _ _ h2⟩
  | .list t, xs, cs, ⟨a, cap, e, hle, hr⟩ => by
    refine ⟨a, cap, e, hle, ?_⟩
    rcases hr with hr | ⟨b, o, ha, hs, hlt, hall⟩
    · exact .inl hr
    · refine .inr ⟨b, o, ha, (h b hs hlt).1, Nat.lt_of_lt_of_le hlt hsz, fun i x hx => ?_⟩
      obtain ⟨c, hc, hh⟩ := hall i x hx
      exact ⟨c, DCells.mono hsz h t x c hc, hh.mono (h b hs hlt).2⟩

theorem DCells.length {w : World} {S : Nat → Prop} : ∀ (t : Ty) (x : t.den) (cs : List Value), DCells w S t x cs → cs.length = t.cells
  | .int _, _, _, hd => by simp only [DCells] at hd; subst hd; rfl
  | .bool, _, _, hd => by simp only [DCells] at hd; subst hd; rfl
  | .str, _, _, hd => by simp only [DCells] at hd; subst hd; rfl
  | .unit, _, _, hd => by simp only [DCells] at hd; subst hd; rfl
  | .pair a b, _, _, ⟨c1, c2, e, h1, h2⟩ => by
    subst e; simp [Ty.cells, DCells.length a _ _ h1, DCells.length b _ _ h2]
  | .list t, _, _, ⟨_, _, e, _⟩ => by subst e; rfl

theorem DCells.one {w : World} {S : Nat → Prop} : ∀ (t : Ty) (x : t.den) (cs : List Value), DCells w S t x cs → ∀ v ∈ cs, v.oneCell' = true
  | .int _, _, _, hd => by simp only [DCells] at hd; subst hd; simp [Value.oneCell']
  | .bool, _, _, hd => by simp only [DCells] at hd; subst hd; simp [Value.oneCell']
  | .str, _, _, hd => by simp only [DCells] at hd; subst hd; simp [Value.oneCell']
  | .unit, _, _, hd => by simp only [DCells] at hd; subst hd; simp
  | .pair a b, _, _, ⟨c1, c2, e, h1, h2⟩ => by
    subst e; intro v hv
    rcases List.mem_append.1 hv with h | h
    · exact DCells.one a _ _ h1 v h
    · exact DCells.one b _ _ h2 v h
  | .list t, _, _, ⟨_, _, e, _⟩ => by subst e; simp [Value.oneCell']

/-! Abstract values -/

inductive AV where
  | undef
  | dat (t : Ty) (x : t.den)
  | nils
  | slc (h : Nat)
  | win (h off len : Nat)
  | ptr (h off : Nat)
  | elt (h i off : Nat)
  | relt (t : Ty) (x : t.den) (off : Nat)
  | tab (t : Ty) (xs : List t.den)
  | agg (cs : List AV)
  | tup (cs : List AV)
  | fn (f : FuncId) (first caps : List AV)
  | raw (v : Value)

inductive Row where
  | seq (t : Ty) (xs : List t.den)
  | box (cs : List AV)

abbrev Heap := List (Option Row)

structure St where
  env : List AV
  heap : Heap

structure Sum where
  place : Option (Nat × Nat × Nat)
  cells : Nat
  len : Nat

def Row.cells : Row → Nat
  | .seq t _ => t.cells
  | .box _ => 1
def Row.len : Row → Nat
  | .seq _ xs => xs.length
  | .box cs => cs.length

/-- A block that bears an array of data, for good. -/
def TabAt (w : World) (S : Nat → Prop) (b : Nat) (t : Ty) (xs : List t.den) : Prop :=
  S b ∧ b < w.heap.size ∧ ∀ (i : Nat) x, xs[i]? = some x → ∃ c, DCells w S t x c ∧ HasCells w b (i * t.cells) c

theorem TabAt.mono {w w' : World} {S S' : Nat → Prop} (hsz : w.heap.size ≤ w'.heap.size) (h : ∀ b, S b → b < w.heap.size → S' b ∧ w'.heap[b]? = w.heap[b]?) {b : Nat} {t : Ty} {xs : List t.den}
    (ht : TabAt w S b t xs) : TabAt w' S' b t xs := by
  obtain ⟨h1, h2, h3⟩ := ht
  refine ⟨(h b h1 h2).1, Nat.lt_of_lt_of_le h2 hsz, fun i x hx => ?_⟩
  obtain ⟨c, hc, hh⟩ := h3 i x hx
  exact ⟨c, DCells.mono hsz h t x c hc, hh.mono (h b h1 h2).2⟩

abbrev Plc := Nat → Option (Nat × Nat × Nat)

def sumOf (ι : Plc) (H : Heap) (h : Nat) : Option Sum :=
  match H[h]? with
  | some (some r) => some ⟨ι h, r.cells, r.len⟩
  | _ => none

def WinAt (s : Sum) (off len : Nat) (v : Value) : Prop :=
  match s.place with
  | some (b, o, c) => off + len ≤ c ∧ (v = .slice (some ⟨b, o + off * s.cells, none⟩) len (c - off) ∨ (off = c ∧ ∃ a, v = .slice a 0 0))
  | none => off = 0 ∧ len = 0 ∧ ∃ a, v = .slice a 0 0

mutual
def AVRep (w : World) (S : Nat → Prop) (σ : Nat → Option Sum) : AV → Value → Prop
  | .undef, _ => True
  | .dat t x, v => DCells w S t x [v]
  | .nils, v => ∃ a, v = .slice a 0 0
  | .slc h, v => ∃ s, σ h = some s ∧ WinAt s 0 s.len v
  | .win h off len, v => ∃ s, σ h = some s ∧ off + len ≤ s.len ∧ WinAt s off len v
  | .ptr h off, v => ∃ s b o c, σ h = some s ∧ s.place = some (b, o, c) ∧ v = .pointer (some ⟨b, o + off, none⟩)
  | .elt h i off, v => ∃ s b o c, σ h = some s ∧ s.place = some (b, o, c) ∧ i < s.len ∧ v = .pointer (some ⟨b, o + i * s.cells + off, none⟩)
  | .relt t x off, v => ∃ b o cs, v = .pointer (some ⟨b, o + off, none⟩) ∧ S b ∧ b < w.heap.size ∧ DCells w S t x cs ∧ HasCells w b o cs
  | .tab t xs, v => ∃ b, v = .pointer (some ⟨b, 0, none⟩) ∧ TabAt w S b t xs
  | .agg cs, v => ∃ vs : List Value, v = .agg vs.toArray ∧ AVsRep w S σ cs vs
  | .tup cs, v => ∃ vs : List Value, v = .tuple vs.toArray ∧ AVsRep w S σ cs vs
  | .fn f a b, v => ∃ va vb : List Value, v = .func (.func f) va.toArray vb.toArray ∧ AVsRep w S σ a va ∧ AVsRep w S σ b vb
  | .raw u, v => v = u
def AVsRep (w : World) (S : Nat → Prop) (σ : Nat → Option Sum) : List AV → List Value → Prop
  | [], vs => vs = []
  | a :: r, vs => ∃ v vr, vs = v :: vr ∧ AVRep w S σ a v ∧ AVsRep w S σ r vr
end

/-! Does a value refer to a row? -/
mutual
def AV.refs : AV → Nat → Bool
  | .slc h, g | .win h _ _, g | .ptr h _, g | .elt h _ _, g => h == g
  | .agg cs, g | .tup cs, g => refsL cs g
  | .fn _ a b, g => refsL a g || refsL b g
  | _, _ => false
def refsL : List AV → Nat → Bool
  | [], _ => false
  | a :: r, g => a.refs g || refsL r g
end

mutual
theorem AVRep.mono {w w' : World} {S S' : Nat → Prop} {σ σ' : Nat → Option Sum} (hsz : w.heap.size ≤ w'.heap.size) (h : ∀ b, S b → b < w.heap.size → S' b ∧ w'.heap[b]? = w.heap[b]?) :
    ∀ (a : AV) (v : Value), (∀ g, a.refs g = true → σ' g = σ g) → AVRep w S σ a v → AVRep w' S' σ' a v
  | .undef, _, _, _ => trivial
  | .dat t x, v, _, hr => DCells.mono hsz h t x _ hr
  | .nils, _, _, hr => hr
  | .slc g, _, hg, ⟨s, hs, hw⟩ => ⟨s, (hg g (by simp [AV.refs])).trans hs, hw⟩
  | .win g _ _, _, hg, ⟨s, hs, hw⟩ => ⟨s, (hg g (by simp [AV.refs])).trans hs, hw⟩
  | .ptr g _, _, hg, ⟨s, b, o, c, hs, hw⟩ => ⟨s, b, o, c, (hg g (by simp [AV.refs])).trans hs, hw⟩
  | .elt g _ _, _, hg, ⟨s, b, o, c, hs, hw⟩ => ⟨s, b, o, c, (hg g (by simp [AV.refs])).trans hs, hw⟩
  | .relt t x _, _, _, ⟨b, o, cs, e, hs, hlt, hd, hc⟩ => ⟨b, o, cs, e, (h b hs hlt).1, Nat.lt_of_lt_of_le hlt hsz, DCells.mono hsz h t x _ hd, hc.mono (h b hs hlt).2⟩
  | .tab _ _, _, _, ⟨b, e, ht⟩ => ⟨b, e, ht.mono hsz h⟩
  | .agg cs, _, hg, ⟨vs, e, hr⟩ => ⟨vs, e, AVsRep.mono hsz h cs vs (fun g hh => hg g (by simpa [AV.refs] using hh)) hr⟩
  | .tup cs, _, hg, ⟨vs, e, hr⟩ => ⟨vs, e, AVsRep.mono hsz h cs vs (fun g hh => hg g (by simpa [AV.refs] using hh)) hr⟩
  | .fn _ a b, _, hg, ⟨va, vb, e, h1, h2⟩ => ⟨va, vb, e, AVsRep.mono hsz h a va (fun g hh => hg g (by simp [AV.refs, hh])) h1, AVsRep.mono hsz h b vb (fun g hh => hg g (by simp [AV.refs, hh])) h2⟩
  | .raw _, _, _, hr => hr
theorem AVsRep.mono {w w' : World} {S S' : Nat → Prop} {σ σ' : Nat → Option Sum} (hsz : w.heap.size ≤ w'.heap.size) (h : ∀ b, S b → b < w.heap.size → S' b ∧ w'.heap[b]? = w.heap[b]?) :
    ∀ (a : List AV) (v : List Value), (∀ g, refsL a g = true → σ' g = σ g) → AVsRep w S σ a v → AVsRep w' S' σ' a v
  | [], _, _, hr => hr
  | a :: r, _, hg, ⟨v, vr, e, h1, h2⟩ => ⟨v, vr, e, AVRep.mono hsz h a v (fun g hh => hg g (by simp [refsL, hh])) h1, AVsRep.mono hsz h r vr (fun g hh => hg g (by simp [refsL, hh])) h2⟩
end

theorem AVsRep.length {w : World} {S : Nat → Prop} {σ : Nat → Option Sum} : ∀ (a : List AV) (v : List Value), AVsRep w S σ a v → v.length = a.length
  | [], _, hr => by simp only [AVsRep] at hr; subst hr; rfl
  | a :: r, _, ⟨v, vr, e, _, h2⟩ => by subst e; simp [AVsRep.length r vr h2]

theorem AVsRep.get {w : World} {S : Nat → Prop} {σ : Nat → Option Sum} : ∀ (a : List AV) (v : List Value) (i : Nat) (x : AV), AVsRep w S σ a v → a[i]? = some x → ∃ u, v[i]? = some u ∧ AVRep w S σ x u
  | [], _, _, _, _, h => by simp at h
  | a :: r, _, 0, x, ⟨v, vr, e, h1, _⟩, h => by subst e; simp at h; subst h; exact ⟨v, rfl, h1⟩
  | a :: r, _, i + 1, x, ⟨v, vr, e, _, h2⟩, h => by subst e; simp at h; obtain ⟨u, hu, hr⟩ := AVsRep.get r vr i x h2 h; exact ⟨u, by simpa using hu, hr⟩

/-! The state -/

/-- Blocks that stay as they are: not those of a row of ours. -/
def stab (w : World) (ι : Plc) (H : Heap) (b : Nat) : Prop :=
  b < w.heap.size ∧ ∀ h r p, H[h]? = some (some r) → ι h = some p → p.1 ≠ b

/-- Where data may lie. -/
def dst (D : Nat → Prop) (w : World) (ι : Plc) (H : Heap) (b : Nat) : Prop := D b ∧ stab w ι H b

def SeqRep (w : World) (S : Nat → Prop) (t : Ty) (xs : List t.den) (cur : Array Value) (o : Nat) : Prop :=
  ∀ (i : Nat) x, xs[i]? = some x → ∃ cs, DCells w S t x cs ∧ ∀ j v, cs[j]? = some v → cur[o + i * t.cells + j]? = some v

def RowRep (w : World) (S : Nat → Prop) (σ : Nat → Option Sum) (p : Option (Nat × Nat × Nat)) : Row → Prop
  | .seq t xs =>
    match p with
    | none => xs = []
    | some (b, o, c) => ∃ cur e, w.heap[b]? = some (.cells cur e (0, 0)) ∧ cur.size = o + c * t.cells ∧ xs.length ≤ c ∧ c ≤ maxLen ∧ SeqRep w S t xs cur o
  | .box cs => ∃ b o c cur e, p = some (b, o, c) ∧ w.heap[b]? = some (.cells cur e (0, 0)) ∧ ∀ j a, cs[j]? = some a → ∃ v, cur[o + j]? = some v ∧ v.oneCell' = true ∧ AVRep w S σ a v

structure HRep (D : Nat → Prop) (w : World) (ι : Plc) (H : Heap) : Prop where
  rows : ∀ h r, H[h]? = some (some r) → RowRep w (dst D w ι H) (sumOf ι H) (ι h) r
  sep : ∀ h h' r r' p p', H[h]? = some (some r) → H[h']? = some (some r') → ι h = some p → ι h' = some p' → h ≠ h' → p.1 ≠ p'.1
  own : ∀ h r p, H[h]? = some (some r) → ι h = some p → D p.1

theorem RowRep.lt {w : World} {S : Nat → Prop} {σ : Nat → Option Sum} {p : Nat × Nat × Nat} {r : Row} (h : RowRep w S σ (some p) r) : p.1 < w.heap.size := by
  cases r with
  | seq t xs => obtain ⟨cur, e, hb, _⟩ := h; exact (Array.getElem?_eq_some_iff.1 hb).1
  | box cs => obtain ⟨b, o, c, cur, e, hp, hb, _⟩ := h; cases hp; exact (Array.getElem?_eq_some_iff.1 hb).1

/-- What is asked of the world between two moments: the blocks of `S0` have not turned. -/
structure Kept (S0 : Nat → Prop) (w0 w : World) : Prop where
  os : w.os = w0.os
  tape : w.tape = w0.tape
  output : w.output = w0.output
  size : w0.heap.size ≤ w.heap.size
  block : ∀ b, S0 b → w.heap[b]? = w0.heap[b]?
  frz : ∀ a, w.frozen? a = w0.frozen? a

theorem Kept.refl (S0 : Nat → Prop) (w : World) : Kept S0 w w := ⟨rfl, rfl, rfl, Nat.le_refl _, fun _ _ => rfl, fun _ => rfl⟩
theorem Kept.trans {S0 S1 : Nat → Prop} {a b c : World} (h : Kept S0 a b) (k : Kept S1 b c) (hs : ∀ x, S0 x → S1 x) : Kept S0 a c :=
  ⟨k.os.trans h.os, k.tape.trans h.tape, k.output.trans h.output, Nat.le_trans h.size k.size, fun x hx => (k.block x (hs x hx)).trans (h.block x hx), fun a => (k.frz a).trans (h.frz a)⟩

theorem frz_alloc (w : World) (c : Array Value) (t : TypeId) (a : Addr) : (w.alloc (.cells c t)).frozen? a = w.frozen? a := Go.RowKit.frozen?_alloc_cells w c t a

theorem frz_setRow (w : World) (b : Nat) (cur : Array Value) (a : Addr) : (w.setRow b cur).frozen? a = w.frozen? a := by
  simp only [World.frozen?, World.setRow, Array.getElem?_modify]
  by_cases h : b = a.block
  · rw [if_pos h]
    cases hx : w.heap[a.block]? with
    | none => simp
    | some o => cases o <;> simp
  · rw [if_neg h]

/-- The frame of one call: where it began, what must stay, the rows that were handed in. -/
structure Base where
  w0 : World
  S0 : Nat → Prop
  D : Nat → Prop
  σ0 : Nat → Option Sum
  k : Nat
  new : ∀ b, w0.heap.size ≤ b → D b

/-- The tables lie where they are looked for. -/
def GlobsOk (w : World) (S : Nat → Prop) : Prop := ∀ g t xs, gtab g = some ⟨t, xs⟩ → TabAt w S g t xs

theorem GlobsOk.mono {w w' : World} {S S' : Nat → Prop} (hsz : w.heap.size ≤ w'.heap.size) (h : ∀ b, S b → b < w.heap.size → S' b ∧ w'.heap[b]? = w.heap[b]?) (hg : GlobsOk w S) : GlobsOk w' S' :=
  fun g t xs ht => (hg g t xs ht).mono hsz h

structure Inv (B : Base) (s : St) (tmps : Array Value) (w : World) (ι : Plc) : Prop where
  kept : Kept B.S0 B.w0 w
  hrep : HRep B.D w ι s.heap
  stay : ∀ b, B.S0 b → stab w ι s.heap b
  io : ∀ h, h < B.k → sumOf ι s.heap h = B.σ0 h ∧ ∃ r, s.heap[h]? = some (some r)
  env : ∀ (i : Nat) (a : AV), s.env[i]? = some a → ∃ v, tmps[i]? = some v ∧ AVRep w (dst B.D w ι s.heap) (sumOf ι s.heap) a v
  glob : GlobsOk w (dst B.D w ι s.heap)

def Rep (B : Base) (s : St) (a : Act) (w : World) : Prop := a.defers = [] ∧ ∃ ι, Inv B s a.tmps w ι

end Go.Rv
