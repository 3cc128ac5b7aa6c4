/-
  Answers, primitives that may fail, operands, instructions and calls, over abstract values. Conditions: none.
-/
import Derived.Test.YtenenhmofmdcbabDoorRa
universe u
namespace Go.Rv

/-! Types, as the walk uses them -/

inductive TK where
  | scalar | bool | int (k : IntKind) | str | slice (e : TypeId) | arr (n : Nat) (e : TypeId) | strct (fs : List (Nat × TypeId))

structure TI where
  kind : TK
  size : Nat
  bytes : Nat
  ty : Option Ty
  zero : List Value

abbrev TT := TypeId → Option TI

/-- What a function answers: what is reckoned, and how it is borne. -/
structure Ans where
  τ : Type
  o : Option τ
  enc : τ → AV × Heap

def Ans.run (a : Ans) : Option (AV × Heap) := a.o.map a.enc
def Ans.no : Ans := ⟨Unit, none, fun _ => (.undef, [])⟩

structure Ctx where
  T : TT
  orc : FuncId → List AV → Heap → Ans
  io : FuncId → Nat → Bool
  k : Nat

/-! Answers: with `Option` for what is reckoned, with `Prop` for what is shown -/

structure Alg (R : Sort u) where
  fail : R
  bind : ∀ {α : Type}, Option α → (α → R) → R

inductive wpO {α : Type} : Option α → (α → Prop) → Prop
  | mk {a : α} {K : α → Prop} (h : K a) : wpO (some a) K

def optAlg (β : Type) : Alg (Option β) := ⟨none, fun o f => o.bind f⟩
def propAlg : Alg Prop := ⟨False, fun o f => wpO o f⟩

theorem wpO_some {α : Type} (a : α) (K : α → Prop) : wpO (some a) K = K a := propext ⟨fun h => (by cases h; assumption), .mk⟩
theorem wpO_none {α : Type} (K : α → Prop) : wpO none K = False := propext ⟨fun h => (by cases h), False.elim⟩
theorem wpO_bind {α β : Type} (o : Option α) (f : α → Option β) (K : β → Prop) : wpO (o.bind f) K = wpO o (fun a => wpO (f a) K) := by
  cases o <;> simp [wpO_some, wpO_none]
theorem wpO_map {α β : Type} (o : Option α) (f : α → β) (K : β → Prop) : wpO (o.map f) K = wpO o (fun a => K (f a)) := by
  cases o <;> simp [wpO_some, wpO_none]
theorem wpO_mono {α : Type} {o : Option α} {K K' : α → Prop} (h : ∀ a, K a → K' a) (hh : wpO o K) : wpO o K' := by
  cases o with
  | none => cases hh
  | some a => exact .mk (h a (by cases hh; assumption))
theorem wpO_iff {α : Type} {o : Option α} {K : α → Prop} : wpO o K ↔ ∃ a, o = some a ∧ K a := by
  cases o <;> simp [wpO_some, wpO_none]

/-! Primitive answers -/

def inb (i : Int) (n : Nat) : Option Nat := if 0 ≤ i ∧ i < (n : Int) then some i.toNat else none
def idx {α : Type} (xs : List α) (i : Int) : Option α := if 0 ≤ i then xs[i.toNat]? else none
def inc (i : Int) (n : Nat) : Option Nat := if 0 ≤ i ∧ i ≤ (n : Int) then some i.toNat else none
def room (n : Nat) : Option Unit := if n ≤ 1099511627776 then some () else none
def same (a b : Nat) : Option Unit := if a = b then some () else none
def quo (k : IntKind) (a b : Int) : Option Int := if b = 0 then none else some (k.wrap (a.tdiv b))
def rem (a b : Int) : Option Int := if b = 0 then none else some (a.tmod b)
def shl (k : IntKind) (a b : Int) : Option Int := if b < 0 then none else some (k.wrap (a * 2 ^ (min b.toNat k.bits)))
def shr (k : IntKind) (a b : Int) : Option Int := if b < 0 then none else some (a.fdiv (2 ^ (min b.toNat k.bits)))
def iand (k : IntKind) (a b : Int) : Int := k.wrap ((BitVec.ofInt k.bits a &&& BitVec.ofInt k.bits b).toNat)
def ior (k : IntKind) (a b : Int) : Int := k.wrap ((BitVec.ofInt k.bits a ||| BitVec.ofInt k.bits b).toNat)
def ixor (k : IntKind) (a b : Int) : Int := k.wrap ((BitVec.ofInt k.bits a ^^^ BitVec.ofInt k.bits b).toNat)
def iandn (k : IntKind) (a b : Int) : Int := k.wrap ((BitVec.ofInt k.bits a &&& ~~~BitVec.ofInt k.bits b).toNat)
def cat (a b : ByteArray) : Option ByteArray := if a.size + b.size ≤ maxLen then some (a ++ b) else none
def imax (a b : Int) : Int := if b > a then b else a
def imin (a b : Int) : Int := if b < a then b else a
def bidx (s : ByteArray) (i : Int) : Option Int := if 0 ≤ i then (s[i.toNat]?).map (fun b => (b.toNat : Int)) else none
def seqs (a b : ByteArray) : Bool := a.toList == b.toList

/-! Reading shapes -/

def constAV : Value → AV
  | .bool b => .dat .bool b
  | .int k n => .dat (.int k) n
  | .string x => .dat .str x
  | .slice none 0 0 => .nils
  | v => .raw v

def evalO (s : St) : Operand → Option AV
  | .tmp t => s.env[t]?
  | .const v => some (constAV v)
  | .func f => some (.fn f [] [])
  | .global g => match gtab g with | some q => some (.tab q.1 q.2) | none => none

def St.row (s : St) (h : Nat) : Option Row := match s.heap[h]? with | some (some r) => some r | _ => none
def St.put (s : St) (d : Option Tmp) (a : AV) : St := match d with | some t => { s with env := s.env.set t a } | none => s

def leaves : (t : Ty) → t.den → List AV
  | .pair a b, x => leaves a x.1 ++ leaves b x.2
  | .unit, _ => []
  | .int k, x => [.dat (.int k) x]
  | .bool, x => [.dat .bool x]
  | .str, x => [.dat .str x]
  | .list t, x => [.dat (.list t) x]

def castD (t t' : Ty) (x : t'.den) : Option t.den := if h : t' = t then some (h ▸ x) else none

def Ty.zero : (t : Ty) → t.den
  | .int _ => (0 : Int)
  | .bool => false
  | .str => ByteArray.empty
  | .list _ => []
  | .unit => ()
  | .pair a b => (a.zero, b.zero)

def zeroOk : Ty → List Value → Bool
  | .int k, [.int k' n] => k == k' && n == 0
  | .bool, [.bool b] => !b
  | .str, [.string s] => s.data.toList.isEmpty
  | .list _, [.slice none 0 0] => true
  | _, _ => false

/-- An element read as the datum of a type. -/
def toDat (t : Ty) : AV → Option t.den
  | .dat t' x => castD t t' x
  | .nils => match t with | .list _ => some [] | _ => none
  | _ => none

/-- The elements that a slice shows. -/
def elems (s : St) (t : Ty) : AV → Option (List t.den)
  | .dat (.list t') xs => castD (.list t) (.list t') xs
  | .nils => some []
  | .slc h => match s.row h with | some (.seq t' xs) => castD (.list t) (.list t') xs | _ => none
  | .win h off len => match s.row h with | some (.seq t' xs) => castD (.list t) (.list t') ((xs.drop off).take len) | _ => none
  | _ => none

def AV.single : AV → Bool
  | .dat t _ => t.cells == 1
  | .nils | .slc _ | .win _ _ _ | .ptr _ _ | .elt _ _ _ | .relt _ _ _ | .fn _ _ _ => true
  | .raw v => match v with | .pointer none => true | .nilFunc => true | _ => false
  | _ => false

def scrub (h : Nat) (a : AV) : AV := bif a.refs h then .undef else a
def scrubRow (h : Nat) : Row → Row
  | .seq t xs => .seq t xs
  | .box cs => .box (cs.map (scrub h))
def St.scrub (s : St) (h : Nat) : St := { env := s.env.map (Rv.scrub h), heap := s.heap.map (Option.map (scrubRow h)) }
def St.setRow (s : St) (h : Nat) (r : Row) : St := { s with heap := s.heap.set h (some r) }

def isStruct : TK → Bool
  | .strct _ | .arr _ _ => true
  | _ => false

/-! Operations that make one value and leave memory alone -/

def isBool (T : TT) (t : TypeId) : Bool :=
  match T t with
  | some ti => match ti.kind with
    | .bool => true
    | _ => false
  | none => false

def abin {R : Sort u} (A : Alg R) (ib : Bool) (op : BinOp) (x y : AV) (K : AV → R) : R :=
  match x, y with
  | .dat (.int k) a, .dat (.int k') b =>
    match op with
    | .shl => A.bind (shl k a b) fun n => K (.dat (.int k) n)
    | .shr => A.bind (shr k a b) fun n => K (.dat (.int k) n)
    | _ =>
      if k = k' then
        match op with
        | .add => K (.dat (.int k) (k.wrap (a + b)))
        | .sub => K (.dat (.int k) (k.wrap (a - b)))
        | .mul => K (.dat (.int k) (k.wrap (a * b)))
        | .quo => A.bind (quo k a b) fun n => K (.dat (.int k) n)
        | .rem => A.bind (rem a b) fun n => K (.dat (.int k) n)
        | .and => K (.dat (.int k) (iand k a b))
        | .or => K (.dat (.int k) (ior k a b))
        | .xor => K (.dat (.int k) (ixor k a b))
        | .andNot => K (.dat (.int k) (iandn k a b))
        | .eql => K (.dat .bool (a == b))
        | .neq => K (.dat .bool (a != b))
        | .lss => K (.dat .bool (decide (a < b)))
        | .leq => K (.dat .bool (decide (a ≤ b)))
        | .gtr => K (.dat .bool (decide (a > b)))
        | .geq => K (.dat .bool (decide (a ≥ b)))
        | _ => A.fail
      else A.fail
  | .dat .str a, .dat .str b =>
    match op with
    | .add => A.bind (cat a b) fun n => K (.dat .str n)
    | .eql => K (.dat .bool (seqs a b))
    | .neq => K (.dat .bool (!seqs a b))
    | _ => A.fail
  | .dat .bool a, .dat .bool b =>
    match ib with
    | true =>
      match op with
      | .eql => K (.dat .bool (a == b))
      | .neq => K (.dat .bool (a != b))
      | _ => A.fail
    | false => A.fail
  | _, _ => A.fail

def aun {R : Sort u} (A : Alg R) (op : UnOp) (x : AV) (K : AV → R) : R :=
  match op, x with
  | .not, .dat .bool b => K (.dat .bool (!b))
  | .neg, .dat (.int k) n => K (.dat (.int k) (k.wrap (0 - n)))
  | _, _ => A.fail

def acut {R : Sort u} (A : Alg R) (lo hi : Option AV) (L : Nat) (k : Nat → Nat → R) : R :=
  match lo, hi with
  | none, none => k 0 L
  | none, some (.dat (.int _) h) => A.bind (inc h L) fun r => k 0 r
  | some (.dat (.int _) l), none => A.bind (inc l L) fun q => k q L
  | some (.dat (.int _) l), some (.dat (.int _) h) => A.bind (inc h L) fun r => A.bind (inc l r) fun q => k q r
  | _, _ => A.fail

def aslice {R : Sort u} (A : Alg R) (T : TT) (s : St) (t : TypeId) (x : AV) (lo hi : Option AV) (K : AV → R) : R :=
  match T t with
  | some ti => match ti.kind with
    | .slice e => match T e with
      | some ie => match x with
        | .dat (.list u) xs => if u.cells = ie.size then acut A lo hi xs.length fun q r => K (.dat (.list u) ((xs.take r).drop q)) else A.fail
        | .slc h => match s.row h with
          | some (.seq u xs) => if u.cells = ie.size then acut A lo hi xs.length fun q r => K (.win h q (r - q)) else A.fail
          | _ => A.fail
        | .win h off len => match s.row h with
          | some (.seq u _) => if u.cells = ie.size then acut A lo hi len fun q r => K (.win h (off + q) (r - q)) else A.fail
          | _ => A.fail
        | _ => A.fail
      | none => A.fail
    | .str => match x with
      | .dat .str b => acut A lo hi b.size fun q r => K (.dat .str (b.extract q r))
      | _ => A.fail
    | _ => A.fail
  | none => A.fail

def evalOp (s : St) : Option Operand → Option (Option AV)
  | none => some none
  | some x => match evalO s x with | some a => some (some a) | none => none

def alen (s : St) : AV → Option Nat
  | .dat (.list _) xs => some xs.length
  | .dat .str x => some x.size
  | .nils => some 0
  | .slc h => match s.row h with | some (.seq _ xs) => some xs.length | _ => none
  | .win _ _ len => some len
  | _ => none

def aindexAddr {R : Sort u} (A : Alg R) (T : TT) (s : St) (t : TypeId) (x i : AV) (K : AV → R) : R :=
  match i with
  | .dat (.int _) n =>
    match T t with
    | some ti =>
      match ti.kind with
      | .slice e => match T e with
        | some ie => match x with
          | .dat (.list u) xs => if u.cells = ie.size then A.bind (idx xs n) fun v => K (.relt u v 0) else A.fail
          | .slc h => match s.row h with
            | some (.seq u xs) => if u.cells = ie.size then A.bind (inb n xs.length) fun m => K (.elt h m 0) else A.fail
            | _ => A.fail
          | .win h off len => match s.row h with
            | some (.seq u _) => if u.cells = ie.size then A.bind (inb n len) fun m => K (.elt h (off + m) 0) else A.fail
            | _ => A.fail
          | _ => A.fail
        | none => A.fail
      | .arr c e => match T e with
        | some ie => match x with
          | .ptr h 0 => match s.row h with
            | some (.seq u xs) => if u.cells = ie.size then A.bind (same xs.length c) fun _ => A.bind (inb n c) fun m => K (.elt h m 0) else A.fail
            | _ => A.fail
          | .tab u xs => if u.cells = ie.size then A.bind (same xs.length c) fun _ => A.bind (idx xs n) fun v => K (.relt u v 0) else A.fail
          | _ => A.fail
        | none => A.fail
      | _ => A.fail
    | none => A.fail
  | _ => A.fail

def aload {R : Sort u} (A : Alg R) (T : TT) (s : St) (t : TypeId) (p : AV) (K : AV → R) : R :=
  match T t with
  | none => A.fail
  | some ti =>
    let fin (cs : List AV) (off : Nat) : R :=
      if isStruct ti.kind then (if off + ti.size ≤ cs.length then K (.agg ((cs.drop off).take ti.size)) else A.fail)
      else match cs[off]? with | some a => K a | none => A.fail
    match p with
    | .relt u x off => fin (leaves u x) off
    | .elt h i off => match s.row h with
      | some (.seq u xs) => A.bind xs[i]? fun x => fin (leaves u x) off
      | _ => A.fail
    | .ptr h off => match s.row h with
      | some (.box cs) => fin cs off
      | _ => A.fail
    | _ => A.fail

def afieldAddr {R : Sort u} (A : Alg R) (T : TT) (t : TypeId) (x : AV) (f : Nat) (K : AV → R) : R :=
  match T t with
  | some ti => match ti.kind with
    | .strct fs => match fs[f]? with
      | some (off, ft) => match T ft with
        | some fi => if fi.size = 0 then A.fail else match x with
          | .ptr h o => K (.ptr h (o + off))
          | .elt h i o => K (.elt h i (o + off))
          | .relt u y o => K (.relt u y (o + off))
          | _ => A.fail
        | none => A.fail
      | none => A.fail
    | _ => A.fail
  | none => A.fail

def afield {R : Sort u} (A : Alg R) (T : TT) (t : TypeId) (x : AV) (f : Nat) (K : AV → R) : R :=
  match T t, x with
  | some ti, .agg cs => match ti.kind with
    | .strct fs => match fs[f]? with
      | some (off, ft) => match T ft with
        | some fi =>
          if isStruct fi.kind then (if off + fi.size ≤ cs.length then K (.agg ((cs.drop off).take fi.size)) else A.fail)
          else match cs[off]? with | some a => K a | none => A.fail
        | none => A.fail
      | none => A.fail
    | _ => A.fail
  | _, _ => A.fail

def overwrite (cs : List AV) (off : Nat) (new : List AV) : List AV := cs.take off ++ new ++ cs.drop (off + new.length)

/-- The cells of a struct that is built of parts. -/
def abuildCells (T : TT) (fs : List (Nat × TypeId)) : List (Nat × AV) → List AV → Option (List AV)
  | [], cs => some cs
  | (f, a) :: r, cs =>
    match fs[f]? with
    | some (off, ft) => match T ft with
      | some fi =>
        match a with
        | .agg new => if isStruct fi.kind && new.length == fi.size && decide (off + new.length ≤ cs.length) then abuildCells T fs r (overwrite cs off new) else none
        | a => if !isStruct fi.kind && fi.size == 1 && a.single && decide (off < cs.length) then abuildCells T fs r (cs.set off a) else none
      | none => none
    | none => none

def partsAV (s : St) : List (Nat × Operand) → Option (List (Nat × AV))
  | [] => some []
  | (i, x) :: r => match evalO s x, partsAV s r with
    | some a, some l => some ((i, a) :: l)
    | _, _ => none

def argsAV (s : St) : List Operand → Option (List AV)
  | [] => some []
  | x :: r => match evalO s x, argsAV s r with
    | some a, some l => some (a :: l)
    | _, _ => none

def listDat (t : Ty) : Nat → List (Nat × AV) → Option (List t.den)
  | _, [] => some []
  | n, (i, a) :: r => if i = n then (match toDat t a, listDat t (n + 1) r with | some x, some l => some (x :: l) | _, _ => none) else none

/-! Calls: what is handed to the callee, and what comes back -/

mutual
def AV.ren (f : Nat → Nat) : AV → AV
  | .slc h => .slc (f h)
  | .win h o l => .win (f h) o l
  | .ptr h o => .ptr (f h) o
  | .elt h i o => .elt (f h) i o
  | .agg cs => .agg (renL f cs)
  | .tup cs => .tup (renL f cs)
  | .fn g a b => .fn g (renL f a) (renL f b)
  | a => a
def renL (f : Nat → Nat) : List AV → List AV
  | [] => []
  | a :: r => a.ren f :: renL f r
end

def Row.ren (f : Nat → Nat) : Row → Row
  | .seq t xs => .seq t xs
  | .box cs => .box (renL f cs)

mutual
def AV.ids : AV → List Nat
  | .slc h | .win h _ _ | .ptr h _ | .elt h _ _ => [h]
  | .agg cs | .tup cs => idsL cs
  | .fn _ a b => idsL a ++ idsL b
  | _ => []
def idsL : List AV → List Nat
  | [] => []
  | a :: r => a.ids ++ idsL r
end

def Row.ids : Row → List Nat
  | .seq _ _ => []
  | .box cs => idsL cs

def addNew (acc : List Nat) : List Nat → List Nat
  | [] => acc
  | h :: r => if acc.contains h then addNew acc r else addNew (acc ++ [h]) r

/-- All rows that are reached, in the order in which they are met. -/
def reach (H : Heap) : Nat → Nat → List Nat → List Nat
  | 0, _, acc => acc
  | n + 1, i, acc =>
    match acc[i]? with
    | none => acc
    | some h => match H[h]? with
      | some (some r) => reach H n (i + 1) (addNew acc r.ids)
      | _ => reach H n (i + 1) acc

def place (ids : List Nat) (h : Nat) : Nat := (ids.idxOf? h).getD ids.length

/-- An argument: slices are handed over by what they hold, unless the parameter is one that is written. -/
def handArg (s : St) (T : TT) (io : Bool) (t : TypeId) : AV → Option AV
  | .slc h => if io then some (.slc h) else match s.row h with
    | some (.seq u xs) => some (.dat (.list u) xs)
    | _ => none
  | .win h off len => if io then none else match s.row h with
    | some (.seq u xs) => some (.dat (.list u) ((xs.drop off).take len))
    | _ => none
  | .nils => match T t with
    | some ti => match ti.ty with
      | some (.list u) => some (.dat (.list u) [])
      | _ => none
    | none => none
  | .undef => none
  | .elt _ _ _ => none
  | .relt _ _ _ => none
  | .tab _ _ => none
  | a => some a

def handArgs (s : St) (T : TT) (io : Nat → Bool) : Nat → List TypeId → List AV → Option (List AV)
  | _, _, [] => some []
  | n, t :: ts, a :: r => match handArg s T (io n) t a, handArgs s T io (n + 1) ts r with
    | some x, some l => some (x :: l)
    | _, _ => none
  | _, [], _ :: _ => none

def Ty.hasList : Ty → Bool
  | .list _ => true
  | .pair a b => a.hasList || b.hasList
  | _ => false
mutual
def AV.hasList : AV → Bool
  | .dat t _ => t.hasList
  | .relt _ _ _ => true
  | .tab _ _ => true
  | .agg cs | .tup cs => hasListL cs
  | .fn _ a b => hasListL a || hasListL b
  | _ => false
def hasListL : List AV → Bool
  | [] => false
  | a :: r => a.hasList || hasListL r
end
def Row.hasList : Row → Bool
  | .seq t _ => t.hasList
  | .box cs => hasListL cs

def nodupB : List Nat → Bool
  | [] => true
  | a :: r => !r.contains a && nodupB r

def closedB (H : Heap) (ids : List Nat) : List Nat → Bool
  | [] => true
  | h :: r => (match H[h]? with | some (some x) => x.ids.all (fun g => ids.contains g) | _ => false) && closedB H ids r

def freshB (H : Heap) (base : Nat) : Nat → Bool
  | 0 => true
  | n + 1 => (match H[base + n]? with | some none => true | _ => false) && freshB H base n

def subHeap (H : Heap) (ids : List Nat) : Heap := ids.map fun h => match H[h]? with | some (some r) => some (r.ren (place ids)) | _ => none
def backTo (ids : List Nat) (base : Nat) (j : Nat) : Nat := match ids[j]? with | some h => h | none => base + (j - ids.length)

/-- Rows that were handed over by what they hold. -/
def roIds : List AV → List AV → List Nat
  | a :: r, b :: r' => (match a, b with
    | .slc h, .dat _ _ => [h]
    | .win h _ _, .dat _ _ => [h]
    | _, _ => []) ++ roIds r r'
  | _, _ => []

def putRows (f : Nat → Nat) : Nat → Heap → Heap → Heap
  | _, [], H => H
  | j, r :: rest, H => putRows f (j + 1) rest (match r with | some x => H.set (f j) (some (x.ren f)) | none => H)

/-- How many new rows a call may hand back. -/
def width : Nat := 4

def acall {R : Sort u} (A : Alg R) (C : Ctx) (base : Nat) (s : St) (f : FuncId) (args : List AV) (types : List TypeId) (K : AV → St → R) : R :=
  match handArgs s C.T (C.io f) 0 types args with
  | none => A.fail
  | some avs =>
    let ids := reach s.heap (s.heap.length + 1) 0 (addNew [] (idsL avs))
    let ro := roIds args avs
    if nodupB ids && closedB s.heap ids ids && (idsL avs).all (fun g => ids.contains g) && ro.all (fun h => !ids.contains h) && freshB s.heap base width then
      let ans := C.orc f (renL (place ids) avs) (subHeap s.heap ids)
      A.bind ans.o fun x =>
        let q := ans.enc x
        if decide (q.2.length ≤ ids.length + width) && decide (ids.length ≤ q.2.length) && (ro.isEmpty || !(q.1.hasList || q.2.any fun r => match r with | some x => x.hasList | none => false)) then
          K (q.1.ren (backTo ids base)) { s with heap := putRows (backTo ids base) 0 q.2 s.heap }
        else A.fail
    else A.fail

end Go.Rv
