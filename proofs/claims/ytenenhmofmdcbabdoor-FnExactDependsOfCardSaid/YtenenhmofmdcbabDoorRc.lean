/-
  One step of the abstract run, and the run of a code. Conditions: none.
-/
import Derived.Test.YtenenhmofmdcbabDoorRb
universe u
namespace Go.Rv

def mk (n m : Int) : Option Nat := if 0 ≤ n ∧ n ≤ m ∧ m ≤ 1099511627776 then some n.toNat else none

/-- A new row, at a number that is free. -/
def allocRow {R : Sort u} (A : Alg R) (s : St) (base : Nat) (r : Row) (K : St → R) : R :=
  match s.heap[base]? with
  | some none => K (s.setRow base r)
  | _ => A.fail

def elemOf (T : TT) (t : TypeId) : Option TI :=
  match T t with
  | some ti => match ti.kind with | .slice e => T e | _ => none
  | none => none

def astore {R : Sort u} (A : Alg R) (T : TT) (s : St) (t : TypeId) (p v : AV) (K : St → R) : R :=
  match T t with
  | none => A.fail
  | some ti =>
    if isStruct ti.kind then
      match p, v with
      | .ptr h off, .agg new => match s.row h with
        | some (.box cs) => if new.length = ti.size ∧ 0 < new.length ∧ off + new.length ≤ cs.length ∧ new.all AV.single = true then K (s.setRow h (.box (overwrite cs off new))) else A.fail
        | _ => A.fail
      | _, _ => A.fail
    else if ti.size = 1 then
      match p with
      | .elt h i 0 => match s.row h with
        | some (.seq u xs) => match toDat u v with
          | some x => if u.cells = 1 then K (s.setRow h (.seq u (xs.set i x))) else A.fail
          | none => A.fail
        | _ => A.fail
      | .ptr h off => match s.row h with
        | some (.box cs) => if v.single = true ∧ off < cs.length then K (s.setRow h (.box (cs.set off v))) else A.fail
        | _ => A.fail
      | _ => A.fail
    else A.fail

def aappend {R : Sort u} (A : Alg R) (C : Ctx) (base : Nat) (s : St) (t : TypeId) (x y : AV) (K : AV → St → R) : R :=
  match elemOf C.T t with
  | some ie => match ie.ty with
    | some u =>
      if u.cells = ie.size ∧ 0 < ie.size ∧ ie.bytes ≤ 128 ∧ zeroOk u ie.zero = true then
        match elems s u y with
        | some ys => match x with
          | .nils => A.bind (room ys.length) fun _ => allocRow A s base (.seq u ys) fun s' => K (.slc base) s'
          | .slc h => match s.row h with
            | some (.seq u' xs) => match castD (.list u) (.list u') xs with
              | some xs' => if C.k ≤ h then A.bind (room (xs'.length + ys.length)) fun _ => K (.slc h) ((s.scrub h).setRow h (.seq u (xs' ++ ys))) else A.fail
              | none => A.fail
            | _ => A.fail
          | .win h off len => match s.row h with
            | some (.seq u' xs) => match castD (.list u) (.list u') xs with
              | some xs' => if C.k ≤ h then A.bind (room (len + ys.length)) fun _ => K (.slc h) ((s.scrub h).setRow h (.seq u ((xs'.drop off).take len ++ ys))) else A.fail
              | none => A.fail
            | _ => A.fail
          | _ => A.fail
        | none => A.fail
      else A.fail
    | none => A.fail
  | none => A.fail

def foldInt (f : Int → Int → Int) (k : IntKind) : Int → List AV → Option Int
  | n, [] => some n
  | n, .dat (.int k') m :: r => if k = k' then foldInt f k (f n m) r else none
  | _, _ => none

def lift {R : Sort u} {α : Type} (A : Alg R) (x : Option α) (k : α → R) : R := match x with | some a => k a | none => A.fail

def cstep {R : Sort u} (A : Alg R) (C : Ctx) (base : Nat) (o : Oper) (s : St) (K : St → R) : R :=
  let out (a : AV) : R := K (s.put o.dst a)
  let ev (x : Operand) (k : AV → R) : R := lift A (evalO s x) k
  match o.op with
  | .move x => ev x out
  | .assign x => ev x fun a => match a with
    | .nils => match elemOf C.T o.type with
      | some ie => match ie.ty with
        | some u => allocRow A s base (.seq u []) fun s' => K (s'.put o.dst (.slc base))
        | none => A.fail
      | none => A.fail
    | a => out a
  | .pick c a b => ev c fun c => match c with
    | .dat .bool g => ev a fun x => ev b fun y => out (cond g x y)
    | _ => A.fail
  | .alloc e => match C.T e with
    | some ti => match ti.kind with
      | .arr n e' => match C.T e' with
        | some ie => match ie.ty with
          | some u => if u.cells = 1 ∧ zeroOk u ie.zero = true ∧ ti.zero.length = n ∧ n ≤ 1024 ∧ ti.zero.all (fun v => zeroOk u [v]) = true then
              allocRow A s base (.seq u (List.replicate n u.zero)) fun s' => K (s'.put o.dst (.ptr base 0)) else A.fail
          | none => A.fail
        | none => A.fail
      | _ => if (ti.zero.map constAV).all AV.single = true then allocRow A s base (.box (ti.zero.map constAV)) fun s' => K (s'.put o.dst (.ptr base 0)) else A.fail
    | none => A.fail
  | .box _ v => ev v fun a => match a with
    | .agg cs => if cs.all AV.single = true then allocRow A s base (.box cs) fun s' => K (s'.put o.dst (.ptr base 0)) else A.fail
    | a => if a.single = true then allocRow A s base (.box [a]) fun s' => K (s'.put o.dst (.ptr base 0)) else A.fail
  | .build t ps => match C.T t, partsAV s ps.toList with
    | some ti, some l => match ti.kind with
      | .strct fs => if fs.all (fun f => (C.T f.2).isSome) = true then lift A (abuildCells C.T fs l (ti.zero.map constAV)) fun cs => out (.agg cs) else A.fail
      | _ => A.fail
    | _, _ => A.fail
  | .buildSlice t n ps => match elemOf C.T t, partsAV s ps.toList with
    | some ie, some l => match ie.ty with
      | some u => match listDat u 0 l with
        | some xs => if l.length = n ∧ n ≤ 1024 ∧ u.cells = 1 ∧ ie.size = 1 then allocRow A s base (.seq u xs) fun s' => K (s'.put o.dst (.slc base)) else A.fail
        | none => A.fail
      | none => A.fail
    | _, _ => A.fail
  | .makeSlice t l c => match elemOf C.T t, evalO s l, evalO s c with
    | some ie, some (.dat (.int _) n), some (.dat (.int _) m) => match ie.ty with
      | some u => if u.cells = ie.size ∧ 0 < ie.size ∧ ie.bytes ≤ 128 ∧ zeroOk u ie.zero = true then
          A.bind (mk n m) fun q => allocRow A s base (.seq u (List.replicate q u.zero)) fun s' => K (s'.put o.dst (.slc base)) else A.fail
      | none => A.fail
    | _, _, _ => A.fail
  | .load t p => ev p fun p => aload A C.T s t p out
  | .store t p v => ev p fun p => ev v fun v => astore A C.T s t p v fun s' => K (s'.put o.dst .undef)
  | .nilCheck x => ev x fun a => match a with
    | .ptr _ _ | .elt _ _ _ | .relt _ _ _ => out a
    | _ => A.fail
  | .binOp op t x y _ => ev x fun x => ev y fun y => abin A (isBool C.T t) op x y out
  | .unOp op _ x => ev x fun x => aun A op x out
  | .convert st dt x => ev x fun x => match C.T st, C.T dt, x with
    | some _, some ti, .dat (.int _) n => match ti.kind with
      | .int k => out (.dat (.int k) (k.wrap n))
      | _ => A.fail
    | _, _, _ => A.fail
  | .makeFunc (.func f) first caps => match argsAV s first.toList, argsAV s caps.toList with
    | some a, some b => out (.fn f a b)
    | _, _ => A.fail
  | .slice t x lo hi none => match evalO s x, evalOp s lo, evalOp s hi with
    | some a, some l, some h => aslice A C.T s t a l h out
    | _, _, _ => A.fail
  | .fieldAddr t x f => ev x fun x => afieldAddr A C.T t x f out
  | .field t x f => ev x fun x => afield A C.T t x f out
  | .indexAddr t x i => ev x fun x => ev i fun i => aindexAddr A C.T s t x i out
  | .index t x i => match C.T t, evalO s x, evalO s i with
    | some ti, some (.dat .str b), some (.dat (.int _) n) => match ti.kind with
      | .str => A.bind (bidx b n) fun m => out (.dat (.int .u8) m)
      | _ => A.fail
    | _, _, _ => A.fail
  | .extract x i => ev x fun x => match x with
    | .tup cs => lift A cs[i]? out
    | _ => A.fail
  | .call c => match c.callee with
    | .builtin .len => match c.args.toList, c.argTypes.toList with
      | [x], [t] => ev x fun x => match C.T t with
        | some ti => (match ti.kind, x with
          | .slice _, .dat .str _ => A.fail
          | .str, .dat (.list _) _ => A.fail
          | .str, .dat .str _ => lift A (alen s x) fun n => out (.dat (.int .i64) n)
          | .slice _, x => lift A (alen s x) fun n => out (.dat (.int .i64) n)
          | _, _ => A.fail)
        | none => A.fail
      | _, _ => A.fail
    | .builtin .append => match c.args.toList, c.argTypes.toList with
      | [x, y], [t, t2] => if t = t2 then ev x fun x => ev y fun y => aappend A C base s t x y fun a s' => K (s'.put o.dst a) else A.fail
      | _, _ => A.fail
    | .builtin .max => match argsAV s c.args.toList with
      | some (.dat (.int k) n :: r) => lift A ((foldInt imax k n r).map (AV.dat (.int k))) out
      | _ => A.fail
    | .builtin .min => match argsAV s c.args.toList with
      | some (.dat (.int k) n :: r) => lift A ((foldInt imin k n r).map (AV.dat (.int k))) out
      | _ => A.fail
    | .value f => ev f fun f => match f with
      | .fn g first caps => match argsAV s c.args.toList with
        | some args => acall A C base s g (first ++ args ++ caps) (first.map (fun _ => 0) ++ c.argTypes.toList ++ caps.map (fun _ => 0)) fun a s' => K (s'.put o.dst a)
        | none => A.fail
      | _ => A.fail
    | _ => A.fail
  | _ => A.fail

/-! A row that is a datum from now on -/

mutual
def frz (h : Nat) (t : Ty) (xs : List t.den) : AV → AV
  | .slc g => cond (Nat.beq g h) (.dat (.list t) xs) (.slc g)
  | .win g o l => cond (Nat.beq g h) (.dat (.list t) ((xs.drop o).take l)) (.win g o l)
  | .ptr g o => cond (Nat.beq g h) .undef (.ptr g o)
  | .elt g i o => cond (Nat.beq g h) .undef (.elt g i o)
  | .agg cs => .agg (frzL h t xs cs)
  | .tup cs => .tup (frzL h t xs cs)
  | .fn f a b => .fn f (frzL h t xs a) (frzL h t xs b)
  | a => a
def frzL (h : Nat) (t : Ty) (xs : List t.den) : List AV → List AV
  | [] => []
  | a :: r => frz h t xs a :: frzL h t xs r
end

def frzRow (h : Nat) (t : Ty) (xs : List t.den) : Row → Row
  | .seq u ys => .seq u ys
  | .box cs => .box (frzL h t xs cs)

def St.freeze (k h : Nat) (s : St) : St :=
  cond (Nat.ble k h) (match s.row h with
    | some (.seq t xs) => ⟨frzL h t xs s.env, (s.heap.map (Option.map (frzRow h t xs))).set h none⟩
    | _ => s) s

/-- A slice of a whole row, as a window of it. -/
def winify (s : St) : AV → AV
  | .slc h => match s.row h with | some (.seq _ xs) => .win h 0 xs.length | _ => .slc h
  | a => a

def St.frzAV (k : Nat) (s : St) : AV → St
  | .slc h => s.freeze k h
  | .win h _ _ => s.freeze k h
  | _ => s

/-- A turn of the state that turns nothing of the world. -/
structure Turn where
  at_ : Nat
  slot : Nat
  win : Bool
  cell : Option Nat

def turnOne (k : Nat) (p : Turn) (s : St) : St :=
  match p.cell with
  | none => match s.env[p.slot]? with
    | some a => cond p.win { s with env := s.env.set p.slot (winify s a) } (s.frzAV k a)
    | none => s
  | some c => match s.env[p.slot]? with
    | some (.ptr h _) => match s.row h with
      | some (.box cs) => match cs[c]? with
        | some a => cond p.win (s.setRow h (.box (cs.set c (winify s a)))) (s.frzAV k a)
        | none => s
      | _ => s
    | _ => s

/-- What is turned ahead of operation i. -/
def freezeAt (k i : Nat) : List Turn → St → St
  | [], s => s
  | p :: r, s => cond (Nat.beq p.at_ i) (freezeAt k i r (turnOne k p s)) (freezeAt k i r s)

/-! A region -/

/-- Shown: at a test both ways, each with its outcome laid in. -/
def crun (C : Ctx) (ops : List Oper) (fr : List Turn) (B0 : Nat) : Nat → List Oper → St → (St → Prop) → Prop
  | i, [], s, K => K (freezeAt C.k i fr s)
  | i, o :: r, s0, K =>
    let s := freezeAt C.k i fr s0
    match o.guard with
    | none => cstep propAlg C (B0 + i * width) o s fun s' => crun C ops fr B0 (i + 1) r s' K
    | some (j, want) => match (ops[j]?).bind (·.dst) with
      | none => False
      | some t => match s.env[t]? with
        | some (.dat .bool g) =>
          cond g
            (cond want (cstep propAlg C (B0 + i * width) o { s with env := s.env.set t (.dat .bool true) } fun s' => crun C ops fr B0 (i + 1) r s' K) (crun C ops fr B0 (i + 1) r ({ s with env := s.env.set t (.dat .bool true) }.put o.dst (.tup [])) K))
            (cond want (crun C ops fr B0 (i + 1) r ({ s with env := s.env.set t (.dat .bool false) }.put o.dst (.tup [])) K) (cstep propAlg C (B0 + i * width) o { s with env := s.env.set t (.dat .bool false) } fun s' => crun C ops fr B0 (i + 1) r s' K))
        | some (.tup []) => crun C ops fr B0 (i + 1) r (s.put o.dst (.tup [])) K
        | _ => False

/-- The same, reckoned. -/
def orun (C : Ctx) (ops : List Oper) (fr : List Turn) (B0 : Nat) : Nat → List Oper → St → Option St
  | i, [], s => some (freezeAt C.k i fr s)
  | i, o :: r, s0 =>
    let s := freezeAt C.k i fr s0
    match o.guard with
    | none => (cstep (optAlg St) C (B0 + i * width) o s some).bind (orun C ops fr B0 (i + 1) r)
    | some (j, want) => match (ops[j]?).bind (·.dst) with
      | none => none
      | some t => match s.env[t]? with
        | some (.dat .bool g) =>
          if g = want then (cstep (optAlg St) C (B0 + i * width) o s some).bind (orun C ops fr B0 (i + 1) r)
          else orun C ops fr B0 (i + 1) r (s.put o.dst (.tup []))
        | some (.tup []) => orun C ops fr B0 (i + 1) r (s.put o.dst (.tup []))
        | _ => none

/-! A region whose order is left open -/

/-- One value, out of the operands and of what memory holds; memory stays. -/
def pureOp : Op → Bool
  | .move _ | .pick .. | .nilCheck _ | .binOp .. | .unOp .. | .convert .. | .makeFunc .. | .fieldAddr .. | .field .. | .extract .. | .index .. | .build .. => true
  | .indexAddr .. | .load .. | .slice .. => true
  | .call c => match c.callee with | .builtin .len | .builtin .max | .builtin .min => true | _ => false
  | _ => false

/-- Does not look at memory. -/
def heapFree : Op → Bool
  | .indexAddr .. | .load .. | .slice .. | .call _ => false
  | _ => true

def isAppend : Op → Bool
  | .call c => match c.callee with | .builtin .append => true | _ => false
  | _ => false

/-- Leaves the rows that are there as they are. -/
def calmKind (calm : List Nat) (j : Nat) : Op → Bool
  | .store .. => false
  | .call c => match c.callee with | .value _ => calm.contains j | .builtin .append => false | _ => true
  | _ => true

/-- The rows that are handed to a callee. -/
def callIds (C : Ctx) (o : Oper) (s : St) : List Nat :=
  match o.op with
  | .call c => match c.callee with
    | .value f => match evalO s f with
      | some (.fn g first caps) => match argsAV s c.args.toList with
        | some args => match handArgs s C.T (C.io g) 0 (first.map (fun _ => 0) ++ c.argTypes.toList ++ caps.map (fun _ => 0)) (first ++ args ++ caps) with
          | some avs => idsL avs
          | none => []
        | none => []
      | _ => []
    | _ => []
  | _ => []

def freeB (ops : Array Oper) (calm : List Nat) (listed : Array Bool) (i : Nat) (oi : Oper) : Bool :=
  (List.range ops.size).all fun j => j == i || listed.getD j true || (match ops[j]? with
    | some oj => (oj.after.any fun e => Region.binds .any e && e.on == i) || (oi.apart ops oj && (heapFree oi.op || calmKind calm j oj.op) && !isAppend oj.op)
    | none => true)

/-- An order in which the operations are taken, each of them the only one that may come up, or one that may come ahead of all others that may. -/
def schedFrom (ops : Array Oper) (calm : List Nat) : List Nat → Array Bool → Bool
  | [], listed => (Region.ready .any ops listed).isEmpty
  | i :: r, listed =>
    (Region.ready .any ops listed).contains i && ((Region.ready .any ops listed) == [i] || (match ops[i]? with | some oi => pureOp oi.op && freeB ops calm listed i oi | none => false))
      && schedFrom ops calm r (listed.setIfInBounds i true)

def schedB (ops : Array Oper) (calm order : List Nat) : Bool :=
  Region.noSelect ops && order.length == ops.size && schedFrom ops calm order (Array.replicate ops.size false)

def calmNow (C : Ctx) (calm : List Nat) (i : Nat) (o : Oper) (s : St) : Bool := !calm.contains i || (callIds C o s).isEmpty

def crunS (C : Ctx) (ops : List Oper) (calm : List Nat) (B0 : Nat) : List Nat → St → (St → Prop) → Prop
  | [], s, K => K s
  | i :: r, s, K =>
    match ops[i]? with
    | none => False
    | some o =>
      match o.guard with
      | none => cond (calmNow C calm i o s) (cstep propAlg C (B0 + i * width) o s fun s' => crunS C ops calm B0 r s' K) False
      | some (j, want) => match (ops[j]?).bind (·.dst) with
        | none => False
        | some t => match s.env[t]? with
          | some (.dat .bool g) =>
            cond g
              (cond want (cond (calmNow C calm i o { s with env := s.env.set t (.dat .bool true) }) (cstep propAlg C (B0 + i * width) o { s with env := s.env.set t (.dat .bool true) } fun s' => crunS C ops calm B0 r s' K) False) (crunS C ops calm B0 r ({ s with env := s.env.set t (.dat .bool true) }.put o.dst (.tup [])) K))
              (cond want (crunS C ops calm B0 r ({ s with env := s.env.set t (.dat .bool false) }.put o.dst (.tup [])) K) (cond (calmNow C calm i o { s with env := s.env.set t (.dat .bool false) }) (cstep propAlg C (B0 + i * width) o { s with env := s.env.set t (.dat .bool false) } fun s' => crunS C ops calm B0 r s' K) False))
          | some (.tup []) => crunS C ops calm B0 r (s.put o.dst (.tup [])) K
          | _ => False

/-- One operation, reckoned. -/
def stepAt (C : Ctx) (ops : List Oper) (calm : List Nat) (B0 i : Nat) (s : St) : Option St :=
  match ops[i]? with
  | none => none
  | some o =>
    match o.guard with
    | none => if calmNow C calm i o s = true then cstep (optAlg St) C (B0 + i * width) o s some else none
    | some (j, want) => match (ops[j]?).bind (·.dst) with
      | none => none
      | some t => match s.env[t]? with
        | some (.dat .bool g) => if g = want then (if calmNow C calm i o s = true then cstep (optAlg St) C (B0 + i * width) o s some else none) else some (s.put o.dst (.tup []))
        | some (.tup []) => some (s.put o.dst (.tup []))
        | _ => none

def orunS (C : Ctx) (ops : List Oper) (calm : List Nat) (B0 : Nat) : List Nat → St → Option St
  | [], s => some s
  | i :: r, s => (stepAt C ops calm B0 i s).bind (orunS C ops calm B0 r)

/-! What is kept of a state -/

def mask (live : List Nat) : Nat → List AV → List AV
  | _, [] => []
  | i, a :: r => (if live.contains i then a else .undef) :: mask live (i + 1) r

def normO (k : Nat) (live : List Nat) (s : St) : Option St :=
  let env := mask live 0 s.env
  let ids := reach s.heap (s.heap.length + 1) 0 (addNew (List.range k) (idsL env))
  if nodupB ids && closedB s.heap ids ids && (idsL env).all (fun g => ids.contains g) && (ids.take k == List.range k) then
    some ⟨renL (place ids) env, subHeap s.heap ids⟩
  else none

def withNorm (k : Nat) (live : List Nat) (s : St) (K : St → Prop) : Prop :=
  match normO k live s with
  | some s' => K s'
  | none => False

inductive Ann where
  | leaf (live : List Nat)
  | leafF (fr : List Turn) (live : List Nat)
  | draw (calm order : List Nat) (fr : List Turn) (live : List Nat)
  | seq (a b : Ann)
  | cond (a b : Ann)
  | block (a : Ann)
  | loop (a : Ann)

def onNormal (f : St → Prop) (K : Exit → St → Prop) (e : Exit) (s : St) : Prop :=
  match e with
  | .normal => f s
  | e => K e s

def onExit (id : Nat) (K : Exit → St → Prop) (e : Exit) (s : St) : Prop :=
  match e with
  | .exit i => if i = id then K .normal s else K (.exit i) s
  | e => K e s

def awpLoop (body : St → (Exit → St → Prop) → Prop) : Nat → St → (Exit → St → Prop) → Prop
  | 0, _, _ => False
  | n + 1, s, K => body s (onNormal (fun s' => awpLoop body n s' K) K)

def awp (C : Ctx) (L : Nat) : Code → Ann → St → (Exit → St → Prop) → Prop
  | .skip, .leaf live, s, K => withNorm C.k live s (K .normal)
  | .ret, .leaf live, s, K => withNorm C.k live s (K .ret)
  | .exit id, .leaf live, s, K => withNorm C.k live s (K (.exit id))
  | .skip, .leafF fr live, s, K => withNorm C.k live (freezeAt C.k 0 fr s) (K .normal)
  | .ret, .leafF fr live, s, K => withNorm C.k live (freezeAt C.k 0 fr s) (K .ret)
  | .exit id, .leafF fr live, s, K => withNorm C.k live (freezeAt C.k 0 fr s) (K (.exit id))
  | .region _ ops false, .leaf live, s, K =>
    crun C ops.toList [] s.heap.length 0 ops.toList { s with heap := s.heap ++ List.replicate (ops.size * width) none } fun s' => withNorm C.k live s' (K .normal)
  | .region _ ops false, .leafF fr live, s, K =>
    crun C ops.toList fr s.heap.length 0 ops.toList { s with heap := s.heap ++ List.replicate (ops.size * width) none } fun s' => withNorm C.k live s' (K .normal)
  | .region _ ops true, .draw calm order fr live, s, K =>
    cond (schedB ops calm order) (crunS C ops.toList calm s.heap.length order { s with heap := s.heap ++ List.replicate (ops.size * width) none } fun s' => withNorm C.k live (freezeAt C.k 0 fr s') (K .normal)) False
  | .seq a b, .seq x y, s, K => awp C L a x s (onNormal (fun s' => awp C L b y s' K) K)
  | .cond c a b, .cond x y, s, K => match evalO s c with
    | some (.dat .bool g) => _root_.cond g (awp C L a x s K) (awp C L b y s K)
    | _ => False
  | .block id c, .block x, s, K => awp C L c x s (onExit id K)
  | .loop c, .loop x, s, K => awpLoop (fun s K => awp C L c x s K) L s K
  | _, _, _, _ => False

end Go.Rv
