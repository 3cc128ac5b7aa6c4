/-
  Tables, links between code and plain functions. Conditions: none.
-/
import Derived.Test.YtenenhmofmdcbabDoorRr
import Derived.KernelRfl
set_option linter.unusedSimpArgs false
set_option linter.unusedVariables false
namespace Go.Rv

/-! Tables -/

def tlook : List (TypeId × TI) → TT
  | [], _ => none
  | p :: r, t => if Nat.beq p.1 t then some p.2 else tlook r t

theorem tlook_mem {t : TypeId} {ti : TI} : ∀ {l : List (TypeId × TI)}, tlook l t = some ti → (t, ti) ∈ l
  | [], h => by simp [tlook] at h
  | p :: r, h => by
    simp only [tlook] at h
    split at h
    · rename_i hp
      have e : p.1 = t := Nat.eq_of_beq_eq_true hp
      cases h
      subst e
      simp
    · exact List.mem_cons_of_mem _ (tlook_mem h)

theorem tok_of {P : Program} {l : List (TypeId × TI)} (h : ∀ p ∈ l, TIOk P p.1 p.2) : TOk P (tlook l) := fun t ti ht => h (t, ti) (tlook_mem ht)

def olook : List (FuncId × Fun) → FuncId → Fun
  | [], _ => fun _ _ => Ans.no
  | p :: r, f => if Nat.beq p.1 f then p.2 else olook r f

theorem olook_ok {P : Program} : ∀ {l : List (FuncId × Fun)}, (∀ p ∈ l, Sound P p.1 p.2) → ∀ f, Sound P f (olook l f)
  | [], _, f => fun avs H r H' h => by simp [olook, Ans.no, Ans.run] at h
  | p :: r, hl, f => by
    unfold olook
    split
    · rename_i hp
      have e : p.1 = f := Nat.eq_of_beq_eq_true hp
      subst e
      exact hl p (by simp)
    · exact olook_ok (fun q hq => hl q (List.mem_cons_of_mem _ hq)) f

theorem olook_call {P : Program} : ∀ {l : List (FuncId × Fun)}, (∀ p ∈ l, Callable P p.1) → ∀ f avs H, (olook l f avs H).o.isSome = true → Callable P f
  | [], _, f, avs, H, h => by simp [olook, Ans.no] at h
  | p :: rr, hl, f, avs, H, h => by
    by_cases hp : Nat.beq p.1 f = true
    · have e : p.1 = f := Nat.eq_of_beq_eq_true hp
      subst e
      exact hl p (by simp)
    · have e : olook (p :: rr) f = olook rr f := by simp [olook, hp]
      rw [e] at h
      exact olook_call (fun q hq => hl q (List.mem_cons_of_mem _ hq)) f avs H h

theorem cok_of {P : Program} {types : List (TypeId × TI)} {funs : List (FuncId × Fun)} {io : FuncId → Nat → Bool} {k : Nat} (ht : TOk P (tlook types)) (h1 : ∀ p ∈ funs, Sound P p.1 p.2) (h2 : ∀ p ∈ funs, Callable P p.1) (hm : P.follows .mixedOrders = true) :
    COk P ⟨tlook types, olook funs, io, k⟩ := ⟨ht, olook_ok h1, olook_call h2, hm⟩

theorem Ans.run_some {τ : Type} {o : Option τ} {enc : τ → AV × Heap} {r : AV × Heap} (h : (Ans.mk τ o enc).run = some r) : ∃ t, o = some t ∧ enc t = r := Option.map_eq_some_iff.1 h

/-! Parts of a code -/

def Code.fst : Code → Code
  | .seq a _ => a
  | .cond _ a _ => a
  | .block _ a => a
  | .loop a => a
  | c => c
def Code.snd : Code → Code
  | .seq _ b => b
  | .cond _ _ b => b
  | c => c
def bodyOf (fn : Func) : Code := match fn.body with | some c => c | none => .skip

def Ann.fst : Ann → Ann
  | .seq a _ => a
  | .cond a _ => a
  | .block a => a
  | .loop a => a
  | a => a
def Ann.snd : Ann → Ann
  | .seq _ b => b
  | .cond _ b => b
  | a => a

def LL : Nat := 1152921504606846976
/-- How deep calls of themselves may go. -/
def RR : Nat := 100000

def infoOf : Option TypeInfo → TypeInfo
  | some i => i
  | none => default
def descOf : Option TypeDesc → TypeDesc
  | some d => d
  | none => .bool
def fieldsOf : Option TypeDesc → Array Field
  | some (.struct f) => f
  | _ => #[]

/-! The environment, written by what is there -/

def mkE : Nat → Nat → List (Nat × AV) → List AV
  | 0, _, _ => []
  | n + 1, i, l => (match l with
    | (j, a) :: r => if Nat.beq j i then a :: mkE n (i + 1) r else .undef :: mkE n (i + 1) l
    | [] => .undef :: mkE n (i + 1) [])

/-! Links -/

theorem wpO_cond {α : Type} (g : Bool) (x y : Option α) (K : α → Prop) : wpO (cond g x y) K = cond g (wpO x K) (wpO y K) := by cases g <;> rfl

/-- What a piece of code reckons: where it ends, and with what. -/
structure Link (C : Ctx) (L : Nat) (c : Code) (an : Ann) (s : St) {τ : Type} (n : Option τ) (fin : τ → Exit × St) : Prop where
  go : ∀ K : Exit → St → Prop, wpO n (fun x => K (fin x).1 (fin x).2) → awp C L c an s K

structure Awp (C : Ctx) (L : Nat) (c : Code) (an : Ann) (s : St) (K : Exit → St → Prop) : Prop where
  go : awp C L c an s K

theorem Awp.of {C : Ctx} {L : Nat} {c : Code} {an : Ann} {s : St} {K : Exit → St → Prop} {X : Prop} (e : X = awp C L c an s K) (h : X) : Awp C L c an s K := ⟨e ▸ h⟩

theorem Link.of {C : Ctx} {L : Nat} {c : Code} {an : Ann} {s : St} {τ : Type} {n : Option τ} {fin : τ → Exit × St} (h : ∀ K : Exit → St → Prop, wpO n (fun x => K (fin x).1 (fin x).2) → Awp C L c an s K) : Link C L c an s n fin :=
  ⟨fun K hk => (h K hk).go⟩

theorem Link.cast {C : Ctx} {L : Nat} {c c' : Code} {an an' : Ann} {s : St} {τ : Type} {n : Option τ} {fin : τ → Exit × St} (hc : c' = c) (ha : an' = an) (h : Link C L c an s n fin) : Link C L c' an' s n fin := by
  subst hc ha; exact h

theorem link_seq {C : Ctx} {L : Nat} {a b : Code} {x y : Ann} {s : St} {τ υ : Type} {n : Option τ} {st : τ → St} (h1 : Link C L a x s n (fun t => (Exit.normal, st t))) {m : τ → Option υ} {fin2 : υ → Exit × St}
    (h2 : ∀ t, Link C L b y (st t) (m t) fin2) : Link C L (.seq a b) (.seq x y) s (n.bind m) fin2 := by
  refine ⟨fun K h => ?_⟩
  rw [wpO_bind] at h
  exact h1.go _ (wpO_mono (fun t ht => (h2 t).go K ht) h)

def grpC : List Code → Code → Code
  | [], c => c
  | x :: r, c => .seq x (grpC r c)
def grpA : List Ann → Ann → Ann
  | [], c => c
  | x :: r, c => .seq x (grpA r c)

theorem onNormal_two (f g : St → Prop) (K : Exit → St → Prop) : onNormal f (onNormal g K) = onNormal f K := by
  funext e s
  cases e <;> rfl

theorem awp_group {C : Ctx} {L : Nat} {c d : Code} {a z : Ann} : ∀ (l : List Code) (m : List Ann), l.length = m.length → ∀ (s : St) (K : Exit → St → Prop),
    awp C L (.seq (grpC l c) d) (.seq (grpA m a) z) s K = awp C L (grpC l (.seq c d)) (grpA m (.seq a z)) s K
  | [], [], _, _, _ => rfl
  | [], _ :: _, h, _, _ => by simp at h
  | _ :: _, [], h, _, _ => by simp at h
  | x :: r, y :: q, h, s, K => by
    have ih := awp_group (C := C) (L := L) (c := c) (d := d) (a := a) (z := z) r q (by simpa using h)
    have e1 : awp C L (.seq (grpC (x :: r) c) d) (.seq (grpA (y :: q) a) z) s K =
        awp C L x y s (onNormal (fun s' => awp C L (grpC r c) (grpA q a) s' (onNormal (fun s2 => awp C L d z s2 K) K)) (onNormal (fun s2 => awp C L d z s2 K) K)) := by
      simp [grpC, grpA, awp]
    have e2 : awp C L (grpC (x :: r) (.seq c d)) (grpA (y :: q) (.seq a z)) s K = awp C L x y s (onNormal (fun s' => awp C L (grpC r (.seq c d)) (grpA q (.seq a z)) s' K) K) := by
      simp [grpC, grpA, awp]
    rw [e1, e2, onNormal_two]
    congr 1
    congr 1
    funext s'
    rw [← ih s' K]
    simp [awp]

theorem link_group {C : Ctx} {L : Nat} {c d : Code} {a z : Ann} {s : St} {τ : Type} {n : Option τ} {fin : τ → Exit × St} (l : List Code) (m : List Ann) (hl : l.length = m.length)
    (h : Link C L (.seq (grpC l c) d) (.seq (grpA m a) z) s n fin) : Link C L (grpC l (.seq c d)) (grpA m (.seq a z)) s n fin :=
  ⟨fun K hk => by rw [← awp_group l m hl]; exact h.go K hk⟩

/-- Ends that are no plain ones. -/
def Abrupt {ε : Type} (fin : ε → Exit × St) : Prop := ∀ e, ∀ (f : St → Prop) (K : Exit → St → Prop), K (fin e).1 (fin e).2 → onNormal f K (fin e).1 (fin e).2

theorem link_seq2 {C : Ctx} {L : Nat} {a b : Code} {x y : Ann} {s : St} {τ ε υ : Type} {n : Option (τ ⊕ ε)} {st : τ → St} {finE : ε → Exit × St} (h1 : Link C L a x s n (Sum.elim (fun t => (Exit.normal, st t)) finE)) {m : τ → Option υ} {fin2 : υ → Exit × St}
    (h2 : ∀ t, Link C L b y (st t) (m t) fin2) (j : ε → υ) (hj : ∀ e, fin2 (j e) = finE e) (ha : Abrupt finE) : Link C L (.seq a b) (.seq x y) s (n.bind (Sum.elim m (fun e => some (j e)))) fin2 := by
  refine ⟨fun K h => ?_⟩
  rw [wpO_bind] at h
  refine h1.go _ (wpO_mono (fun t ht => ?_) h)
  cases t with
  | inl t => exact (h2 t).go K ht
  | inr e =>
    refine ha e _ K ?_
    have ht' : K (fin2 (j e)).1 (fin2 (j e)).2 := Eq.mp (wpO_some (j e) (fun x => K (fin2 x).1 (fin2 x).2)) ht
    rw [hj] at ht'
    exact ht'

theorem link_seq3 {C : Ctx} {L : Nat} {a b : Code} {x y : Ann} {s : St} {ε : Type} {n : Option ε} {finE : ε → Exit × St} (h1 : Link C L a x s n finE) (ha : Abrupt finE) : Link C L (.seq a b) (.seq x y) s n finE := by
  refine ⟨fun K h => ?_⟩
  exact h1.go _ (wpO_mono (fun e he => ha e _ K he) h)

theorem link_map {C : Ctx} {L : Nat} {a : Code} {x : Ann} {s : St} {τ υ : Type} {n : Option τ} {fin : τ → Exit × St} (h1 : Link C L a x s n fin) (f : τ → υ) {fin2 : υ → Exit × St} (hf : ∀ t, fin2 (f t) = fin t) : Link C L a x s (n.map f) fin2 := by
  refine ⟨fun K h => ?_⟩
  rw [wpO_map] at h
  exact h1.go K (wpO_mono (fun t ht => by rw [hf] at ht; exact ht) h)

theorem link_cond {C : Ctx} {L : Nat} {c : Operand} {a b : Code} {x y : Ann} {s : St} {g : Bool} (hg : evalO s c = some (.dat .bool g)) {τ : Type} {n m : Option τ} {fin : τ → Exit × St} (h1 : Link C L a x s n fin) (h2 : Link C L b y s m fin) :
    Link C L (.cond c a b) (.cond x y) s (cond g n m) fin := by
  refine ⟨fun K h => ?_⟩
  unfold awp
  rw [hg]
  cases g with
  | true => exact h1.go K h
  | false => exact h2.go K h

theorem link_block {C : Ctx} {L : Nat} {id : Nat} {a : Code} {x : Ann} {s : St} {τ υ : Type} {n : Option τ} {fin : τ → Exit × St} (h1 : Link C L a x s n fin) (f : τ → υ) {fin2 : υ → Exit × St}
    (hf : ∀ t (K : Exit → St → Prop), K (fin2 (f t)).1 (fin2 (f t)).2 → onExit id K (fin t).1 (fin t).2) : Link C L (.block id a) (.block x) s (n.map f) fin2 := by
  refine ⟨fun K h => ?_⟩
  rw [wpO_map] at h
  exact h1.go _ (wpO_mono (fun t ht => hf t K ht) h)

def nloop {σ ω : Type} (body : σ → Option (σ ⊕ ω)) : Nat → σ → Option ω
  | 0, _ => none
  | n + 1, s => (body s).bind fun r => match r with
    | .inl s' => nloop body n s'
    | .inr o => some o

theorem link_loop {C : Ctx} {L : Nat} {a : Code} {x : Ann} {σ ω : Type} {body : σ → Option (σ ⊕ ω)} {mk : σ → St} {fin : ω → Exit × St} (hn : Abrupt fin)
    (hb : ∀ s, Link C L a x (mk s) (body s) (Sum.elim (fun s' => (Exit.normal, mk s')) (fun o => fin o))) (s : σ) : Link C L (.loop a) (.loop x) (mk s) (nloop body L s) fin := by
  refine ⟨fun K h => ?_⟩
  unfold awp
  suffices H : ∀ n s, wpO (nloop body n s) (fun x => K (fin x).1 (fin x).2) → awpLoop (fun s K => awp C L a x s K) n (mk s) K from H L s h
  intro n
  induction n with
  | zero => intro s h; exact (Eq.mp (wpO_none _) h).elim
  | succ n ih =>
    intro s h
    simp only [nloop, wpO_bind] at h
    refine (hb s).go _ (wpO_mono (fun r hr => ?_) h)
    cases r with
    | inl s' => exact ih s' hr
    | inr o => exact hn o _ _ (Eq.mp (wpO_some o (fun x => K (fin x).1 (fin x).2)) hr)

/-! A whole function -/

theorem Awp.cast {C C' : Ctx} {L : Nat} {c : Code} {an : Ann} {s s' : St} {K K' : Exit → St → Prop} (h1 : C' = C) (h2 : s' = s) (h3 : K' = K) (h : Awp C L c an s K) : Awp C' L c an s' K' := by
  subst h1 h2 h3; exact h

def isEnd : Exit → Bool
  | .normal => true
  | .ret => true
  | _ => false

theorem ret_mk {T : TT} {rs : List ResultVar} {r : AV} {H' : Heap} {e : Exit} {s : St} (l : List AV) (he : isEnd e = true) (h1 : retVals T s rs = some l) (h2 : retAV l = r) (h3 : s.heap = H') : Ret T rs r H' e s := by
  refine ⟨?_, ⟨l, h1, h2⟩, h3⟩
  cases e <;> first | trivial | exact absurd he (by simp [isEnd])

theorem ret_of {C : Ctx} {L : Nat} {c : Code} {an : Ann} {s : St} {τ υ : Type} {n : Option τ} {fin : τ → Exit × St} (h : Link C L c an s n fin) {o : Option υ} {enc : υ → AV × Heap} (f : τ → υ) (ho : o = n.map f) {T : TT} {rs : List ResultVar}
    (hr : ∀ t, Ret T rs (enc (f t)).1 (enc (f t)).2 (fin t).1 (fin t).2) {r : AV} {H' : Heap} (hrun : (Ans.mk υ o enc).run = some (r, H')) : Awp C L c an s (Ret T rs r H') := by
  obtain ⟨u, hu, he⟩ := Ans.run_some hrun
  subst ho
  obtain ⟨t, ht, rfl⟩ := Option.map_eq_some_iff.1 hu
  refine ⟨h.go _ ?_⟩
  rw [ht, wpO_some]
  have := hr t
  rw [he] at this
  exact this

theorem ret_of' {C : Ctx} {L : Nat} {c : Code} {an : Ann} {s : St} {τ : Type} {n : Option τ} {fin : τ → Exit × St} (h : Link C L c an s n fin) {o : Option τ} {enc : τ → AV × Heap} (ho : o = n) {T : TT} {rs : List ResultVar}
    (hr : ∀ t, Ret T rs (enc t).1 (enc t).2 (fin t).1 (fin t).2) {r : AV} {H' : Heap} (hrun : (Ans.mk τ o enc).run = some (r, H')) : Awp C L c an s (Ret T rs r H') :=
  ret_of h id (by rw [ho]; simp) hr hrun

theorem fn_sound' {P : Program} {C : Ctx} (hC : COk P C) {f : FuncId} {fn : Func} {c : Code} (hf : P.funcs[f]? = some fn) (hb : fn.body = some c) {F : Fun} (L : Nat) (an : Ann)
    (h : ∀ avs H r H', (F avs H).run = some (r, H') → Awp { C with k := H.length } L c an (start fn.ntmps avs H) (Ret C.T fn.results.toList r H')) : Sound P f F :=
  fn_sound hC hf hb L (fun _ _ => an) (fun avs H r H' hF => (h avs H r H' hF).go)

end Go.Rv
