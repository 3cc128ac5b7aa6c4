/-
  Plain mathematics: the machine that goes by the rule comes to its end. Conditions: none.
-/
import Derived.Test.YtiokdplogigiaaaMgi
set_option linter.unusedVariables false
set_option linter.unusedSimpArgs false
namespace Go.Rv

/-- Words that were not taken away. -/
def InU (i : Nat) (st : List Nat) (w : Nat) : Prop := w ∈ st ∨ i ≤ w
/-- No word that was not taken away depends on it. -/
def LeafU (H : List Int) (i : Nat) (st : List Nat) (w : Nat) : Prop := ∀ c, 1 ≤ c → c ≤ H.length → InU i st c → hd H c ≠ w
def Stuck (H : List Int) (i : Nat) (st : List Nat) (y x : Nat) : Prop := ¬ (hd H x = y ∧ LeafU H i st x) ∧ ¬ (hd H y = x ∧ LeafU H i st y)

structure OInv (H : List Int) (i : Nat) (st : List Nat) (h : List Int) : Prop where
  base : MInv H.length i st h
  agree : ∀ w, 1 ≤ w → w < i → w ∉ st → hd h w = hd H w
  clos : ∀ w, 1 ≤ w → w ≤ H.length → InU i st w → hd H w ≠ 0 → InU i st (hd H w)
  block : ∀ p y x q, st = p ++ y :: x :: q → p ≠ [] → Stuck H i st y x

theorem OInv.start (H : List Int) (T : Tree H) : OInv H 1 [] (List.replicate H.length 0) where
  base := MInv.start _
  agree := fun w h1 h2 => by omega
  clos := fun w h1 h2 h3 h4 => .inr (Nat.pos_of_ne_zero h4)
  block := fun p y x q e => by
    have := congrArg List.length e
    simp at this

theorem inU_shift {i : Nat} {st : List Nat} {w : Nat} : InU (i + 1) (i :: st) w ↔ InU i st w := by
  unfold InU
  rw [List.mem_cons]
  constructor
  · rintro ((e | e) | e)
    · exact .inr (by omega)
    · exact .inl e
    · exact .inr (by omega)
  · rintro (e | e)
    · exact .inl (.inr e)
    · by_cases q : w = i
      · exact .inl (.inl q)
      · exact .inr (by omega)

theorem leafU_shift {H : List Int} {i : Nat} {st : List Nat} {w : Nat} : LeafU H (i + 1) (i :: st) w ↔ LeafU H i st w := by
  unfold LeafU
  simp only [inU_shift]

theorem OInv.shift {H : List Int} {i : Nat} {st : List Nat} {h : List Int} (O : OInv H i st h) (hi : i ≤ H.length) (z : hd h i = 0)
    (b : ∀ y x q, st = y :: x :: q → Stuck H i st y x) : OInv H (i + 1) (i :: st) h where
  base := O.base.shift hi z
  agree := fun w h1 h2 h3 => by
    have : w ≠ i := fun e => h3 (by rw [e]; exact List.mem_cons_self ..)
    exact O.agree w h1 (by omega) (fun x => h3 (List.mem_cons_of_mem _ x))
  clos := fun w h1 h2 h3 h4 => inU_shift.mpr (O.clos w h1 h2 (inU_shift.mp h3) h4)
  block := fun p y x q e hp => by
    have s : Stuck H i st y x := by
      cases p with
      | nil => exact absurd rfl hp
      | cons a p =>
        rw [List.cons_append, List.cons.injEq] at e
        cases p with
        | nil => exact b y x q e.2
        | cons a' p' => exact O.block _ y x q e.2 (by simp)
    unfold Stuck at s ⊢
    rw [leafU_shift, leafU_shift]
    exact s

theorem OInv.arc {H : List Int} {i s t : Nat} {rest : List Nat} {h : List Int} (O : OInv H i (s :: t :: rest) h) {a g : Nat} (c : (a = t ∧ g = s) ∨ (a = s ∧ g = t))
    (ha : hd H a = g) (lf : LeafU H i (s :: t :: rest) a) : OInv H i (g :: rest) (h.set (a - 1) (g : Int)) := by
  have M := O.base
  have d := M.dec
  rw [List.pairwise_cons] at d
  obtain ⟨d1, d⟩ := d
  rw [List.pairwise_cons] at d
  obtain ⟨d2, d3⟩ := d
  have lt : t < s := d1 t (List.mem_cons_self ..)
  have rs := M.rng s (List.mem_cons_self ..)
  have rt := M.rng t (List.mem_cons_of_mem _ (List.mem_cons_self ..))
  have hl := M.len
  have hi := M.hi
  have ra : 1 ≤ a ∧ a < i := by rcases c with ⟨rfl, _⟩ | ⟨rfl, _⟩ <;> omega
  have mem : ∀ x, x ∈ s :: t :: rest ↔ x = a ∨ x ∈ g :: rest := by
    intro x
    simp only [List.mem_cons]
    rcases c with ⟨rfl, rfl⟩ | ⟨rfl, rfl⟩
    · constructor
      · rintro (q | q | q)
        · exact .inr (.inl q)
        · exact .inl q
        · exact .inr (.inr q)
      · rintro (q | q | q)
        · exact .inr (.inl q)
        · exact .inl q
        · exact .inr (.inr q)
    · exact Iff.rfl
  have nin : a ∉ g :: rest := by
    intro q
    rcases List.mem_cons.mp q with q | q
    · rcases c with ⟨rfl, rfl⟩ | ⟨rfl, rfl⟩ <;> omega
    · have := d2 a q
      rcases c with ⟨rfl, rfl⟩ | ⟨rfl, rfl⟩ <;> omega
  have inU : ∀ w, InU i (g :: rest) w ↔ InU i (s :: t :: rest) w ∧ w ≠ a := by
    intro w
    unfold InU
    rw [mem w]
    constructor
    · rintro (q | q)
      · exact ⟨.inl (.inr q), fun e => nin (e ▸ q)⟩
      · exact ⟨.inr q, by omega⟩
    · rintro ⟨(q | q) | q, ne⟩
      · exact absurd q ne
      · exact .inl q
      · exact .inr q
  refine ⟨M.arc c, ?_, ?_, ?_⟩
  · intro w h1 h2 h3
    rw [hd_set ra.1 (by omega) g w h1]
    by_cases e : w = a
    · rw [if_pos e, e, ha]
    · rw [if_neg e]
      refine O.agree w h1 h2 ?_
      rw [mem]
      rintro (q | q)
      · exact e q
      · exact h3 q
  · intro w h1 h2 h3 h4
    rw [inU] at h3 ⊢
    exact ⟨O.clos w h1 h2 h3.1 h4, lf w h1 h2 h3.1⟩
  · intro p y x q e hp
    cases p with
    | nil => exact absurd rfl hp
    | cons a' p =>
      rw [List.cons_append, List.cons.injEq] at e
      have b := O.block (s :: t :: p) y x q (by rw [e.2]; rfl) (by simp)
      have up : ∀ z, z ∈ rest → LeafU H i (g :: rest) z → LeafU H i (s :: t :: rest) z := by
        intro z hz l c1 c2 c3 c4
        by_cases ea : c1 = a
        · rw [ea, ha]
          intro eg
          have := d2 z hz
          rcases c with ⟨rfl, rfl⟩ | ⟨rfl, rfl⟩ <;> omega
        · exact l c1 c2 c3 ((inU c1).mpr ⟨c4, ea⟩)
      refine ⟨fun k => b.1 ⟨k.1, up x (by rw [e.2]; simp) k.2⟩, fun k => b.2 ⟨k.1, up y (by rw [e.2]; simp) k.2⟩⟩

/-! There is always a move -/

theorem max_dep (H : List Int) : ∀ (st : List Nat), st ≠ [] → ∃ x ∈ st, ∀ y ∈ st, dep H y ≤ dep H x
  | [], h => absurd rfl h
  | [a], _ => ⟨a, List.mem_cons_self .., fun y hy => by rw [List.mem_singleton.mp hy]; exact Nat.le_refl _⟩
  | a :: b :: l, _ => by
    obtain ⟨x, hx, m⟩ := max_dep H (b :: l) (by simp)
    by_cases c : dep H a ≤ dep H x
    · refine ⟨x, List.mem_cons_of_mem _ hx, ?_⟩
      intro y hy
      rcases List.mem_cons.mp hy with e | e
      · rw [e]
        exact c
      · exact m y e
    · refine ⟨a, List.mem_cons_self .., ?_⟩
      intro y hy
      rcases List.mem_cons.mp hy with e | e
      · rw [e]
        exact Nat.le_refl _
      · have := m y e
        omega

theorem next_below {st : List Nat} (d : st.Pairwise (· > ·)) {g x : Nat} (hg : g ∈ st) (hx : x ∈ st) (lt : x < g) : ∃ p c q, st = p ++ g :: c :: q ∧ x ≤ c ∧ c < g := by
  obtain ⟨p, r, rfl⟩ := List.append_of_mem hg
  rw [List.pairwise_append] at d
  obtain ⟨_, d2, d3⟩ := d
  rcases List.mem_append.mp hx with e | e
  · have := d3 x e g (List.mem_cons_self ..)
    omega
  · rcases List.mem_cons.mp e with e | e
    · omega
    · cases r with
      | nil => cases e
      | cons c q =>
        rw [List.pairwise_cons, List.pairwise_cons] at d2
        refine ⟨p, c, q, rfl, ?_, d2.1 c (List.mem_cons_self ..)⟩
        rcases List.mem_cons.mp e with e | e
        · omega
        · have := d2.2.1 x e
          omega

theorem next_above {st : List Nat} (d : st.Pairwise (· > ·)) {g x : Nat} (hg : g ∈ st) (hx : x ∈ st) (lt : g < x) : ∃ p c q, st = p ++ c :: g :: q ∧ c ≤ x ∧ g < c := by
  obtain ⟨p, r, rfl⟩ := List.append_of_mem hg
  rw [List.pairwise_append] at d
  obtain ⟨d1, d2, d3⟩ := d
  have hp : x ∈ p := by
    rcases List.mem_append.mp hx with e | e
    · exact e
    · rcases List.mem_cons.mp e with e | e
      · omega
      · rw [List.pairwise_cons] at d2
        have := d2.1 x e
        omega
  rcases List.eq_nil_or_concat p with e | ⟨p', c, e⟩
  · rw [e] at hp
    cases hp
  · rw [List.concat_eq_append] at e
    subst e
    refine ⟨p', c, r, by simp, ?_, d3 c (by simp) g (List.mem_cons_self ..)⟩
    rcases List.mem_append.mp hp with e | e
    · rw [List.pairwise_append] at d1
      have := d1.2.2 x e c (List.mem_singleton.mpr rfl)
      omega
    · rw [List.mem_singleton] at e
      omega

theorem OInv.move {H : List Int} (T : Tree H) (F : FlatP H) {s t : Nat} {rest : List Nat} {h : List Int} (O : OInv H (H.length + 1) (s :: t :: rest) h) :
    (hd H t = s ∧ LeafU H (H.length + 1) (s :: t :: rest) t) ∨ (hd H s = t ∧ LeafU H (H.length + 1) (s :: t :: rest) s) := by
  have B := (flat_below T).mp F
  have M := O.base
  have ms : s ∈ s :: t :: rest := List.mem_cons_self ..
  have mt : t ∈ s :: t :: rest := List.mem_cons_of_mem _ (List.mem_cons_self ..)
  have rg : ∀ w, w ∈ s :: t :: rest → 1 ≤ w ∧ w ≤ H.length := fun w hw => by
    have := M.rng w hw
    omega
  have inst : ∀ w, w ≤ H.length → InU (H.length + 1) (s :: t :: rest) w → w ∈ s :: t :: rest := by
    intro w hw u
    rcases u with u | u
    · exact u
    · omega
  obtain ⟨x, hx, mx⟩ := max_dep H (s :: t :: rest) (by simp)
  have rx := rg x hx
  have lt : t < s := by
    have := M.dec
    rw [List.pairwise_cons] at this
    exact this.1 t (List.mem_cons_self ..)
  have x0 : hd H x ≠ 0 := by
    intro z
    have zx := (T.dep_zero rx.1 rx.2).mpr ((T.hd_zero rx.1 rx.2).mp z)
    have a1 := mx s ms
    have a2 := mx t mt
    have e1 := (T.dep_zero (rg s ms).1 (rg s ms).2).mp (by omega)
    have e2 := (T.dep_zero (rg t mt).1 (rg t mt).2).mp (by omega)
    omega
  have hgl := T.hd_le rx.1 rx.2
  have mg : hd H x ∈ s :: t :: rest := inst _ hgl (O.clos x rx.1 rx.2 (.inl hx) x0)
  have dx := T.dep_step rx.1 rx.2 x0
  have leaf : ∀ c, c ∈ s :: t :: rest → hd H c = hd H x → LeafU H (H.length + 1) (s :: t :: rest) c := by
    intro c hc e y y1 y2 y3 y4
    have my := inst y y2 y3
    have rc := rg c hc
    have d1 := T.dep_step rc.1 rc.2 (by rw [e]; exact x0)
    have d2 := T.dep_step y1 y2 (by omega)
    have := mx y my
    rw [e] at d1
    rw [y4] at d2
    omega
  have child : ∀ c, c ∈ s :: t :: rest → c ≠ hd H x → (c = x ∨ Betw x (hd H x) c) → hd H c = hd H x := by
    intro c hc ne q
    rcases q with q | q
    · rw [q]
    · have u := B x c rx.1 rx.2 x0 q
      have rc := rg c hc
      rcases (T.und_iff rc.1 rc.2).mp u with e | ⟨c0, u'⟩
      · exact absurd e ne
      · have d1 := T.dep_step rc.1 rc.2 c0
        have d2 := T.und_dep u'
        have := mx c hc
        exact d2.2 (by omega)
  have ne : x ≠ hd H x := by
    intro e
    rw [← e] at dx
    omega
  by_cases c : x < hd H x
  · obtain ⟨p, y, q, e, y1, y2⟩ := next_below M.dec mg hx c
    have my : y ∈ s :: t :: rest := by
      rw [e]
      simp
    have hy := child y my (by omega) (by
      by_cases z : y = x
      · exact .inl z
      · exact .inr (.inl ⟨by omega, y2⟩))
    by_cases hp : p = []
    · subst hp
      rw [List.nil_append, List.cons.injEq, List.cons.injEq] at e
      left
      rw [e.1, e.2.1]
      refine ⟨hy, ?_⟩
      have := leaf y my hy
      rw [e.1, e.2.1] at this
      exact this
    · exact absurd ⟨hy, leaf y my hy⟩ (O.block p _ _ q e hp).1
  · obtain ⟨p, y, q, e, y1, y2⟩ := next_above M.dec mg hx (by omega)
    have my : y ∈ s :: t :: rest := by
      rw [e]
      simp
    have hy := child y my (by omega) (by
      by_cases z : y = x
      · exact .inl z
      · exact .inr (.inr ⟨y2, by omega⟩))
    by_cases hp : p = []
    · subst hp
      rw [List.nil_append, List.cons.injEq, List.cons.injEq] at e
      right
      rw [e.1, e.2.1]
      refine ⟨hy, ?_⟩
      have := leaf y my hy
      rw [e.1, e.2.1] at this
      exact this
    · exact absurd ⟨hy, leaf y my hy⟩ (O.block p _ _ q e hp).2

end Go.Rv
