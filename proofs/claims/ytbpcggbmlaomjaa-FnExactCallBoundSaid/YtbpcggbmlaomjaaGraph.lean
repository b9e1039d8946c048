/-
  A search in depth with a list and marks, over a finite graph without circles: no node that is under way is met again; a number that every step lowers.
  The nodes of an expression in memory are a finite graph in which every edge goes down.
-/
import Derived.Test.YtbpcggbmlaomjaaPmap
import Derived.Test.YtbpcggbmlaomjaaFo
namespace Go.Proofs.Ytbpcggbmlaomjaa

/-- A finite graph in which every edge goes down. -/
structure Gr where
  univ : List Addr
  kid : Addr → List Addr
  sz : Addr → Nat
  closed : ∀ a ∈ univ, ∀ x ∈ kid a, x ∈ univ ∧ sz x < sz a

structure DInv (G : Gr) (st : List Addr) (es : Ents) : Prop where
  stack : ∀ a ∈ st, a ∈ G.univ
  marks : ∀ a, (look es a).isSome = true → a ∈ G.univ
  under : ∀ a, look es a = some false → ∃ i : Nat, st[i]? = some a ∧ ∀ (j : Nat) (x : Addr), i < j → st[j]? = some x → G.sz x < G.sz a

/-- While the kids of x are gone through. -/
structure DInv2 (G : Gr) (st : List Addr) (es : Ents) (x : Addr) : Prop extends DInv G st es where
  top : ∀ a, look es a = some false → G.sz x ≤ G.sz a

variable {G : Gr} {st : List Addr} {es : Ents} {x : Addr}

theorem DInv.pop (h : DInv G (st ++ [x]) es) (hx : look es x ≠ none) : DInv G st (put es x true) where
  stack a ha := h.stack a (List.mem_append_left _ ha)
  marks a ha := by
    by_cases e : a = x
    · subst e; exact h.stack a (by simp)
    · rw [look_put_other _ _ _ _ e] at ha; exact h.marks a ha
  under a ha := by
    have e : a ≠ x := by rintro rfl; rw [look_put_same] at ha; simp at ha
    rw [look_put_other _ _ _ _ e] at ha
    obtain ⟨i, hi, hj⟩ := h.under a ha
    have hil : i < st.length := by
      have h1 := (List.getElem?_eq_some_iff.1 hi).1
      simp at h1
      by_cases h2 : i = st.length
      · subst h2; simp at hi; exact absurd hi.symm e
      · omega
    refine ⟨i, by rw [List.getElem?_append_left hil] at hi; exact hi, fun j y h1 h2 => hj j y h1 ?_⟩
    have hjl := (List.getElem?_eq_some_iff.1 h2).1
    rw [List.getElem?_append_left hjl]
    exact h2

theorem DInv.expand (h : DInv G (st ++ [x]) es) (hx : look es x = none) : DInv2 G (st ++ [x]) (put es x false) x ∧ ∀ y ∈ G.kid x, look (put es x false) y ≠ some false := by
  have hxu : x ∈ G.univ := h.stack x (by simp)
  have above : ∀ a, look es a = some false → G.sz x < G.sz a ∧ a ≠ x := by
    intro a ha
    have e : a ≠ x := by rintro rfl; rw [hx] at ha; simp at ha
    obtain ⟨i, hi, hj⟩ := h.under a ha
    have h1 := (List.getElem?_eq_some_iff.1 hi).1
    simp at h1
    have hil : i < st.length := by
      by_cases h2 : i = st.length
      · subst h2; simp at hi; exact absurd hi.symm e
      · omega
    exact ⟨hj st.length x hil (by simp), e⟩
  refine ⟨⟨⟨h.stack, ?_, ?_⟩, ?_⟩, ?_⟩
  · intro a ha
    by_cases e : a = x
    · subst e; exact hxu
    · rw [look_put_other _ _ _ _ e] at ha; exact h.marks a ha
  · intro a ha
    by_cases e : a = x
    · subst e
      exact ⟨st.length, by simp, fun j y h1 h2 => by have := (List.getElem?_eq_some_iff.1 h2).1; simp at this; omega⟩
    · rw [look_put_other _ _ _ _ e] at ha; exact h.under a ha
  · intro a ha
    by_cases e : a = x
    · subst e; exact Nat.le_refl _
    · rw [look_put_other _ _ _ _ e] at ha; exact Nat.le_of_lt (above a ha).1
  · intro y hy ha
    have hlt := (G.closed x hxu y hy).2
    by_cases e : y = x
    · subst e; omega
    · rw [look_put_other _ _ _ _ e] at ha
      have := (above y ha).1
      omega

theorem DInv2.push {y : Addr} (h : DInv2 G st es x) (hx : x ∈ G.univ) (hy : y ∈ G.kid x) : DInv2 G (st ++ [y]) es x where
  stack a ha := by
    rcases List.mem_append.1 ha with h1 | h1
    · exact h.stack a h1
    · rw [List.mem_singleton.1 h1]; exact (G.closed x hx y hy).1
  marks := h.marks
  under a ha := by
    obtain ⟨i, hi, hj⟩ := h.under a ha
    have hil := (List.getElem?_eq_some_iff.1 hi).1
    refine ⟨i, by rw [List.getElem?_append_left hil]; exact hi, fun j z h1 h2 => ?_⟩
    by_cases hjl : j < st.length
    · rw [List.getElem?_append_left hjl] at h2; exact hj j z h1 h2
    · have h3 := (List.getElem?_eq_some_iff.1 h2).1
      simp at h3
      have h4 : j = st.length := by omega
      subst h4
      simp at h2
      subst h2
      have := h.top a ha
      have := (G.closed x hx y hy).2
      omega
  top := h.top

/-- What is left to do. -/
def todo (G : Gr) (es : Ents) : List Addr → Nat
  | [] => 0
  | a :: r => (if (look es a).isSome then 0 else (G.kid a).length + 1) + todo G es r
def pot (G : Gr) (st : List Addr) (es : Ents) : Nat := st.length + todo G es G.univ

theorem todo_put_le (b : Bool) : ∀ us : List Addr, todo G (put es x b) us ≤ todo G es us
  | [] => Nat.le_refl _
  | a :: r => by
    have := todo_put_le (b := b) r
    simp only [todo]
    by_cases e : a = x
    · subst e; rw [look_put_same]; simp; omega
    · rw [look_put_other _ _ _ _ e]; omega
theorem todo_put_lt (hx : look es x = none) (b : Bool) : ∀ us : List Addr, x ∈ us → todo G (put es x b) us + (G.kid x).length + 1 ≤ todo G es us
  | a :: r, h => by
    simp only [todo]
    by_cases e : a = x
    · subst e
      have := todo_put_le (G := G) (es := es) (x := a) (b := b) r
      rw [look_put_same, hx]
      simp
      omega
    · have hr : x ∈ r := by
        rcases List.mem_cons.1 h with h1 | h1
        · exact absurd h1.symm e
        · exact h1
      have := todo_put_lt hx b r hr
      rw [look_put_other _ _ _ _ e]
      omega

theorem pot_pop : pot G st (put es x true) + 1 ≤ pot G (st ++ [x]) es := by
  have := todo_put_le (G := G) (es := es) (x := x) (b := true) G.univ
  simp [pot]
  omega
theorem pot_expand (h : DInv G (st ++ [x]) es) (hx : look es x = none) : pot G (st ++ [x]) (put es x false) + (G.kid x).length + 1 ≤ pot G (st ++ [x]) es := by
  have := todo_put_lt (G := G) hx false G.univ (h.stack x (by simp))
  simp [pot]
  omega
end Go.Proofs.Ytbpcggbmlaomjaa

namespace Go.Proofs.Ytbpcggbmlaomjaa
open Go.RowKit
set_option maxRecDepth 100000

/-- What lies at a slice is one list of nodes. -/
theorem Lies.uniq {w : World} {L B : Nat} : ∀ {f f' : Fo} {A : Option Addr} {i : Nat}, Lies w L B A i f → Lies w L B A i f' → f.len = f'.len → f = f'
  | .nil, .nil, _, _, _, _, _ => rfl
  | .nil, .cons _ _ _ _, _, _, _, _, h => by simp [Fo.len] at h
  | .cons _ _ _ _, .nil, _, _, _, _, h => by simp [Fo.len] at h
  | .cons op n k r, .cons op' n' k' r', A, i, ⟨⟨b, o, A1, c1, hA, _, _, _, _, g0, g1, g2, _, _, hk⟩, hr⟩, ⟨⟨b', o', A2, c2, hA', _, _, _, _, g0', g1', g2', _, _, hk'⟩, hr'⟩, h => by
    rw [hA] at hA'
    cases hA'
    rw [g0] at g0'; rw [g1] at g1'; rw [g2] at g2'
    cases g0'; cases g1'
    simp only [Option.some.injEq, Value.slice.injEq] at g2'
    obtain ⟨rfl, h2, rfl⟩ := g2'
    have e1 := hk.uniq hk' h2
    have e2 := hr.uniq hr' (by simpa [Fo.len] using h)
    rw [e1, e2]

/-- The node with the Kids k is at the address a. -/
def NodeAt (w : World) (L B : Nat) (a : Addr) (k : Fo) : Prop :=
  ∃ op n A c, a.spot = none ∧ w.cell? ⟨a.block, a.off, none⟩ = some (.int .i64 op) ∧ w.cell? ⟨a.block, a.off + 1, none⟩ = some (.int .i64 n) ∧ w.cell? ⟨a.block, a.off + 2, none⟩ = some (.slice A k.len c) ∧ k.len ≤ c ∧ c ≤ maxLen ∧ Lies w L B A 0 k
theorem NodeAt.uniq {w : World} {L B : Nat} {a : Addr} {k k' : Fo} (h : NodeAt w L B a k) (h' : NodeAt w L B a k') : k = k' := by
  obtain ⟨_, _, A, c, _, _, _, g2, _, _, hk⟩ := h
  obtain ⟨_, _, A', c', _, _, _, g2', _, _, hk'⟩ := h'
  rw [g2] at g2'
  simp only [Option.some.injEq, Value.slice.injEq] at g2'
  obtain ⟨rfl, h2, rfl⟩ := g2'
  exact hk.uniq hk' h2

/-- The addresses of n nodes of a slice. -/
def addrRow : Option Addr → Nat → List Addr
  | some a, n => (List.range n).map fun i => ⟨a.block, a.off + i * 3, none⟩
  | none, _ => []
/-- The slice of Kids of the node at an address. -/
def kidSlice (w : World) (a : Addr) : Option Addr × Nat :=
  match w.cell? ⟨a.block, a.off + 2, none⟩ with
  | some (.slice A n _) => (A, n)
  | _ => (none, 0)
def kidsAt (w : World) (a : Addr) : List Addr := addrRow (kidSlice w a).1 (kidSlice w a).2
theorem length_kidsAt_le (A : Option Addr) (n : Nat) : (addrRow A n).length ≤ n := by cases A <;> simp [addrRow]

/-- The addresses of all nodes of a list of nodes. -/
def addrs (w : World) : Option Addr → Nat → Fo → List Addr
  | _, _, .nil => []
  | none, _, .cons _ _ _ _ => []
  | some a, i, .cons _ _ k r => ⟨a.block, a.off + i * 3, none⟩ :: (addrs w (kidSlice w ⟨a.block, a.off + i * 3, none⟩).1 0 k ++ addrs w (some a) (i + 1) r)

theorem mem_addrs {w : World} {a : Addr} : ∀ {f : Fo} {i j : Nat}, j < f.len → (⟨a.block, a.off + (i + j) * 3, none⟩ : Addr) ∈ addrs w (some a) i f
  | .nil, _, _, h => by simp [Fo.len] at h
  | .cons _ _ k r, i, 0, _ => by simp [addrs]
  | .cons _ _ k r, i, j + 1, h => by
    have := mem_addrs (w := w) (a := a) (f := r) (i := i + 1) (j := j) (by simp only [Fo.len] at h; omega)
    have e : i + 1 + j = i + (j + 1) := by omega
    rw [e] at this
    simp only [addrs, List.mem_cons, List.mem_append]
    exact .inr (.inr this)

theorem addrRow_sub {w : World} {L B : Nat} {A : Option Addr} {k : Fo} (h : Lies w L B A 0 k) : ∀ y ∈ addrRow A k.len, y ∈ addrs w A 0 k := by
  intro y hy
  cases A with
  | none => simp [addrRow] at hy
  | some a =>
    simp only [addrRow, List.mem_map, List.mem_range] at hy
    obtain ⟨i, hi, rfl⟩ := hy
    have := mem_addrs (w := w) (a := a) (f := k) (i := 0) hi
    simpa using this

theorem kidSlice_of {w : World} {a : Addr} {A : Option Addr} {n c : Nat} (h : w.cell? ⟨a.block, a.off + 2, none⟩ = some (.slice A n c)) : kidSlice w a = (A, n) := by simp [kidSlice, h]

/-- Each address is that of a node, in the bounds, whose Kids are among them. -/
theorem addrs_node {w : World} {L B : Nat} : ∀ {f : Fo} {A : Option Addr} {i : Nat}, Lies w L B A i f → ∀ x ∈ addrs w A i f, (∃ k, NodeAt w L B x k ∧ k.size < f.size) ∧ L ≤ x.block ∧ x.block < B ∧ ∀ y ∈ kidsAt w x, y ∈ addrs w A i f
  | .nil, _, _, _, x, hx => by simp [addrs] at hx
  | .cons op n k r, A, i, ⟨⟨b, o, A1, c1, hA, hL, hB, _, _, g0, g1, g2, hk1, hk2, hk⟩, hr⟩, x, hx => by
    subst hA
    have hks : kidSlice w ⟨b, o + i * 3, none⟩ = (A1, k.len) := kidSlice_of g2
    simp only [addrs, hks, List.mem_cons, List.mem_append] at hx ⊢
    rcases hx with rfl | hx | hx
    · refine ⟨⟨k, ⟨op, n, A1, c1, rfl, g0, g1, g2, hk1, hk2, hk⟩, by simp only [Fo.size]; omega⟩, hL, hB, fun y hy => .inr (.inl ?_)⟩
      unfold kidsAt at hy
      rw [hks] at hy
      exact addrRow_sub hk y hy
    · obtain ⟨⟨k', h1, h2⟩, h3, h4, h5⟩ := addrs_node hk x hx
      exact ⟨⟨k', h1, by simp only [Fo.size]; omega⟩, h3, h4, fun y hy => .inr (.inl (h5 y hy))⟩
    · obtain ⟨⟨k', h1, h2⟩, h3, h4, h5⟩ := addrs_node hr x hx
      exact ⟨⟨k', h1, by simp only [Fo.size]; omega⟩, h3, h4, fun y hy => .inr (.inr (h5 y hy))⟩

/-- The sum that bounds a search. -/
def weight (w : World) : List Addr → Nat
  | [] => 0
  | a :: r => (kidsAt w a).length + 1 + weight w r
theorem weight_append (w : World) : ∀ a b : List Addr, weight w (a ++ b) = weight w a + weight w b
  | [], _ => by simp [weight]
  | _ :: r, b => by simp only [List.cons_append, weight, weight_append w r b]; omega
theorem addrs_weight {w : World} {L B : Nat} : ∀ {f : Fo} {A : Option Addr} {i : Nat}, Lies w L B A i f → weight w (addrs w A i f) + f.len ≤ 2 * f.size
  | .nil, _, _, _ => by simp [addrs, weight, Fo.len, Fo.size]
  | .cons op n k r, A, i, ⟨⟨b, o, A1, c1, hA, hL, hB, _, _, g0, g1, g2, hk1, hk2, hk⟩, hr⟩ => by
    subst hA
    have hks : kidSlice w ⟨b, o + i * 3, none⟩ = (A1, k.len) := kidSlice_of g2
    have h1 := addrs_weight hk
    have h2 := addrs_weight hr
    have h3 : (kidsAt w ⟨b, o + i * 3, none⟩).length ≤ k.len := by unfold kidsAt; rw [hks]; exact length_kidsAt_le _ _
    simp only [addrs, hks, weight, weight_append, Fo.len, Fo.size]
    omega

/-- The size of the node at an address. -/
noncomputable def szAt (w : World) (L B : Nat) (a : Addr) : Nat := (@Classical.epsilon Fo ⟨.nil⟩ fun k => NodeAt w L B a k).size
theorem szAt_of {w : World} {L B : Nat} {a : Addr} {k : Fo} (h : NodeAt w L B a k) : szAt w L B a = k.size := by
  have h1 : NodeAt w L B a (@Classical.epsilon Fo ⟨.nil⟩ fun k => NodeAt w L B a k) := @Classical.epsilon_spec Fo (fun k => NodeAt w L B a k) ⟨k, h⟩
  unfold szAt
  rw [h1.uniq h]

theorem kid_size {w : World} {L B : Nat} {a : Addr} {k : Fo} (h : NodeAt w L B a k) : ∀ y ∈ kidsAt w a, (∃ k', NodeAt w L B y k' ∧ k'.size < k.size) := by
  obtain ⟨_, _, A, c, _, _, _, g2, _, _, hk⟩ := h
  intro y hy
  unfold kidsAt at hy
  rw [kidSlice_of g2] at hy
  obtain ⟨h1, _⟩ := addrs_node hk y (addrRow_sub hk y hy)
  exact h1

/-- The graph of an expression whose root is at the address p. -/
noncomputable def exprGr (w : World) (L B : Nat) (p : Addr) (A : Option Addr) (k : Fo) (hp : NodeAt w L B p k) (hA : kidSlice w p = (A, k.len)) (hk : Lies w L B A 0 k) : Gr where
  univ := p :: addrs w A 0 k
  kid := kidsAt w
  sz := szAt w L B
  closed := by
    intro a ha x hx
    have key : ∀ k', NodeAt w L B a k' → szAt w L B x < szAt w L B a := by
      intro k' hk'
      obtain ⟨k2, h2, h3⟩ := kid_size hk' x hx
      rw [szAt_of hk', szAt_of h2]
      exact h3
    rcases List.mem_cons.1 ha with rfl | ha
    · refine ⟨List.mem_cons_of_mem _ ?_, key k hp⟩
      unfold kidsAt at hx
      rw [hA] at hx
      exact addrRow_sub hk x hx
    · obtain ⟨⟨k', h1, _⟩, _, _, h5⟩ := addrs_node hk a ha
      exact ⟨List.mem_cons_of_mem _ (h5 x hx), key k' h1⟩

theorem todo_weight (G : Gr) (w : World) (hG : G.kid = kidsAt w) : ∀ us : List Addr, todo G [] us = weight w us
  | [] => rfl
  | a :: r => by simp [todo, weight, look, hG, todo_weight G w hG r]
end Go.Proofs.Ytbpcggbmlaomjaa
