/-
  A search in depth with a list and marks, over a finite graph without circles: no node that is under way is met again; a number that every step lowers.
-/
import Derived.Test.YtcdckjmnnpppkaaPmap
namespace Go.Proofs.Ytcdckjmnnpppkaa

/-- A finite graph in which every edge goes down. -/
structure Gr where
  univ : List Addr
  kid : Addr → List Addr
  sz : Addr → Nat
  closed : ∀ a ∈ univ, ∀ x ∈ kid a, x ∈ univ ∧ sz x < sz a

structure DInv (G : Gr) (st : List Addr) (es : Ents) : Prop where
  stack : ∀ a ∈ st, a ∈ G.univ
  marks : ∀ a, (look es a).isSome = true → a ∈ G.univ
  under : ∀ a, look es a = some false → ∃ i : Nat, st[i]? = some a ∧ ∀ (j : Nat) (x : Addr), i < j → st[j]? = some x → G.sz x < G.sz a

/-- While the kids of x are gone through. -/
structure DInv2 (G : Gr) (st : List Addr) (es : Ents) (x : Addr) : Prop extends DInv G st es where
  top : ∀ a, look es a = some false → G.sz x ≤ G.sz a

variable {G : Gr} {st : List Addr} {es : Ents} {x : Addr}

theorem DInv.pop (h : DInv G (st ++ [x]) es) (hx : look es x ≠ none) : DInv G st (put es x true) where
  stack a ha := h.stack a (List.mem_append_left _ ha)
  marks a ha := by
    by_cases e : a = x
    · subst e; exact h.stack a (by simp)
    · rw [look_put_other _ _ _ _ e] at ha; exact h.marks a ha
  under a ha := by
    have e : a ≠ x := by rintro rfl; rw [look_put_same] at ha; simp at ha
    rw [look_put_other _ _ _ _ e] at ha
    obtain ⟨i, hi, hj⟩ := h.under a ha
    have hil : i < st.length := by
      have h1 := (List.getElem?_eq_some_iff.1 hi).1
      simp at h1
      by_cases h2 : i = st.length
      · subst h2; simp at hi; exact absurd hi.symm e
      · omega
    refine ⟨i, by rw [List.getElem?_append_left hil] at hi; exact hi, fun j y h1 h2 => hj j y h1 ?_⟩
    have hjl := (List.getElem?_eq_some_iff.1 h2).1
    rw [List.getElem?_append_left hjl]
    exact h2

theorem DInv.expand (h : DInv G (st ++ [x]) es) (hx : look es x = none) : DInv2 G (st ++ [x]) (put es x false) x ∧ ∀ y ∈ G.kid x, look (put es x false) y ≠ some false := by
  have hxu : x ∈ G.univ := h.stack x (by simp)
  have above : ∀ a, look es a = some false → G.sz x < G.sz a ∧ a ≠ x := by
    intro a ha
    have e : a ≠ x := by rintro rfl; rw [hx] at ha; simp at ha
    obtain ⟨i, hi, hj⟩ := h.under a ha
    have h1 := (List.getElem?_eq_some_iff.1 hi).1
    simp at h1
    have hil : i < st.length := by
      by_cases h2 : i = st.length
      · subst h2; simp at hi; exact absurd hi.symm e
      · omega
    exact ⟨hj st.length x hil (by simp), e⟩
  refine ⟨⟨⟨h.stack, ?_, ?_⟩, ?_⟩, ?_⟩
  · intro a ha
    by_cases e : a = x
    · subst e; exact hxu
    · rw [look_put_other _ _ _ _ e] at ha; exact h.marks a ha
  · intro a ha
    by_cases e : a = x
    · subst e
      exact ⟨st.length, by simp, fun j y h1 h2 => by have := (List.getElem?_eq_some_iff.1 h2).1; simp at this; omega⟩
    · rw [look_put_other _ _ _ _ e] at ha; exact h.under a ha
  · intro a ha
    by_cases e : a = x
    · subst e; exact Nat.le_refl _
    · rw [look_put_other _ _ _ _ e] at ha; exact Nat.le_of_lt (above a ha).1
  · intro y hy ha
    have hlt := (G.closed x hxu y hy).2
    by_cases e : y = x
    · subst e; omega
    · rw [look_put_other _ _ _ _ e] at ha
      have := (above y ha).1
      omega

theorem DInv2.push {y : Addr} (h : DInv2 G st es x) (hx : x ∈ G.univ) (hy : y ∈ G.kid x) : DInv2 G (st ++ [y]) es x where
  stack a ha := by
    rcases List.mem_append.1 ha with h1 | h1
    · exact h.stack a h1
    · rw [List.mem_singleton.1 h1]; exact (G.closed x hx y hy).1
  marks := h.marks
  under a ha := by
    obtain ⟨i, hi, hj⟩ := h.under a ha
    have hil := (List.getElem?_eq_some_iff.1 hi).1
    refine ⟨i, by rw [List.getElem?_append_left hil]; exact hi, fun j z h1 h2 => ?_⟩
    by_cases hjl : j < st.length
    · rw [List.getElem?_append_left hjl] at h2; exact hj j z h1 h2
    · have h3 := (List.getElem?_eq_some_iff.1 h2).1
      simp at h3
      have h4 : j = st.length := by omega
      subst h4
      simp at h2
      subst h2
      have := h.top a ha
      have := (G.closed x hx y hy).2
      omega
  top := h.top

/-- What is left to do. -/
def todo (G : Gr) (es : Ents) : List Addr → Nat
  | [] => 0
  | a :: r => (if (look es a).isSome then 0 else (G.kid a).length + 1) + todo G es r
def pot (G : Gr) (st : List Addr) (es : Ents) : Nat := st.length + todo G es G.univ

theorem todo_put_le (b : Bool) : ∀ us : List Addr, todo G (put es x b) us ≤ todo G es us
  | [] => Nat.le_refl _
  | a :: r => by
    have := todo_put_le (b := b) r
    simp only [todo]
    by_cases e : a = x
    · subst e; rw [look_put_same]; simp; omega
    · rw [look_put_other _ _ _ _ e]; omega
theorem todo_put_lt (hx : look es x = none) (b : Bool) : ∀ us : List Addr, x ∈ us → todo G (put es x b) us + (G.kid x).length + 1 ≤ todo G es us
  | a :: r, h => by
    simp only [todo]
    by_cases e : a = x
    · subst e
      have := todo_put_le (G := G) (es := es) (x := a) (b := b) r
      rw [look_put_same, hx]
      simp
      omega
    · have hr : x ∈ r := by
        rcases List.mem_cons.1 h with h1 | h1
        · exact absurd h1.symm e
        · exact h1
      have := todo_put_lt hx b r hr
      rw [look_put_other _ _ _ _ e]
      omega

theorem pot_pop : pot G st (put es x true) + 1 ≤ pot G (st ++ [x]) es := by
  have := todo_put_le (G := G) (es := es) (x := x) (b := true) G.univ
  simp [pot]
  omega
theorem pot_expand (h : DInv G (st ++ [x]) es) (hx : look es x = none) : pot G (st ++ [x]) (put es x false) + (G.kid x).length + 1 ≤ pot G (st ++ [x]) es := by
  have := todo_put_lt (G := G) hx false G.univ (h.stack x (by simp))
  simp [pot]
  omega
end Go.Proofs.Ytcdckjmnnpppkaa
