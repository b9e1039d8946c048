/-
  The order in which a stack of nodes is gone through, as plain data.
-/
import Derived.Laws.AppendOwn
import Derived.Test.YtbpcggbmlaomjaaBits
import Derived.Test.YtbpcggbmlaomjaaRange
namespace Go.Proofs.Ytbpcggbmlaomjaa
open Go.RowKit
set_option maxRecDepth 100000

/-- A node as data. -/
structure Nd where
  op : Int
  n : Int
  k : Fo
/-- A node with the place of its Kids. -/
structure Nx where
  op : Int
  n : Int
  k : Fo
  A : Option Addr
  c : Nat
def Nx.nd (x : Nx) : Nd := ⟨x.op, x.n, x.k⟩
def Nx.val (x : Nx) : Value := .agg #[.int .i64 x.op, .int .i64 x.n, .slice x.A x.k.len x.c]
def Nx.cells (x : Nx) : List Value := [.int .i64 x.op, .int .i64 x.n, .slice x.A x.k.len x.c]
def Nx.ok (w : World) (L B : Nat) (x : Nx) : Prop := Lies w L B x.A 0 x.k ∧ x.k.len ≤ x.c ∧ x.c ≤ maxLen

/-- The kids of p from the i-th on, the last first, each with all below it; hidden ones are passed over. -/
def ordF (h : Nd → Nat → Bool) (p : Nd) : Nat → Fo → List Nd
  | _, .nil => []
  | i, .cons op n k r => ordF h p (i + 1) r ++ (if h p i = true then [] else ⟨op, n, k⟩ :: ordF h ⟨op, n, k⟩ 0 k)
def ordN (h : Nd → Nat → Bool) (p : Nd) : List Nd := p :: ordF h p 0 p.k
def ordS (h : Nd → Nat → Bool) : List Nd → List Nd
  | [] => []
  | x :: s => ordS h s ++ ordN h x
theorem ordS_append (h : Nd → Nat → Bool) : ∀ (a b : List Nd), ordS h (a ++ b) = ordS h b ++ ordS h a
  | [], b => by simp [ordS]
  | x :: s, b => by simp [ordS, ordS_append h s b]
theorem ordS_last (h : Nd → Nat → Bool) (a : List Nd) (x : Nd) : ordS h (a ++ [x]) = x :: (ordF h x 0 x.k ++ ordS h a) := by
  rw [ordS_append]; simp [ordS, ordN]
theorem length_le_ordS (h : Nd → Nat → Bool) : ∀ (s : List Nd), s.length ≤ (ordS h s).length
  | [] => Nat.le_refl _
  | x :: s => by have := length_le_ordS h s; simp [ordS, ordN]; omega
theorem ordF_len (h : Nd → Nat → Bool) : ∀ (p : Nd) (i : Nat) (k : Fo), (ordF h p i k).length ≤ k.size
  | _, _, .nil => Nat.le_refl _
  | p, i, .cons op n k r => by
    have h1 := ordF_len h p (i + 1) r
    have h2 := ordF_len h ⟨op, n, k⟩ 0 k
    simp only [ordF, Fo.size, List.length_append]
    split
    · simp; omega
    · simp; omega
theorem ordN_len (h : Nd → Nat → Bool) (p : Nd) : (ordN h p).length ≤ 1 + p.k.size := by
  have := ordF_len h p 0 p.k
  simp [ordN]; omega
theorem ordF_show {h : Nd → Nat → Bool} {p : Nd} {i : Nat} {f : Fo} {op n : Int} {k : Fo} {s : List Nd} (e : f.drop i = .cons op n k (f.drop (i + 1))) (hh : h p i = false) :
    ordF h p (i + 1) (f.drop (i + 1)) ++ ordS h (s ++ [⟨op, n, k⟩]) = ordF h p i (f.drop i) ++ ordS h s := by
  rw [e, ordS_last]; simp [ordF, hh]
theorem ordF_hide {h : Nd → Nat → Bool} {p : Nd} {i : Nat} {f : Fo} {op n : Int} {k : Fo} {s : List Nd} (e : f.drop i = .cons op n k (f.drop (i + 1))) (hh : h p i = true) :
    ordF h p (i + 1) (f.drop (i + 1)) ++ ordS h s = ordF h p i (f.drop i) ++ ordS h s := by
  rw [e]; simp [ordF, hh]

/-- All nodes: none is hidden. -/
theorem ordF_all : ∀ (p : Nd) (i : Nat) (k : Fo), (ordF (fun _ _ => false) p i k).length = k.size
  | _, _, .nil => rfl
  | p, i, .cons op n k r => by
    have h1 := ordF_all p (i + 1) r
    have h2 := ordF_all ⟨op, n, k⟩ 0 k
    simp only [ordF, Fo.size, List.length_append]
    simp; omega

def cells3 : List Nx → List Value
  | [] => []
  | x :: r => x.cells ++ cells3 r
theorem cells3_append : ∀ (a b : List Nx), cells3 (a ++ b) = cells3 a ++ cells3 b
  | [], _ => rfl
  | p :: r, b => by simp [cells3, cells3_append r b]
theorem length_cells3 : ∀ (a : List Nx), (cells3 a).length = a.length * 3
  | [] => rfl
  | p :: r => by simp [cells3, Nx.cells, length_cells3 r]; omega
theorem cells3_last (st : List Nx) (x : Nx) (d : Nat) (hd : d < 3) : (cells3 (st ++ [x]))[st.length * 3 + d]? = x.cells[d]? := by
  rw [cells3_append, List.getElem?_append_right (by rw [length_cells3]; omega), length_cells3]
  simp only [cells3, List.append_nil]
  congr 1
  omega
theorem take_cells3 {l : List Value} {st : List Nx} {x : Nx} (h : l.take ((st.length + 1) * 3) = cells3 (st ++ [x])) : l.take (st.length * 3) = cells3 st := by
  have h1 : (l.take ((st.length + 1) * 3)).take (st.length * 3) = (cells3 (st ++ [x])).take (st.length * 3) := by rw [h]
  rw [List.take_take, Nat.min_eq_left (by omega), cells3_append, List.take_left' (length_cells3 st)] at h1
  exact h1

/-- A row of the call's own is kept by a round. -/
theorem ownsRow_kc {w w' : World} {X : Nat → Prop} {base : Nat} {e : TypeId} {size : Nat} {v : Value} {n : Nat} {xs : List Value} (h : w.ownsRow base e size v n xs) (hk : KC X w w') (hX : ∀ g, X g → g < base) : w'.ownsRow base e size v n xs := by
  refine ⟨h.1, ?_⟩
  rcases h.2 with h | ⟨g, cap, cur, h1, h2, h3, h4⟩
  · exact .inl h
  · exact .inr ⟨g, cap, cur, h1, h2, hk.2 g _ _ _ (fun hx => absurd (hX g hx) (by omega)) h3, h4⟩

theorem KC.then_below {X : Nat → Prop} {W V V' : World} (h : KC X W V) (hb : Below W.heap.size V V') : KC X W V' :=
  ⟨Nat.le_trans h.1 hb.size, fun k c t z hx hk => (hb.block k (Array.getElem?_eq_some_iff.1 hk).1).trans (h.2 k c t z hx hk)⟩
theorem own_at_least {w : World} {base : Nat} {e : TypeId} {size : Nat} {v : Value} {n : Nat} {xs : List Value} {g : Nat} (h : w.ownsRow base e size v n xs) (hg : v.ownBlock = some g) : base ≤ g := (h.lt g hg).1
theorem fresh_cells (w : World) (t : TypeId) (cs : Array Value) : ∀ (j : Nat) (u : Value), cs.toList[j]? = some u → (w.alloc (.cells cs t)).cell? ((⟨w.heap.size, 0, none⟩ : Addr).add j) = some u := by
  intro j u hj
  have e : ((⟨w.heap.size, 0, none⟩ : Addr).add j) = ⟨w.heap.size, j, none⟩ := by unfold Addr.add; split <;> simp_all
  rw [e]
  exact (Row.fresh w t cs).cell (by rw [← Array.getElem?_toList]; exact hj)

/-- The least number with a property. -/
noncomputable def least (P : Nat → Prop) : Nat := by
  classical
  exact if h : ∃ n, P n ∧ ∀ m, P m → n ≤ m then h.choose else 0
theorem least_ex {P : Nat → Prop} (h : ∃ n, P n) : ∃ n, P n ∧ ∀ m, P m → n ≤ m := by
  obtain ⟨n, hn⟩ := h
  induction n using Nat.strongRecOn with
  | _ n ih =>
    by_cases hx : ∃ m, m < n ∧ P m
    · obtain ⟨m, h1, h2⟩ := hx
      exact ih m h1 h2
    · exact ⟨n, hn, fun m hm => Nat.le_of_not_lt fun hl => hx ⟨m, hl, hm⟩⟩
theorem least_spec {P : Nat → Prop} (h : ∃ n, P n) : P (least P) ∧ ∀ m, P m → least P ≤ m := by
  have h2 := least_ex h
  unfold least
  rw [dif_pos h2]
  exact h2.choose_spec
end Go.Proofs.Ytbpcggbmlaomjaa
