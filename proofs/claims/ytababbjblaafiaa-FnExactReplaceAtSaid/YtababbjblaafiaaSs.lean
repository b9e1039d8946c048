/-
  Lists of lists of numbers: how one lies in memory; one of the call's own (all rows apart); append of such lists.
-/
import Derived.Test.YtababbjblaafiaaCopyI
import Derived.Test.YtababbjblaafiaaOwnM
import Derived.Maps.AppendAt
namespace Go.Proofs.Ytababbjblaafiaa
open Go.RowKit
set_option maxRecDepth 100000

theorem own_liesS {w : World} {base : Nat} {e : TypeId} {A : Option Addr} {c : Nat} {zs : List Int} (h : w.ownsRow base e 1 (.slice A zs.length c) zs.length (zs.map (Value.int .i64))) (hz : ∀ x ∈ zs, I64 x) : LiesI w base w.heap.size A zs := by
  obtain ⟨A', c', hv, hl⟩ := own_ints h hz
  injection hv with h1 _ _
  rw [h1]
  exact hl

/-- A list of lists of numbers lies in the slice at A. -/
def LiesSS (w : World) (L B : Nat) (A : Option Addr) (zss : List (List Int)) : Prop :=
  ∀ i zs, zss[i]? = some zs → ∃ b o A' c, A = some ⟨b, o, none⟩ ∧ L ≤ b ∧ b < B ∧ w.cell? ⟨b, o + i, none⟩ = some (.slice A' zs.length c) ∧ LiesI w L B A' zs
theorem LiesSS.keep {w w' : World} {L L' B B' : Nat} {A : Option Addr} {zss : List (List Int)} (hL : L' ≤ L) (hB : B ≤ B') (hk : ∀ p : Addr, L ≤ p.block → p.block < B → w'.cell? p = w.cell? p) (h : LiesSS w L B A zss) : LiesSS w' L' B' A zss := by
  intro i zs hi
  obtain ⟨b, o, A', c, h1, h2, h3, h4, h5⟩ := h i zs hi
  exact ⟨b, o, A', c, h1, by omega, by omega, (hk _ h2 h3).trans h4, h5.keep hL hB hk⟩
theorem LiesSS.below {w w' : World} {L B : Nat} {A : Option Addr} {zss : List (List Int)} (h : LiesSS w L B A zss) (hb : Below B w w') : LiesSS w' L B A zss := h.keep (Nat.le_refl _) (Nat.le_refl _) fun _ _ hp => hb.cell hp
theorem LiesSS.mono_ {w : World} {L L' B B' : Nat} {A : Option Addr} {zss : List (List Int)} (h : LiesSS w L B A zss) (hL : L' ≤ L) (hB : B ≤ B') : LiesSS w L' B' A zss := h.keep hL hB fun _ _ _ => rfl
theorem LiesSS.up {w w' : World} {L : Nat} {A : Option Addr} {zss : List (List Int)} (h : LiesSS w L w.heap.size A zss) (hb : Below w.heap.size w w') : LiesSS w' L w'.heap.size A zss := (h.below hb).mono_ (Nat.le_refl _) hb.size

/-- The head of a list in a list of lists. -/
structure Hd where
  A : Option Addr
  zs : List Int
  c : Nat
def Hd.val (h : Hd) : Value := .slice h.A h.zs.length h.c

/-- The lists' own rows. -/
def InS (w : World) (base : Nat) : List Hd → List Nat → Prop
  | [], bs => bs = []
  | h :: r, bs => ∃ b2, w.ownsRow base 3 1 h.val h.zs.length (h.zs.map (Value.int .i64)) ∧ (∀ x ∈ h.zs, I64 x) ∧ InS w base r b2 ∧ bs = blkOf h.A ++ b2

/-- A list of lists that the call has made, in the rows bs, all apart. -/
def OwnSS (w : World) (base : Nat) (v : Value) (zss : List (List Int)) (bs : List Nat) : Prop :=
  ∃ st b1, st.map Hd.zs = zss ∧ w.ownsRow base 25 1 v zss.length (st.map Hd.val) ∧ InS w base st b1 ∧ bs = blkV v ++ b1 ∧ bs.Nodup

section
variable {w w' : World} {base base' : Nat}

theorem InS.keep : ∀ {st : List Hd} {bs : List Nat}, InS w base st bs → (∀ b, b ∈ bs → w'.heap[b]? = w.heap[b]?) → InS w' base st bs
  | [], _, h, _ => h
  | h :: _, _, ⟨b2, h1, h2, h3, h4⟩, hk => by
    subst h4
    refine ⟨b2, own_at h1 fun g hg => hk g ?_, h2, h3.keep fun b hb => hk b (by simp [hb]), rfl⟩
    have : g ∈ blkV h.val := by unfold blkV; rw [hg]; simp
    rw [Hd.val, blkV_slice] at this
    simp [this]
theorem InS.lower (hb : base' ≤ base) : ∀ {st : List Hd} {bs : List Nat}, InS w base st bs → InS w base' st bs
  | [], _, h => h
  | _ :: _, _, ⟨b2, h1, h2, h3, h4⟩ => ⟨b2, own_lower h1 hb, h2, h3.lower hb, h4⟩
theorem InS.lt : ∀ {st : List Hd} {bs : List Nat}, InS w base st bs → ∀ b, b ∈ bs → base ≤ b ∧ b < w.heap.size
  | [], _, h, b, hb => by have h : _ = [] := h; rw [h] at hb; cases hb
  | _ :: _, _, ⟨b2, h1, h2, h3, h4⟩, b, hb => by
    subst h4
    rcases List.mem_append.1 hb with hb | hb
    · exact blk_lt h1 (by rw [Hd.val, blkV_slice]; exact hb)
    · exact h3.lt b hb
theorem InS.append : ∀ {st st2 : List Hd} {bs b2 : List Nat}, InS w base st bs → InS w base st2 b2 → InS w base (st ++ st2) (bs ++ b2)
  | [], _, _, _, h, h2 => by have h : _ = [] := h; subst h; exact h2
  | h :: r, _, _, _, ⟨b2, h1, h2, h3, h4⟩, k => ⟨_, h1, h2, h3.append k, by rw [h4, List.append_assoc]⟩
/-- One of the lists. -/
theorem InS.at_ : ∀ {st : List Hd} {bs : List Nat} {i : Nat} {h : Hd}, InS w base st bs → st[i]? = some h → w.ownsRow base 3 1 h.val h.zs.length (h.zs.map (Value.int .i64)) ∧ (∀ x ∈ h.zs, I64 x) ∧ ∃ p q, bs = p ++ (blkOf h.A ++ q)
  | [], _, i, h, _, e => by simp at e
  | x :: r, _, 0, h, ⟨b2, h1, h2, h3, h4⟩, e => by
    simp at e
    subst e
    exact ⟨h1, h2, [], b2, h4⟩
  | x :: r, _, i + 1, h, ⟨b2, h1, h2, h3, h4⟩, e => by
    obtain ⟨g1, g2, p, q, g3⟩ := h3.at_ (i := i) (by simpa using e)
    exact ⟨g1, g2, blkOf x.A ++ p, q, by rw [h4, g3, List.append_assoc]⟩

theorem OwnSS.keep {v : Value} {zss : List (List Int)} {bs : List Nat} (h : OwnSS w base v zss bs) (hk : ∀ b, b ∈ bs → w'.heap[b]? = w.heap[b]?) : OwnSS w' base v zss bs := by
  obtain ⟨st, b1, h0, h1, h2, rfl, h4⟩ := h
  exact ⟨st, b1, h0, own_at h1 fun g hg => hk g (by simp [blkV, hg]), h2.keep fun b hb => hk b (by simp [hb]), rfl, h4⟩
theorem OwnSS.lower {v : Value} {zss : List (List Int)} {bs : List Nat} (h : OwnSS w base v zss bs) (hb : base' ≤ base) : OwnSS w base' v zss bs := by
  obtain ⟨st, b1, h0, h1, h2, h3, h4⟩ := h
  exact ⟨st, b1, h0, own_lower h1 hb, h2.lower hb, h3, h4⟩
theorem OwnSS.lt {v : Value} {zss : List (List Int)} {bs : List Nat} (h : OwnSS w base v zss bs) : ∀ b, b ∈ bs → base ≤ b ∧ b < w.heap.size := by
  obtain ⟨st, b1, h0, h1, h2, rfl, h4⟩ := h
  intro b hb
  rcases List.mem_append.1 hb with hb | hb
  · exact blk_lt h1 hb
  · exact h2.lt b hb
theorem OwnSS.over {v : Value} {zss : List (List Int)} {bs : List Nat} (h : OwnSS w base v zss bs) (hb : Below w.heap.size w w') : OwnSS w' base v zss bs := h.keep fun b hbs => hb.block b (h.lt b hbs).2
theorem OwnSS.nil (w : World) (base : Nat) : OwnSS w base (.slice none 0 0) [] [] := ⟨[], [], rfl, World.ownsRow_nil _ _ _ _, rfl, rfl, List.nodup_nil⟩
theorem OwnSS.slice {v : Value} {zss : List (List Int)} {bs : List Nat} (h : OwnSS w base v zss bs) : ∃ A c, v = .slice A zss.length c ∧ zss.length ≤ c ∧ c ≤ maxLen := by
  obtain ⟨st, b1, h0, h1, _⟩ := h
  exact own_slice h1
theorem OwnSS.own {v : Value} {zss : List (List Int)} {bs : List Nat} (h : OwnSS w base v zss bs) : ∀ g, v.ownBlock = some g → g ∈ bs := by
  obtain ⟨st, b1, h0, h1, h2, rfl, h4⟩ := h
  intro g hg
  simp [blkV, hg]
theorem OwnSS.lies {A : Option Addr} {l c : Nat} {zss : List (List Int)} {bs : List Nat} (h : OwnSS w base (.slice A l c) zss bs) : LiesSS w base w.heap.size A zss := by
  obtain ⟨st, b1, h0, h1, h2, rfl, h4⟩ := h
  intro i zs hi
  rw [← h0, List.getElem?_map] at hi
  cases hs : st[i]? with
  | none => rw [hs] at hi; cases hi
  | some x =>
    rw [hs] at hi
    simp only [Option.map_some, Option.some.injEq] at hi
    subst hi
    obtain ⟨g1, g2, _⟩ := h2.at_ hs
    obtain ⟨A', c', hv, hl⟩ := own_ints g1 g2
    injection hv with e1 _ e3
    have hcell : (st.map Hd.val)[i]? = some x.val := by rw [List.getElem?_map, hs]; rfl
    rcases h1.2 with ⟨_, hn⟩ | ⟨g, cap, cur, hv2, hq, hh, _⟩
    · have h5 : (st.map Hd.val).length = 0 := by rw [h1.1, hn]
      have h6 := (List.getElem?_eq_some_iff.1 hcell).1
      omega
    · injection hv2 with e4
      subst e4
      have hc := h1.cells (g := g) rfl i _ hcell
      rw [add_plainP, Nat.zero_add] at hc
      exact ⟨g, 0, x.A, x.c, rfl, hq, (Array.getElem?_eq_some_iff.1 hh).1, by rw [Nat.zero_add]; exact hc, by rw [e1]; exact hl⟩
theorem OwnSS.lies0 {A : Option Addr} {l c : Nat} {zss : List (List Int)} {bs : List Nat} (h : OwnSS w base (.slice A l c) zss bs) : LiesSS w 0 w.heap.size A zss := h.lies.mono_ (Nat.zero_le _) (Nat.le_refl _)
end

section
variable {w : World} {base : Nat}

end
end Go.Proofs.Ytababbjblaafiaa
