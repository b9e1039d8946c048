/-
  Lists of library functions as plain data, and how one lies in memory: a function is six cells (Name, Arity, Old, and the three of its Body).
-/
import Derived.Test.YtpknegneogdmfaaGreatFo
namespace Go.Proofs.YtpknegneogdmfaaGreat
open Go.RowKit
set_option maxRecDepth 100000

structure De where
  nm : Int
  ar : Int
  old : Bool
  op : Int
  n : Int
  k : Fo

def De.fits (d : De) : Prop := I64 d.nm ∧ I64 d.ar ∧ I64 d.op ∧ I64 d.n

/-- Elements and all nodes below their bodies' roots. -/
def sizeD : List De → Nat
  | [] => 0
  | d :: r => sizeD r + d.k.size + 1
theorem sizeD_len : ∀ ds : List De, ds.length ≤ sizeD ds
  | [] => Nat.le_refl _
  | d :: r => by have := sizeD_len r; simp only [sizeD, List.length_cons]; omega
theorem sizeD_drop : ∀ {ds : List De} {i : Nat} {d : De}, ds[i]? = some d → sizeD (ds.drop i) = sizeD (ds.drop (i + 1)) + d.k.size + 1
  | [], i, d, h => by simp at h
  | e :: r, 0, d, h => by simp at h; subst h; simp [sizeD]
  | e :: r, i + 1, d, h => by simpa using sizeD_drop (ds := r) (i := i) (by simpa using h)
theorem sizeD_drop_le : ∀ (ds : List De) (i : Nat), sizeD (ds.drop i) ≤ sizeD ds
  | [], i => by simp
  | _ :: _, 0 => by simp
  | e :: r, i + 1 => by have := sizeD_drop_le r i; simp only [List.drop_succ_cons, sizeD]; omega
theorem sizeD_at {ds : List De} {i : Nat} {d : De} (h : ds[i]? = some d) : d.k.size < sizeD ds := by
  have h1 := sizeD_drop h
  have h2 := sizeD_drop_le ds i
  omega
theorem drop_at {ds : List De} {i : Nat} {d : De} (h : ds[i]? = some d) : ds.drop i = d :: ds.drop (i + 1) := by
  obtain ⟨hi, rfl⟩ := List.getElem?_eq_some_iff.1 h
  exact List.drop_eq_getElem_cons hi

/-- The i-th element in the slice at A is d, in blocks from L on and below B. -/
def DAt (w : World) (L B : Nat) (A : Option Addr) (i : Nat) (d : De) : Prop :=
  ∃ b o A' c', A = some ⟨b, o, none⟩ ∧ L ≤ b ∧ b < B ∧ d.fits ∧ w.cell? ⟨b, o + i * 6, none⟩ = some (.int .i64 d.nm) ∧ w.cell? ⟨b, o + i * 6 + 1, none⟩ = some (.int .i64 d.ar) ∧
    w.cell? ⟨b, o + i * 6 + 2, none⟩ = some (.bool d.old) ∧ w.cell? ⟨b, o + i * 6 + 3, none⟩ = some (.int .i64 d.op) ∧ w.cell? ⟨b, o + i * 6 + 4, none⟩ = some (.int .i64 d.n) ∧
    w.cell? ⟨b, o + i * 6 + 5, none⟩ = some (.slice A' d.k.len c') ∧ d.k.len ≤ c' ∧ c' ≤ maxLen ∧ Lies w L B A' 0 d.k
def LiesD (w : World) (L B : Nat) (A : Option Addr) (ds : List De) : Prop := ∀ i d, ds[i]? = some d → DAt w L B A i d

theorem DAt.keep {w w' : World} {L L' B B' : Nat} {A : Option Addr} {i : Nat} {d : De} (hL : L' ≤ L) (hB : B ≤ B') (hk : ∀ p : Addr, L ≤ p.block → p.block < B → w'.cell? p = w.cell? p) (h : DAt w L B A i d) : DAt w' L' B' A i d := by
  obtain ⟨b, o, A', c', hA, hl, hb, hf, h1, h2, h3, h4, h5, h6, h7, h8, h9⟩ := h
  exact ⟨b, o, A', c', hA, by omega, by omega, hf, (hk _ hl hb).trans h1, (hk _ hl hb).trans h2, (hk _ hl hb).trans h3, (hk _ hl hb).trans h4, (hk _ hl hb).trans h5, (hk _ hl hb).trans h6, h7, h8, h9.keep hL hB hk⟩
theorem LiesD.keep {w w' : World} {L L' B B' : Nat} {A : Option Addr} {ds : List De} (hL : L' ≤ L) (hB : B ≤ B') (hk : ∀ p : Addr, L ≤ p.block → p.block < B → w'.cell? p = w.cell? p) (h : LiesD w L B A ds) : LiesD w' L' B' A ds :=
  fun i d hd => (h i d hd).keep hL hB hk
theorem LiesD.below {w w' : World} {L B : Nat} {A : Option Addr} {ds : List De} (h : LiesD w L B A ds) (hb : Below B w w') : LiesD w' L B A ds := h.keep (Nat.le_refl _) (Nat.le_refl _) fun _ _ hp => hb.cell hp
theorem LiesD.mono_ {w : World} {L L' B B' : Nat} {A : Option Addr} {ds : List De} (h : LiesD w L B A ds) (hL : L' ≤ L) (hB : B ≤ B') : LiesD w L' B' A ds := h.keep hL hB fun _ _ _ => rfl
/-- From one world to a later one that keeps all that lay. -/
theorem LiesD.up {w w' : World} {A : Option Addr} {ds : List De} (h : LiesD w 0 w.heap.size A ds) (hb : Below w.heap.size w w') : LiesD w' 0 w'.heap.size A ds := (h.below hb).mono_ (Nat.le_refl _) hb.size
theorem Lies.up {w w' : World} {A : Option Addr} {i : Nat} {f : Fo} (h : Lies w 0 w.heap.size A i f) (hb : Below w.heap.size w w') : Lies w' 0 w'.heap.size A i f := (h.below hb).mono_ (Nat.le_refl _) hb.size

/-- The i-th element stands in the cells of a row. -/
def DAtC (w : World) (L B : Nat) (cs : Array Value) (i : Nat) (d : De) : Prop :=
  ∃ A' c', d.fits ∧ cs[i * 6]? = some (.int .i64 d.nm) ∧ cs[i * 6 + 1]? = some (.int .i64 d.ar) ∧ cs[i * 6 + 2]? = some (.bool d.old) ∧ cs[i * 6 + 3]? = some (.int .i64 d.op) ∧ cs[i * 6 + 4]? = some (.int .i64 d.n) ∧
    cs[i * 6 + 5]? = some (.slice A' d.k.len c') ∧ d.k.len ≤ c' ∧ c' ≤ maxLen ∧ Lies w L B A' 0 d.k
theorem DAtC.keep {w w' : World} {L L' B B' : Nat} {cs cs' : Array Value} {i : Nat} {d : De} (hL : L' ≤ L) (hB : B ≤ B') (hk : ∀ p : Addr, L ≤ p.block → p.block < B → w'.cell? p = w.cell? p)
    (hx : ∀ x, x < (i + 1) * 6 → cs'[x]? = cs[x]?) (h : DAtC w L B cs i d) : DAtC w' L' B' cs' i d := by
  obtain ⟨A', c', hf, h1, h2, h3, h4, h5, h6, h7, h8, h9⟩ := h
  exact ⟨A', c', hf, (hx _ (by omega)).trans h1, (hx _ (by omega)).trans h2, (hx _ (by omega)).trans h3, (hx _ (by omega)).trans h4, (hx _ (by omega)).trans h5, (hx _ (by omega)).trans h6, h7, h8, h9.keep hL hB hk⟩
theorem DAtC.lies {w : World} {L B g : Nat} {t : TypeId} {cs : Array Value} {ds : List De} (hr : Row w g t cs) (hL : g < L) (hB : g < B) (h : ∀ i d, ds[i]? = some d → DAtC w L B cs i d) : LiesD w g B (some ⟨g, 0, none⟩) ds := by
  intro i d hd
  obtain ⟨A', c', hf, h1, h2, h3, h4, h5, h6, h7, h8, h9⟩ := h i d hd
  refine ⟨g, 0, A', c', rfl, Nat.le_refl _, hB, hf, ?_, ?_, ?_, ?_, ?_, ?_, h7, h8, h9.mono_ (by omega) (Nat.le_refl _)⟩ <;> rw [Nat.zero_add]
  · exact hr.cell h1
  · exact hr.cell h2
  · exact hr.cell h3
  · exact hr.cell h4
  · exact hr.cell h5
  · exact hr.cell h6

/-- The six cells of element j, written. -/
def put6 (w : World) (g j : Nat) (d : De) (A : Option Addr) (c : Nat) : World :=
  (((((w.setCell ⟨g, j * 6, none⟩ (.int .i64 d.nm)).setCell ⟨g, j * 6 + 1, none⟩ (.int .i64 d.ar)).setCell ⟨g, j * 6 + 2, none⟩ (.bool d.old)).setCell ⟨g, j * 6 + 3, none⟩ (.int .i64 d.op)).setCell ⟨g, j * 6 + 4, none⟩ (.int .i64 d.n)).setCell ⟨g, j * 6 + 5, none⟩ (.slice A d.k.len c)
theorem DAtC.step {w : World} {g j c2 : Nat} {t : TypeId} {cs : Array Value} {ds : List De} {d : De} {A2 : Option Addr} (hrow : Row w g t cs) (hcs : cs.size = ds.length * 6) (hlt : j < ds.length)
    (hall : ∀ i d, i < j → ds[i]? = some d → DAtC w (g + 1) w.heap.size cs i d) (e1 : ds[j]? = some d) (hf : d.fits) (hc1 : d.k.len ≤ c2) (hc2 : c2 ≤ maxLen) (hR : Lies w (g + 1) w.heap.size A2 0 d.k) :
    ∃ cs', Row (put6 w g j d A2 c2) g t cs' ∧ cs'.size = ds.length * 6 ∧ ∀ i d', i < j + 1 → ds[i]? = some d' → DAtC (put6 w g j d A2 c2) (g + 1) (put6 w g j d A2 c2).heap.size cs' i d' := by
  refine ⟨_, (((((hrow.put _ _).put _ _).put _ _).put _ _).put _ _).put _ _, by simp [hcs], ?_⟩
  have hs : (put6 w g j d A2 c2).heap.size = w.heap.size := by simp [put6, World.setCell]
  have hk : ∀ p : Addr, g + 1 ≤ p.block → p.block < w.heap.size → (put6 w g j d A2 c2).cell? p = w.cell? p := by
    intro p h1 _
    unfold put6
    rw [World.cell?_setCell_other _ _ _ _ (fun e => by subst e; exact absurd h1 (Nat.not_succ_le_self _)), World.cell?_setCell_other _ _ _ _ (fun e => by subst e; exact absurd h1 (Nat.not_succ_le_self _)), World.cell?_setCell_other _ _ _ _ (fun e => by subst e; exact absurd h1 (Nat.not_succ_le_self _)),
      World.cell?_setCell_other _ _ _ _ (fun e => by subst e; exact absurd h1 (Nat.not_succ_le_self _)), World.cell?_setCell_other _ _ _ _ (fun e => by subst e; exact absurd h1 (Nat.not_succ_le_self _)), World.cell?_setCell_other _ _ _ _ (fun e => by subst e; exact absurd h1 (Nat.not_succ_le_self _))]
  rw [hs]
  intro i d' hi hd
  by_cases hij : i = j
  · subst hij
    rw [e1] at hd
    cases hd
    refine ⟨A2, c2, hf, ?_, ?_, ?_, ?_, ?_, ?_, hc1, hc2, hR.keep (Nat.le_refl _) (Nat.le_refl _) hk⟩
    · rw [Array.getElem?_setIfInBounds_ne (by omega), Array.getElem?_setIfInBounds_ne (by omega), Array.getElem?_setIfInBounds_ne (by omega), Array.getElem?_setIfInBounds_ne (by omega), Array.getElem?_setIfInBounds_ne (by omega), Array.getElem?_setIfInBounds_self_of_lt (by omega)]
    · rw [Array.getElem?_setIfInBounds_ne (by omega), Array.getElem?_setIfInBounds_ne (by omega), Array.getElem?_setIfInBounds_ne (by omega), Array.getElem?_setIfInBounds_ne (by omega), Array.getElem?_setIfInBounds_self_of_lt (by simp; omega)]
    · rw [Array.getElem?_setIfInBounds_ne (by omega), Array.getElem?_setIfInBounds_ne (by omega), Array.getElem?_setIfInBounds_ne (by omega), Array.getElem?_setIfInBounds_self_of_lt (by simp; omega)]
    · rw [Array.getElem?_setIfInBounds_ne (by omega), Array.getElem?_setIfInBounds_ne (by omega), Array.getElem?_setIfInBounds_self_of_lt (by simp; omega)]
    · rw [Array.getElem?_setIfInBounds_ne (by omega), Array.getElem?_setIfInBounds_self_of_lt (by simp; omega)]
    · rw [Array.getElem?_setIfInBounds_self_of_lt (by simp; omega)]
  · refine (hall i d' (by omega) hd).keep (Nat.le_refl _) (Nat.le_refl _) hk ?_
    intro x hx
    rw [Array.getElem?_setIfInBounds_ne (by omega), Array.getElem?_setIfInBounds_ne (by omega), Array.getElem?_setIfInBounds_ne (by omega), Array.getElem?_setIfInBounds_ne (by omega), Array.getElem?_setIfInBounds_ne (by omega), Array.getElem?_setIfInBounds_ne (by omega)]
theorem put6_below {B : Nat} {w0 w : World} {g j : Nat} {d : De} {A : Option Addr} {c : Nat} (h : Below B w0 w) (hg : B ≤ g) : Below B w0 (put6 w g j d A c) :=
  (((((h.setCell hg _).setCell hg _).setCell hg _).setCell hg _).setCell hg _).setCell hg _
theorem put6_rows {w : World} {L g j : Nat} {d : De} {A : Option Addr} {c : Nat} (h : AllRows w L w.heap.size) : AllRows (put6 w g j d A c) L (put6 w g j d A c).heap.size :=
  ((((((h.set _ _).set _ _).set _ _).set _ _).set _ _).set _ _).mono_ (Nat.le_refl _) (by simp [put6, World.setCell])
end Go.Proofs.YtpknegneogdmfaaGreat
