/-
  The walk of the law FnDiffPaths: true at every input (made by gen_ndp.py).
-/
import Derived.Test.YtdpiklnadhpjjaaPathsS
import Derived.Test.YtdpiklnadhpjjaaAm
import Derived.Test.YtdpiklnadhpjjaaFmtM
import Derived.Test.YtdpiklnadhpjjaaTxtT
import Derived.Test.YtdpiklnadhpjjaaDiffs
import Derived.Test.YtdpiklnadhpjjaaPartI
import Derived.Test.YtdpiklnadhpjjaaSameD
import Derived.Test.YtdpiklnadhpjjaaDrawRA
import Derived.Test.YtdpiklnadhpjjaaReplT
import Derived.Test.YtdpiklnadhpjjaaTake
import Derived.Test.YtdpiklnadhpjjaaDiffsS
import Derived.Test.YtdpiklnadhpjjaaISame
namespace Go.Proofs.Ytdpiklnadhpjjaa
open Go.RowKit Go.Shelf
set_option maxRecDepth 100000

set_option maxHeartbeats 1000000 in
theorem amPaths_any (zss : List (List Int)) (A A2 : Option Addr) (c c2 : Nat) (w : World) (hl : LiesSS w 0 w.heap.size A zss) (hl2 : LiesSS w 0 w.heap.size A2 zss) (hn : zss.length ≤ 1048576) (hs : ∀ zs, zs ∈ zss → zs.length ≤ 1048576) :
    Calls Try.prog 6 #[.slice A zss.length c, .slice A2 zss.length c2] w (Gives (.bool true) w) := by
  go_enter Try.func6, Try.ntmps6
  go_wp2
  go_loopw [5] (fun i wr => ∃ (j : Nat), j ≤ zss.length ∧ i = .int .i64 (j : Int) ∧ Below w.heap.size w wr)
    (fun i _ => zss.length - (intOf i).toNat)
  case atStart => exact ⟨0, by omega, rfl, Below.refl _ _⟩
  case round =>
    obtain ⟨j, hj, rfl, hb⟩ := hrel
    by_cases hlt : j < zss.length
    · have e1 := List.getElem?_eq_getElem hlt
      generalize zss[j] = zs at e1
      have e3 := hs zs (List.mem_of_getElem? e1)
      obtain ⟨b, o, A', c', hA, _, hbb, g1, h1⟩ := hl j zs e1
      obtain ⟨b', o', B', d', hA', _, hbb', g1', h1'⟩ := hl2 j zs e1
      subst hA hA'
      have q1 := (hb.cell (p := ⟨b, o + j, none⟩) hbb).trans g1
      have q2 := (hb.cell (p := ⟨b', o' + j, none⟩) hbb').trans g1'
      clear e1 g1 g1'
      go_wp2_with fail
      go_still_tail 8, (by kernel_rfl)
      change wpList _ _ _ _ _ wr.drew
      have hb' : Below w.heap.size w wr.drew := hb.drew
      go_wp2_with fail
      refine (amInts_any zs zs A' B' c' d' wr.drew (h1.up hb') (h1'.up hb') (by omega) (by omega)).mono ?_
      rintro e w2 ⟨rfl, hb2⟩
      rw [show decide (zs = zs) = true from by simp]
      have hb3 := hb'.trans (hb2.mono hb'.size)
      clear q1 q2 hb hb' hb2
      go_wp2
      go_roundw
      case rel => exact ⟨j + 1, by omega, by go_num, hb3⟩
      case measure => simp [intOf]; omega
    · go_wp2
      go_ret
      exact ⟨rfl, hb⟩

/-- There is a part at each path. -/
theorem pathsK_part : ∀ (f : Fo) (i : Nat) (g : Fo) (o m : Int) (zs : List Int), zs ∈ pathsK f i → g.drop i = f → (partN ⟨o, m, g⟩ zs).isSome = true
  | .nil, _, _, _, _, zs, h, _ => by simp [pathsK] at h
  | .cons o1 m1 k r, i, g, o, m, zs, h, e => by
    simp only [pathsK, List.mem_append, List.mem_map] at h
    rcases h with ⟨y, hy, rfl⟩ | h
    · rw [partN_in (by omega) (by rw [Int.toNat_natCast]; exact e)]
      rcases List.mem_cons.1 hy with rfl | hy
      · rfl
      · exact pathsK_part k 0 k o1 m1 y hy (Fo.drop_zero k)
    · refine pathsK_part r (i + 1) g o m zs h ?_
      have h2 := Fo.drop_of_lt g i (Classical.byContradiction fun hn => by rw [Fo.drop_ge g i (by omega)] at e; cases e)
      obtain ⟨a, b, d, e1, _⟩ := h2
      rw [e] at e1
      injection e1 with _ _ _ e2
      exact e2.symm
theorem pathsP_part {o m : Int} {k : Fo} {zs : List Int} (h : zs ∈ pathsP k) : (partN ⟨o, m, k⟩ zs).isSome = true := by
  rcases List.mem_cons.1 h with rfl | h
  · rfl
  · exact pathsK_part k 0 k o m zs h (Fo.drop_zero k)
end Go.Proofs.Ytdpiklnadhpjjaa

namespace Go.Proofs.Ytdpiklnadhpjjaa
open Go.RowKit Go.Shelf
set_option maxRecDepth 100000

end Go.Proofs.Ytdpiklnadhpjjaa

namespace Go.Proofs.Ytdpiklnadhpjjaa
open Go.RowKit
set_option maxRecDepth 100000

theorem drop_next {g : Fo} {i : Nat} {o m : Int} {k r : Fo} (e : g.drop i = .cons o m k r) : g.drop (i + 1) = r := by
  have h2 := Fo.drop_of_lt g i (Classical.byContradiction fun hn => by rw [Fo.drop_ge g i (by omega)] at e; cases e)
  obtain ⟨a, b, d, e1, _⟩ := h2
  rw [e] at e1
  injection e1 with _ _ _ e2
  exact e2.symm
theorem sameN_diff {p q : Nd} (h : ¬ (p.op = q.op ∧ p.n = q.n ∧ p.k.len = q.k.len)) : sameN p.op p.n p.k q.op q.n q.k = false := by
  unfold sameN
  by_cases h1 : p.op = q.op
  · by_cases h2 : p.n = q.n
    · have h3 : p.k.len ≠ q.k.len := fun e => h ⟨h1, h2, e⟩
      rw [sameFo_ne h3, Bool.and_false]
    · rw [decide_eq_false h2, Bool.and_false, Bool.false_and]
  · rw [decide_eq_false h1, Bool.false_and, Bool.false_and]
/-- Both have a part there, and the parts differ. -/
def Differ (p q : Nd) (zs : List Int) : Prop := ∃ x y : Nd, partN p zs = some x ∧ partN q zs = some y ∧ sameN x.op x.n x.k y.op y.n y.k = false
theorem diffK_parts : ∀ (f g : Fo) (i : Nat) (F G : Fo) (o m o' m' : Int) (zs : List Int), zs ∈ diffK f g i → F.drop i = f → G.drop i = g → Differ ⟨o, m, F⟩ ⟨o', m', G⟩ zs
  | .nil, _, _, _, _, _, _, _, _, zs, h, _, _ => by simp [diffK] at h
  | .cons _ _ _ _, .nil, _, _, _, _, _, _, _, zs, h, _, _ => by simp [diffK] at h
  | .cons o1 m1 k r, .cons o2 m2 k' r', i, F, G, o, m, o', m', zs, h, e, e' => by
    simp only [diffK, List.mem_append, List.mem_map] at h
    rcases h with ⟨y, hy, rfl⟩ | h
    · have key : Differ ⟨o1, m1, k⟩ ⟨o2, m2, k'⟩ y := by
        by_cases hc : o1 = o2 ∧ m1 = m2 ∧ k.len = k'.len
        · rw [if_pos hc] at hy
          exact diffK_parts k k' 0 k k' o1 m1 o2 m2 y hy (Fo.drop_zero k) (Fo.drop_zero k')
        · rw [if_neg hc, List.mem_singleton] at hy
          subst hy
          exact ⟨⟨o1, m1, k⟩, ⟨o2, m2, k'⟩, rfl, rfl, sameN_diff (p := ⟨o1, m1, k⟩) (q := ⟨o2, m2, k'⟩) hc⟩
      obtain ⟨x, z, h1, h2, h3⟩ := key
      exact ⟨x, z, by rw [partN_in (by omega) (by rw [Int.toNat_natCast]; exact e)]; exact h1, by rw [partN_in (by omega) (by rw [Int.toNat_natCast]; exact e')]; exact h2, h3⟩
    · exact diffK_parts r r' (i + 1) F G o m o' m' zs h (drop_next e) (drop_next e')
theorem diffP_parts {p q : Nd} {zs : List Int} (h : zs ∈ diffP p q) : Differ p q zs := by
  unfold diffP at h
  by_cases hc : p.op = q.op ∧ p.n = q.n ∧ p.k.len = q.k.len
  · rw [if_pos hc] at h
    exact diffK_parts p.k q.k 0 p.k q.k p.op p.n q.op q.n zs h (Fo.drop_zero _) (Fo.drop_zero _)
  · rw [if_neg hc, List.mem_singleton] at h
    subst h
    exact ⟨p, q, rfl, rfl, sameN_diff hc⟩
/-- No path of the list goes on from another. -/
def Apart (a b : List Int) : Prop := ¬ a <+: b ∧ ¬ b <+: a
theorem diffK_head : ∀ (f g : Fo) (i : Nat) (zs : List Int), zs ∈ diffK f g i → ∃ (j : Nat) (r : List Int), zs = (j : Int) :: r ∧ i ≤ j
  | .nil, _, _, zs, h => by simp [diffK] at h
  | .cons _ _ _ _, .nil, _, zs, h => by simp [diffK] at h
  | .cons o1 m1 k r, .cons o2 m2 k' r', i, zs, h => by
    simp only [diffK, List.mem_append, List.mem_map] at h
    rcases h with ⟨y, _, rfl⟩ | h
    · exact ⟨i, y, rfl, Nat.le_refl _⟩
    · obtain ⟨j, t, h1, h2⟩ := diffK_head r r' (i + 1) zs h
      exact ⟨j, t, h1, by omega⟩
theorem diffK_apart : ∀ (f g : Fo) (i : Nat), (diffK f g i).Pairwise Apart
  | .nil, _, _ => by simp [diffK]
  | .cons _ _ _ _, .nil, _ => by simp [diffK]
  | .cons o1 m1 k r, .cons o2 m2 k' r', i => by
    simp only [diffK]
    rw [List.pairwise_append]
    refine ⟨?_, diffK_apart r r' (i + 1), ?_⟩
    · rw [List.pairwise_map]
      have key : (if o1 = o2 ∧ m1 = m2 ∧ k.len = k'.len then diffK k k' 0 else [[]]).Pairwise Apart := by
        split
        · exact diffK_apart k k' 0
        · simp
      refine key.imp ?_
      intro a b h
      exact ⟨fun hc => h.1 (List.cons_prefix_cons.1 hc).2, fun hc => h.2 (List.cons_prefix_cons.1 hc).2⟩
    · intro a ha b hb
      rw [List.mem_map] at ha
      obtain ⟨y, _, rfl⟩ := ha
      obtain ⟨j, t, rfl, hj⟩ := diffK_head r r' (i + 1) b hb
      exact ⟨fun hc => by have := (List.cons_prefix_cons.1 hc).1; omega, fun hc => by have := (List.cons_prefix_cons.1 hc).1; omega⟩
theorem diffP_apart (p q : Nd) : (diffP p q).Pairwise Apart := by
  unfold diffP
  split
  · exact diffK_apart _ _ _
  · simp
theorem apart_at {zss : List (List Int)} (h : zss.Pairwise Apart) {i j : Nat} {a b : List Int} (hi : zss[i]? = some a) (hj : zss[j]? = some b) (hn : i ≠ j) : Apart a b := by
  obtain ⟨h1, rfl⟩ := List.getElem?_eq_some_iff.1 hi
  obtain ⟨h2, rfl⟩ := List.getElem?_eq_some_iff.1 hj
  rw [List.pairwise_iff_getElem] at h
  rcases Nat.lt_or_gt_of_ne hn with g | g
  · exact h i j h1 h2 g
  · have := h j i h2 h1 g
    exact ⟨this.2, this.1⟩
/-- A list as long as another does not begin with it. -/
theorem apart_take {a b : List Int} (h : Apart a b) : decide (b.take a.length = a) = false := by
  rw [decide_eq_false_iff_not]
  intro e
  exact h.1 (e ▸ List.take_prefix a.length b)
/-- There is a path exactly where the nodes differ. -/
theorem diffK_none : ∀ (f g : Fo) (i : Nat), f.len = g.len → (diffK f g i = [] ↔ sameFo f g = true)
  | .nil, .nil, _, _ => by simp [diffK, sameFo]
  | .nil, .cons .., _, h => by simp [Fo.len] at h
  | .cons .., .nil, _, h => by simp [Fo.len] at h
  | .cons o1 m1 k r, .cons o2 m2 k' r', i, h => by
    simp only [Fo.len] at h
    have h2 := diffK_none r r' (i + 1) (by omega)
    simp only [diffK, List.append_eq_nil_iff, List.map_eq_nil_iff, sameFo, Bool.and_eq_true, decide_eq_true_iff]
    rw [h2]
    by_cases hc : o1 = o2 ∧ m1 = m2 ∧ k.len = k'.len
    · rw [if_pos hc, diffK_none k k' 0 hc.2.2]
      constructor
      · rintro ⟨h3, h4⟩; exact ⟨⟨⟨hc.1, hc.2.1⟩, h3⟩, h4⟩
      · rintro ⟨⟨_, h3⟩, h4⟩; exact ⟨h3, h4⟩
    · rw [if_neg hc]
      constructor
      · rintro ⟨h3, _⟩; cases h3
      · rintro ⟨⟨⟨h5, h6⟩, h3⟩, _⟩; exact absurd ⟨h5, h6, sameFo_len h3⟩ hc
theorem diffP_none (p q : Nd) : decide ((diffP p q).length = 0) = sameN p.op p.n p.k q.op q.n q.k := by
  rw [Bool.eq_iff_iff, decide_eq_true_iff, List.length_eq_zero_iff]
  unfold diffP
  by_cases hc : p.op = q.op ∧ p.n = q.n ∧ p.k.len = q.k.len
  · rw [if_pos hc, diffK_none _ _ 0 hc.2.2]
    unfold sameN
    simp [hc.1, hc.2.1]
  · rw [if_neg hc, sameN_diff hc]
    simp
end Go.Proofs.Ytdpiklnadhpjjaa

namespace Go.Proofs.Ytdpiklnadhpjjaa
open Go.RowKit Go.Shelf
set_option maxRecDepth 100000

def Two9Post (w : World) (e : Ending) (w' : World) : Prop :=
  ∃ op n k X c op2 n2 k2 X2 cx2, e = .returned (.tuple #[.agg #[.int .i64 op, .int .i64 n, .slice X (Fo.len k) c], .agg #[.int .i64 op2, .int .i64 n2, .slice X2 (Fo.len k2) cx2]]) ∧ Drawn w' w.heap.size op n k X c ∧ Drawn w' w.heap.size op2 n2 k2 X2 cx2 ∧ Below w.heap.size w w'
theorem d9_i64 {op n : Int} {k : Fo} {S : Nat → Bool} (h : nodeIs op n k S = true) : I64 op ∧ I64 n := by
  unfold nodeIs nodeShape at h
  simp only [Bool.and_eq_true] at h
  obtain ⟨⟨⟨⟨_, h2⟩, h3⟩, _⟩, _⟩ := h
  have ho : 1 ≤ op ∧ op ≤ 9 := by
    rcases kinds op with h | h | h | h | h | h | h | h | h | h
    iterate 9
      · omega
    · exfalso
      unfold kidsOk at h2
      rw [if_neg (by omega), if_neg (by omega), if_neg (by omega), if_neg (by omega), if_neg (by omega)] at h2
      cases h2
  have hn : 0 ≤ n ∧ n ≤ 99 := by
    unfold ownOk at h3
    split at h3
    · simpa using h3
    · split at h3
      · simp [inVar] at h3; omega
      · split at h3
        · simp [inVar] at h3; omega
        · simp at h3; omega
  unfold I64
  constructor <;> constructor <;> omega
theorem resR_fine {p x y : Nd} {zs : List Int} (h : resR p zs x = some y) : (I64 y.op ∧ I64 y.n) ∧ y.k.size ≤ 500300 := by
  unfold resR at h
  split at h
  · rename_i hv
    simp only [Bool.and_eq_true] at hv
    injection h with h
    subst h
    exact ⟨d9_i64 hv.2, Nat.le_trans (nd_small hv.2) (by decide)⟩
  · cases h
theorem two_end {w V : World} {op n op2 n2 : Int} {k k2 : Fo} {X X2 : Option Addr} {c cx2 : Nat} {bl bl2 : List Nat} (ht : Tree V (w.heap.size + 2) (.slice X k.len c) k bl) (ht2 : Tree V (w.heap.size + 2) (.slice X2 k2.len cx2) k2 bl2)
    (hi : I64 op ∧ I64 n) (hi2 : I64 op2 ∧ I64 n2) (hs : k.size ≤ 500300) (hs2 : k2.size ≤ 500300) (hb : Below w.heap.size w V) :
    Two9Post w (.returned (.tuple #[.agg #[.int .i64 op, .int .i64 n, .slice X k.len c], .agg #[.int .i64 op2, .int .i64 n2, .slice X2 k2.len cx2]]))
      ((((((V.setCell ⟨w.heap.size, 0, none⟩ (.int .i64 op)).setCell ⟨w.heap.size, 1, none⟩ (.int .i64 n)).setCell ⟨w.heap.size, 2, none⟩ (.slice X k.len c)).setCell ⟨w.heap.size + 1, 0, none⟩ (.int .i64 op2)).setCell ⟨w.heap.size + 1, 1, none⟩ (.int .i64 n2)).setCell ⟨w.heap.size + 1, 2, none⟩ (.slice X2 k2.len cx2)) := by
  have far : ∀ z, w.heap.size + 2 ≤ z → ((((((V.setCell ⟨w.heap.size, 0, none⟩ (.int .i64 op)).setCell ⟨w.heap.size, 1, none⟩ (.int .i64 n)).setCell ⟨w.heap.size, 2, none⟩ (.slice X k.len c)).setCell ⟨w.heap.size + 1, 0, none⟩ (.int .i64 op2)).setCell ⟨w.heap.size + 1, 1, none⟩ (.int .i64 n2)).setCell ⟨w.heap.size + 1, 2, none⟩ (.slice X2 k2.len cx2)).heap[z]? = V.heap[z]? := fun z hz => by
    have e1 : z ≠ w.heap.size := by omega
    have e2 : z ≠ w.heap.size + 1 := by omega
    rw [Below.heap_setCell _ _ _ z e2, Below.heap_setCell _ _ _ z e2, Below.heap_setCell _ _ _ z e2, Below.heap_setCell _ _ _ z e1, Below.heap_setCell _ _ _ z e1, Below.heap_setCell _ _ _ z e1]
  refine ⟨op, n, k, X, c, op2, n2, k2, X2, cx2, rfl, ⟨bl, hi, (ht.keep fun z hz => far z (ht.lt z hz).1).lower (by omega), hs⟩, ⟨bl2, hi2, (ht2.keep fun z hz => far z (ht2.lt z hz).1).lower (by omega), hs2⟩, ?_⟩
  · exact (((((hb.setCell (Nat.le_refl _) _).setCell (Nat.le_refl _) _).setCell (Nat.le_refl _) _).setCell (Nat.le_succ _) _).setCell (Nat.le_succ _) _).setCell (Nat.le_succ _) _

set_option maxHeartbeats 4000000 in
theorem l9Two_any (A : Option Addr) (bc0 : Nat) (bs : List Nat) (w : World) (hB : LiesY w 0 w.heap.size A bs) (hl : bs.length ≤ bc0) (hc : bc0 ≤ maxLen) :
    Calls Try.prog 12 #[.slice A bs.length bc0] w (Two9Post w) := by
  obtain ⟨W2, hW2⟩ : ∃ W2, W2 = (w.alloc (Obj.cells #[.int .i64 0, .int .i64 0, .slice none 0 0] 25)).alloc (Obj.cells #[.int .i64 0, .int .i64 0, .slice none 0 0] 25) := ⟨_, rfl⟩
  have hb2 : Below w.heap.size w W2 := by rw [hW2]; exact ((Below.refl _ _).alloc (Nat.le_refl _) _).alloc (by simp) _
  have hx1 : Row W2 w.heap.size 25 #[.int .i64 0, .int .i64 0, .slice none 0 0] := by rw [hW2]; exact (Row.fresh _ _ _).alloc _
  have hx2 : Row W2 (w.heap.size + 1) 25 #[.int .i64 0, .int .i64 0, .slice none 0 0] := by
    rw [hW2]
    have := Row.fresh (w.alloc (Obj.cells #[.int .i64 0, .int .i64 0, .slice none 0 0] 25)) 25 #[.int .i64 0, .int .i64 0, .slice none 0 0]
    rw [World.size_alloc] at this
    exact this
  have hY2 : LiesY W2 0 W2.heap.size A bs := (hB.below hb2).keep (Nat.le_refl _) hb2.size fun _ _ _ => rfl
  have HC := Lib.hid (drawReplaceAt_any A bc0 bs W2 hY2 hl hc)
  have HP1 := Lib.hid hx1
  have HP2 := Lib.hid hx2
  have HB2 := Lib.hid hb2
  have HWG2 := Lib.hid (show w.heap.size + 2 ≤ W2.heap.size from hx2.size)
  clear hb2 hx1 hx2 hB hY2
  go_enter Try.func12, Try.ntmps12
  go_upto_region 1 with fail
  rw [← hW2]
  clear hW2
  go_wp2_with fail
  refine HC.out.mono ?_
  rintro e w3 ⟨op, n, k, X, cx, zs, A2, c2, op2, n2, k2, X2, cx2, rfl, ⟨bl, hi, ht, hs⟩, hz, hm1, hm2, hm3, ⟨bl2, hi2, ht2, hs2⟩, hb3⟩
  obtain ⟨_, _, hX, me1, me2⟩ := ht.slice
  injection hX with hX1 hX2 hX3
  subst hX3
  obtain ⟨_, _, hY, mx1, mx2⟩ := ht2.slice
  injection hY with hY1 hY2 hY3
  subst hY3
  obtain ⟨W5, hW5⟩ : ∃ V, V = (w3.alloc (Obj.cells #[.int .i64 op, .int .i64 n, .slice X k.len cx] 25)).alloc (Obj.cells #[.int .i64 op2, .int .i64 n2, .slice X2 k2.len cx2] 25) := ⟨_, rfl⟩
  have hb5 : Below w3.heap.size w3 W5 := by rw [hW5]; exact ((Below.refl _ _).alloc (Nat.le_refl _) _).alloc (by simp) _
  have hx : Row W5 w3.heap.size 25 #[.int .i64 op, .int .i64 n, .slice X k.len cx] := by rw [hW5]; exact (Row.fresh _ _ _).alloc _
  have hx2 : Row W5 (w3.heap.size + 1) 25 #[.int .i64 op2, .int .i64 n2, .slice X2 k2.len cx2] := by
    rw [hW5]
    have := Row.fresh (w3.alloc (Obj.cells #[.int .i64 op, .int .i64 n, .slice X k.len cx] 25)) 25 #[.int .i64 op2, .int .i64 n2, .slice X2 k2.len cx2]
    rw [World.size_alloc] at this
    exact this
  have hbb : Below W2.heap.size W2 W5 := hb3.trans (hb5.mono hb3.size)
  have hzW : LiesI W5 0 W5.heap.size A2 zs := LiesI.up (hz.keep (Nat.zero_le _) (Nat.le_refl _) fun _ _ _ => rfl) hb5
  have FE := Lib.hid (show ∀ U, Below W5.heap.size W5 U → (Row U w3.heap.size 25 #[.int .i64 op, .int .i64 n, .slice X k.len cx] ∧ Row U (w3.heap.size + 1) 25 #[.int .i64 op2, .int .i64 n2, .slice X2 k2.len cx2]) ∧ Tree U (w.heap.size + 2) (.slice X k.len cx) k bl ∧ Tree U (w.heap.size + 2) (.slice X2 k2.len cx2) k2 bl2 ∧ LiesI U 0 U.heap.size A2 zs ∧ (Row U w.heap.size 25 #[.int .i64 0, .int .i64 0, .slice none 0 0] ∧ Row U (w.heap.size + 1) 25 #[.int .i64 0, .int .i64 0, .slice none 0 0]) ∧ Below w.heap.size w U from fun U hU => by
    have hBU := hbb.trans (hU.mono hbb.size)
    exact ⟨⟨hx.below hU hx.size, hx2.below hU hx2.size⟩, ((ht.over hb5).over hU).lower HWG2.out, ((ht2.over hb5).over hU).lower HWG2.out, hzW.up hU, ⟨HP1.out.below hBU HP1.out.size, HP2.out.below hBU HP2.out.size⟩, HB2.out.trans (hBU.mono HB2.out.size)⟩)
  have hw9 : w.heap.size + 2 ≤ w3.heap.size := Nat.le_trans HWG2.out hb3.size
  have hw8 : w3.heap.size + 2 ≤ W5.heap.size := hx2.size
  have HI := Lib.hid hi
  have HI2 := Lib.hid hi2
  obtain ⟨y, hy⟩ : ∃ y, y = (resR ⟨op, n, k⟩ zs ⟨op2, n2, k2⟩).getD nd0 := ⟨_, rfl⟩
  obtain ⟨ok, hok⟩ : ∃ ok, ok = (resR ⟨op, n, k⟩ zs ⟨op2, n2, k2⟩).isSome := ⟨_, rfl⟩
  have HFI := Lib.hid (show ok = true → (I64 y.op ∧ I64 y.n) ∧ y.k.size ≤ 500300 by
    rw [hok, hy]
    cases hr : resR ⟨op, n, k⟩ zs ⟨op2, n2, k2⟩ with
    | none => intro h; cases h
    | some z => intro _; exact resR_fine hr)
  have HSP := Lib.hid (show Calls Try.prog 23 #[.agg #[.int .i64 op, .int .i64 n, .slice X k.len cx], .slice A2 zs.length c2, .agg #[.int .i64 op2, .int .i64 n2, .slice X2 k2.len cx2]] W5 (GivesN y ok W5) by
    obtain ⟨-, h1, h2, h3, -⟩ := FE.out W5 (Below.refl _ _)
    rw [hy, hok]
    exact specRepl_any op n k X cx zs A2 c2 op2 n2 k2 X2 cx2 W5 h1.held.1 (Nat.le_trans me1 me2) h2.held.1 (Nat.le_trans mx1 mx2) h3 hm3 hm1 hm2 (by omega) (by omega) HI.out HI2.out)
  clear hb3 hb5 hbb ht ht2 hX1 hX2 hY1 hY2 HC hi hi2 hz hx hx2 hzW hy hok HP1 HP2 HB2
  go_upto_region 2 with fail
  rw [← hW5]
  clear hW5
  obtain ⟨⟨r1, r2⟩, -⟩ := FE.out W5 (Below.refl _ _)
  have q0 := r1.cell (i := 0) rfl
  have q1 := r1.cell (i := 1) rfl
  have q2 := r1.cell (i := 2) rfl
  have p0 := r2.cell (i := 0) rfl
  have p1 := r2.cell (i := 1) rfl
  have p2 := r2.cell (i := 2) rfl
  clear r1 r2
  go_wp2_with fail
  refine HSP.out.mono ?_
  rintro e w6 ⟨A3, c3, b3, rfl, ht3, hb6⟩
  obtain ⟨W7, hW7⟩ : ∃ V, V = w6.alloc (Obj.cells #[.int .i64 y.op, .int .i64 y.n, .slice A3 y.k.len c3] 25) := ⟨_, rfl⟩
  have hb7 : Below w6.heap.size w6 W7 := by rw [hW7]; exact (Below.refl _ _).alloc (Nat.le_refl _) _
  have RY := Lib.hid (show Row W7 w6.heap.size 25 #[.int .i64 y.op, .int .i64 y.n, .slice A3 y.k.len c3] by rw [hW7]; exact Row.fresh _ _ _)
  have hw6 : W5.heap.size ≤ w6.heap.size := hb6.size
  have HT3 := Lib.hid (show Tree W7 (w.heap.size + 2) (.slice A3 y.k.len c3) y.k b3 from (ht3.over hb7).lower (by omega))
  have HB7 := Lib.hid (hb6.trans (hb7.mono hb6.size))
  clear q0 q1 q2 p0 p1 p2 ht3 hb6 hb7 HSP
  go_upto_region 3 with fail
  rw [← hW7]
  clear hW7
  obtain ⟨⟨RE, RX⟩, hTE, hTX, -, ⟨RW1, RW2⟩, hBW⟩ := FE.out W7 HB7.out
  have HTE := Lib.hid (hTE.over (Below.refl W7.heap.size W7).drew)
  have HTX := Lib.hid (hTX.over (Below.refl W7.heap.size W7).drew)
  have HTY := Lib.hid (HT3.out.over (Below.refl W7.heap.size W7).drew)
  have HBW := Lib.hid hBW.drew
  clear hTE hTX hBW FE HT3 HB7
  cases ok with
  | false =>
    have RZ := RX
    clear RX
    have s0 : W7.drew.cell? ⟨w3.heap.size, 0, none⟩ = some (Value.int .i64 op) ∧ W7.drew.cell? ⟨w3.heap.size, 1, none⟩ = some (Value.int .i64 n) ∧ W7.drew.cell? ⟨w3.heap.size, 2, none⟩ = some (Value.slice X k.len cx) ∧ W7.drew.cell? ⟨w3.heap.size + 1, 0, none⟩ = some (Value.int .i64 op2) ∧ W7.drew.cell? ⟨w3.heap.size + 1, 1, none⟩ = some (Value.int .i64 n2) ∧ W7.drew.cell? ⟨w3.heap.size + 1, 2, none⟩ = some (Value.slice X2 k2.len cx2) := ⟨RE.cell (i := 0) rfl, RE.cell (i := 1) rfl, RE.cell (i := 2) rfl, RZ.cell (i := 0) rfl, RZ.cell (i := 1) rfl, RZ.cell (i := 2) rfl⟩
    have HRE := Lib.hid (RE.drew)
    have HRZ := Lib.hid (RZ.drew)
    have HW1 := Lib.hid (RW1.drew)
    have HW2 := Lib.hid (RW2.drew)
    have d0 := HW1.out.cell (i := 0) rfl
    have d1 := HW1.out.cell (i := 1) rfl
    have d2 := HW1.out.cell (i := 2) rfl
    have f0 := HW1.out.free 0
    have f1 := HW1.out.free 1
    have f2 := HW1.out.free 2
    clear RE RZ RW1 RW2
    go_wp2_with fail
    refine wp_region_held_drew (S := fun w' => w'.cell? ⟨w3.heap.size, 0, none⟩ = some (Value.int .i64 op) ∧ w'.cell? ⟨w3.heap.size, 1, none⟩ = some (Value.int .i64 n) ∧ w'.cell? ⟨w3.heap.size, 2, none⟩ = some (Value.slice X k.len cx) ∧ w'.cell? ⟨w3.heap.size + 1, 0, none⟩ = some (Value.int .i64 op2) ∧ w'.cell? ⟨w3.heap.size + 1, 1, none⟩ = some (Value.int .i64 n2) ∧ w'.cell? ⟨w3.heap.size + 1, 2, none⟩ = some (Value.slice X2 k2.len cx2)) (by kernel_rfl) s0 (fun hHeld => ?_)
    generalize W7.drew = we at *
    refine takeW 0 (v := ?vx1_0) rfl (by kernel_rfl) (fun _ _ _ h => h) (by rfl) (by assumption) ?yx1_0 ?rx1_0
    case yx1_0 => (intro w' hSw; (try dsimp only at hSw); go_simp; try with_reducible rfl)
    try simp only [Act.put, List.setIfInBounds_toArray, List.set_cons_zero, List.set_cons_succ, List.getElem_toArray, List.getElem_cons_zero]
    refine takeW 1 (v := ?vx1_1) rfl (by kernel_rfl) (fun _ _ _ h => h) (by rfl) (by assumption) ?yx1_1 ?rx1_1
    case yx1_1 => (intro w' hSw; (try dsimp only at hSw); go_simp; try with_reducible rfl)
    try simp only [Act.put, List.setIfInBounds_toArray, List.set_cons_zero, List.set_cons_succ, List.getElem_toArray, List.getElem_cons_succ, List.getElem_cons_zero]
    refine wpAnyH_ready (rs := [2]) (by kernel_rfl) (by simp) ?_
    refine AllReadyH.cons rfl (fun K hK => ?_) AllReadyH.nil
    go_simp
    have r8 := (((HW2.out.apart (p := ⟨w.heap.size, 0, none⟩) (by dsimp only; omega) (Value.int .i64 op)).apart (p := ⟨w.heap.size, 1, none⟩) (by dsimp only; omega) (Value.int .i64 n)).apart (p := ⟨w.heap.size, 2, none⟩) (by dsimp only; omega) (Value.slice X k.len cx))
    have re := (((HRE.out.apart (p := ⟨w.heap.size, 0, none⟩) (by dsimp only; omega) (Value.int .i64 op)).apart (p := ⟨w.heap.size, 1, none⟩) (by dsimp only; omega) (Value.int .i64 n)).apart (p := ⟨w.heap.size, 2, none⟩) (by dsimp only; omega) (Value.slice X k.len cx))
    have rz := (((HRZ.out.apart (p := ⟨w.heap.size, 0, none⟩) (by dsimp only; omega) (Value.int .i64 op)).apart (p := ⟨w.heap.size, 1, none⟩) (by dsimp only; omega) (Value.int .i64 n)).apart (p := ⟨w.heap.size, 2, none⟩) (by dsimp only; omega) (Value.slice X k.len cx))
    have g0 := r8.free 0
    have g1 := r8.free 1
    have g2 := r8.free 2
    have i0 := r8.cell (i := 0) rfl
    have i1 := r8.cell (i := 1) rfl
    have i2 := r8.cell (i := 2) rfl
    have sz := (show _ ∧ _ ∧ _ ∧ _ ∧ _ ∧ _ from ⟨re.cell (i := 0) rfl, re.cell (i := 1) rfl, re.cell (i := 2) rfl, rz.cell (i := 0) rfl, rz.cell (i := 1) rfl, rz.cell (i := 2) rfl⟩)
    have HR8 := Lib.hid r8
    have HRE2 := Lib.hid re
    have HRZ2 := Lib.hid rz
    clear r8 re rz
    refine hK.out _ _ (sz) (fun hHeldB1 => ?_)
    clear hK K
    try simp only [Act.put, List.setIfInBounds_toArray, List.set_cons_zero, List.set_cons_succ, List.getElem_toArray, List.getElem_cons_succ, List.getElem_cons_zero]
    refine wpAnyH_ready (rs := [3]) (by kernel_rfl) (by simp) ?_
    refine AllReadyH.cons rfl (fun K hK => ?_) AllReadyH.nil
    go_simp
    have re := (((HRE2.out.apart (p := ⟨w.heap.size + 1, 0, none⟩) (by dsimp only; omega) (Value.int .i64 op2)).apart (p := ⟨w.heap.size + 1, 1, none⟩) (by dsimp only; omega) (Value.int .i64 n2)).apart (p := ⟨w.heap.size + 1, 2, none⟩) (by dsimp only; omega) (Value.slice X2 k2.len cx2))
    have rz := (((HRZ2.out.apart (p := ⟨w.heap.size + 1, 0, none⟩) (by dsimp only; omega) (Value.int .i64 op2)).apart (p := ⟨w.heap.size + 1, 1, none⟩) (by dsimp only; omega) (Value.int .i64 n2)).apart (p := ⟨w.heap.size + 1, 2, none⟩) (by dsimp only; omega) (Value.slice X2 k2.len cx2))
    have sy := (show _ ∧ _ ∧ _ ∧ _ ∧ _ ∧ _ from ⟨re.cell (i := 0) rfl, re.cell (i := 1) rfl, re.cell (i := 2) rfl, rz.cell (i := 0) rfl, rz.cell (i := 1) rfl, rz.cell (i := 2) rfl⟩)
    refine hK.out _ _ (sy) (fun hHeldB2 => ?_)
    clear hK K
    try simp only [Act.put, List.setIfInBounds_toArray, List.set_cons_zero, List.set_cons_succ, List.getElem_toArray, List.getElem_cons_succ, List.getElem_cons_zero]
    refine wpAnyH_done (by kernel_rfl) ?_ _
    clear sz sy re rz
    go_wp2_with fail
    have r7 := (((HW1.out.put 0 (Value.int .i64 op)).put 1 (Value.int .i64 n)).put 2 (Value.slice X k.len cx))
    have r9 := (((r7.apart (p := ⟨w.heap.size + 1, 0, none⟩) (by dsimp only; omega) (Value.int .i64 op2)).apart (p := ⟨w.heap.size + 1, 1, none⟩) (by dsimp only; omega) (Value.int .i64 n2)).apart (p := ⟨w.heap.size + 1, 2, none⟩) (by dsimp only; omega) (Value.slice X2 k2.len cx2))
    have r6 := (((HR8.out.put 0 (Value.int .i64 op2)).put 1 (Value.int .i64 n2)).put 2 (Value.slice X2 k2.len cx2))
    have t0 := r9.cell (i := 0) rfl
    have t1 := r9.cell (i := 1) rfl
    have t2 := r9.cell (i := 2) rfl
    have t3 := r6.cell (i := 0) rfl
    have t4 := r6.cell (i := 1) rfl
    have t5 := r6.cell (i := 2) rfl
    refine bodyPost_ret (v := .tuple #[.agg #[.int .i64 op, .int .i64 n, .slice X k.len cx], .agg #[.int .i64 op2, .int .i64 n2, .slice X2 k2.len cx2]]) ?_ rfl (by exact two_end HTE.out HTX.out HI.out HI2.out hs hs2 HBW.out)
    simp [results, Try.f12, go_sem, t0, t1, t2, t3, t4, t5]
  | true =>
    have RZ := RY.out
    have HFY := Lib.hid (HFI.out rfl)
    clear RX HFI
    have s0 : W7.drew.cell? ⟨w3.heap.size, 0, none⟩ = some (Value.int .i64 op) ∧ W7.drew.cell? ⟨w3.heap.size, 1, none⟩ = some (Value.int .i64 n) ∧ W7.drew.cell? ⟨w3.heap.size, 2, none⟩ = some (Value.slice X k.len cx) ∧ W7.drew.cell? ⟨w6.heap.size, 0, none⟩ = some (Value.int .i64 y.op) ∧ W7.drew.cell? ⟨w6.heap.size, 1, none⟩ = some (Value.int .i64 y.n) ∧ W7.drew.cell? ⟨w6.heap.size, 2, none⟩ = some (Value.slice A3 y.k.len c3) := ⟨RE.cell (i := 0) rfl, RE.cell (i := 1) rfl, RE.cell (i := 2) rfl, RZ.cell (i := 0) rfl, RZ.cell (i := 1) rfl, RZ.cell (i := 2) rfl⟩
    have HRE := Lib.hid (RE.drew)
    have HRZ := Lib.hid (RZ.drew)
    have HW1 := Lib.hid (RW1.drew)
    have HW2 := Lib.hid (RW2.drew)
    have d0 := HW1.out.cell (i := 0) rfl
    have d1 := HW1.out.cell (i := 1) rfl
    have d2 := HW1.out.cell (i := 2) rfl
    have f0 := HW1.out.free 0
    have f1 := HW1.out.free 1
    have f2 := HW1.out.free 2
    clear RE RZ RW1 RW2
    go_wp2_with fail
    refine wp_region_held_drew (S := fun w' => w'.cell? ⟨w3.heap.size, 0, none⟩ = some (Value.int .i64 op) ∧ w'.cell? ⟨w3.heap.size, 1, none⟩ = some (Value.int .i64 n) ∧ w'.cell? ⟨w3.heap.size, 2, none⟩ = some (Value.slice X k.len cx) ∧ w'.cell? ⟨w6.heap.size, 0, none⟩ = some (Value.int .i64 y.op) ∧ w'.cell? ⟨w6.heap.size, 1, none⟩ = some (Value.int .i64 y.n) ∧ w'.cell? ⟨w6.heap.size, 2, none⟩ = some (Value.slice A3 y.k.len c3)) (by kernel_rfl) s0 (fun hHeld => ?_)
    generalize W7.drew = we at *
    refine takeW 0 (v := ?vx4_0) rfl (by kernel_rfl) (fun _ _ _ h => h) (by rfl) (by assumption) ?yx4_0 ?rx4_0
    case yx4_0 => (intro w' hSw; (try dsimp only at hSw); go_simp; try with_reducible rfl)
    try simp only [Act.put, List.setIfInBounds_toArray, List.set_cons_zero, List.set_cons_succ, List.getElem_toArray, List.getElem_cons_zero]
    refine takeW 1 (v := ?vx4_1) rfl (by kernel_rfl) (fun _ _ _ h => h) (by rfl) (by assumption) ?yx4_1 ?rx4_1
    case yx4_1 => (intro w' hSw; (try dsimp only at hSw); go_simp; try with_reducible rfl)
    try simp only [Act.put, List.setIfInBounds_toArray, List.set_cons_zero, List.set_cons_succ, List.getElem_toArray, List.getElem_cons_succ, List.getElem_cons_zero]
    refine wpAnyH_ready (rs := [2]) (by kernel_rfl) (by simp) ?_
    refine AllReadyH.cons rfl (fun K hK => ?_) AllReadyH.nil
    go_simp
    have r8 := (((HW2.out.apart (p := ⟨w.heap.size, 0, none⟩) (by dsimp only; omega) (Value.int .i64 op)).apart (p := ⟨w.heap.size, 1, none⟩) (by dsimp only; omega) (Value.int .i64 n)).apart (p := ⟨w.heap.size, 2, none⟩) (by dsimp only; omega) (Value.slice X k.len cx))
    have re := (((HRE.out.apart (p := ⟨w.heap.size, 0, none⟩) (by dsimp only; omega) (Value.int .i64 op)).apart (p := ⟨w.heap.size, 1, none⟩) (by dsimp only; omega) (Value.int .i64 n)).apart (p := ⟨w.heap.size, 2, none⟩) (by dsimp only; omega) (Value.slice X k.len cx))
    have rz := (((HRZ.out.apart (p := ⟨w.heap.size, 0, none⟩) (by dsimp only; omega) (Value.int .i64 op)).apart (p := ⟨w.heap.size, 1, none⟩) (by dsimp only; omega) (Value.int .i64 n)).apart (p := ⟨w.heap.size, 2, none⟩) (by dsimp only; omega) (Value.slice X k.len cx))
    have g0 := r8.free 0
    have g1 := r8.free 1
    have g2 := r8.free 2
    have i0 := r8.cell (i := 0) rfl
    have i1 := r8.cell (i := 1) rfl
    have i2 := r8.cell (i := 2) rfl
    have sz := (show _ ∧ _ ∧ _ ∧ _ ∧ _ ∧ _ from ⟨re.cell (i := 0) rfl, re.cell (i := 1) rfl, re.cell (i := 2) rfl, rz.cell (i := 0) rfl, rz.cell (i := 1) rfl, rz.cell (i := 2) rfl⟩)
    have HR8 := Lib.hid r8
    have HRE2 := Lib.hid re
    have HRZ2 := Lib.hid rz
    clear r8 re rz
    refine hK.out _ _ (sz) (fun hHeldB1 => ?_)
    clear hK K
    try simp only [Act.put, List.setIfInBounds_toArray, List.set_cons_zero, List.set_cons_succ, List.getElem_toArray, List.getElem_cons_succ, List.getElem_cons_zero]
    refine wpAnyH_ready (rs := [3]) (by kernel_rfl) (by simp) ?_
    refine AllReadyH.cons rfl (fun K hK => ?_) AllReadyH.nil
    go_simp
    have re := (((HRE2.out.apart (p := ⟨w.heap.size + 1, 0, none⟩) (by dsimp only; omega) (Value.int .i64 y.op)).apart (p := ⟨w.heap.size + 1, 1, none⟩) (by dsimp only; omega) (Value.int .i64 y.n)).apart (p := ⟨w.heap.size + 1, 2, none⟩) (by dsimp only; omega) (Value.slice A3 y.k.len c3))
    have rz := (((HRZ2.out.apart (p := ⟨w.heap.size + 1, 0, none⟩) (by dsimp only; omega) (Value.int .i64 y.op)).apart (p := ⟨w.heap.size + 1, 1, none⟩) (by dsimp only; omega) (Value.int .i64 y.n)).apart (p := ⟨w.heap.size + 1, 2, none⟩) (by dsimp only; omega) (Value.slice A3 y.k.len c3))
    have sy := (show _ ∧ _ ∧ _ ∧ _ ∧ _ ∧ _ from ⟨re.cell (i := 0) rfl, re.cell (i := 1) rfl, re.cell (i := 2) rfl, rz.cell (i := 0) rfl, rz.cell (i := 1) rfl, rz.cell (i := 2) rfl⟩)
    refine hK.out _ _ (sy) (fun hHeldB2 => ?_)
    clear hK K
    try simp only [Act.put, List.setIfInBounds_toArray, List.set_cons_zero, List.set_cons_succ, List.getElem_toArray, List.getElem_cons_succ, List.getElem_cons_zero]
    refine wpAnyH_done (by kernel_rfl) ?_ _
    clear sz sy re rz
    go_wp2_with fail
    have r7 := (((HW1.out.put 0 (Value.int .i64 op)).put 1 (Value.int .i64 n)).put 2 (Value.slice X k.len cx))
    have r9 := (((r7.apart (p := ⟨w.heap.size + 1, 0, none⟩) (by dsimp only; omega) (Value.int .i64 y.op)).apart (p := ⟨w.heap.size + 1, 1, none⟩) (by dsimp only; omega) (Value.int .i64 y.n)).apart (p := ⟨w.heap.size + 1, 2, none⟩) (by dsimp only; omega) (Value.slice A3 y.k.len c3))
    have r6 := (((HR8.out.put 0 (Value.int .i64 y.op)).put 1 (Value.int .i64 y.n)).put 2 (Value.slice A3 y.k.len c3))
    have t0 := r9.cell (i := 0) rfl
    have t1 := r9.cell (i := 1) rfl
    have t2 := r9.cell (i := 2) rfl
    have t3 := r6.cell (i := 0) rfl
    have t4 := r6.cell (i := 1) rfl
    have t5 := r6.cell (i := 2) rfl
    refine bodyPost_ret (v := .tuple #[.agg #[.int .i64 op, .int .i64 n, .slice X k.len cx], .agg #[.int .i64 y.op, .int .i64 y.n, .slice A3 y.k.len c3]]) ?_ rfl (by exact two_end HTE.out HTY.out HI.out HFY.out.1 hs HFY.out.2 HBW.out)
    simp [results, Try.f12, go_sem, t0, t1, t2, t3, t4, t5]

set_option maxHeartbeats 4000000 in
theorem drawDiff_any (A : Option Addr) (bc0 : Nat) (bs : List Nat) (w : World) (hB : LiesY w 0 w.heap.size A bs) (hl : bs.length ≤ bc0) (hc : bc0 ≤ maxLen) :
    Calls Try.prog 4 #[.slice A bs.length bc0] w (Two9Post w) := by
  obtain ⟨W2, hW2⟩ : ∃ W2, W2 = (w.alloc (Obj.cells #[.int .i64 0, .int .i64 0, .slice none 0 0] 25)).alloc (Obj.cells #[.int .i64 0, .int .i64 0, .slice none 0 0] 25) := ⟨_, rfl⟩
  have hb2 : Below w.heap.size w W2 := by rw [hW2]; exact ((Below.refl _ _).alloc (Nat.le_refl _) _).alloc (by simp) _
  have hx1 : Row W2 w.heap.size 25 #[.int .i64 0, .int .i64 0, .slice none 0 0] := by rw [hW2]; exact (Row.fresh _ _ _).alloc _
  have hx2 : Row W2 (w.heap.size + 1) 25 #[.int .i64 0, .int .i64 0, .slice none 0 0] := by
    rw [hW2]
    have := Row.fresh (w.alloc (Obj.cells #[.int .i64 0, .int .i64 0, .slice none 0 0] 25)) 25 #[.int .i64 0, .int .i64 0, .slice none 0 0]
    rw [World.size_alloc] at this
    exact this
  have hY2 : LiesY W2 0 W2.heap.size A bs := (hB.below hb2).keep (Nat.le_refl _) hb2.size fun _ _ _ => rfl
  have HC := Lib.hid (l9Two_any A bc0 bs W2 hY2 hl hc)
  have HP1 := Lib.hid hx1
  have HP2 := Lib.hid hx2
  have HB2 := Lib.hid hb2
  have HWG2 := Lib.hid (show w.heap.size + 2 ≤ W2.heap.size from hx2.size)
  clear hb2 hx1 hx2 hB hY2
  go_enter Try.func4, Try.ntmps4
  go_upto_region 1 with fail
  rw [← hW2]
  clear hW2
  go_wp2_with fail
  refine HC.out.mono ?_
  rintro e w3 ⟨op, n, k, X, cx, op2, n2, k2, X2, cx2, rfl, ⟨bl, hi, ht, hs⟩, ⟨bl2, hi2, ht2, hs2⟩, hb3⟩
  have r1 := HP1.out.below hb3 HP1.out.size
  have r2 := HP2.out.below hb3 HP2.out.size
  have hz : w.heap.size + 2 ≤ w3.heap.size := Nat.le_trans HWG2.out hb3.size
  have r8 := (((r2.apart (p := ⟨w.heap.size, 0, none⟩) (by dsimp only; omega) (Value.int .i64 op)).apart (p := ⟨w.heap.size, 1, none⟩) (by dsimp only; omega) (Value.int .i64 n)).apart (p := ⟨w.heap.size, 2, none⟩) (by dsimp only; omega) (Value.slice X k.len cx))
  have d0 := r1.cell (i := 0) rfl
  have d1 := r1.cell (i := 1) rfl
  have d2 := r1.cell (i := 2) rfl
  have f0 := r1.free 0
  have f1 := r1.free 1
  have f2 := r1.free 2
  have g0 := r8.free 0
  have g1 := r8.free 1
  have g2 := r8.free 2
  have i0 := r8.cell (i := 0) rfl
  have i1 := r8.cell (i := 1) rfl
  have i2 := r8.cell (i := 2) rfl
  have HEND := Lib.hid (two_end (ht.lower HWG2.out) (ht2.lower HWG2.out) hi hi2 hs hs2 (HB2.out.trans (hb3.mono HB2.out.size)))
  have HR1 := Lib.hid r1
  have HR8 := Lib.hid r8
  clear ht ht2 hi hi2 hb3 r1 r2 r8 HC HP1 HP2 HB2
  go_wp2_with fail
  have r7 := (((HR1.out.put 0 (Value.int .i64 op)).put 1 (Value.int .i64 n)).put 2 (Value.slice X k.len cx))
  have r9 := (((r7.apart (p := ⟨w.heap.size + 1, 0, none⟩) (by dsimp only; omega) (Value.int .i64 op2)).apart (p := ⟨w.heap.size + 1, 1, none⟩) (by dsimp only; omega) (Value.int .i64 n2)).apart (p := ⟨w.heap.size + 1, 2, none⟩) (by dsimp only; omega) (Value.slice X2 k2.len cx2))
  have r6 := (((HR8.out.put 0 (Value.int .i64 op2)).put 1 (Value.int .i64 n2)).put 2 (Value.slice X2 k2.len cx2))
  have t0 := r9.cell (i := 0) rfl
  have t1 := r9.cell (i := 1) rfl
  have t2 := r9.cell (i := 2) rfl
  have t3 := r6.cell (i := 0) rfl
  have t4 := r6.cell (i := 1) rfl
  have t5 := r6.cell (i := 2) rfl
  refine bodyPost_ret (v := .tuple #[.agg #[.int .i64 op, .int .i64 n, .slice X k.len cx], .agg #[.int .i64 op2, .int .i64 n2, .slice X2 k2.len cx2]]) ?_ rfl (by exact HEND.out)
  simp [results, Try.f4, go_sem, t0, t1, t2, t3, t4, t5]
end Go.Proofs.Ytdpiklnadhpjjaa

namespace Go.Proofs.Ytdpiklnadhpjjaa
open Go.RowKit Go.Shelf
set_option maxRecDepth 100000

theorem part_i64 {w : World} {L B : Nat} : ∀ (zs : List Int) (p : Nd) (A : Option Addr) {q : Nd}, Lies w L B A 0 p.k → (I64 p.op ∧ I64 p.n) → partN p zs = some q → I64 q.op ∧ I64 q.n
  | [], p, _, q, _, h, e => by simp only [partN, Option.some.injEq] at e; rw [← e]; exact h
  | i :: r, p, A, q, hl, h, e => by
    by_cases h0 : 0 ≤ i
    · by_cases h1 : i.toNat < p.k.len
      · obtain ⟨o, m, k, e1, _, _⟩ := Fo.drop_of_lt p.k i.toNat h1
        rw [partN_in h0 e1] at e
        have ha := Lies.at_ i.toNat hl
        rw [e1] at ha
        obtain ⟨⟨b, o2, A', c', hA, hL, hB, x1, x2, x3, x4, x5, x6, x7, x8⟩, _⟩ := ha
        exact part_i64 r ⟨o, m, k⟩ A' x8 ⟨x1, x2⟩ e
      · rw [partN_out (by omega)] at e; cases e
    · rw [partN_neg (by omega)] at e; cases e

theorem part_step {p q : Nd} {i : Int} {r : List Int} (e : partN p (i :: r) = some q) : ∃ p1, partN p [i] = some p1 ∧ partN p1 r = some q := by
  by_cases h0 : 0 ≤ i
  · by_cases h1 : i.toNat < p.k.len
    · obtain ⟨o, m, k, e1, _, _⟩ := Fo.drop_of_lt p.k i.toNat h1
      rw [partN_in h0 e1] at e
      exact ⟨⟨o, m, k⟩, by rw [partN_in h0 e1]; rfl, e⟩
    · rw [partN_out (by omega)] at e; cases e
  · rw [partN_neg (by omega)] at e; cases e

/-- The node y has been laid into a variable behind the world V. -/
def Laid (V : World) (y : Nd) (p : Value) (wd : World) : Prop :=
  ∃ g A c, p = .pointer (some ⟨g, 0, none⟩) ∧ Row wd g 25 #[.int .i64 y.op, .int .i64 y.n, .slice A y.k.len c] ∧ V.heap.size ≤ g ∧ Held wd wd.heap.size A y.k ∧ y.k.len ≤ c ∧ c ≤ maxLen ∧ Below V.heap.size V wd

theorem laid_set {V v0 vd : World} {y : Nd} {A5 : Option Addr} {c5 : Nat} {b5 : List Nat} (hbp : Below V.heap.size V v0) (hr : Row v0 V.heap.size 25 #[Value.int .i64 0, Value.int .i64 0, Value.slice none 0 0]) (ht : Tree vd v0.heap.size (.slice A5 y.k.len c5) y.k b5) (hb : Below v0.heap.size v0 vd) :
    Laid V y (.pointer (some ⟨V.heap.size, 0, none⟩)) (((vd.setCell ⟨V.heap.size, 0, none⟩ (.int .i64 y.op)).setCell ⟨V.heap.size, 1, none⟩ (.int .i64 y.n)).setCell ⟨V.heap.size, 2, none⟩ (.slice A5 y.k.len c5)) := by
  have r5 := hr.below hb hr.size
  obtain ⟨_, _, hX, hk1, hk2⟩ := ht.slice
  injection hX with _ _ hX3
  subst hX3
  have hbd := hbp.trans (hb.mono hbp.size)
  have hs := hr.size
  have ht6 : Tree (((vd.setCell ⟨V.heap.size, 0, none⟩ (.int .i64 y.op)).setCell ⟨V.heap.size, 1, none⟩ (.int .i64 y.n)).setCell ⟨V.heap.size, 2, none⟩ (.slice A5 y.k.len c5)) v0.heap.size (.slice A5 y.k.len c5) y.k b5 := ht.keep fun z hz => by
    have hz1 := (ht.lt z hz).1
    have hz2 : z ≠ V.heap.size := by omega
    rw [Below.heap_setCell _ _ _ z hz2, Below.heap_setCell _ _ _ z hz2, Below.heap_setCell _ _ _ z hz2]
  exact ⟨V.heap.size, A5, c5, rfl, ((r5.put 0 _).put 1 _).put 2 _, Nat.le_refl _, ht6.held, hk1, hk2, ((hbd.setCell (p := ⟨V.heap.size, 0, none⟩) (Nat.le_refl _) (.int .i64 y.op)).setCell (p := ⟨V.heap.size, 1, none⟩) (Nat.le_refl _) (.int .i64 y.n)).setCell (p := ⟨V.heap.size, 2, none⟩) (Nat.le_refl _) (.slice A5 y.k.len c5)⟩
theorem laid_new {V v0 vd : World} {y : Nd} {A5 : Option Addr} {c5 : Nat} {b5 : List Nat} (hbp : Below V.heap.size V v0) (ht : Tree vd v0.heap.size (.slice A5 y.k.len c5) y.k b5) (hb : Below v0.heap.size v0 vd) :
    Laid V y (.pointer (some ⟨vd.heap.size, 0, none⟩)) (vd.alloc (Obj.cells #[Value.int .i64 y.op, Value.int .i64 y.n, Value.slice A5 y.k.len c5] 25)) := by
  obtain ⟨_, _, hX, hk1, hk2⟩ := ht.slice
  injection hX with _ _ hX3
  subst hX3
  have hbd := hbp.trans (hb.mono hbp.size)
  exact ⟨vd.heap.size, A5, c5, rfl, Row.fresh _ _ _, hbd.size, ht.held.up ((Below.refl _ _).alloc (Nat.le_refl _) _), hk1, hk2, hbd.alloc hbd.size _⟩

theorem own_len {w : World} {base n l c : Nat} {e : TypeId} {A : Option Addr} {xs : List Value} (h : w.ownsRow base e 1 (.slice A l c) n xs) : n ≤ c ∧ c ≤ maxLen := by
  rcases h.2 with ⟨hv, h0⟩ | ⟨g, cap, cur, hv, _, _, h4, h5, _⟩
  · injection hv with _ _ e3
    subst e3
    exact ⟨by omega, Nat.zero_le _⟩
  · injection hv with _ _ e3
    subst e3
    exact ⟨h4, h5⟩
/-- Where each path of a list of the call's own lies, with its capacity. -/
theorem own_caps {w : World} {base : Nat} {A : Option Addr} {l c : Nat} {zss : List (List Int)} {bs : List Nat} (h : OwnSS w base (.slice A l c) zss bs) (i : Nat) (zs : List Int) (hi : zss[i]? = some zs) :
    ∃ b o A' c', A = some ⟨b, o, none⟩ ∧ b < w.heap.size ∧ w.cell? ⟨b, o + i, none⟩ = some (.slice A' zs.length c') ∧ LiesI w 0 w.heap.size A' zs ∧ zs.length ≤ c' ∧ c' ≤ maxLen := by
  obtain ⟨st, b1, h0, h1, h2, rfl, h4⟩ := h
  rw [← h0, List.getElem?_map] at hi
  cases hs : st[i]? with
  | none => rw [hs] at hi; cases hi
  | some x =>
    rw [hs] at hi
    simp only [Option.map_some, Option.some.injEq] at hi
    subst hi
    obtain ⟨g1, g2, _⟩ := h2.at_ hs
    obtain ⟨A', c', hv, hl⟩ := own_ints g1 g2
    have hlen := own_len g1
    injection hv with e1 _ e3
    have hcell : (st.map Hd.val)[i]? = some x.val := by rw [List.getElem?_map, hs]; rfl
    rcases h1.2 with ⟨_, hn⟩ | ⟨g, cap, cur, hv2, hq, hh, _⟩
    · have h5 : (st.map Hd.val).length = 0 := by rw [h1.1, hn]
      have h6 := (List.getElem?_eq_some_iff.1 hcell).1
      omega
    · injection hv2 with e4
      subst e4
      have hc := h1.cells (g := g) rfl i _ hcell
      rw [add_plainP, Nat.zero_add] at hc
      exact ⟨g, 0, x.A, x.c, rfl, (Array.getElem?_eq_some_iff.1 hh).1, by rw [Nat.zero_add]; exact hc, by rw [e1]; exact hl.mono_ (Nat.zero_le _) (Nat.le_refl _), hlen.1, hlen.2⟩
theorem lies_take {w : World} {L B : Nat} {A : Option Addr} {zs : List Int} (h : LiesI w L B A zs) (n : Nat) : LiesI w L B A (zs.take n) := fun i x hx => h i x (by
  rw [List.getElem?_take] at hx
  split at hx
  · exact hx
  · cases hx)

set_option maxHeartbeats 4000000 in
theorem law_NDiffPaths (bs : List Nat) (A : Option Addr) (c : Nat) (w : World) (hl : LiesY w 0 w.heap.size A bs) (hlc : bs.length ≤ c) (hc : c ≤ maxLen) :
    Calls Try.prog 3 #[.slice A bs.length c] w (Gives (.bool true) w) := by
  have HC := Lib.hid (drawDiff_any A c bs w hl hlc hc)
  unfold maxLen at hc
  by_cases hsz : bs.length ≤ 1048576
  rotate_left
  · have hgt : 1048576 < bs.length := by omega
    clear hl
    go_enter Try.func3, Try.ntmps3
    go_wp2_with fail
    go_ret
    exact ⟨rfl, Below.refl _ _⟩
  clear hl
  go_enter Try.func3, Try.ntmps3
  go_wp2_with fail
  refine HC.out.mono ?_
  rintro e w1 ⟨op, n, k, X, cx, op2, n2, k2, X2, cx2, rfl, ⟨bl, hi, ht, hs⟩, ⟨bl2, hi2, ht2, hs2⟩, hb⟩
  obtain ⟨_, _, hX, me1, me2⟩ := ht.slice
  injection hX with hX1 hX2 hX3
  subst hX3
  obtain ⟨_, _, hY, mx1, mx2⟩ := ht2.slice
  injection hY with hY1 hY2 hY3
  subst hY3
  obtain ⟨W, hW⟩ : ∃ W, W = (w1.alloc (Obj.cells #[.int .i64 op, .int .i64 n, .slice X k.len cx] 25)).alloc (Obj.cells #[.int .i64 op2, .int .i64 n2, .slice X2 k2.len cx2] 25) := ⟨_, rfl⟩
  have hbW : Below w1.heap.size w1 W := by rw [hW]; exact ((Below.refl _ _).alloc (Nat.le_refl _) _).alloc (by simp) _
  have hx : Row W w1.heap.size 25 #[.int .i64 op, .int .i64 n, .slice X k.len cx] := by rw [hW]; exact (Row.fresh _ _ _).alloc _
  have hx2 : Row W (w1.heap.size + 1) 25 #[.int .i64 op2, .int .i64 n2, .slice X2 k2.len cx2] := by
    rw [hW]
    have := Row.fresh (w1.alloc (Obj.cells #[.int .i64 op, .int .i64 n, .slice X k.len cx] 25)) 25 #[.int .i64 op2, .int .i64 n2, .slice X2 k2.len cx2]
    rw [World.size_alloc] at this
    exact this
  have FE := Lib.hid (show ∀ U, Below W.heap.size W U → (U.cell? ⟨w1.heap.size, 0, none⟩ = some (Value.int .i64 op) ∧ U.cell? ⟨w1.heap.size, 1, none⟩ = some (Value.int .i64 n) ∧ U.cell? ⟨w1.heap.size, 2, none⟩ = some (Value.slice X k.len cx) ∧ U.cell? ⟨(w1.heap.size + 1), 0, none⟩ = some (Value.int .i64 op2) ∧ U.cell? ⟨(w1.heap.size + 1), 1, none⟩ = some (Value.int .i64 n2) ∧ U.cell? ⟨(w1.heap.size + 1), 2, none⟩ = some (Value.slice X2 k2.len cx2)) ∧ Held U U.heap.size X k ∧ Held U U.heap.size X2 k2 ∧ Below w.heap.size w U from fun U hU => by
    have h1 := hx.below hU hx.size
    have h2 := hx2.below hU hx2.size
    exact ⟨⟨h1.cell rfl, h1.cell rfl, h1.cell rfl, h2.cell rfl, h2.cell rfl, h2.cell rfl⟩, (ht.held.up hbW).up hU, (ht2.held.up hbW).up hU, (hb.trans (hbW.mono hb.size)).trans (hU.mono (hb.trans (hbW.mono hb.size)).size)⟩)
  have HI := Lib.hid hi
  have HI2 := Lib.hid hi2
  obtain ⟨zss, hzss⟩ : ∃ z, z = diffB ⟨op, n, k⟩ ⟨op2, n2, k2⟩ := ⟨_, rfl⟩
  have HZ9 := Lib.hid (show ∀ zs, zs ∈ zss → zs.length ≤ 1048576 by rw [hzss]; exact fun zs h => Nat.le_trans (diffB_in h) (by decide))
  have hzl : zss.length ≤ 81 := by rw [hzss]; exact diffB_len _ _
  have HZS := Lib.hid hzss
  have HM := Lib.hid (show ∀ U, Below W.heap.size W U → Calls Try.prog 5 #[.agg #[.int .i64 op, .int .i64 n, .slice X k.len cx], .agg #[.int .i64 op2, .int .i64 n2, .slice X2 k2.len cx2]] U (PathsPost zss U) from fun U hU => by
    obtain ⟨-, h1, h2, -⟩ := FE.out U hU
    rw [HZS.out]
    exact implDiffs_any op n op2 n2 k k2 X X2 cx cx2 U h1.1 h2.1 (Nat.le_trans me1 me2) (Nat.le_trans mx1 mx2))
  have HS := Lib.hid (show ∀ U, Below W.heap.size W U → Calls Try.prog 7 #[.agg #[.int .i64 op, .int .i64 n, .slice X k.len cx], .agg #[.int .i64 op2, .int .i64 n2, .slice X2 k2.len cx2]] U (PathsPost zss U) from fun U hU => by
    obtain ⟨-, h1, h2, -⟩ := FE.out U hU
    rw [HZS.out]
    exact specDiffs_any op n op2 n2 k k2 X X2 cx cx2 U h1.1 h2.1 (Nat.le_trans me1 me2) (Nat.le_trans mx1 mx2))
  obtain ⟨S1, hS1, hd1a, hd1b⟩ := fmt_empty op n k
  obtain ⟨S2, hS2, hd2a, hd2b⟩ := fmt_empty op2 n2 k2
  have HF1 := Lib.hid (show ∀ U, Below W.heap.size W U → Calls Try.prog 8 #[.agg #[.int .i64 op, .int .i64 n, .slice X k.len cx]] U (Gives (.string S1) U) from fun U hU => by
    obtain ⟨-, h1, -⟩ := FE.out U hU
    have h := implFmt_t op n k X cx U h1.1 (Nat.le_trans me1 me2)
    rw [hS1] at h
    exact h)
  have HF2 := Lib.hid (show ∀ U, Below W.heap.size W U → Calls Try.prog 8 #[.agg #[.int .i64 op2, .int .i64 n2, .slice X2 k2.len cx2]] U (Gives (.string S2) U) from fun U hU => by
    obtain ⟨-, -, h1, -⟩ := FE.out U hU
    have h := implFmt_t op2 n2 k2 X2 cx2 U h1.1 (Nat.le_trans mx1 mx2)
    rw [hS2] at h
    exact h)
  have HSA := Lib.hid (show ∀ U, Below W.heap.size W U → Calls Try.prog 10 #[.agg #[.int .i64 op, .int .i64 n, .slice X k.len cx], .agg #[.int .i64 op2, .int .i64 n2, .slice X2 k2.len cx2]] U (Gives (.bool (sameN op n k op2 n2 k2)) U) from fun U hU => by
    obtain ⟨-, g1, g2, -⟩ := FE.out U hU
    exact implSame_r op n op2 n2 k k2 X X2 cx cx2 U g1.1 g2.1 0 U.heap.size g1.1 (Nat.le_refl _) g1.rows me1 me2 mx1 mx2 (by omega))
  have HP1 := Lib.hid (show ∀ U, Below W.heap.size W U → ∀ (zs : List Int) (A9 : Option Addr) (c9 : Nat) (x : Nd), LiesI U 0 U.heap.size A9 zs → zs.length ≤ 1048576 → partN ⟨op, n, k⟩ zs = some x → Calls Try.prog 9 #[.agg #[.int .i64 op, .int .i64 n, .slice X k.len cx], .slice A9 zs.length c9] U (GivesN x true U) from fun U hU zs A9 c9 x hz hzl hp => by
    obtain ⟨-, g1, -⟩ := FE.out U hU
    have h := implPart_r op n k X cx zs A9 c9 0 U.heap.size U g1.1 (Nat.le_refl _) g1.rows me1 me2 hz hzl (by omega) HI.out
    rw [hp] at h
    exact h)
  have HP2 := Lib.hid (show ∀ U, Below W.heap.size W U → ∀ (zs : List Int) (A9 : Option Addr) (c9 : Nat) (x : Nd), LiesI U 0 U.heap.size A9 zs → zs.length ≤ 1048576 → partN ⟨op2, n2, k2⟩ zs = some x → Calls Try.prog 9 #[.agg #[.int .i64 op2, .int .i64 n2, .slice X2 k2.len cx2], .slice A9 zs.length c9] U (GivesN x true U) from fun U hU zs A9 c9 x hz hzl hp => by
    obtain ⟨-, -, g1, -⟩ := FE.out U hU
    have h := implPart_r op2 n2 k2 X2 cx2 zs A9 c9 0 U.heap.size U g1.1 (Nat.le_refl _) g1.rows mx1 mx2 hz hzl (by omega) HI2.out
    rw [hp] at h
    exact h)
  have hks : k.size ≤ 1048576 := by omega
  clear hb hbW ht ht2 hX1 hX2 hY1 hY2 HC hi hi2 hx hx2 hzss hS1 hS2
  go_upto_region 4 with fail
  rw [← hW]
  clear hW
  obtain ⟨⟨q0, q1, q2, p0, p1, p2⟩, -⟩ := FE.out W (Below.refl _ _)
  go_wp2_with fail
  refine (HM.out W (Below.refl _ _)).mono ?_
  rintro e w2 ⟨AL, cl, bsl, rfl, hol, hb2⟩
  have B2 := Lib.hid hb2
  have HLL := Lib.hid (show ∀ U, Below w2.heap.size w2 U → LiesSS U 0 U.heap.size AL zss from fun U hU => hol.lies0.up hU)
  have HCAP := Lib.hid (own_caps hol)
  have BR := Lib.hid (Below.refl w2.heap.size w2)
  clear hb2 hol HM q0 q1 q2 p0 p1 p2
  obtain ⟨⟨q0, q1, q2, p0, p1, p2⟩, -⟩ := FE.out w2 (B2.out.trans (BR.out.mono B2.out.size))
  go_wp2_with fail
  refine (HS.out w2 (B2.out.trans (BR.out.mono B2.out.size))).mono ?_
  rintro e w3 ⟨As, cs, bss, rfl, hos, hb⟩
  have B3 := Lib.hid (BR.out.trans (hb.mono BR.out.size))
  have HLS := Lib.hid (hos.lies0)
  clear hb hos q0 q1 q2 p0 p1 p2
  go_wp2_with fail
  refine (amPaths_any zss AL As cl cs w3 (HLL.out w3 B3.out) HLS.out (by omega) HZ9.out).mono ?_
  rintro e w4 ⟨rfl, hb⟩
  have B4 := Lib.hid (B3.out.trans (hb.mono B3.out.size))
  clear hb HLS
  obtain ⟨⟨q0, q1, q2, p0, p1, p2⟩, -⟩ := FE.out w4 (B2.out.trans (B4.out.mono B2.out.size))
  go_wp2_with fail
  refine (HF1.out w4 (B2.out.trans (B4.out.mono B2.out.size))).mono ?_
  rintro e w5 ⟨rfl, hb⟩
  have B5 := Lib.hid (B4.out.trans (hb.mono B4.out.size))
  clear hb q0 q1 q2 p0 p1 p2 HF1
  cases hn1 : nodeIs op n k (firstS 8) with
  | false =>
    have hd1 : S1 = ⟨#[]⟩ := hd1a hn1
    clear hd1a hd1b hd2a hd2b hn1
    subst hd1
    obtain ⟨⟨q0, q1, q2, p0, p1, p2⟩, -⟩ := FE.out w5 (B2.out.trans (B5.out.mono B2.out.size))
    go_wp2_with fail
    refine (HS.out w5 (B2.out.trans (B5.out.mono B2.out.size))).mono ?_
    rintro e wa ⟨As, cs, bss, rfl, hos, hb⟩
    have BA := Lib.hid (B5.out.trans (hb.mono B5.out.size))
    have HLS := Lib.hid (hos.lies0)
    clear hb hos q0 q1 q2 p0 p1 p2
    go_wp2_with fail
    refine (amPaths_any zss AL As cl cs wa (HLL.out wa BA.out) HLS.out (by omega) HZ9.out).mono ?_
    rintro e wb ⟨rfl, hb⟩
    have BB := Lib.hid (BA.out.trans (hb.mono BA.out.size))
    clear hb HLS
    have HBW := Lib.hid (FE.out wb (B2.out.trans (BB.out.mono B2.out.size))).2.2.2
    go_wp2_with fail
    go_ret
    exact ⟨by simp, HBW.out⟩
  | true =>
    have hd1x : ¬ S1.toList = [] := hd1b hn1
    have hd1y : (S1.toList == ([] : List UInt8)) = false := by simpa using hd1x
    obtain ⟨⟨q0, q1, q2, p0, p1, p2⟩, -⟩ := FE.out w5 (B2.out.trans (B5.out.mono B2.out.size))
    go_wp2_with fail
    refine (HF2.out w5 (B2.out.trans (B5.out.mono B2.out.size))).mono ?_
    rintro e w6 ⟨rfl, hb⟩
    have B6 := Lib.hid (B5.out.trans (hb.mono B5.out.size))
    clear hb q0 q1 q2 p0 p1 p2 HF2
    cases hn2 : nodeIs op2 n2 k2 (firstS 8) with
    | false =>
      have hd2 : S2 = ⟨#[]⟩ := hd2a hn2
      clear hd1a hd1b hd2a hd2b hn1 hn2
      subst hd2
      obtain ⟨⟨q0, q1, q2, p0, p1, p2⟩, -⟩ := FE.out w6 (B2.out.trans (B6.out.mono B2.out.size))
      go_wp2_with fail
      refine (HS.out w6 (B2.out.trans (B6.out.mono B2.out.size))).mono ?_
      rintro e wa ⟨As, cs, bss, rfl, hos, hb⟩
      have BA := Lib.hid (B6.out.trans (hb.mono B6.out.size))
      have HLS := Lib.hid (hos.lies0)
      clear hb hos q0 q1 q2 p0 p1 p2
      go_wp2_with fail
      refine (amPaths_any zss AL As cl cs wa (HLL.out wa BA.out) HLS.out (by omega) HZ9.out).mono ?_
      rintro e wb ⟨rfl, hb⟩
      have BB := Lib.hid (BA.out.trans (hb.mono BA.out.size))
      clear hb HLS
      have HBW := Lib.hid (FE.out wb (B2.out.trans (BB.out.mono B2.out.size))).2.2.2
      go_wp2_with fail
      go_ret
      exact ⟨by simp, HBW.out⟩
    | true =>
      have hd2x : ¬ S2.toList = [] := hd2b hn2
      have hd2y : (S2.toList == ([] : List UInt8)) = false := by simpa using hd2x
      have hze : zss = diffP ⟨op, n, k⟩ ⟨op2, n2, k2⟩ := by rw [HZS.out]; simp [diffB, ndIs, hn1, hn2]
      have HDF := Lib.hid (show ∀ zs, zs ∈ zss → Differ ⟨op, n, k⟩ ⟨op2, n2, k2⟩ zs from fun zs h => diffP_parts (hze ▸ h))
      have HAP := Lib.hid (show zss.Pairwise Apart by rw [hze]; exact diffP_apart _ _)
      have HNO := Lib.hid (show decide (zss.length = 0) = sameN op n k op2 n2 k2 by rw [hze]; exact diffP_none ⟨op, n, k⟩ ⟨op2, n2, k2⟩)
      clear hd1a hd1b hd2a hd2b hn1 hn2 hze HZS HS
      go_wp2_with fail
      go_loopw [6] (fun i wr => ∃ (j : Nat), j ≤ zss.length ∧ i = .int .i64 (j : Int) ∧ Below w2.heap.size w2 wr)
        (fun i _ => zss.length - (intOf i).toNat)
      case atStart => exact ⟨0, Nat.zero_le _, rfl, B6.out⟩
      case round =>
        clear B6 BR B4 B3 B5
        obtain ⟨wo, hwo⟩ : ∃ wo, wo = wr := ⟨_, rfl⟩
        rw [← hwo] at hrel ⊢
        clear hwo
        obtain ⟨j, hj, rfl, hbr⟩ := hrel
        have BO := Lib.hid hbr
        clear hbr
        by_cases hlt : j < zss.length
        · obtain ⟨zs, hz⟩ : ∃ zs, zss[j]? = some zs := ⟨_, List.getElem?_eq_getElem hlt⟩
          obtain ⟨b, o, A9, c9, hAL, hbb, g9, hl9, hc9, hc9m⟩ := HCAP.out j zs hz
          subst hAL
          have HJ := Lib.hid hz
          have hmem := List.mem_of_getElem? hz
          obtain ⟨x, y, hx, hy, hxy⟩ := HDF.out zs hmem
          have hzs9 := HZ9.out zs hmem
          have HBB := Lib.hid hbb
          have hji : (j : Int) < (zss.length : Int) := by omega
          have HL9 := Lib.hid (show ∀ U, Below w2.heap.size w2 U → U.cell? ⟨b, o + j, none⟩ = some (Value.slice A9 zs.length c9) ∧ LiesI U 0 U.heap.size A9 zs from fun U hU => ⟨(hU.cell (p := ⟨b, o + j, none⟩) hbb).trans g9, hl9.up hU⟩)
          have hxs : x.k.size ≤ 1048576 := Nat.le_trans (partN_size zs ⟨op, n, k⟩ hx) (by show k.size ≤ 1048576; omega)
          have HXY := Lib.hid hxy
          have HC1 := Lib.hid (show ∀ w' : World, Below wo.heap.size wo w' → Calls Try.prog 9 #[.agg #[.int .i64 op, .int .i64 n, .slice X k.len cx], .slice A9 zs.length c9] w' (GivesN x true w') from fun w' hb' => by
            have hu := BO.out.trans (hb'.mono BO.out.size)
            exact HP1.out w' (B2.out.trans (hu.mono B2.out.size)) zs A9 c9 x (HL9.out w' hu).2 hzs9 hx)
          have HQ2 := Lib.hid (show ∀ w' : World, Below w2.heap.size w2 w' → Calls Try.prog 9 #[.agg #[.int .i64 op2, .int .i64 n2, .slice X2 k2.len cx2], .slice A9 zs.length c9] w' (GivesN y true w') from fun w' hu =>
            HP2.out w' (B2.out.trans (hu.mono B2.out.size)) zs A9 c9 y (HL9.out w' hu).2 hzs9 hy)
          have HSV := Lib.hid (show ∀ w' : World, Below wo.heap.size wo w' → w'.cell? ⟨w1.heap.size, 0, none⟩ = some (Value.int .i64 op) ∧ w'.cell? ⟨w1.heap.size, 1, none⟩ = some (Value.int .i64 n) ∧ w'.cell? ⟨w1.heap.size, 2, none⟩ = some (Value.slice X k.len cx) ∧ w'.cell? ⟨b, o + j, none⟩ = some (Value.slice A9 zs.length c9) from fun w' hb' => by
            have hu := BO.out.trans (hb'.mono BO.out.size)
            obtain ⟨⟨g0, g1, g2, -⟩, -⟩ := FE.out w' (B2.out.trans (hu.mono B2.out.size))
            exact ⟨g0, g1, g2, (HL9.out w' hu).1⟩)
          clear hz hbb g9 hl9 hmem hx hy hxy
          go_wp2_with fail
          go_cut [7, 8] from 50 to 58 (fun p s wd => s = .bool true ∧ Laid wo x p wd)
          case first =>
            have b0 : Below wo.heap.size wo wo.drew := (Below.refl _ _).drew
            have bp : Below wo.heap.size wo (wo.alloc (Obj.cells #[Value.int .i64 0, Value.int .i64 0, Value.slice none 0 0] 25)).drew := ((Below.refl _ _).alloc (Nat.le_refl _) _).drew
            have C0 := Lib.hid (HC1.out _ b0)
            have CP := Lib.hid (HC1.out _ bp)
            have s0 := HSV.out _ b0
            have sp := HSV.out _ bp
            have B0 := Lib.hid b0
            have BP := Lib.hid bp
            have RP := Lib.hid (show Row (wo.alloc (Obj.cells #[Value.int .i64 0, Value.int .i64 0, Value.slice none 0 0] 25)).drew wo.heap.size 25 #[Value.int .i64 0, Value.int .i64 0, Value.slice none 0 0] from (Row.fresh _ _ _).drew)
            clear b0 bp
            go_region_held3 (fun w' => w'.cell? ⟨w1.heap.size, 0, none⟩ = some (Value.int .i64 op) ∧ w'.cell? ⟨w1.heap.size, 1, none⟩ = some (Value.int .i64 n) ∧ w'.cell? ⟨w1.heap.size, 2, none⟩ = some (Value.slice X k.len cx) ∧ w'.cell? ⟨b, o + j, none⟩ = some (Value.slice A9 zs.length c9))
              (first | with_reducible exact s0 | with_reducible exact sp | with_reducible exact s3 | with_reducible exact s4 | with_reducible exact s3z | fail)
              (first
                | (go_at_call 9
                   with_reducible refine CP.out.mono ?_
                   rintro e vd ⟨A5, c5, b5, rfl, ht5, hb5⟩
                   have hb := BP.out.trans (hb5.mono BP.out.size)
                   have r5 := (RP.out).below hb5 ((RP.out).size)
                   have f0 := r5.free 0
                   have f1 := r5.free 1
                   have f2 := r5.free 2
                   have d0 := r5.cell (i := 0) rfl
                   have d1 := r5.cell (i := 1) rfl
                   have d2 := r5.cell (i := 2) rfl
                   have hbs := ((hb.setCell (p := ⟨wo.heap.size, 0, none⟩) (Nat.le_refl _) (.int .i64 x.op)).setCell (p := ⟨wo.heap.size, 1, none⟩) (Nat.le_refl _) (.int .i64 x.n)).setCell (p := ⟨wo.heap.size, 2, none⟩) (Nat.le_refl _) (.slice A5 x.k.len c5)
                   have s3 := HSV.out _ hb
                   have s4 := HSV.out _ hbs
                   have HEND := Lib.hid (laid_set BP.out RP.out ht5 hb5)
                   clear ht5 hb5 hb r5 hbs)
                | (go_at_call 9
                   with_reducible refine C0.out.mono ?_
                   rintro e vd ⟨A5, c5, b5, rfl, ht5, hb5⟩
                   have hb := B0.out.trans (hb5.mono B0.out.size)
                   have hba := hb.alloc hb.size (Obj.cells #[Value.int .i64 x.op, Value.int .i64 x.n, Value.slice A5 x.k.len c5] 25)
                   have s3 := HSV.out _ hb
                   have s4 := HSV.out _ hba
                   have s3z := HSV.out _ (hb.alloc hb.size (Obj.cells #[Value.int .i64 0, Value.int .i64 0, Value.slice none 0 0] 25))
                   have HEND := Lib.hid (laid_new B0.out ht5 hb5)
                   clear ht5 hb5 hb hba)
                | fail)
            all_goals
              go_wp2_with fail
              go_meet
              exact ⟨rfl, HEND.out⟩
          case rest =>
            obtain ⟨rfl, g8, A8, c8, rfl, hr8, hg8, hh8, k81, k82, hb8⟩ := hcut
            obtain ⟨w8, hw8⟩ : ∃ v, v = wc := ⟨_, rfl⟩
            rw [← hw8] at hr8 hh8 hb8 ⊢
            have B8 := Lib.hid (BO.out.trans (hb8.mono BO.out.size))
            have HR8 := Lib.hid hr8
            have HH8 := Lib.hid hh8
            clear hw8 wc hr8 hh8 hb8 hg8 HSV HC1
            have HC2 := Lib.hid (show ∀ w' : World, Below w8.heap.size w8 w' → Calls Try.prog 9 #[.agg #[.int .i64 op2, .int .i64 n2, .slice X2 k2.len cx2], .slice A9 zs.length c9] w' (GivesN y true w') from fun w' hb' => HQ2.out w' (B8.out.trans (hb'.mono B8.out.size)))
            have HSV := Lib.hid (show ∀ w' : World, Below w8.heap.size w8 w' → w'.cell? ⟨(w1.heap.size + 1), 0, none⟩ = some (Value.int .i64 op2) ∧ w'.cell? ⟨(w1.heap.size + 1), 1, none⟩ = some (Value.int .i64 n2) ∧ w'.cell? ⟨(w1.heap.size + 1), 2, none⟩ = some (Value.slice X2 k2.len cx2) ∧ w'.cell? ⟨b, o + j, none⟩ = some (Value.slice A9 zs.length c9) from fun w' hb' => by
              have hu := B8.out.trans (hb'.mono B8.out.size)
              obtain ⟨⟨-, -, -, g0, g1, g2⟩, -⟩ := FE.out w' (B2.out.trans (hu.mono B2.out.size))
              exact ⟨g0, g1, g2, (HL9.out w' hu).1⟩)
            clear HQ2
            go_wp2_with fail
            go_cut [9, 10] from 59 to 67 (fun p s wd => s = .bool true ∧ Laid w8 y p wd)
            case first =>
              have b0 : Below w8.heap.size w8 w8.drew := (Below.refl _ _).drew
              have bp : Below w8.heap.size w8 (w8.alloc (Obj.cells #[Value.int .i64 0, Value.int .i64 0, Value.slice none 0 0] 25)).drew := ((Below.refl _ _).alloc (Nat.le_refl _) _).drew
              have C0 := Lib.hid (HC2.out _ b0)
              have CP := Lib.hid (HC2.out _ bp)
              have s0 := HSV.out _ b0
              have sp := HSV.out _ bp
              have B0 := Lib.hid b0
              have BP := Lib.hid bp
              have RP := Lib.hid (show Row (w8.alloc (Obj.cells #[Value.int .i64 0, Value.int .i64 0, Value.slice none 0 0] 25)).drew w8.heap.size 25 #[Value.int .i64 0, Value.int .i64 0, Value.slice none 0 0] from (Row.fresh _ _ _).drew)
              clear b0 bp
              go_region_held3 (fun w' => w'.cell? ⟨(w1.heap.size + 1), 0, none⟩ = some (Value.int .i64 op2) ∧ w'.cell? ⟨(w1.heap.size + 1), 1, none⟩ = some (Value.int .i64 n2) ∧ w'.cell? ⟨(w1.heap.size + 1), 2, none⟩ = some (Value.slice X2 k2.len cx2) ∧ w'.cell? ⟨b, o + j, none⟩ = some (Value.slice A9 zs.length c9))
                (first | with_reducible exact s0 | with_reducible exact sp | with_reducible exact s3 | with_reducible exact s4 | with_reducible exact s3z | fail)
                (first
                  | (go_at_call 9
                     with_reducible refine CP.out.mono ?_
                     rintro e vd ⟨A5, c5, b5, rfl, ht5, hb5⟩
                     have hb := BP.out.trans (hb5.mono BP.out.size)
                     have r5 := (RP.out).below hb5 ((RP.out).size)
                     have f0 := r5.free 0
                     have f1 := r5.free 1
                     have f2 := r5.free 2
                     have d0 := r5.cell (i := 0) rfl
                     have d1 := r5.cell (i := 1) rfl
                     have d2 := r5.cell (i := 2) rfl
                     have hbs := ((hb.setCell (p := ⟨w8.heap.size, 0, none⟩) (Nat.le_refl _) (.int .i64 y.op)).setCell (p := ⟨w8.heap.size, 1, none⟩) (Nat.le_refl _) (.int .i64 y.n)).setCell (p := ⟨w8.heap.size, 2, none⟩) (Nat.le_refl _) (.slice A5 y.k.len c5)
                     have s3 := HSV.out _ hb
                     have s4 := HSV.out _ hbs
                     have HEND := Lib.hid (laid_set BP.out RP.out ht5 hb5)
                     clear ht5 hb5 hb r5 hbs)
                  | (go_at_call 9
                     with_reducible refine C0.out.mono ?_
                     rintro e vd ⟨A5, c5, b5, rfl, ht5, hb5⟩
                     have hb := B0.out.trans (hb5.mono B0.out.size)
                     have hba := hb.alloc hb.size (Obj.cells #[Value.int .i64 y.op, Value.int .i64 y.n, Value.slice A5 y.k.len c5] 25)
                     have s3 := HSV.out _ hb
                     have s4 := HSV.out _ hba
                     have s3z := HSV.out _ (hb.alloc hb.size (Obj.cells #[Value.int .i64 0, Value.int .i64 0, Value.slice none 0 0] 25))
                     have HEND := Lib.hid (laid_new B0.out ht5 hb5)
                     clear ht5 hb5 hb hba)
                  | fail)
              all_goals
                go_wp2_with fail
                go_meet
                exact ⟨rfl, HEND.out⟩
            case rest =>
              obtain ⟨rfl, g10, A10, c10, rfl, hr10, hg10, hh10, k101, k102, hb10⟩ := hcut
              obtain ⟨w10, hw10⟩ : ∃ v, v = wc := ⟨_, rfl⟩
              rw [← hw10] at hr10 hh10 hb10 ⊢
              have B10 := Lib.hid (B8.out.trans (hb10.mono B8.out.size))
              have r8 := HR8.out.below hb10 HR8.out.size
              have s0 := r8.cell (i := 0) rfl
              have s1 := r8.cell (i := 1) rfl
              have s2 := r8.cell (i := 2) rfl
              have t0 := hr10.cell (i := 0) rfl
              have t1 := hr10.cell (i := 1) rfl
              have t2 := hr10.cell (i := 2) rfl
              have hh8 := HH8.out.up hb10
              have HXYC := Lib.hid (implSame_r x.op x.n y.op y.n x.k y.k A8 A10 c8 c10 w10 hh8.1 hh10.1 0 w10.heap.size hh8.1 (Nat.le_refl _) hh8.rows k81 k82 k101 k102 hxs)
              rw [HXY.out] at HXYC
              clear hw10 wc hr10 hh10 hb10 hg10 HSV HC2 r8 hh8 HR8 HH8 HXY
              go_wp2_with fail
              refine HXYC.out.mono ?_
              rintro e w11 ⟨rfl, hb11⟩
              have B11 := Lib.hid (B10.out.trans (hb11.mono B10.out.size))
              clear hb11 s0 s1 s2 t0 t1 t2 HXYC
              go_wp2_with fail
              go_loopw [11] (fun i wr => ∃ (q : Nat), q ≤ zss.length ∧ i = .int .i64 (q : Int) ∧ Below w2.heap.size w2 wr)
                (fun i _ => zss.length - (intOf i).toNat)
              case atStart => exact ⟨0, Nat.zero_le _, rfl, B11.out⟩
              case round =>
                clear B11 B10 B8 BO
                obtain ⟨wi, hwi⟩ : ∃ wo, wo = wr := ⟨_, rfl⟩
                rw [← hwi] at hrel ⊢
                clear hwi
                obtain ⟨q, hq, rfl, hbr⟩ := hrel
                have BI := Lib.hid hbr
                clear hbr
                by_cases hlq : q < zss.length
                · have hqi : (q : Int) < (zss.length : Int) := by omega
                  obtain ⟨zq, hzq⟩ : ∃ zs, zss[q]? = some zs := ⟨_, List.getElem?_eq_getElem hlq⟩
                  obtain ⟨b', o', Aq, cq, hAq, hbq, gq, hlq9, hcq, hcqm⟩ := HCAP.out q zq hzq
                  injection hAq with hAq
                  injection hAq with hA1 hA2
                  subst hA1 hA2
                  have HLQ := Lib.hid (show ∀ U, Below w2.heap.size w2 U → U.cell? ⟨b, o + q, none⟩ = some (Value.slice Aq zq.length cq) ∧ LiesI U 0 U.heap.size Aq zq from fun U hU => ⟨(hU.cell (p := ⟨b, o + q, none⟩) hbq).trans gq, hlq9.up hU⟩)
                  have hzq9 := HZ9.out zq (List.mem_of_getElem? hzq)
                  have HBQ := Lib.hid (show b < wi.drew.heap.size from Nat.lt_of_lt_of_le HBB.out BI.out.size)
                  have HBQ2 := Lib.hid (show Below w2.heap.size w2 wi.drew from BI.out.drew)
                  have g9d : wi.drew.cell? ⟨b, o + j, none⟩ = some (Value.slice A9 zs.length c9) := (HL9.out _ HBQ2.out).1
                  have gqd : wi.drew.cell? ⟨b, o + q, none⟩ = some (Value.slice Aq zq.length cq) := (HLQ.out _ HBQ2.out).1
                  by_cases hqj : q = j
                  · subst hqj
                    have hne : ((q : Int) != (q : Int)) = false := by simp
                    clear gqd hbq gq hlq9 hzq HLQ
                    go_wp2_with fail
                    refine wp_region_held_drew (S := fun w' => w'.cell? ⟨b, o + q, none⟩ = some (Value.slice A9 zs.length c9)) (by kernel_rfl) g9d (fun hHeld => ?_)
                    refine takeW 0 (v := ?vx1_0) rfl (by kernel_rfl) (fun _ _ _ h => h) (by rfl) (by assumption) ?yx1_0 ?rx1_0
                    case yx1_0 => (intro w' hSw; (try dsimp only at hSw); go_simp; try with_reducible rfl)
                    try simp only [Act.put, List.setIfInBounds_toArray, List.set_cons_zero, List.set_cons_succ, List.getElem_toArray, List.getElem_cons_zero]
                    refine takeW 1 (v := ?vx1_1) rfl (by kernel_rfl) (fun _ _ _ h => h) (by rfl) (by assumption) ?yx1_1 ?rx1_1
                    case yx1_1 => (intro w' hSw; (try dsimp only at hSw); go_simp; try with_reducible rfl)
                    try simp only [Act.put, List.setIfInBounds_toArray, List.set_cons_zero, List.set_cons_succ, List.getElem_toArray, List.getElem_cons_succ, List.getElem_cons_zero]
                    refine takeW 2 (v := .bool false) rfl (by kernel_rfl) (fun _ _ _ h => h) (by rfl) (by assumption) ?yx1_2 ?rx1_2
                    case yx1_2 => (intro w' hSw; (try dsimp only at hSw); go_simp; try first | with_reducible rfl | simp [hne])
                    try simp only [Act.put, List.setIfInBounds_toArray, List.set_cons_zero, List.set_cons_succ, List.getElem_toArray, List.getElem_cons_succ, List.getElem_cons_zero]
                    refine takeW 3 (v := ?vx1_3) rfl (by kernel_rfl) (fun _ _ _ h => h) (by rfl) (by assumption) ?yx1_3 ?rx1_3
                    case yx1_3 => (intro w' hSw; (try dsimp only at hSw); go_simp; try with_reducible rfl)
                    try simp only [Act.put, List.setIfInBounds_toArray, List.set_cons_zero, List.set_cons_succ, List.getElem_toArray, List.getElem_cons_succ, List.getElem_cons_zero]
                    refine takeN 4 rfl (by kernel_rfl) (fun _ _ _ h => h) (by rfl) (by assumption) ?rx1_4
                    try simp only [Act.put, List.setIfInBounds_toArray, List.set_cons_zero, List.set_cons_succ, List.getElem_toArray, List.getElem_cons_succ, List.getElem_cons_zero]
                    refine takeN 5 rfl (by kernel_rfl) (fun _ _ _ h => h) (by rfl) (by assumption) ?rx1_5
                    try simp only [Act.put, List.setIfInBounds_toArray, List.set_cons_zero, List.set_cons_succ, List.getElem_toArray, List.getElem_cons_succ, List.getElem_cons_zero]
                    refine takeN 6 rfl (by kernel_rfl) (fun _ _ _ h => h) (by rfl) (by assumption) ?rx1_6
                    try simp only [Act.put, List.setIfInBounds_toArray, List.set_cons_zero, List.set_cons_succ, List.getElem_toArray, List.getElem_cons_succ, List.getElem_cons_zero]
                    refine takeN 7 rfl (by kernel_rfl) (fun _ _ _ h => h) (by rfl) (by assumption) ?rx1_7
                    try simp only [Act.put, List.setIfInBounds_toArray, List.set_cons_zero, List.set_cons_succ, List.getElem_toArray, List.getElem_cons_succ, List.getElem_cons_zero]
                    refine takeN 8 rfl (by kernel_rfl) (fun _ _ _ h => h) (by rfl) (by assumption) ?rx1_8
                    try simp only [Act.put, List.setIfInBounds_toArray, List.set_cons_zero, List.set_cons_succ, List.getElem_toArray, List.getElem_cons_succ, List.getElem_cons_zero]
                    refine takeN 9 rfl (by kernel_rfl) (fun _ _ _ h => h) (by rfl) (by assumption) ?rx1_9
                    try simp only [Act.put, List.setIfInBounds_toArray, List.set_cons_zero, List.set_cons_succ, List.getElem_toArray, List.getElem_cons_succ, List.getElem_cons_zero]
                    refine takeN 10 rfl (by kernel_rfl) (fun _ _ _ h => h) (by rfl) (by assumption) ?rx1_10
                    try simp only [Act.put, List.setIfInBounds_toArray, List.set_cons_zero, List.set_cons_succ, List.getElem_toArray, List.getElem_cons_succ, List.getElem_cons_zero]
                    refine takeN 11 rfl (by kernel_rfl) (fun _ _ _ h => h) (by rfl) (by assumption) ?rx1_11
                    try simp only [Act.put, List.setIfInBounds_toArray, List.set_cons_zero, List.set_cons_succ, List.getElem_toArray, List.getElem_cons_succ, List.getElem_cons_zero]
                    refine takeN 12 rfl (by kernel_rfl) (fun _ _ _ h => h) (by rfl) (by assumption) ?rx1_12
                    try simp only [Act.put, List.setIfInBounds_toArray, List.set_cons_zero, List.set_cons_succ, List.getElem_toArray, List.getElem_cons_succ, List.getElem_cons_zero]
                    refine takeN 13 rfl (by kernel_rfl) (fun _ _ _ h => h) (by rfl) (by assumption) ?rx1_13
                    try simp only [Act.put, List.setIfInBounds_toArray, List.set_cons_zero, List.set_cons_succ, List.getElem_toArray, List.getElem_cons_succ, List.getElem_cons_zero]
                    refine takeN 14 rfl (by kernel_rfl) (fun _ _ _ h => h) (by rfl) (by assumption) ?rx1_14
                    try simp only [Act.put, List.setIfInBounds_toArray, List.set_cons_zero, List.set_cons_succ, List.getElem_toArray, List.getElem_cons_succ, List.getElem_cons_zero]
                    refine takeW 15 (v := ?vx1_15) rfl (by kernel_rfl) (fun _ _ _ h => h) (by rfl) (by assumption) ?yx1_15 ?rx1_15
                    case yx1_15 => (intro w' hSw; (try dsimp only at hSw); go_simp; try with_reducible rfl)
                    try simp only [Act.put, List.setIfInBounds_toArray, List.set_cons_zero, List.set_cons_succ, List.getElem_toArray, List.getElem_cons_succ, List.getElem_cons_zero]
                    refine takeW 16 (v := ?vx1_16) rfl (by kernel_rfl) (fun _ _ _ h => h) (by rfl) (by assumption) ?yx1_16 ?rx1_16
                    case yx1_16 => (intro w' hSw; (try dsimp only at hSw); go_simp; try with_reducible rfl)
                    try simp only [Act.put, List.setIfInBounds_toArray, List.set_cons_zero, List.set_cons_succ, List.getElem_toArray, List.getElem_cons_succ, List.getElem_cons_zero]
                    refine takeN 17 rfl (by kernel_rfl) (fun _ _ _ h => h) (by rfl) (by assumption) ?rx1_17
                    try simp only [Act.put, List.setIfInBounds_toArray, List.set_cons_zero, List.set_cons_succ, List.getElem_toArray, List.getElem_cons_succ, List.getElem_cons_zero]
                    refine takeN 18 rfl (by kernel_rfl) (fun _ _ _ h => h) (by rfl) (by assumption) ?rx1_18
                    try simp only [Act.put, List.setIfInBounds_toArray, List.set_cons_zero, List.set_cons_succ, List.getElem_toArray, List.getElem_cons_succ, List.getElem_cons_zero]
                    refine takeN 19 rfl (by kernel_rfl) (fun _ _ _ h => h) (by rfl) (by assumption) ?rx1_19
                    try simp only [Act.put, List.setIfInBounds_toArray, List.set_cons_zero, List.set_cons_succ, List.getElem_toArray, List.getElem_cons_succ, List.getElem_cons_zero]
                    refine takeN 20 rfl (by kernel_rfl) (fun _ _ _ h => h) (by rfl) (by assumption) ?rx1_20
                    try simp only [Act.put, List.setIfInBounds_toArray, List.set_cons_zero, List.set_cons_succ, List.getElem_toArray, List.getElem_cons_succ, List.getElem_cons_zero]
                    refine takeN 21 rfl (by kernel_rfl) (fun _ _ _ h => h) (by rfl) (by assumption) ?rx1_21
                    try simp only [Act.put, List.setIfInBounds_toArray, List.set_cons_zero, List.set_cons_succ, List.getElem_toArray, List.getElem_cons_succ, List.getElem_cons_zero]
                    refine takeN 22 rfl (by kernel_rfl) (fun _ _ _ h => h) (by rfl) (by assumption) ?rx1_22
                    try simp only [Act.put, List.setIfInBounds_toArray, List.set_cons_zero, List.set_cons_succ, List.getElem_toArray, List.getElem_cons_succ, List.getElem_cons_zero]
                    refine takeN 23 rfl (by kernel_rfl) (fun _ _ _ h => h) (by rfl) (by assumption) ?rx1_23
                    try simp only [Act.put, List.setIfInBounds_toArray, List.set_cons_zero, List.set_cons_succ, List.getElem_toArray, List.getElem_cons_succ, List.getElem_cons_zero]
                    refine takeN 24 rfl (by kernel_rfl) (fun _ _ _ h => h) (by rfl) (by assumption) ?rx1_24
                    try simp only [Act.put, List.setIfInBounds_toArray, List.set_cons_zero, List.set_cons_succ, List.getElem_toArray, List.getElem_cons_succ, List.getElem_cons_zero]
                    refine takeN 25 rfl (by kernel_rfl) (fun _ _ _ h => h) (by rfl) (by assumption) ?rx1_25
                    try simp only [Act.put, List.setIfInBounds_toArray, List.set_cons_zero, List.set_cons_succ, List.getElem_toArray, List.getElem_cons_succ, List.getElem_cons_zero]
                    refine takeN 26 rfl (by kernel_rfl) (fun _ _ _ h => h) (by rfl) (by assumption) ?rx1_26
                    try simp only [Act.put, List.setIfInBounds_toArray, List.set_cons_zero, List.set_cons_succ, List.getElem_toArray, List.getElem_cons_succ, List.getElem_cons_zero]
                    refine takeN 27 rfl (by kernel_rfl) (fun _ _ _ h => h) (by rfl) (by assumption) ?rx1_27
                    try simp only [Act.put, List.setIfInBounds_toArray, List.set_cons_zero, List.set_cons_succ, List.getElem_toArray, List.getElem_cons_succ, List.getElem_cons_zero]
                    refine takeN 28 rfl (by kernel_rfl) (fun _ _ _ h => h) (by rfl) (by assumption) ?rx1_28
                    try simp only [Act.put, List.setIfInBounds_toArray, List.set_cons_zero, List.set_cons_succ, List.getElem_toArray, List.getElem_cons_succ, List.getElem_cons_zero]
                    refine takeN 29 rfl (by kernel_rfl) (fun _ _ _ h => h) (by rfl) (by assumption) ?rx1_29
                    try simp only [Act.put, List.setIfInBounds_toArray, List.set_cons_zero, List.set_cons_succ, List.getElem_toArray, List.getElem_cons_succ, List.getElem_cons_zero]
                    refine takeN 30 rfl (by kernel_rfl) (fun _ _ _ h => h) (by rfl) (by assumption) ?rx1_30
                    try simp only [Act.put, List.setIfInBounds_toArray, List.set_cons_zero, List.set_cons_succ, List.getElem_toArray, List.getElem_cons_succ, List.getElem_cons_zero]
                    refine takeN 31 rfl (by kernel_rfl) (fun _ _ _ h => h) (by rfl) (by assumption) ?rx1_31
                    try simp only [Act.put, List.setIfInBounds_toArray, List.set_cons_zero, List.set_cons_succ, List.getElem_toArray, List.getElem_cons_succ, List.getElem_cons_zero]
                    refine takeW 32 (v := ?vx1_32) rfl (by kernel_rfl) (fun _ _ _ h => h) (by rfl) (by assumption) ?yx1_32 ?rx1_32
                    case yx1_32 => (intro w' hSw; (try dsimp only at hSw); go_simp; try with_reducible rfl)
                    try simp only [Act.put, List.setIfInBounds_toArray, List.set_cons_zero, List.set_cons_succ, List.getElem_toArray, List.getElem_cons_succ, List.getElem_cons_zero]
                    refine wpAnyH_done (by kernel_rfl) ?_ _
                    go_wp2_with fail
                    go_roundw
                    case rel => exact ⟨q + 1, by omega, by go_num, HBQ2.out⟩
                    case measure => simp [intOf]; omega
                  · have hne : ((q : Int) != (j : Int)) = true := by simpa using fun h => hqj (by omega)
                    have hap := apart_at HAP.out HJ.out hzq (fun h => hqj h.symm)
                    have HTK := Lib.hid (apart_take hap)
                    have hzp : 1 ≤ zs.length := by
                      cases zs with
                      | nil => exact absurd (List.nil_prefix) hap.1
                      | cons a r => simp
                    clear hap
                    by_cases hge : zs.length ≤ zq.length
                    · have hgb : ((zs.length : Int) ≤ (zq.length : Int)) := by omega
                      have hgd : decide ((zs.length : Int) ≤ (zq.length : Int)) = true := decide_eq_true hgb
                      obtain ⟨x0, hx0⟩ : ∃ x, zq[0]? = some x := ⟨_, List.getElem?_eq_getElem (by omega)⟩
                      obtain ⟨bq, oq, hAqq, -⟩ := hlq9 0 x0 hx0
                      subst hAqq
                      have hsl : (zs.length : Int) ≤ (cq : Int) := by omega
                      have hs0 : (0 : Int) ≤ (zs.length : Int) := by omega
                      have HAM := Lib.hid (show ∀ U, Below wi.heap.size wi U → Calls Try.prog 11 #[.slice (some ⟨bq, oq, none⟩) zs.length cq, .slice A9 zs.length c9] U (Gives (.bool false) U) from fun U hU => by
                        have hu := BI.out.trans (hU.mono BI.out.size)
                        have h := amInts_any (zq.take zs.length) zs (some ⟨bq, oq, none⟩) A9 cq c9 U (lies_take (HLQ.out U hu).2 _) (HL9.out U hu).2 (by rw [List.length_take]; omega) (by omega)
                        rw [HTK.out, List.length_take, Nat.min_eq_left hge] at h
                        exact h)
                      have s0 : wi.drew.cell? ⟨b, o + j, none⟩ = some (Value.slice A9 zs.length c9) ∧ wi.drew.cell? ⟨b, o + q, none⟩ = some (Value.slice (some ⟨bq, oq, none⟩) zq.length cq) := ⟨g9d, gqd⟩
                      clear hbq gq hlq9 hzq HLQ hx0
                      go_wp2_with fail
                      refine wp_region_held_drew (S := fun w' => w'.cell? ⟨b, o + j, none⟩ = some (Value.slice A9 zs.length c9) ∧ w'.cell? ⟨b, o + q, none⟩ = some (Value.slice (some ⟨bq, oq, none⟩) zq.length cq)) (by kernel_rfl) s0 (fun hHeld => ?_)
                      refine takeW 0 (v := ?vx2_0) rfl (by kernel_rfl) (fun _ _ _ h => h) (by rfl) (by assumption) ?yx2_0 ?rx2_0
                      case yx2_0 => (intro w' hSw; (try dsimp only at hSw); go_simp; try with_reducible rfl)
                      try simp only [Act.put, List.setIfInBounds_toArray, List.set_cons_zero, List.set_cons_succ, List.getElem_toArray, List.getElem_cons_zero]
                      refine takeW 1 (v := ?vx2_1) rfl (by kernel_rfl) (fun _ _ _ h => h) (by rfl) (by assumption) ?yx2_1 ?rx2_1
                      case yx2_1 => (intro w' hSw; (try dsimp only at hSw); go_simp; try with_reducible rfl)
                      try simp only [Act.put, List.setIfInBounds_toArray, List.set_cons_zero, List.set_cons_succ, List.getElem_toArray, List.getElem_cons_succ, List.getElem_cons_zero]
                      refine takeW 2 (v := .bool true) rfl (by kernel_rfl) (fun _ _ _ h => h) (by rfl) (by assumption) ?yx2_2 ?rx2_2
                      case yx2_2 => (intro w' hSw; (try dsimp only at hSw); go_simp; try first | with_reducible rfl | simp [hne])
                      try simp only [Act.put, List.setIfInBounds_toArray, List.set_cons_zero, List.set_cons_succ, List.getElem_toArray, List.getElem_cons_succ, List.getElem_cons_zero]
                      refine takeW 3 (v := ?vx2_3) rfl (by kernel_rfl) (fun _ _ _ h => h) (by rfl) (by assumption) ?yx2_3 ?rx2_3
                      case yx2_3 => (intro w' hSw; (try dsimp only at hSw); go_simp; try with_reducible rfl)
                      try simp only [Act.put, List.setIfInBounds_toArray, List.set_cons_zero, List.set_cons_succ, List.getElem_toArray, List.getElem_cons_succ, List.getElem_cons_zero]
                      refine takeW 4 (v := ?vx2_4) rfl (by kernel_rfl) (fun _ _ _ h => h) (by rfl) (by assumption) ?yx2_4 ?rx2_4
                      case yx2_4 => (intro w' hSw; (try dsimp only at hSw); go_simp; try with_reducible rfl)
                      try simp only [Act.put, List.setIfInBounds_toArray, List.set_cons_zero, List.set_cons_succ, List.getElem_toArray, List.getElem_cons_succ, List.getElem_cons_zero]
                      refine takeW 5 (v := ?vx2_5) rfl (by kernel_rfl) (fun _ _ _ h => h) (by rfl) (by assumption) ?yx2_5 ?rx2_5
                      case yx2_5 => (intro w' hSw; (try dsimp only at hSw); go_simp; try with_reducible rfl)
                      try simp only [Act.put, List.setIfInBounds_toArray, List.set_cons_zero, List.set_cons_succ, List.getElem_toArray, List.getElem_cons_succ, List.getElem_cons_zero]
                      refine takeW 6 (v := ?vx2_6) rfl (by kernel_rfl) (fun _ _ _ h => h) (by rfl) (by assumption) ?yx2_6 ?rx2_6
                      case yx2_6 => (intro w' hSw; (try dsimp only at hSw); go_simp; try with_reducible rfl)
                      try simp only [Act.put, List.setIfInBounds_toArray, List.set_cons_zero, List.set_cons_succ, List.getElem_toArray, List.getElem_cons_succ, List.getElem_cons_zero]
                      refine takeW 7 (v := ?vx2_7) rfl (by kernel_rfl) (fun _ _ _ h => h) (by rfl) (by assumption) ?yx2_7 ?rx2_7
                      case yx2_7 => (intro w' hSw; (try dsimp only at hSw); go_simp; try with_reducible rfl)
                      try simp only [Act.put, List.setIfInBounds_toArray, List.set_cons_zero, List.set_cons_succ, List.getElem_toArray, List.getElem_cons_succ, List.getElem_cons_zero]
                      refine takeW 8 (v := ?vx2_8) rfl (by kernel_rfl) (fun _ _ _ h => h) (by rfl) (by assumption) ?yx2_8 ?rx2_8
                      case yx2_8 => (intro w' hSw; (try dsimp only at hSw); go_simp; try with_reducible rfl)
                      try simp only [Act.put, List.setIfInBounds_toArray, List.set_cons_zero, List.set_cons_succ, List.getElem_toArray, List.getElem_cons_succ, List.getElem_cons_zero]
                      refine takeW 9 (v := ?vx2_9) rfl (by kernel_rfl) (fun _ _ _ h => h) (by rfl) (by assumption) ?yx2_9 ?rx2_9
                      case yx2_9 => (intro w' hSw; (try dsimp only at hSw); go_simp; try with_reducible rfl)
                      try simp only [Act.put, List.setIfInBounds_toArray, List.set_cons_zero, List.set_cons_succ, List.getElem_toArray, List.getElem_cons_succ, List.getElem_cons_zero]
                      refine takeW 10 (v := ?vx2_10) rfl (by kernel_rfl) (fun _ _ _ h => h) (by rfl) (by assumption) ?yx2_10 ?rx2_10
                      case yx2_10 => (intro w' hSw; (try dsimp only at hSw); go_simp; try with_reducible rfl)
                      try simp only [Act.put, List.setIfInBounds_toArray, List.set_cons_zero, List.set_cons_succ, List.getElem_toArray, List.getElem_cons_succ, List.getElem_cons_zero]
                      refine takeW 11 (v := ?vx2_11) rfl (by kernel_rfl) (fun _ _ _ h => h) (by rfl) (by assumption) ?yx2_11 ?rx2_11
                      case yx2_11 => (intro w' hSw; (try dsimp only at hSw); go_simp; try with_reducible rfl)
                      try simp only [Act.put, List.setIfInBounds_toArray, List.set_cons_zero, List.set_cons_succ, List.getElem_toArray, List.getElem_cons_succ, List.getElem_cons_zero]
                      refine takeW 12 (v := ?vx2_12) rfl (by kernel_rfl) (fun _ _ _ h => h) (by rfl) (by assumption) ?yx2_12 ?rx2_12
                      case yx2_12 => (intro w' hSw; (try dsimp only at hSw); go_simp; try with_reducible rfl)
                      try simp only [Act.put, List.setIfInBounds_toArray, List.set_cons_zero, List.set_cons_succ, List.getElem_toArray, List.getElem_cons_succ, List.getElem_cons_zero]
                      refine takeW 13 (v := ?vx2_13) rfl (by kernel_rfl) (fun _ _ _ h => h) (by rfl) (by assumption) ?yx2_13 ?rx2_13
                      case yx2_13 => (intro w' hSw; (try dsimp only at hSw); go_simp; try with_reducible rfl)
                      try simp only [Act.put, List.setIfInBounds_toArray, List.set_cons_zero, List.set_cons_succ, List.getElem_toArray, List.getElem_cons_succ, List.getElem_cons_zero]
                      refine takeW 14 (v := .bool true) rfl (by kernel_rfl) (fun _ _ _ h => h) (by rfl) (by assumption) ?yx2_14 ?rx2_14
                      case yx2_14 => (intro w' hSw; (try dsimp only at hSw); go_simp; try first | with_reducible rfl | simp [hgd])
                      try simp only [Act.put, List.setIfInBounds_toArray, List.set_cons_zero, List.set_cons_succ, List.getElem_toArray, List.getElem_cons_succ, List.getElem_cons_zero]
                      refine takeW 15 (v := ?vx2_15) rfl (by kernel_rfl) (fun _ _ _ h => h) (by rfl) (by assumption) ?yx2_15 ?rx2_15
                      case yx2_15 => (intro w' hSw; (try dsimp only at hSw); go_simp; try with_reducible rfl)
                      try simp only [Act.put, List.setIfInBounds_toArray, List.set_cons_zero, List.set_cons_succ, List.getElem_toArray, List.getElem_cons_succ, List.getElem_cons_zero]
                      refine takeW 16 (v := ?vx2_16) rfl (by kernel_rfl) (fun _ _ _ h => h) (by rfl) (by assumption) ?yx2_16 ?rx2_16
                      case yx2_16 => (intro w' hSw; (try dsimp only at hSw); go_simp; try with_reducible rfl)
                      try simp only [Act.put, List.setIfInBounds_toArray, List.set_cons_zero, List.set_cons_succ, List.getElem_toArray, List.getElem_cons_succ, List.getElem_cons_zero]
                      refine takeW 17 (v := ?vx2_17) rfl (by kernel_rfl) (fun _ _ _ h => h) (by rfl) (by assumption) ?yx2_17 ?rx2_17
                      case yx2_17 => (intro w' hSw; (try dsimp only at hSw); go_simp; try with_reducible rfl)
                      try simp only [Act.put, List.setIfInBounds_toArray, List.set_cons_zero, List.set_cons_succ, List.getElem_toArray, List.getElem_cons_succ, List.getElem_cons_zero]
                      refine takeW 18 (v := ?vx2_18) rfl (by kernel_rfl) (fun _ _ _ h => h) (by rfl) (by assumption) ?yx2_18 ?rx2_18
                      case yx2_18 => (intro w' hSw; (try dsimp only at hSw); go_simp; try with_reducible rfl)
                      try simp only [Act.put, List.setIfInBounds_toArray, List.set_cons_zero, List.set_cons_succ, List.getElem_toArray, List.getElem_cons_succ, List.getElem_cons_zero]
                      refine takeW 19 (v := ?vx2_19) rfl (by kernel_rfl) (fun _ _ _ h => h) (by rfl) (by assumption) ?yx2_19 ?rx2_19
                      case yx2_19 => (intro w' hSw; (try dsimp only at hSw); go_simp; try with_reducible rfl)
                      try simp only [Act.put, List.setIfInBounds_toArray, List.set_cons_zero, List.set_cons_succ, List.getElem_toArray, List.getElem_cons_succ, List.getElem_cons_zero]
                      refine takeW 20 (v := ?vx2_20) rfl (by kernel_rfl) (fun _ _ _ h => h) (by rfl) (by assumption) ?yx2_20 ?rx2_20
                      case yx2_20 => (intro w' hSw; (try dsimp only at hSw); go_simp; try with_reducible rfl)
                      try simp only [Act.put, List.setIfInBounds_toArray, List.set_cons_zero, List.set_cons_succ, List.getElem_toArray, List.getElem_cons_succ, List.getElem_cons_zero]
                      refine takeW 21 (v := ?vx2_21) rfl (by kernel_rfl) (fun _ _ _ h => h) (by rfl) (by assumption) ?yx2_21 ?rx2_21
                      case yx2_21 => (intro w' hSw; (try dsimp only at hSw); go_simp; try with_reducible rfl)
                      try simp only [Act.put, List.setIfInBounds_toArray, List.set_cons_zero, List.set_cons_succ, List.getElem_toArray, List.getElem_cons_succ, List.getElem_cons_zero]
                      refine takeW 22 (v := ?vx2_22) rfl (by kernel_rfl) (fun _ _ _ h => h) (by rfl) (by assumption) ?yx2_22 ?rx2_22
                      case yx2_22 => (intro w' hSw; (try dsimp only at hSw); go_simp; try with_reducible rfl)
                      try simp only [Act.put, List.setIfInBounds_toArray, List.set_cons_zero, List.set_cons_succ, List.getElem_toArray, List.getElem_cons_succ, List.getElem_cons_zero]
                      refine takeW 23 (v := ?vx2_23) rfl (by kernel_rfl) (fun _ _ _ h => h) (by rfl) (by assumption) ?yx2_23 ?rx2_23
                      case yx2_23 => (intro w' hSw; (try dsimp only at hSw); go_simp; try with_reducible rfl)
                      try simp only [Act.put, List.setIfInBounds_toArray, List.set_cons_zero, List.set_cons_succ, List.getElem_toArray, List.getElem_cons_succ, List.getElem_cons_zero]
                      refine takeW 24 (v := ?vx2_24) rfl (by kernel_rfl) (fun _ _ _ h => h) (by rfl) (by assumption) ?yx2_24 ?rx2_24
                      case yx2_24 => (intro w' hSw; (try dsimp only at hSw); go_simp; try with_reducible rfl)
                      try simp only [Act.put, List.setIfInBounds_toArray, List.set_cons_zero, List.set_cons_succ, List.getElem_toArray, List.getElem_cons_succ, List.getElem_cons_zero]
                      refine takeW 25 (v := ?vx2_25) rfl (by kernel_rfl) (fun _ _ _ h => h) (by rfl) (by assumption) ?yx2_25 ?rx2_25
                      case yx2_25 => (intro w' hSw; (try dsimp only at hSw); go_simp; try with_reducible rfl)
                      try simp only [Act.put, List.setIfInBounds_toArray, List.set_cons_zero, List.set_cons_succ, List.getElem_toArray, List.getElem_cons_succ, List.getElem_cons_zero]
                      refine takeW 26 (v := ?vx2_26) rfl (by kernel_rfl) (fun _ _ _ h => h) (by rfl) (by assumption) ?yx2_26 ?rx2_26
                      case yx2_26 => (intro w' hSw; (try dsimp only at hSw); go_simp; try with_reducible rfl)
                      try simp only [Act.put, List.setIfInBounds_toArray, List.set_cons_zero, List.set_cons_succ, List.getElem_toArray, List.getElem_cons_succ, List.getElem_cons_zero]
                      refine takeW 27 (v := ?vx2_27) rfl (by kernel_rfl) (fun _ _ _ h => h) (by rfl) (by assumption) ?yx2_27 ?rx2_27
                      case yx2_27 => (intro w' hSw; (try dsimp only at hSw); go_simp; try with_reducible rfl)
                      try simp only [Act.put, List.setIfInBounds_toArray, List.set_cons_zero, List.set_cons_succ, List.getElem_toArray, List.getElem_cons_succ, List.getElem_cons_zero]
                      refine takeW 28 (v := ?vx2_28) rfl (by kernel_rfl) (fun _ _ _ h => h) (by rfl) (by assumption) ?yx2_28 ?rx2_28
                      case yx2_28 => (intro w' hSw; (try dsimp only at hSw); go_simp; try with_reducible rfl)
                      try simp only [Act.put, List.setIfInBounds_toArray, List.set_cons_zero, List.set_cons_succ, List.getElem_toArray, List.getElem_cons_succ, List.getElem_cons_zero]
                      refine takeW 29 (v := ?vx2_29) rfl (by kernel_rfl) (fun _ _ _ h => h) (by rfl) (by assumption) ?yx2_29 ?rx2_29
                      case yx2_29 => (intro w' hSw; (try dsimp only at hSw); go_simp; try with_reducible rfl)
                      try simp only [Act.put, List.setIfInBounds_toArray, List.set_cons_zero, List.set_cons_succ, List.getElem_toArray, List.getElem_cons_succ, List.getElem_cons_zero]
                      refine takeW 30 (v := ?vx2_30) rfl (by kernel_rfl) (fun _ _ _ h => h) (by rfl) (by assumption) ?yx2_30 ?rx2_30
                      case yx2_30 => (intro w' hSw; (try dsimp only at hSw); go_simp; try with_reducible rfl)
                      try simp only [Act.put, List.setIfInBounds_toArray, List.set_cons_zero, List.set_cons_succ, List.getElem_toArray, List.getElem_cons_succ, List.getElem_cons_zero]
                      refine wpAnyH_ready (rs := [31]) (by kernel_rfl) (by simp) ?_
                      refine AllReadyH.cons rfl (fun K hK => ?_) AllReadyH.nil
                      go_simp
                      with_reducible refine (HAM.out _ (Below.refl _ _).drew).mono ?_
                      rintro e w12 ⟨rfl, hb12⟩
                      have st1 : w12.cell? ⟨b, o + j, none⟩ = some (Value.slice A9 zs.length c9) ∧ w12.cell? ⟨b, o + q, none⟩ = some (Value.slice (some ⟨bq, oq, none⟩) zq.length cq) := ⟨hb12.cell (p := ⟨b, o + j, none⟩) HBQ.out |>.trans g9d, hb12.cell (p := ⟨b, o + q, none⟩) HBQ.out |>.trans gqd⟩
                      have HB12 := Lib.hid (HBQ2.out.trans (hb12.mono HBQ2.out.size))
                      clear hb12
                      refine hK.out _ _ (st1) (fun hHeldB1 => ?_)
                      clear hK K
                      try simp only [Act.put, List.setIfInBounds_toArray, List.set_cons_zero, List.set_cons_succ, List.getElem_toArray, List.getElem_cons_succ, List.getElem_cons_zero]
                      refine takeW 32 (v := ?vx3_32) rfl (by kernel_rfl) (fun _ _ _ h => h) (by rfl) (by assumption) ?yx3_32 ?rx3_32
                      case yx3_32 => (intro w' hSw; (try dsimp only at hSw); go_simp; try with_reducible rfl)
                      try simp only [Act.put, List.setIfInBounds_toArray, List.set_cons_zero, List.set_cons_succ, List.getElem_toArray, List.getElem_cons_succ, List.getElem_cons_zero]
                      refine wpAnyH_done (by kernel_rfl) ?_ _
                      clear st1
                      go_wp2_with fail
                      go_roundw
                      case rel => exact ⟨q + 1, by omega, by go_num, HB12.out⟩
                      case measure => simp [intOf]; omega
                    · have hgb : ¬ ((zs.length : Int) ≤ (zq.length : Int)) := by omega
                      have hgd : decide ((zs.length : Int) ≤ (zq.length : Int)) = false := decide_eq_false hgb
                      have s0 : wi.drew.cell? ⟨b, o + j, none⟩ = some (Value.slice A9 zs.length c9) ∧ wi.drew.cell? ⟨b, o + q, none⟩ = some (Value.slice Aq zq.length cq) := ⟨g9d, gqd⟩
                      clear hbq gq hlq9 hzq HLQ
                      go_wp2_with fail
                      refine wp_region_held_drew (S := fun w' => w'.cell? ⟨b, o + j, none⟩ = some (Value.slice A9 zs.length c9) ∧ w'.cell? ⟨b, o + q, none⟩ = some (Value.slice Aq zq.length cq)) (by kernel_rfl) s0 (fun hHeld => ?_)
                      refine takeW 0 (v := ?vx4_0) rfl (by kernel_rfl) (fun _ _ _ h => h) (by rfl) (by assumption) ?yx4_0 ?rx4_0
                      case yx4_0 => (intro w' hSw; (try dsimp only at hSw); go_simp; try with_reducible rfl)
                      try simp only [Act.put, List.setIfInBounds_toArray, List.set_cons_zero, List.set_cons_succ, List.getElem_toArray, List.getElem_cons_zero]
                      refine takeW 1 (v := ?vx4_1) rfl (by kernel_rfl) (fun _ _ _ h => h) (by rfl) (by assumption) ?yx4_1 ?rx4_1
                      case yx4_1 => (intro w' hSw; (try dsimp only at hSw); go_simp; try with_reducible rfl)
                      try simp only [Act.put, List.setIfInBounds_toArray, List.set_cons_zero, List.set_cons_succ, List.getElem_toArray, List.getElem_cons_succ, List.getElem_cons_zero]
                      refine takeW 2 (v := .bool true) rfl (by kernel_rfl) (fun _ _ _ h => h) (by rfl) (by assumption) ?yx4_2 ?rx4_2
                      case yx4_2 => (intro w' hSw; (try dsimp only at hSw); go_simp; try first | with_reducible rfl | simp [hne])
                      try simp only [Act.put, List.setIfInBounds_toArray, List.set_cons_zero, List.set_cons_succ, List.getElem_toArray, List.getElem_cons_succ, List.getElem_cons_zero]
                      refine takeW 3 (v := ?vx4_3) rfl (by kernel_rfl) (fun _ _ _ h => h) (by rfl) (by assumption) ?yx4_3 ?rx4_3
                      case yx4_3 => (intro w' hSw; (try dsimp only at hSw); go_simp; try with_reducible rfl)
                      try simp only [Act.put, List.setIfInBounds_toArray, List.set_cons_zero, List.set_cons_succ, List.getElem_toArray, List.getElem_cons_succ, List.getElem_cons_zero]
                      refine takeW 4 (v := ?vx4_4) rfl (by kernel_rfl) (fun _ _ _ h => h) (by rfl) (by assumption) ?yx4_4 ?rx4_4
                      case yx4_4 => (intro w' hSw; (try dsimp only at hSw); go_simp; try with_reducible rfl)
                      try simp only [Act.put, List.setIfInBounds_toArray, List.set_cons_zero, List.set_cons_succ, List.getElem_toArray, List.getElem_cons_succ, List.getElem_cons_zero]
                      refine takeW 5 (v := ?vx4_5) rfl (by kernel_rfl) (fun _ _ _ h => h) (by rfl) (by assumption) ?yx4_5 ?rx4_5
                      case yx4_5 => (intro w' hSw; (try dsimp only at hSw); go_simp; try with_reducible rfl)
                      try simp only [Act.put, List.setIfInBounds_toArray, List.set_cons_zero, List.set_cons_succ, List.getElem_toArray, List.getElem_cons_succ, List.getElem_cons_zero]
                      refine takeW 6 (v := ?vx4_6) rfl (by kernel_rfl) (fun _ _ _ h => h) (by rfl) (by assumption) ?yx4_6 ?rx4_6
                      case yx4_6 => (intro w' hSw; (try dsimp only at hSw); go_simp; try with_reducible rfl)
                      try simp only [Act.put, List.setIfInBounds_toArray, List.set_cons_zero, List.set_cons_succ, List.getElem_toArray, List.getElem_cons_succ, List.getElem_cons_zero]
                      refine takeW 7 (v := ?vx4_7) rfl (by kernel_rfl) (fun _ _ _ h => h) (by rfl) (by assumption) ?yx4_7 ?rx4_7
                      case yx4_7 => (intro w' hSw; (try dsimp only at hSw); go_simp; try with_reducible rfl)
                      try simp only [Act.put, List.setIfInBounds_toArray, List.set_cons_zero, List.set_cons_succ, List.getElem_toArray, List.getElem_cons_succ, List.getElem_cons_zero]
                      refine takeW 8 (v := ?vx4_8) rfl (by kernel_rfl) (fun _ _ _ h => h) (by rfl) (by assumption) ?yx4_8 ?rx4_8
                      case yx4_8 => (intro w' hSw; (try dsimp only at hSw); go_simp; try with_reducible rfl)
                      try simp only [Act.put, List.setIfInBounds_toArray, List.set_cons_zero, List.set_cons_succ, List.getElem_toArray, List.getElem_cons_succ, List.getElem_cons_zero]
                      refine takeW 9 (v := ?vx4_9) rfl (by kernel_rfl) (fun _ _ _ h => h) (by rfl) (by assumption) ?yx4_9 ?rx4_9
                      case yx4_9 => (intro w' hSw; (try dsimp only at hSw); go_simp; try with_reducible rfl)
                      try simp only [Act.put, List.setIfInBounds_toArray, List.set_cons_zero, List.set_cons_succ, List.getElem_toArray, List.getElem_cons_succ, List.getElem_cons_zero]
                      refine takeW 10 (v := ?vx4_10) rfl (by kernel_rfl) (fun _ _ _ h => h) (by rfl) (by assumption) ?yx4_10 ?rx4_10
                      case yx4_10 => (intro w' hSw; (try dsimp only at hSw); go_simp; try with_reducible rfl)
                      try simp only [Act.put, List.setIfInBounds_toArray, List.set_cons_zero, List.set_cons_succ, List.getElem_toArray, List.getElem_cons_succ, List.getElem_cons_zero]
                      refine takeW 11 (v := ?vx4_11) rfl (by kernel_rfl) (fun _ _ _ h => h) (by rfl) (by assumption) ?yx4_11 ?rx4_11
                      case yx4_11 => (intro w' hSw; (try dsimp only at hSw); go_simp; try with_reducible rfl)
                      try simp only [Act.put, List.setIfInBounds_toArray, List.set_cons_zero, List.set_cons_succ, List.getElem_toArray, List.getElem_cons_succ, List.getElem_cons_zero]
                      refine takeW 12 (v := ?vx4_12) rfl (by kernel_rfl) (fun _ _ _ h => h) (by rfl) (by assumption) ?yx4_12 ?rx4_12
                      case yx4_12 => (intro w' hSw; (try dsimp only at hSw); go_simp; try with_reducible rfl)
                      try simp only [Act.put, List.setIfInBounds_toArray, List.set_cons_zero, List.set_cons_succ, List.getElem_toArray, List.getElem_cons_succ, List.getElem_cons_zero]
                      refine takeW 13 (v := ?vx4_13) rfl (by kernel_rfl) (fun _ _ _ h => h) (by rfl) (by assumption) ?yx4_13 ?rx4_13
                      case yx4_13 => (intro w' hSw; (try dsimp only at hSw); go_simp; try with_reducible rfl)
                      try simp only [Act.put, List.setIfInBounds_toArray, List.set_cons_zero, List.set_cons_succ, List.getElem_toArray, List.getElem_cons_succ, List.getElem_cons_zero]
                      refine takeW 14 (v := .bool false) rfl (by kernel_rfl) (fun _ _ _ h => h) (by rfl) (by assumption) ?yx4_14 ?rx4_14
                      case yx4_14 => (intro w' hSw; (try dsimp only at hSw); go_simp; try first | with_reducible rfl | simp [hgd])
                      try simp only [Act.put, List.setIfInBounds_toArray, List.set_cons_zero, List.set_cons_succ, List.getElem_toArray, List.getElem_cons_succ, List.getElem_cons_zero]
                      refine takeW 15 (v := ?vx4_15) rfl (by kernel_rfl) (fun _ _ _ h => h) (by rfl) (by assumption) ?yx4_15 ?rx4_15
                      case yx4_15 => (intro w' hSw; (try dsimp only at hSw); go_simp; try with_reducible rfl)
                      try simp only [Act.put, List.setIfInBounds_toArray, List.set_cons_zero, List.set_cons_succ, List.getElem_toArray, List.getElem_cons_succ, List.getElem_cons_zero]
                      refine takeW 16 (v := ?vx4_16) rfl (by kernel_rfl) (fun _ _ _ h => h) (by rfl) (by assumption) ?yx4_16 ?rx4_16
                      case yx4_16 => (intro w' hSw; (try dsimp only at hSw); go_simp; try with_reducible rfl)
                      try simp only [Act.put, List.setIfInBounds_toArray, List.set_cons_zero, List.set_cons_succ, List.getElem_toArray, List.getElem_cons_succ, List.getElem_cons_zero]
                      refine takeN 17 rfl (by kernel_rfl) (fun _ _ _ h => h) (by rfl) (by assumption) ?rx4_17
                      try simp only [Act.put, List.setIfInBounds_toArray, List.set_cons_zero, List.set_cons_succ, List.getElem_toArray, List.getElem_cons_succ, List.getElem_cons_zero]
                      refine takeN 18 rfl (by kernel_rfl) (fun _ _ _ h => h) (by rfl) (by assumption) ?rx4_18
                      try simp only [Act.put, List.setIfInBounds_toArray, List.set_cons_zero, List.set_cons_succ, List.getElem_toArray, List.getElem_cons_succ, List.getElem_cons_zero]
                      refine takeN 19 rfl (by kernel_rfl) (fun _ _ _ h => h) (by rfl) (by assumption) ?rx4_19
                      try simp only [Act.put, List.setIfInBounds_toArray, List.set_cons_zero, List.set_cons_succ, List.getElem_toArray, List.getElem_cons_succ, List.getElem_cons_zero]
                      refine takeN 20 rfl (by kernel_rfl) (fun _ _ _ h => h) (by rfl) (by assumption) ?rx4_20
                      try simp only [Act.put, List.setIfInBounds_toArray, List.set_cons_zero, List.set_cons_succ, List.getElem_toArray, List.getElem_cons_succ, List.getElem_cons_zero]
                      refine takeN 21 rfl (by kernel_rfl) (fun _ _ _ h => h) (by rfl) (by assumption) ?rx4_21
                      try simp only [Act.put, List.setIfInBounds_toArray, List.set_cons_zero, List.set_cons_succ, List.getElem_toArray, List.getElem_cons_succ, List.getElem_cons_zero]
                      refine takeN 22 rfl (by kernel_rfl) (fun _ _ _ h => h) (by rfl) (by assumption) ?rx4_22
                      try simp only [Act.put, List.setIfInBounds_toArray, List.set_cons_zero, List.set_cons_succ, List.getElem_toArray, List.getElem_cons_succ, List.getElem_cons_zero]
                      refine takeN 23 rfl (by kernel_rfl) (fun _ _ _ h => h) (by rfl) (by assumption) ?rx4_23
                      try simp only [Act.put, List.setIfInBounds_toArray, List.set_cons_zero, List.set_cons_succ, List.getElem_toArray, List.getElem_cons_succ, List.getElem_cons_zero]
                      refine takeN 24 rfl (by kernel_rfl) (fun _ _ _ h => h) (by rfl) (by assumption) ?rx4_24
                      try simp only [Act.put, List.setIfInBounds_toArray, List.set_cons_zero, List.set_cons_succ, List.getElem_toArray, List.getElem_cons_succ, List.getElem_cons_zero]
                      refine takeN 25 rfl (by kernel_rfl) (fun _ _ _ h => h) (by rfl) (by assumption) ?rx4_25
                      try simp only [Act.put, List.setIfInBounds_toArray, List.set_cons_zero, List.set_cons_succ, List.getElem_toArray, List.getElem_cons_succ, List.getElem_cons_zero]
                      refine takeN 26 rfl (by kernel_rfl) (fun _ _ _ h => h) (by rfl) (by assumption) ?rx4_26
                      try simp only [Act.put, List.setIfInBounds_toArray, List.set_cons_zero, List.set_cons_succ, List.getElem_toArray, List.getElem_cons_succ, List.getElem_cons_zero]
                      refine takeN 27 rfl (by kernel_rfl) (fun _ _ _ h => h) (by rfl) (by assumption) ?rx4_27
                      try simp only [Act.put, List.setIfInBounds_toArray, List.set_cons_zero, List.set_cons_succ, List.getElem_toArray, List.getElem_cons_succ, List.getElem_cons_zero]
                      refine takeN 28 rfl (by kernel_rfl) (fun _ _ _ h => h) (by rfl) (by assumption) ?rx4_28
                      try simp only [Act.put, List.setIfInBounds_toArray, List.set_cons_zero, List.set_cons_succ, List.getElem_toArray, List.getElem_cons_succ, List.getElem_cons_zero]
                      refine takeN 29 rfl (by kernel_rfl) (fun _ _ _ h => h) (by rfl) (by assumption) ?rx4_29
                      try simp only [Act.put, List.setIfInBounds_toArray, List.set_cons_zero, List.set_cons_succ, List.getElem_toArray, List.getElem_cons_succ, List.getElem_cons_zero]
                      refine takeN 30 rfl (by kernel_rfl) (fun _ _ _ h => h) (by rfl) (by assumption) ?rx4_30
                      try simp only [Act.put, List.setIfInBounds_toArray, List.set_cons_zero, List.set_cons_succ, List.getElem_toArray, List.getElem_cons_succ, List.getElem_cons_zero]
                      refine takeN 31 rfl (by kernel_rfl) (fun _ _ _ h => h) (by rfl) (by assumption) ?rx4_31
                      try simp only [Act.put, List.setIfInBounds_toArray, List.set_cons_zero, List.set_cons_succ, List.getElem_toArray, List.getElem_cons_succ, List.getElem_cons_zero]
                      refine takeW 32 (v := ?vx4_32) rfl (by kernel_rfl) (fun _ _ _ h => h) (by rfl) (by assumption) ?yx4_32 ?rx4_32
                      case yx4_32 => (intro w' hSw; (try dsimp only at hSw); go_simp; try with_reducible rfl)
                      try simp only [Act.put, List.setIfInBounds_toArray, List.set_cons_zero, List.set_cons_succ, List.getElem_toArray, List.getElem_cons_succ, List.getElem_cons_zero]
                      refine wpAnyH_done (by kernel_rfl) ?_ _
                      go_wp2_with fail
                      go_roundw
                      case rel => exact ⟨q + 1, by omega, by go_num, HBQ2.out⟩
                      case measure => simp [intOf]; omega
                · have hqi : ¬ (q : Int) < (zss.length : Int) := by omega
                  go_wp2_with fail
                  go_roundw
                  case rel => exact ⟨j + 1, hlt, by go_num, BI.out⟩
                  case measure => simp [intOf]; omega
        · have hji : ¬ (j : Int) < (zss.length : Int) := by omega
          have hsm : ((zss.length : Int) == 0) = sameN op n k op2 n2 k2 := by
            rw [← HNO.out, Bool.eq_iff_iff]
            simp
          generalize sameN op n k op2 n2 k2 = sm at hsm HSA
          clear HNO HAP HDF HCAP HLL HP1 HP2
          obtain ⟨⟨q0, q1, q2, p0, p1, p2⟩, -⟩ := FE.out wo (B2.out.trans (BO.out.mono B2.out.size))
          go_wp2_with fail
          refine (HSA.out wo (B2.out.trans (BO.out.mono B2.out.size))).mono ?_
          rintro e w12 ⟨rfl, hb12⟩
          have B12 := Lib.hid (BO.out.trans (hb12.mono BO.out.size))
          have HBW := Lib.hid (FE.out w12 (B2.out.trans (B12.out.mono B2.out.size))).2.2.2
          clear hb12 q0 q1 q2 p0 p1 p2
          go_wp2_with fail
          go_ret
          exact ⟨by simp, HBW.out⟩
end Go.Proofs.Ytdpiklnadhpjjaa
