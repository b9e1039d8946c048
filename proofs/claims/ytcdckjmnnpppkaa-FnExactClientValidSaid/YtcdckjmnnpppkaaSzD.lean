/-
  szDef and szDefS: what is left behind a list of functions.
-/
import Derived.Test.YtcdckjmnnpppkaaDe
import Derived.Test.YtcdckjmnnpppkaaTools
namespace Go.Proofs.Ytcdckjmnnpppkaa
open Go.RowKit
set_option maxRecDepth 100000

def aggD (d : De) (A : Option Addr) (c : Nat) : Value := .agg #[.int .i64 d.nm, .int .i64 d.ar, .bool d.old, .int .i64 d.op, .int .i64 d.n, .slice A d.k.len c]

set_option maxHeartbeats 400000 in
theorem szDef_any (d : De) (left : Int) (A : Option Addr) (c : Nat) (w : World) (hl : Lies w 0 w.heap.size A 0 d.k) (hlen : d.k.len ≤ maxLen) (h0 : 0 ≤ left) (h1 : left ≤ 1048576) :
    Calls Try.prog 29 #[.agg #[.int .i64 d.nm, .int .i64 d.ar, .bool d.old, .int .i64 d.op, .int .i64 d.n, .slice A d.k.len c], .int .i64 left] w (SzPost d.k.size left w.heap.size w) := by
  obtain ⟨nm, ar, old, op, n, k⟩ := d
  dsimp only at *
  go_enter Try.func29, Try.ntmps29
  go_wp2_with fail
  have hb0 : Below w.heap.size w (w.alloc (Obj.cells #[Value.int IntKind.i64 nm, Value.int IntKind.i64 ar, Value.bool old, Value.int IntKind.i64 op, Value.int IntKind.i64 n, Value.slice A k.len c] 48)) := (Below.refl _ _).alloc (Nat.le_refl _) _
  refine (szExpr_any op n k A c _ left (hl.up hb0) hlen h0 h1).mono ?_
  rintro e w' ⟨r, rfl, hr, hb⟩
  have hb1 := hb0.trans (hb.mono (by simp))
  clear hb hb0
  go_wp2
  · go_ret
    exact ⟨-1, rfl, .inl rfl, hb1⟩
  · go_ret
    exact ⟨r, rfl, hr, hb1⟩

set_option maxHeartbeats 400000 in
theorem szDefS_any (ds : List De) (A : Option Addr) (c : Nat) (w : World) (left : Int) (hl : LiesD w 0 w.heap.size A ds) (hlen : ds.length ≤ maxLen) (h0 : 0 ≤ left) (h1 : left ≤ 1048576) :
    Calls Try.prog 8 #[.slice A ds.length c, .int .i64 left] w (SzPost (sizeD ds) left w.heap.size w) := by
  unfold maxLen at hlen
  go_enter Try.func8, Try.ntmps8
  go_wp2
  · go_ret
    exact ⟨-1, rfl, .inl rfl, Below.refl _ _⟩
  · go_loopw [1, 5] (fun l i wr => ∃ (j : Nat) (r : Int), j ≤ ds.length ∧ i = .int .i64 j ∧ l = .int .i64 r ∧ 0 ≤ r ∧ r ≤ left ∧ r + sizeD ds + (ds.length - j) = left + sizeD (ds.drop j) ∧ Below w.heap.size w wr)
      (fun _ i _ => ds.length - (intOf i).toNat)
    case atStart => exact ⟨0, _, by omega, rfl, rfl, by assumption, by omega, by simp; omega, Below.refl _ _⟩
    case round =>
      obtain ⟨j, r, hj, rfl, rfl, hr0, hr1, hr, hb⟩ := hrel
      by_cases hlt : j < ds.length
      · have e1 := List.getElem?_eq_getElem hlt
        generalize ds[j] = d at e1
        have e3 := sizeD_drop e1
        obtain ⟨b, o, A', c', hA, _, hbb, hf, g1, g2, g3, g4, g5, g6, h7, h8, h9⟩ := hl.below hb j d e1
        subst hA
        have hkl : d.k.len ≤ maxLen := by omega
        go_wp2_with fail
        refine (szDef_any d r A' c' wr (h9.mono_ (Nat.le_refl _) hb.size) hkl hr0 (by omega)).mono ?_
        rintro e w2 ⟨r2, rfl, hr2, hb2⟩
        have hb3 := hb.trans (hb2.mono hb.size)
        clear hb2 hb g1 g2 g3 g4 g5 g6 e1 h9 hl
        go_wp2
        · go_ret
          exact ⟨-1, rfl, .inl rfl, hb3⟩
        · go_roundw
          case rel => exact ⟨j + 1, r2, by omega, by go_num, rfl, by omega, by omega, by omega, hb3⟩
          case measure => simp [intOf]; omega
      · have e9 : ds.length = j := by omega
        have hd : ds.drop j = [] := List.drop_eq_nil_iff.2 (by omega)
        rw [hd] at hr
        go_wp2
        go_ret
        refine ⟨r, rfl, .inr ⟨hr0, ?_⟩, hb⟩
        simp only [sizeD] at hr
        omega
end Go.Proofs.Ytcdckjmnnpppkaa
