/-
  impl.LibrarySame: slices.EqualFunc over sameDef.
-/
import Derived.Test.YtedcdgjedocikaaLibSame
namespace Go.Proofs.Ytedcdgjedocikaa
open Go.RowKit

set_option maxHeartbeats 1000000 in
theorem equalFunc_any (ds es : List De) (A A' : Option Addr) (c c' : Nat) (w : World) (L B : Nat) (hlL : LiesD w L B A ds) (hB : B ≤ w.heap.size) (hal : AllRows w L B) (hl' : LiesD w 0 w.heap.size A' es) (hsz : sizeD ds ≤ 1048576) (hsz' : sizeD es ≤ 1048576) :
    Calls Try.prog 45 #[.slice A ds.length c, .slice A' es.length c', .func (.func 46) #[] #[]] w (Gives (.bool (sameDs ds es)) w) := by
  have hlen := sizeD_len ds
  have hlen' := sizeD_len es
  by_cases hk : ds.length = es.length
  · have HK := Lib.hid hk
    rw [hk] at hlen ⊢
    clear hk
    go_enter Try.func45, Try.ntmps45
    go_wp2
    go_loopw [17] (fun i wr => ∃ (j : Nat), j ≤ es.length ∧ i = .int .i64 j ∧ Hid (sameDs ds es = sameDs (ds.drop j) (es.drop j)) ∧ Below w.heap.size w wr)
      (fun i _ => es.length - (intOf i).toNat)
    case atStart => exact ⟨0, by omega, rfl, Lib.hid rfl, Below.refl _ _⟩
    case round =>
      obtain ⟨j, hj, rfl, HSM, hb⟩ := hrel
      by_cases hlt : j < es.length
      · have e1 := List.getElem?_eq_getElem (l := ds) (i := j) (by have := HK.out; omega)
        have e1' := List.getElem?_eq_getElem hlt
        generalize ds[j]'(by have := HK.out; omega) = d at e1
        generalize es[j] = e at e1'
        have hdz := sizeD_at e1
        have HSC := Lib.hid (HSM.out.trans (sameDs_at e1 e1'))
        obtain ⟨b, o, D, q, hA, _, hbb, hf, g1, g2, g3, g4, g5, g6, h7, h8, h9⟩ := hlL.below (hb.mono hB) j d e1
        obtain ⟨b', o', D', q', hA', _, hbb', _, g1', g2', g3', g4', g5', g6', h7', h8', h9'⟩ := hl'.below hb j e e1'
        subst hA hA'
        clear e1 e1' HSM
        have hbw : Below wr.heap.size wr ((wr.alloc (Obj.cells #[Value.int IntKind.i64 d.nm, Value.int IntKind.i64 d.ar, Value.bool d.old, Value.int IntKind.i64 d.op, Value.int IntKind.i64 d.n, Value.slice D d.k.len q] 65)).alloc (Obj.cells #[Value.int IntKind.i64 e.nm, Value.int IntKind.i64 e.ar, Value.bool e.old, Value.int IntKind.i64 e.op, Value.int IntKind.i64 e.n, Value.slice D' e.k.len q'] 65)) :=
          ((Below.refl _ _).alloc (Nat.le_refl _) _).alloc (by simp) _
        have hbw2 := hb.trans (hbw.mono hb.size)
        have hcall := sameDef_any d e D D' q q' _ L B (h9.below (hbw.mono (Nat.le_trans hB hb.size))) (Nat.le_trans hB hbw2.size) (hal.below hbw2 hB) ((h9'.mono_ (Nat.le_refl _) hb.size).up hbw) h7 h8 h7' h8' (by omega)
        have HC := Lib.hid hcall
        have hbz : b' < wr.heap.size := Nat.lt_of_lt_of_le hbb' hb.size
        have hba : Below wr.heap.size wr (wr.alloc (Obj.cells #[Value.int IntKind.i64 d.nm, Value.int IntKind.i64 d.ar, Value.bool d.old, Value.int IntKind.i64 d.op, Value.int IntKind.i64 d.n, Value.slice D d.k.len q] 65)) := (Below.refl _ _).alloc (Nat.le_refl _) _
        have k1 := (hba.cell (p := ⟨b', o' + j * 6, none⟩) hbz).trans g1'
        have k2 := (hba.cell (p := ⟨b', o' + j * 6 + 1, none⟩) hbz).trans g2'
        have k3 := (hba.cell (p := ⟨b', o' + j * 6 + 2, none⟩) hbz).trans g3'
        have k4 := (hba.cell (p := ⟨b', o' + j * 6 + 3, none⟩) hbz).trans g4'
        have k5 := (hba.cell (p := ⟨b', o' + j * 6 + 4, none⟩) hbz).trans g5'
        have k6 := (hba.cell (p := ⟨b', o' + j * 6 + 5, none⟩) hbz).trans g6'
        clear hba g1' g2' g3' g4' g5' g6'
        clear hcall hlL hl' hal h9 h9'
        go_wp2_with fail
        refine HC.out.mono ?_
        rintro e w2 ⟨rfl, hb2⟩
        have B3 := Lib.hid (hbw2.trans (hb2.mono hbw2.size))
        clear g1 g2 g3 g4 g5 g6 k1 k2 k3 k4 k5 k6 hb hb2 hbw hbw2 HC
        cases hsn : sameDe d _ with
        | true =>
          rw [hsn, Bool.true_and] at HSC
          clear hsn
          go_wp2
          go_roundw
          case rel => exact ⟨j + 1, by omega, by go_num, HSC, B3.out⟩
          case measure => simp [intOf]; omega
        | false =>
          rw [hsn, Bool.false_and] at HSC
          clear hsn
          go_wp2
          go_ret
          exact ⟨by rw [HSC.out]; rfl, B3.out⟩
      · have hz := HSM.out
        rw [List.drop_eq_nil_iff.2 (by have := HK.out; omega), List.drop_eq_nil_iff.2 (by omega)] at hz
        have HZ := Lib.hid hz
        clear hz HSM
        go_wp2
        go_ret
        exact ⟨by rw [HZ.out]; rfl, hb⟩
  · rw [sameDs_ne hk]
    have hkz : ¬ ((ds.length : Nat) : Int) = ((es.length : Nat) : Int) := by omega
    go_enter Try.func45, Try.ntmps45
    go_wp2
    go_ret
    exact ⟨rfl, Below.refl _ _⟩

theorem implLibSame_any (ds es : List De) (A A' : Option Addr) (c c' : Nat) (w : World) (L B : Nat) (hlL : LiesD w L B A ds) (hB : B ≤ w.heap.size) (hal : AllRows w L B) (hl' : LiesD w 0 w.heap.size A' es) (hsz : sizeD ds ≤ 1048576) (hsz' : sizeD es ≤ 1048576) :
    Calls Try.prog 27 #[.slice A ds.length c, .slice A' es.length c'] w (Gives (.bool (sameDs ds es)) w) := by
  have h := equalFunc_any ds es A A' c c' w L B hlL hB hal hl' hsz hsz'
  generalize sameDs ds es = z at h ⊢
  go_enter Try.func27, Try.ntmps27
  go_wp2_with fail
  refine h.mono ?_
  rintro e w2 ⟨rfl, hb2⟩
  go_wp2
  go_ret
  exact ⟨rfl, hb2⟩
end Go.Proofs.Ytedcdgjedocikaa
