/-
  LibrarySame: two lists of functions are the same: the model and the program.
-/
import Derived.Test.YtedcdgjedocikaaDe
import Derived.Test.YtedcdgjedocikaaSame
import Derived.Test.YtedcdgjedocikaaISame
import Derived.BigQuiet
import Derived.Deep.QuietTactic
namespace Go.Proofs.Ytedcdgjedocikaa
open Go.RowKit

def sameDe (d e : De) : Bool := decide (d.nm = e.nm) && decide (d.ar = e.ar) && decide (d.old = e.old) && sameN d.op d.n d.k e.op e.n e.k
def sameDs : List De → List De → Bool
  | [], [] => true
  | d :: r, e :: s => sameDe d e && sameDs r s
  | [], _ :: _ => false
  | _ :: _, [] => false
theorem sameDs_len : ∀ {a b : List De}, sameDs a b = true → a.length = b.length
  | [], [], _ => rfl
  | d :: r, e :: s, h => by simp only [sameDs, Bool.and_eq_true] at h; simp only [List.length_cons, sameDs_len h.2]
  | [], _ :: _, h => by simp [sameDs] at h
  | _ :: _, [], h => by simp [sameDs] at h
theorem sameDs_ne {a b : List De} (h : a.length ≠ b.length) : sameDs a b = false := by
  cases e : sameDs a b with
  | false => rfl
  | true => exact absurd (sameDs_len e) h
theorem sameDs_at {a b : List De} {j : Nat} {d e : De} (h1 : a[j]? = some d) (h2 : b[j]? = some e) : sameDs (a.drop j) (b.drop j) = (sameDe d e && sameDs (a.drop (j + 1)) (b.drop (j + 1))) := by
  rw [drop_at h1, drop_at h2]; rfl

set_option maxHeartbeats 800000 in
theorem sameDef_any (d e : De) (A A' : Option Addr) (c c' : Nat) (w : World) (L B : Nat) (hlL : Lies w L B A 0 d.k) (hB : B ≤ w.heap.size) (hal : AllRows w L B) (hl' : Lies w 0 w.heap.size A' 0 e.k)
    (hk1 : d.k.len ≤ c) (hk2 : c ≤ maxLen) (hk1' : e.k.len ≤ c') (hk2' : c' ≤ maxLen) (hsz : d.k.size ≤ 1048576) :
    Calls Try.prog 46 #[.agg #[.int .i64 d.nm, .int .i64 d.ar, .bool d.old, .int .i64 d.op, .int .i64 d.n, .slice A d.k.len c], .agg #[.int .i64 e.nm, .int .i64 e.ar, .bool e.old, .int .i64 e.op, .int .i64 e.n, .slice A' e.k.len c']] w (Gives (.bool (sameDe d e)) w) := by
  unfold sameDe
  obtain ⟨nm, ar, old, op, n, k⟩ := d
  obtain ⟨nm', ar', old', op', n', k'⟩ := e
  dsimp only at *
  have hb1 : Below w.heap.size w ((w.alloc (Obj.cells #[Value.int IntKind.i64 nm, Value.int IntKind.i64 ar, Value.bool old, Value.int IntKind.i64 op, Value.int IntKind.i64 n, Value.slice A k.len c] 65)).alloc (Obj.cells #[Value.int IntKind.i64 nm', Value.int IntKind.i64 ar', Value.bool old', Value.int IntKind.i64 op', Value.int IntKind.i64 n', Value.slice A' k'.len c'] 65)) :=
    ((Below.refl _ _).alloc (Nat.le_refl _) _).alloc (by simp) _
  by_cases h1 : nm = nm'
  · by_cases h2 : ar = ar'
    · by_cases h3 : old = old'
      · subst h1 h2 h3
        simp only [decide_true, Bool.true_and]
        go_enter Try.func46, Try.ntmps46
        have hs := implSame_any op n op' n' k k' A A' c c' ((w.alloc (Obj.cells #[Value.int IntKind.i64 nm, Value.int IntKind.i64 ar, Value.bool old, Value.int IntKind.i64 op, Value.int IntKind.i64 n, Value.slice A k.len c] 65)).alloc (Obj.cells #[Value.int IntKind.i64 nm, Value.int IntKind.i64 ar, Value.bool old, Value.int IntKind.i64 op', Value.int IntKind.i64 n', Value.slice A' k'.len c'] 65))
          ((hlL.mono_ (Nat.zero_le _) hB).up hb1) (hl'.up hb1) L B (hlL.below (hb1.mono hB)) (Nat.le_trans hB hb1.size) (hal.below hb1 hB) hk1 hk2 hk1' hk2' hsz
        generalize sameN op n k op' n' k' = z at hs ⊢
        cases old <;> (
          go_wp2_with fail
          refine hs.mono ?_
          rintro e w2 ⟨rfl, hb⟩
          have hb3 := hb1.trans (hb.mono hb1.size)
          clear hb hb1
          go_wp2
          go_ret
          exact ⟨rfl, hb3⟩)
      · subst h1 h2
        have ez : (decide (nm = nm) && decide (ar = ar) && decide (old = old') && sameN op n k op' n' k') = false := by simp [h3]
        rw [ez]
        cases old <;> cases old' <;> first | exact absurd rfl h3 | (
          go_enter Try.func46, Try.ntmps46
          go_wp2
          go_ret
          exact ⟨rfl, hb1⟩)
    · subst h1
      have ez : (decide (nm = nm) && decide (ar = ar') && decide (old = old') && sameN op n k op' n' k') = false := by simp [h2]
      rw [ez]
      go_enter Try.func46, Try.ntmps46
      go_wp2
      go_ret
      exact ⟨rfl, hb1⟩
  · have ez : (decide (nm = nm') && decide (ar = ar') && decide (old = old') && sameN op n k op' n' k') = false := by simp [h1]
    rw [ez]
    go_enter Try.func46, Try.ntmps46
    go_wp2
    go_ret
    exact ⟨rfl, hb1⟩

set_option maxHeartbeats 4000000 in
theorem specLibSame_any (ds es : List De) (A A' : Option Addr) (c c' : Nat) (w : World) (hl : LiesD w 0 w.heap.size A ds) (hl' : LiesD w 0 w.heap.size A' es) (hsz : sizeD ds ≤ 1048576) (hsz' : sizeD es ≤ 1048576) :
    Calls Try.prog 25 #[.slice A ds.length c, .slice A' es.length c'] w (Gives (.bool (sameDs ds es)) w) := by
  have hlen := sizeD_len ds
  have hlen' := sizeD_len es
  by_cases hk : ds.length = es.length
  · have HK := Lib.hid hk
    rw [hk] at hlen ⊢
    clear hk
    go_enter Try.func25, Try.ntmps25
    go_wp2
    go_loopw [5] (fun i wr => ∃ (j : Nat), j ≤ es.length ∧ i = .int .i64 j ∧ Hid (sameDs ds es = sameDs (ds.drop j) (es.drop j)) ∧ Below w.heap.size w wr)
      (fun i _ => es.length - (intOf i).toNat)
    case atStart => exact ⟨0, by omega, rfl, Lib.hid rfl, Below.refl _ _⟩
    case round =>
      obtain ⟨j, hj, rfl, HSM, hb⟩ := hrel
      by_cases hlt : j < es.length
      · have e1 := List.getElem?_eq_getElem (l := ds) (i := j) (by have := HK.out; omega)
        have e1' := List.getElem?_eq_getElem hlt
        generalize ds[j]'(by have := HK.out; omega) = d at e1
        generalize es[j] = e at e1'
        have hdz := sizeD_at e1
        have hez := sizeD_at e1'
        have HSC := Lib.hid (HSM.out.trans (sameDs_at e1 e1'))
        obtain ⟨b, o, B, q, hA, _, hbb, hf, g1, g2, g3, g4, g5, g6, h7, h8, h9⟩ := hl.below hb j d e1
        obtain ⟨b', o', B', q', hA', _, hbb', _, g1', g2', g3', g4', g5', g6', h7', h8', h9'⟩ := hl'.below hb j e e1'
        subst hA hA'
        clear e1 e1' HSM
        obtain ⟨nm, ar, old, op, n, k⟩ := d
        obtain ⟨nm', ar', old', op', n', k'⟩ := e
        unfold sameDe at HSC
        dsimp only at *
        have hbd : Below w.heap.size w wr.drew := hb.drew
        by_cases h1 : nm = nm'
        · by_cases h2 : ar = ar'
          · by_cases h3 : old = old'
            · subst h1 h2 h3
              simp only [decide_true, Bool.true_and] at HSC
              cases old <;> (
                go_wp2_with fail
                go_still_tail 48, (by kernel_rfl)
                change wpList _ _ _ _ _ wr.drew
                go_wp2_with fail
                refine (specSame_any k.size op n op' n' k k' B B' q q' wr.drew rfl ((h9.below (w' := wr.drew) ((Below.refl _ _).drew)).mono_ (Nat.le_refl _) (by have := hbd.size; omega)) ((h9'.below (w' := wr.drew) ((Below.refl _ _).drew)).mono_ (Nat.le_refl _) (by have := hbd.size; omega)) (by omega) (by omega)).mono ?_
                rintro e w2 ⟨rfl, hb2⟩
                have B3 := Lib.hid (hbd.trans (hb2.mono hbd.size))
                clear g1 g2 g3 g4 g5 g6 g1' g2' g3' g4' g5' g6' hb hbd hb2
                cases hsn : sameN op n k op' n' k' with
                | true =>
                  rw [hsn, Bool.true_and] at HSC
                  clear hsn
                  go_wp2
                  go_roundw
                  case rel => exact ⟨j + 1, by omega, by go_num, HSC, B3.out⟩
                  case measure => simp [intOf]; omega
                | false =>
                  rw [hsn, Bool.false_and] at HSC
                  clear hsn
                  go_wp2
                  go_ret
                  exact ⟨by rw [HSC.out]; rfl, B3.out⟩)
            · subst h1 h2
              have ez : (decide (nm = nm) && decide (ar = ar) && decide (old = old') && sameN op n k op' n' k') = false := by simp [h3]
              rw [ez, Bool.false_and] at HSC
              cases old <;> cases old' <;> first | exact absurd rfl h3 | (
                go_wp2
                go_quiet (fail)
                have hb2 := below_drewN hb nq
                clear g1 g2 g3 g4 g5 g6 g1' g2' g3' g4' g5' g6' hb hbd
                go_wp2
                go_ret
                exact ⟨by rw [HSC.out]; rfl, hb2⟩)
          · subst h1
            have ez : (decide (nm = nm) && decide (ar = ar') && decide (old = old') && sameN op n k op' n' k') = false := by simp [h2]
            rw [ez, Bool.false_and] at HSC
            have t1 : (ar == ar') = false := by simpa using h2
            have t2 : (ar != ar') = true := by simpa using h2
            clear ez hl hl' h9 h9' hlen hlen' HK hdz hez
            go_wp2
            go_quiet (fail)
            have hb2 := below_drewN hb nq
            clear g1 g2 g3 g4 g5 g6 g1' g2' g3' g4' g5' g6' hb hbd
            go_wp2
            go_ret
            exact ⟨by rw [HSC.out]; rfl, hb2⟩
        · have ez : (decide (nm = nm') && decide (ar = ar') && decide (old = old') && sameN op n k op' n' k') = false := by simp [h1]
          rw [ez, Bool.false_and] at HSC
          have t1 : (nm == nm') = false := by simpa using h1
          have t2 : (nm != nm') = true := by simpa using h1
          clear ez hl hl' h9 h9' hlen hlen' HK hdz hez
          go_wp2
          go_quiet (fail)
          have hb2 := below_drewN hb nq
          clear g1 g2 g3 g4 g5 g6 g1' g2' g3' g4' g5' g6' hb hbd
          go_wp2
          go_ret
          exact ⟨by rw [HSC.out]; rfl, hb2⟩
      · have hz := HSM.out
        rw [List.drop_eq_nil_iff.2 (by have := HK.out; omega), List.drop_eq_nil_iff.2 (by omega)] at hz
        have HZ := Lib.hid hz
        clear hz HSM
        go_wp2
        go_ret
        exact ⟨by rw [HZ.out]; rfl, hb⟩
  · rw [sameDs_ne hk]
    have hkz : ¬ ((ds.length : Nat) : Int) = ((es.length : Nat) : Int) := by omega
    go_enter Try.func25, Try.ntmps25
    go_wp2
    go_ret
    exact ⟨rfl, Below.refl _ _⟩
end Go.Proofs.Ytedcdgjedocikaa
