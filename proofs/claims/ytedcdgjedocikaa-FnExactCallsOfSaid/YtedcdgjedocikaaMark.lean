/-
  markExprS and markExpr: numbers are written over all Op and N of a copy; nothing else is turned.
-/
import Derived.Test.YtedcdgjedocikaaTools
import Derived.Test.YtedcdgjedocikaaLiesI
import Derived.Laws.AppendOwn
namespace Go.Proofs.Ytedcdgjedocikaa
open Go.RowKit

/-- The skeleton of a copy: the slices of Kids, each at the head of a row. -/
def Al (w : World) (L B : Nat) : Option Addr → Nat → Fo → Prop
  | _, _, .nil => True
  | A, i, .cons _ _ k r =>
    (∃ b A' c' t cs, A = some ⟨b, 0, none⟩ ∧ L ≤ b ∧ b < B ∧ Row w b t cs ∧ i * 3 + 2 < cs.size ∧ cs[i * 3 + 2]? = some (.slice A' k.len c') ∧ Al w L B A' 0 k) ∧ Al w L B A (i + 1) r

theorem cell_row {w : World} {g i : Nat} {t : TypeId} {cs : Array Value} {v : Value} (hr : Row w g t cs) (h : w.cell? ⟨g, i, none⟩ = some v) : cs[i]? = some v := (cell_of_row w g i cs t _ hr).symm.trans h
theorem LiesZ.al {w : World} {L B : Nat} (ha : AllRows w L B) : ∀ {f : Fo} {A : Option Addr} {i : Nat}, LiesZ w L B A i f → Al w L B A i f
  | .nil, _, _, _ => trivial
  | .cons _ _ _ _, _, _, ⟨⟨b, A', c', hA, hl, hb, _, _, _, _, h5, _, _, h8⟩, h⟩ => by
    obtain ⟨t, cs, hr⟩ := ha b hl hb
    have hc := cell_row hr h5
    exact ⟨⟨b, A', c', t, cs, hA, hl, hb, hr, (Array.getElem?_eq_some_iff.1 hc).1, hc, LiesZ.al ha h8⟩, LiesZ.al ha h⟩

/-- Blocks outside L..B are as they were; rows within keep their size and the cells of the slices. -/
structure Mk (L B : Nat) (w w' : World) : Prop where
  os : w'.os = w.os
  tape : w'.tape = w.tape
  output : w'.output = w.output
  size : w.heap.size ≤ w'.heap.size
  out : ∀ k, k < w.heap.size → (k < L ∨ B ≤ k) → w'.heap[k]? = w.heap[k]?
  inn : ∀ b t cs, L ≤ b → b < B → Row w b t cs → ∃ cs', Row w' b t cs' ∧ cs'.size = cs.size ∧ ∀ q : Nat, cs'[q * 3 + 2]? = cs[q * 3 + 2]?

section
variable {L B : Nat} {w w' w2 : World}
theorem Mk.refl (L B : Nat) (w : World) : Mk L B w w := ⟨rfl, rfl, rfl, Nat.le_refl _, fun _ _ _ => rfl, fun _ _ cs _ _ h => ⟨cs, h, rfl, fun _ => rfl⟩⟩
theorem Mk.trans (h : Mk L B w w') (k : Mk L B w' w2) : Mk L B w w2 := by
  refine ⟨k.os.trans h.os, k.tape.trans h.tape, k.output.trans h.output, Nat.le_trans h.size k.size, fun i hi ho => (k.out i (Nat.lt_of_lt_of_le hi h.size) ho).trans (h.out i hi ho), fun b t cs h1 h2 hr => ?_⟩
  obtain ⟨cs1, r1, s1, e1⟩ := h.inn b t cs h1 h2 hr
  obtain ⟨cs2, r2, s2, e2⟩ := k.inn b t cs1 h1 h2 r1
  exact ⟨cs2, r2, s2.trans s1, fun q => (e2 q).trans (e1 q)⟩
theorem Mk.set {b j : Nat} (h : Mk L B w w') (h1 : L ≤ b) (h2 : b < B) (hj : ∀ q : Nat, q * 3 + 2 ≠ j) (v : Value) : Mk L B w (w'.setCell ⟨b, j, none⟩ v) := by
  refine h.trans ⟨rfl, rfl, rfl, by simp [World.setCell], fun k _ ho => Below.heap_setCell w' _ v k (by dsimp only; omega), fun b' t cs h3 h4 hr => ?_⟩
  by_cases hb : b' = b
  · subst hb
    exact ⟨_, hr.put j v, by simp, fun q => Array.getElem?_setIfInBounds_ne (Ne.symm (hj q))⟩
  · exact ⟨cs, hr.apart hb v, rfl, fun _ => rfl⟩
theorem Mk.of_below {C : Nat} (h : Below C w w') (hC : w.heap.size ≤ C) : Mk L B w w' :=
  ⟨h.os, h.tape, h.output, h.size, fun k hk _ => h.block k (Nat.lt_of_lt_of_le hk hC), fun b t cs _ _ hr => ⟨cs, hr.below h (Nat.lt_of_lt_of_le hr.size hC), rfl, fun _ => rfl⟩⟩
theorem Mk.below {C : Nat} {w0 : World} (h : Mk L B w w') (hb : Below C w0 w) (hC : C ≤ L) (hz : C ≤ w0.heap.size) : Below C w0 w' :=
  ⟨h.os.trans hb.os, h.tape.trans hb.tape, h.output.trans hb.output, Nat.le_trans hb.size h.size, fun i hi => (h.out i (Nat.lt_of_lt_of_le hi (Nat.le_trans hz hb.size)) (.inl (by omega))).trans (hb.block i hi)⟩
theorem Mk.row {g : Nat} {t : TypeId} {cs : Array Value} (h : Mk L B w w') (hr : Row w g t cs) (hg : g < L ∨ B ≤ g) : Row w' g t cs := (h.out g hr.size hg).trans hr
theorem Mk.ints {L' B' : Nat} {A : Option Addr} {zs : List Int} (h : Mk L B w w') (hl : LiesI w L' B' A zs) (hB : B' ≤ w.heap.size) (hd : B' ≤ L ∨ B ≤ L') : LiesI w' L' B' A zs :=
  hl.keep (Nat.le_refl _) (Nat.le_refl _) fun p h1 h2 => World.cell?_of_block (w := w) (h.out p.block (by omega) (by omega))
theorem Mk.owns {base : Nat} {e : TypeId} {size : Nat} {v : Value} {n : Nat} {xs : List Value} (h : Mk L B w w') (ho : w.ownsRow base e size v n xs) (hb : B ≤ base) : w'.ownsRow base e size v n xs := by
  refine ⟨ho.1, ?_⟩
  rcases ho.2 with h0 | ⟨g, cap, cur, h1, h2, h3, h4⟩
  · exact .inl h0
  · exact .inr ⟨g, cap, cur, h1, h2, (h.out g (Array.getElem?_eq_some_iff.1 h3).1 (.inr (by omega))).trans h3, h4⟩

theorem Al.mk (h : Mk L B w w') : ∀ {f : Fo} {A : Option Addr} {i : Nat}, Al w L B A i f → Al w' L B A i f
  | .nil, _, _, _ => trivial
  | .cons _ _ _ _, _, _, ⟨⟨b, A', c', t, cs, hA, h1, h2, hr, hs, hc, hk⟩, hrest⟩ => by
    obtain ⟨cs', r', s', e'⟩ := h.inn b t cs h1 h2 hr
    exact ⟨⟨b, A', c', t, cs', hA, h1, h2, r', by omega, (e' _).trans hc, Al.mk h hk⟩, Al.mk h hrest⟩
theorem Al.at_ {A : Option Addr} : ∀ {f : Fo} {i : Nat} (j : Nat), Al w L B A i f → Al w L B A (i + j) (f.drop j)
  | f, i, 0, h => by simpa [Fo.drop_zero] using h
  | .nil, _, j + 1, _ => by simp [Fo.drop, Al]
  | .cons _ _ _ r, i, j + 1, h => by
    have := Al.at_ (f := r) (i := i + 1) j h.2
    simpa [Fo.drop, Nat.add_assoc, Nat.add_comm 1 j] using this
end

def MarkPost (s : Nat) (x : Int) (L B : Nat) (w : World) (e : Ending) (w' : World) : Prop := e = .returned (.int .i64 (x + 2 * (s : Int))) ∧ Mk L B w w'

set_option maxHeartbeats 800000 in
theorem markExprS_any (L B m : Nat) : ∀ (f : Fo) (A : Option Addr) (c : Nat) (w : World) (x : Int), f.size = m → Al w L B A 0 f → 0 ≤ x → x + 2 * (f.size : Int) ≤ 8388608 →
    Calls Try.prog 36 #[.slice A f.len c, .int .i64 x] w (MarkPost f.size x L B w) := by
  induction m using Nat.strongRecOn with
  | _ m ih =>
    intro f A c w x hm hl hx0 hx1
    have hlen := Fo.len_le_size f
    go_enter Try.func36, Try.ntmps36
    go_wp2
    go_loopw [1, 5] (fun y i wr => ∃ (j z : Nat), j ≤ f.len ∧ i = .int .i64 j ∧ y = .int .i64 (x + 2 * (z : Int)) ∧ z + (f.drop j).size = f.size ∧ Mk L B w wr)
      (fun _ i _ => f.len - (intOf i).toNat)
    case atStart => exact ⟨0, 0, by omega, rfl, by simp, by simp [Fo.drop_zero], Mk.refl _ _ _⟩
    case round =>
      obtain ⟨j, z, hj, rfl, rfl, hz, hmk⟩ := hrel
      by_cases hlt : j < f.len
      · obtain ⟨op, n, k, e1, e2, e3⟩ := Fo.drop_of_lt f j hlt
        have hj' := (Al.mk hmk hl).at_ j
        rw [Nat.zero_add, e1] at hj'
        obtain ⟨⟨b, A', c', t, cs, hA, h1, h2, hr, hs, hc, hk⟩, _⟩ := hj'
        subst hA
        obtain ⟨v0, p0⟩ : ∃ v, cs[j * 3]? = some v := ⟨_, Array.getElem?_eq_getElem (by omega)⟩
        obtain ⟨v1, p1⟩ : ∃ v, cs[j * 3 + 1]? = some v := ⟨_, Array.getElem?_eq_getElem (by omega)⟩
        have q0 := hr.cell p0
        have q1 := hr.cell p1
        have q2 := hr.cell hc
        have f0 := hr.free (j * 3)
        have f1 := hr.free (j * 3 + 1)
        have hs2 : Mk L B wr ((wr.setCell ⟨b, j * 3, none⟩ (.int .i64 (x + 2 * (z : Int)))).setCell ⟨b, j * 3 + 1, none⟩ (.int .i64 (x + 2 * (z : Int) + 1))) :=
          Mk.set (Mk.set (Mk.refl L B wr) h1 h2 (fun q => by omega) _) h1 h2 (fun q => by omega) _
        have hm2 := hmk.trans hs2
        have HM := Lib.hid hm2
        have HE := Lib.hid e1
        have HZ := Lib.hid (show z + 1 + k.size + (f.drop (j + 1)).size = f.size by omega)
        have hb1 : x + 2 * (z : Int) + 2 + 2 * (k.size : Int) ≤ 8388608 := by omega
        have hks : k.size < m := by omega
        have HK := Lib.hid (Al.mk hs2 hk)
        clear hs2
        clear p0 p1 hc hr hm2 e1 e3 hk hl hmk hz
        go_wp2_with fail
        refine (ih k.size hks k A' c' _ (x + 2 * (z : Int) + 1 + 1) rfl HK.out (by omega) (by omega)).mono ?_
        rintro e w2 ⟨rfl, hm3⟩
        have HM2 := Lib.hid (HM.out.trans hm3)
        have hb2 : x + 2 * (z : Int) + 1 + 1 + 2 * (k.size : Int) ≤ 8388608 := by omega
        clear hm3 q0 q1 q2 f0 f1 HM HK ih
        go_wp2
        go_roundw
        case rel => exact ⟨j + 1, z + 1 + k.size, by omega, by go_num, by simp; omega, HZ.out, HM2.out⟩
        case measure => simp [intOf]; omega
      · have e9 : j = f.len := by omega
        rw [e9, Fo.drop_len] at hz
        simp only [Fo.size, Nat.add_zero] at hz
        go_wp2
        go_ret
        exact ⟨by rw [← hz]; rfl, hmk⟩

set_option maxHeartbeats 400000 in
theorem markExpr_any (L B : Nat) (op n : Int) (k : Fo) (A : Option Addr) (c : Nat) (w : World) (x : Int) (hl : Al w L B A 0 k) (hx0 : 0 ≤ x) (hx1 : x + 2 * (k.size : Int) ≤ 8388608) :
    Calls Try.prog 17 #[.agg #[.int .i64 op, .int .i64 n, .slice A k.len c], .int .i64 x] w (MarkPost k.size x L B w) := by
  have hm0 : Mk L B w (w.alloc (Obj.cells #[Value.int IntKind.i64 op, Value.int IntKind.i64 n, Value.slice A k.len c] 29)) := Mk.of_below ((Below.refl _ _).alloc (Nat.le_refl _) _) (Nat.le_refl _)
  have HC := Lib.hid (markExprS_any L B k.size k A c _ x rfl (Al.mk hm0 hl) hx0 hx1)
  clear hl
  go_enter Try.func17, Try.ntmps17
  go_wp2_with fail
  refine HC.out.mono ?_
  rintro e w2 ⟨rfl, hm⟩
  go_wp2
  go_ret
  exact ⟨rfl, hm0.trans hm⟩
end Go.Proofs.Ytedcdgjedocikaa
