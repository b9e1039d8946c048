/-
  Numbers are written over a copy in the blocks from L on and below B: the slices stand, and nothing else is turned. markExprS and markExpr.
  laws.markExpr.
-/
import Derived.Test.YthjfinhfpgifiaaFo
import Derived.Test.YthjfinhfpgifiaaOwnM
import Derived.Test.YthjfinhfpgifiaaRows
import Derived.WalkKit
import Derived.WalkSpells
import Derived.Lib.Hide
import Derived.Laws.AppendOwn
namespace Go.Proofs.Ythjfinhfpgifiaa
open Go.RowKit
set_option maxRecDepth 100000

def isSl : Value → Bool
  | .slice _ _ _ => true
  | _ => false
/-- No slice stands in this cell. -/
def NS (cs : Array Value) (j : Nat) : Prop := ∀ v, cs[j]? = some v → isSl v = false
theorem NS.of {cs : Array Value} {j : Nat} {v : Value} (h : cs[j]? = some v) (hv : isSl v = false) : NS cs j := fun u hu => by rw [h] at hu; cases hu; exact hv

structure MkS (L B : Nat) (w w' : World) : Prop where
  os : w'.os = w.os
  tape : w'.tape = w.tape
  output : w'.output = w.output
  size : w.heap.size ≤ w'.heap.size
  out : ∀ k, k < w.heap.size → (k < L ∨ B ≤ k) → w'.heap[k]? = w.heap[k]?
  inn : ∀ b t cs, L ≤ b → b < B → Row w b t cs → ∃ cs', Row w' b t cs' ∧ cs'.size = cs.size ∧ ∀ (q : Nat) (v : Value), isSl v = true → (cs'[q]? = some v ↔ cs[q]? = some v)

section
variable {L B : Nat} {w w' w2 : World}
theorem MkS.refl (L B : Nat) (w : World) : MkS L B w w := ⟨rfl, rfl, rfl, Nat.le_refl _, fun _ _ _ => rfl, fun _ _ cs _ _ h => ⟨cs, h, rfl, fun _ _ _ => Iff.rfl⟩⟩
theorem MkS.trans (h : MkS L B w w') (k : MkS L B w' w2) : MkS L B w w2 := by
  refine ⟨k.os.trans h.os, k.tape.trans h.tape, k.output.trans h.output, Nat.le_trans h.size k.size, fun i hi ho => (k.out i (Nat.lt_of_lt_of_le hi h.size) ho).trans (h.out i hi ho), fun b t cs h1 h2 hr => ?_⟩
  obtain ⟨cs1, r1, s1, e1⟩ := h.inn b t cs h1 h2 hr
  obtain ⟨cs2, r2, s2, e2⟩ := k.inn b t cs1 h1 h2 r1
  exact ⟨cs2, r2, s2.trans s1, fun q v hv => (e2 q v hv).trans (e1 q v hv)⟩
theorem row_same {b : Nat} {t t' : TypeId} {cs cs' : Array Value} (h : Row w b t cs) (h' : Row w b t' cs') : t = t' ∧ cs = cs' := by
  have h9 := Option.some.inj (Eq.trans (Eq.symm h) h')
  injection h9 with h10 h11
  exact ⟨h11, h10⟩
theorem NS.keep {cs cs' : Array Value} {j : Nat} (h : NS cs j) (_hz : cs'.size = cs.size) (he : ∀ (q : Nat) (v : Value), isSl v = true → (cs'[q]? = some v ↔ cs[q]? = some v)) : NS cs' j := by
  intro v hv
  cases hs : isSl v with
  | false => rfl
  | true => rw [h v ((he j v hs).1 hv)] at hs; cases hs
theorem MkS.set {b j : Nat} {t : TypeId} {cs : Array Value} (h : MkS L B w w') (h1 : L ≤ b) (h2 : b < B) (hr : Row w b t cs) (hj : NS cs j) {v : Value} (hv : isSl v = false) : MkS L B w (w'.setCell ⟨b, j, none⟩ v) := by
  obtain ⟨cs1, r1, s1, e1⟩ := h.inn b t cs h1 h2 hr
  have hj1 := hj.keep s1 e1
  refine h.trans ⟨rfl, rfl, rfl, by simp [World.setCell], fun k _ ho => Below.heap_setCell w' _ v k (by dsimp only; omega), fun b' t' cs' h3 h4 hr' => ?_⟩
  by_cases hb : b' = b
  · subst hb
    obtain ⟨rfl, rfl⟩ := row_same r1 hr'
    refine ⟨_, hr'.put j v, by simp, fun q u hu => ?_⟩
    by_cases hq : q = j
    · subst hq
      refine ⟨fun e => ?_, fun e => ?_⟩
      · by_cases hs : q < cs1.size
        · rw [Array.getElem?_setIfInBounds_self_of_lt hs] at e
          cases e
          rw [hv] at hu; cases hu
        · rw [Array.getElem?_eq_none (by simp; omega)] at e; cases e
      · rw [hj1 u e] at hu; cases hu
    · rw [Array.getElem?_setIfInBounds_ne (Ne.symm hq)]
  · exact ⟨cs', hr'.apart hb v, rfl, fun _ _ _ => Iff.rfl⟩
theorem MkS.of_below {C : Nat} (h : Below C w w') (hC : w.heap.size ≤ C) : MkS L B w w' :=
  ⟨h.os, h.tape, h.output, h.size, fun k hk _ => h.block k (Nat.lt_of_lt_of_le hk hC), fun _ _ cs _ _ hr => ⟨cs, hr.below h (Nat.lt_of_lt_of_le hr.size hC), rfl, fun _ _ _ => Iff.rfl⟩⟩
theorem MkS.below {C : Nat} {w0 : World} (h : MkS L B w w') (hb : Below C w0 w) (hC : C ≤ L) (hz : C ≤ w0.heap.size) : Below C w0 w' :=
  ⟨h.os.trans hb.os, h.tape.trans hb.tape, h.output.trans hb.output, Nat.le_trans hb.size h.size, fun i hi => (h.out i (Nat.lt_of_lt_of_le hi (Nat.le_trans hz hb.size)) (.inl (by omega))).trans (hb.block i hi)⟩
theorem MkS.cell {p : Addr} (h : MkS L B w w') (hp : p.block < w.heap.size) (hd : p.block < L ∨ B ≤ p.block) : w'.cell? p = w.cell? p := World.cell?_of_block (w := w) (h.out p.block hp hd)
theorem MkS.row {g : Nat} {t : TypeId} {cs : Array Value} (h : MkS L B w w') (hr : Row w g t cs) (hg : g < L ∨ B ≤ g) : Row w' g t cs := (h.out g hr.size hg).trans hr
theorem MkS.owns {base : Nat} {e : TypeId} {size : Nat} {v : Value} {n : Nat} {xs : List Value} (h : MkS L B w w') (ho : w.ownsRow base e size v n xs) (hb : B ≤ base) : w'.ownsRow base e size v n xs := by
  refine ⟨ho.1, ?_⟩
  rcases ho.2 with h0 | ⟨g, cap, cur, h1, h2, h3, h4⟩
  · exact .inl h0
  · exact .inr ⟨g, cap, cur, h1, h2, (h.out g (Array.getElem?_eq_some_iff.1 h3).1 (.inr (by omega))).trans h3, h4⟩
theorem MkS.rows {L' B' : Nat} (h : MkS L B w w') (hr : AllRows w L' B') : AllRows w' L' B' := fun g h1 h2 => by
  obtain ⟨t, cs, hr⟩ := hr g h1 h2
  by_cases hg : L ≤ g ∧ g < B
  · obtain ⟨cs', r', _⟩ := h.inn g t cs hg.1 hg.2 hr
    exact ⟨t, cs', r'⟩
  · exact ⟨t, cs, h.row hr (by omega)⟩
end

/-- The skeleton of a copy: rows, in which the slices of Kids stand in their places. -/
def Sk (w : World) (L B : Nat) : Option Addr → Nat → Fo → Prop
  | _, _, .nil => True
  | A, i, .cons _ _ k r =>
    (∃ b o A' c' t cs, A = some ⟨b, o, none⟩ ∧ L ≤ b ∧ b < B ∧ Row w b t cs ∧ o + i * 3 + 2 < cs.size ∧ NS cs (o + i * 3) ∧ NS cs (o + i * 3 + 1) ∧ cs[o + i * 3 + 2]? = some (.slice A' k.len c') ∧ Sk w L B A' 0 k) ∧ Sk w L B A (i + 1) r

theorem cell_row_ {w : World} {g i : Nat} {t : TypeId} {cs : Array Value} {v : Value} (hr : Row w g t cs) (h : w.cell? ⟨g, i, none⟩ = some v) : cs[i]? = some v := (cell_of_row w g i cs t _ hr).symm.trans h
theorem Lies.sk {w : World} {L B : Nat} (ha : AllRows w L B) : ∀ {f : Fo} {A : Option Addr} {i : Nat}, Lies w L B A i f → Sk w L B A i f
  | .nil, _, _, _ => trivial
  | .cons _ _ _ _, _, _, ⟨⟨b, o, A', c', hA, hl, hb, _, _, h3, h4, h5, _, _, h8⟩, h⟩ => by
    obtain ⟨t, cs, hr⟩ := ha b hl hb
    have hc := cell_row_ hr h5
    exact ⟨⟨b, o, A', c', t, cs, hA, hl, hb, hr, (Array.getElem?_eq_some_iff.1 hc).1, NS.of (cell_row_ hr h3) rfl, NS.of (cell_row_ hr h4) rfl, hc, Lies.sk ha h8⟩, Lies.sk ha h⟩

section
variable {L B : Nat} {w w' : World}
theorem Sk.mk (h : MkS L B w w') : ∀ {f : Fo} {A : Option Addr} {i : Nat}, Sk w L B A i f → Sk w' L B A i f
  | .nil, _, _, _ => trivial
  | .cons _ _ _ _, _, _, ⟨⟨b, o, A', c', t, cs, hA, h1, h2, hr, hs, n1, n2, hc, hk⟩, hrest⟩ => by
    obtain ⟨cs', r', s', e'⟩ := h.inn b t cs h1 h2 hr
    exact ⟨⟨b, o, A', c', t, cs', hA, h1, h2, r', by omega, n1.keep s' e', n2.keep s' e', (e' _ _ rfl).2 hc, Sk.mk h hk⟩, Sk.mk h hrest⟩
theorem Sk.at_ {A : Option Addr} : ∀ {f : Fo} {i : Nat} (j : Nat), Sk w L B A i f → Sk w L B A (i + j) (f.drop j)
  | f, i, 0, h => by simpa [Fo.drop_zero] using h
  | .nil, _, j + 1, _ => by simp [Fo.drop, Sk]
  | .cons _ _ _ r, i, j + 1, h => by
    have := Sk.at_ (f := r) (i := i + 1) j h.2
    simpa [Fo.drop, Nat.add_assoc, Nat.add_comm 1 j] using this
end

/-- The post of the marks: at most 5 numbers for each of s. -/
def MkPost (s : Nat) (x : Int) (L B : Nat) (w : World) (e : Ending) (w' : World) : Prop := ∃ r : Int, e = .returned (.int .i64 r) ∧ x ≤ r ∧ r ≤ x + 5 * (s : Int) ∧ MkS L B w w'

set_option maxHeartbeats 800000 in
theorem mkExprS_any (L B m : Nat) : ∀ (f : Fo) (A : Option Addr) (c : Nat) (w : World) (x : Int), f.size = m → Sk w L B A 0 f → 0 ≤ x → x + 5 * (f.size : Int) ≤ 33554432 →
    Calls Try.prog 14 #[.slice A f.len c, .int .i64 x] w (MkPost f.size x L B w) := by
  induction m using Nat.strongRecOn with
  | _ m ih =>
    intro f A c w x hm hl hx0 hx1
    have hlen := Fo.len_le_size f
    go_enter Try.func14, Try.ntmps14
    go_wp2
    go_loopw [1, 5] (fun y i wr => ∃ (j z : Nat) (x1 : Int), j ≤ f.len ∧ i = .int .i64 j ∧ y = .int .i64 x1 ∧ x ≤ x1 ∧ x1 ≤ x + 5 * (z : Int) ∧ z + (f.drop j).size = f.size ∧ MkS L B w wr)
      (fun _ i _ => f.len - (intOf i).toNat)
    case atStart => exact ⟨0, 0, x, by omega, rfl, rfl, by omega, by omega, by simp [Fo.drop_zero], MkS.refl _ _ _⟩
    case round =>
      obtain ⟨j, z, x1, hj, rfl, rfl, hxl, hxu, hz, hmk⟩ := hrel
      by_cases hlt : j < f.len
      · obtain ⟨op, n, k, e1, e2, e3⟩ := Fo.drop_of_lt f j hlt
        have hj' := (Sk.mk hmk hl).at_ j
        rw [Nat.zero_add, e1] at hj'
        obtain ⟨⟨b, o, A', c', t, cs, hA, h1, h2, hr, hs, n1, n2, hc, hk⟩, _⟩ := hj'
        subst hA
        obtain ⟨v0, p0⟩ : ∃ v, cs[o + j * 3]? = some v := ⟨_, Array.getElem?_eq_getElem (by omega)⟩
        obtain ⟨v1, p1⟩ : ∃ v, cs[o + j * 3 + 1]? = some v := ⟨_, Array.getElem?_eq_getElem (by omega)⟩
        have q0 := hr.cell p0
        have q1 := hr.cell p1
        have q2 := hr.cell hc
        have f0 := hr.free (o + j * 3)
        have f1 := hr.free (o + j * 3 + 1)
        have HR := Lib.hid (fun (y y' : Int) => MkS.set (v := .int .i64 y') (MkS.set (v := .int .i64 y) (MkS.refl L B wr) h1 h2 hr n1 rfl) h1 h2 hr n2 rfl)
        have HM := Lib.hid hmk
        have HE := Lib.hid e1
        have HZ := Lib.hid (show z + 1 + k.size + (f.drop (j + 1)).size = f.size by omega)
        have hks : k.size < m := by omega
        have hkz : x1 + 2 + 5 * (k.size : Int) ≤ 33554432 := by omega
        have HK := Lib.hid hk
        clear p0 p1 hc hr e1 e3 hk hl hmk hz n1 n2
        go_wp2_with fail
        refine (ih k.size hks k A' c' _ (x1 + 1 + 1) rfl (Sk.mk (HR.out _ _) HK.out) (by omega) (by omega)).mono ?_
        rintro e w2 ⟨r, rfl, hr1, hr2, hm3⟩
        have HM2 := Lib.hid (HM.out.trans ((HR.out _ _).trans hm3))
        clear hm3 q0 q1 q2 f0 f1 HM HK HR ih
        go_wp2
        go_roundw
        case rel => exact ⟨j + 1, z + 1 + k.size, r, by omega, by go_num, rfl, by omega, by omega, HZ.out, HM2.out⟩
        case measure => simp [intOf]; omega
      · have e9 : j = f.len := by omega
        rw [e9, Fo.drop_len] at hz
        simp only [Fo.size, Nat.add_zero] at hz
        go_wp2
        go_ret
        exact ⟨x1, rfl, hxl, by omega, hmk⟩
end Go.Proofs.Ythjfinhfpgifiaa

namespace Go.Proofs.Ythjfinhfpgifiaa
open Go.RowKit
set_option maxRecDepth 100000

end Go.Proofs.Ythjfinhfpgifiaa
