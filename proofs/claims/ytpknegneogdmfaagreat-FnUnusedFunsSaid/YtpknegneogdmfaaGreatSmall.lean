/-
  small and withinLimits: nodes and levels counted down.
-/
import Derived.Test.YtpknegneogdmfaaGreatFo
import Derived.Test.YtpknegneogdmfaaGreatRows
import Derived.WalkKit
import Derived.WalkSpells
import Derived.WalkSmall
import Derived.Lib.Hide
import Derived.StillTailTactics
import Derived.BigQuiet
import Derived.Deep.QuietTactic
namespace Go.Proofs.YtpknegneogdmfaaGreat
open Go.RowKit
set_option maxRecDepth 100000

/-- Below block number B the world w' is as w was, but for block g. -/
structure Only (g B : Nat) (w w' : World) : Prop where
  os : w'.os = w.os
  tape : w'.tape = w.tape
  output : w'.output = w.output
  size : w.heap.size ≤ w'.heap.size
  block : ∀ k, k < B → k ≠ g → w'.heap[k]? = w.heap[k]?

theorem Only.refl (g B : Nat) (w : World) : Only g B w w := ⟨rfl, rfl, rfl, Nat.le_refl _, fun _ _ _ => rfl⟩
theorem Only.trans {g B : Nat} {a b c : World} (h : Only g B a b) (k : Only g B b c) : Only g B a c :=
  ⟨k.os.trans h.os, k.tape.trans h.tape, k.output.trans h.output, Nat.le_trans h.size k.size, fun i hi hg => (k.block i hi hg).trans (h.block i hi hg)⟩
theorem Only.mono {g B B' : Nat} {a b : World} (h : Only g B a b) (hB : B' ≤ B) : Only g B' a b := ⟨h.os, h.tape, h.output, h.size, fun i hi hg => h.block i (by omega) hg⟩
theorem Only.of_below {g B : Nat} {a b : World} (h : Below B a b) : Only g B a b := ⟨h.os, h.tape, h.output, h.size, fun i hi _ => h.block i hi⟩
theorem Only.below {g B : Nat} {a b : World} (h : Only g B a b) (hg : B ≤ g) : Below B a b := ⟨h.os, h.tape, h.output, h.size, fun i hi => h.block i hi (by omega)⟩
theorem Only.alloc {g B : Nat} {a b : World} (h : Only g B a b) (hB : B ≤ b.heap.size) (o : Obj) : Only g B a (b.alloc o) := h.trans (.of_below ((Below.refl _ _).alloc hB o))
theorem Only.set {g B : Nat} {a b : World} (h : Only g B a b) {p : Addr} (hp : p.block = g ∨ B ≤ p.block) (v : Value) : Only g B a (b.setCell p v) :=
  ⟨h.os, h.tape, h.output, by simpa [World.setCell] using h.size, fun i hi hg => (Below.heap_setCell b p v i (by omega)).trans (h.block i hi hg)⟩
theorem Only.drew {g B : Nat} {a b : World} (h : Only g B a b) : Only g B a b.drew := ⟨h.os, h.tape, h.output, h.size, h.block⟩
theorem Only.cell {g B : Nat} {w w' : World} (h : Only g B w w') {p : Addr} (hp : p.block < B) (hg : p.block ≠ g) : w'.cell? p = w.cell? p := World.cell?_of_block (w := w) (h.block p.block hp hg)
theorem Row.only {w w' : World} {g g' B : Nat} {t : TypeId} {cs : Array Value} (h : Row w g t cs) (hb : Only g' B w w') (hg : g < B) (hne : g ≠ g') : Row w' g t cs := (hb.block g hg hne).trans h
theorem Lies.only {w w' : World} {L B g C : Nat} {f : Fo} {A : Option Addr} {i : Nat} (h : Lies w L B A i f) (hb : Only g C w w') (hB : B ≤ C) (hg : g < L ∨ B ≤ g) : Lies w' L B A i f :=
  h.keep (Nat.le_refl _) (Nat.le_refl _) fun _ h1 h2 => hb.cell (by omega) (by omega)

/-- How many levels a list of nodes has. -/
def Fo.dep : Fo → Nat
  | .nil => 0
  | .cons _ _ k r => max (k.dep + 1) r.dep

/-- What small finds of a node: levels and nodes suffice. -/
def smallOk (k : Fo) (L N : Nat) : Bool := decide (k.dep + 1 ≤ L) && decide (k.size + 1 ≤ N)

def SmallPost (k : Fo) (L N g : Nat) (w : World) (e : Ending) (w' : World) : Prop :=
  ∃ N' : Int, e = .returned (.bool (smallOk k L N)) ∧ (smallOk k L N = true → N' = ((N - (k.size + 1) : Nat) : Int)) ∧ -1 ≤ N' ∧ N' ≤ 80 ∧ Row w' g 3 #[.int .i64 N'] ∧ Only g w.heap.size w w'

set_option maxHeartbeats 800000 in
theorem small_any (s : Nat) : ∀ (op n : Int) (k : Fo) (A : Option Addr) (c L N g : Nat) (w : World), k.size = s → Lies w 0 g A 0 k → k.len ≤ maxLen → L ≤ 14 → N ≤ 80 → Row w g 3 #[.int .i64 N] →
    Calls Tryz.prog 81 #[.agg #[.int .i64 op, .int .i64 n, .slice A k.len c], .int .i64 L, .pointer (some ⟨g, 0, none⟩)] w (SmallPost k L N g w) := by
  induction s using Nat.strongRecOn with
  | _ s ih =>
    intro op n k A c L N g w hs hl hlen hL hN hg
    unfold maxLen at hlen
    have hgs := hg.size
    have c0 : w.cell? ⟨g, 0, none⟩ = some (.int .i64 N) := hg.cell (i := 0) rfl
    have f0 := hg.free 0
    have IH := Lib.hid ih
    clear ih
    have stp : ∀ x : Int, (w.setCell ⟨g, 0, none⟩ (.int .i64 x)).cell? ⟨g, 0, none⟩ = some (.int .i64 x) ∧
        Row ((w.setCell ⟨g, 0, none⟩ (.int .i64 x)).alloc (Obj.cells #[Value.int IntKind.i64 op, Value.int IntKind.i64 n, Value.slice A k.len c] 36)) g 3 #[.int .i64 x] ∧
        Row ((w.setCell ⟨g, 0, none⟩ (.int .i64 x)).alloc (Obj.cells #[Value.int IntKind.i64 op, Value.int IntKind.i64 n, Value.slice A k.len c] 36)) w.heap.size 36 #[Value.int IntKind.i64 op, Value.int IntKind.i64 n, Value.slice A k.len c] ∧
        Only g w.heap.size w ((w.setCell ⟨g, 0, none⟩ (.int .i64 x)).alloc (Obj.cells #[Value.int IntKind.i64 op, Value.int IntKind.i64 n, Value.slice A k.len c] 36)) := by
      intro x
      have h1 := hg.put 0 (.int .i64 x)
      have hz : (w.setCell ⟨g, 0, none⟩ (.int .i64 x)).heap.size = w.heap.size := by simp [World.setCell]
      have h2 := Row.fresh (w.setCell ⟨g, 0, none⟩ (.int .i64 x)) 36 #[Value.int IntKind.i64 op, Value.int IntKind.i64 n, Value.slice A k.len c]
      rw [hz] at h2
      exact ⟨h1.cell (i := 0) rfl, h1.alloc _, h2, ((Only.refl _ _ _).set (p := ⟨g, 0, none⟩) (.inl rfl) _).alloc (by rw [hz]; exact Nat.le_refl _) _⟩
    match L, hL with
    | 0, _ =>
      obtain ⟨_, s2, _, s4⟩ := stp ((N : Int) - 1)
      clear stp
      go_enter Tryz.func81, Tryz.ntmps81
      go_wp2
      go_ret
      exact ⟨(N : Int) - 1, ret_bool (by simp [smallOk]), fun h => by simp [smallOk] at h, by omega, by omega, s2, s4⟩
    | L + 1, hL =>
      match N, hN with
      | 0, _ =>
        obtain ⟨s1, s2, _, s4⟩ := stp (-1)
        clear stp
        go_enter Tryz.func81, Tryz.ntmps81
        go_wp2
        go_ret
        exact ⟨-1, ret_bool (by simp [smallOk]), fun h => by simp [smallOk] at h, by omega, by omega, s2, s4⟩
      | N + 1, hN =>
        obtain ⟨s1, s2, s3, s4⟩ := stp (N : Int)
        clear stp
        have hL0 : ((L : Int) + 1 == 0) = false := by rw [beq_eq_false_iff_ne]; omega
        have hN0 : decide ((N : Int) < 0) = false := by rw [decide_eq_false_iff_not]; omega
        have c0' : w.cell? ⟨g, 0, none⟩ = some (.int .i64 ((N : Int) + 1)) := c0
        have k2 := s3.cell (i := 2) rfl
        have z4 : w.heap.size + 1 ≤ ((w.setCell ⟨g, 0, none⟩ (.int .i64 (N : Int))).alloc (Obj.cells #[Value.int IntKind.i64 op, Value.int IntKind.i64 n, Value.slice A k.len c] 36)).heap.size := by simp [World.setCell]
        clear c0
        have eL : ((L + 1 : Nat) : Int) = (L : Int) + 1 := by omega
        rw [eL]
        clear eL
        go_enter Tryz.func81, Tryz.ntmps81
        go_wp2_with fail
        go_loopw [25] (fun i wr => ∃ (j N' : Nat), j ≤ k.len ∧ i = .int .i64 j ∧ N' ≤ 80 ∧ (smallOk k (L + 1) (N + 1) = true ↔ (k.drop j).dep ≤ L ∧ (k.drop j).size ≤ N') ∧
            (smallOk k (L + 1) (N + 1) = true → N' = N + (k.drop j).size - k.size) ∧ Row wr g 3 #[.int .i64 N'] ∧ w.heap.size + 1 ≤ wr.heap.size ∧ Only g w.heap.size w wr)
          (fun i _ => k.len - (intOf i).toNat)
        case atStart =>
          refine ⟨0, N, by omega, rfl, by omega, ?_, ?_, s2, z4, s4⟩
          · rw [Fo.drop_zero]; simp [smallOk]
          · rw [Fo.drop_zero]; intro _; omega
        case round =>
          clear s1 s2 s3 s4 f0 c0' k2 z4 hL0 hN0
          obtain ⟨j, N', hj, rfl, hN', hx, hy, hrow, hsz, hb⟩ := hrel
          have HX := Lib.hid hx
          have HY := Lib.hid hy
          clear hx hy
          by_cases hlt : j < k.len
          · obtain ⟨op', n', k', e1, e2, e3⟩ := Fo.drop_of_lt k j hlt
            have hj' := (hl.only hb (by omega) (.inr (Nat.le_refl _))).at_ j
            rw [Nat.zero_add, e1] at hj'
            obtain ⟨⟨b, o, A', c', hA, _, hbb, i1, i2, g1, g2, g3, h1, h2, h3⟩, _⟩ := hj'
            have hz := HX.out
            have hz2 := HY.out
            rw [e1] at hz hz2
            simp only [Fo.dep, Fo.size] at hz hz2
            have HZ := Lib.hid hz
            have HZ2 := Lib.hid hz2
            clear HX HY e1 e3 hz hz2
            subst hA
            have HL3 := Lib.hid h3
            clear h3
            have r4 := hrow.alloc (Obj.cells #[Value.int IntKind.i64 op', Value.int IntKind.i64 n', Value.slice A' k'.len c'] 36)
            have b4 := hb.alloc (by omega) (Obj.cells #[Value.int IntKind.i64 op', Value.int IntKind.i64 n', Value.slice A' k'.len c'] 36)
            have z4 : w.heap.size + 1 ≤ (wr.alloc (Obj.cells #[Value.int IntKind.i64 op', Value.int IntKind.i64 n', Value.slice A' k'.len c'] 36)).heap.size := by simp; omega
            have l4 := HL3.out.keep (w' := wr.alloc (Obj.cells #[Value.int IntKind.i64 op', Value.int IntKind.i64 n', Value.slice A' k'.len c'] 36)) (Nat.le_refl _) (Nat.le_refl _) (fun p _ hp => World.cell?_alloc_lt wr _ p (by omega))
            clear HL3
            have HR4 := Lib.hid r4
            have HL4 := Lib.hid l4
            clear r4 l4
            cases hN4 : smallOk k' L N'
            all_goals
              have HN := Lib.hid hN4
              clear hN4
              go_wp2_with fail
              refine (IH.out k'.size (by omega) op' n' k' A' c' L N' g _ rfl HL4.out (by omega) (by omega) hN' HR4.out).mono ?_
              rintro e w5 ⟨N5, rfl, hN5, hN6, hN7, hrow5, hb6⟩
              rw [HN.out] at hN5 ⊢
              have hb7 := b4.trans (hb6.mono b4.size)
              have hsz5 := Nat.le_trans z4 hb6.size
              have HN5 := Lib.hid hN5
              clear hb6 g1 g2 g3 hN5
              go_wp2
            · go_ret
              have hz := HZ.out
              have hn := HN.out
              have hfalse : smallOk k (L + 1) (N + 1) = false := by
                have hn' : ¬ (k'.dep + 1 ≤ L ∧ k'.size + 1 ≤ N') := by simpa [smallOk] using hn
                rw [← Bool.not_eq_true, hz]
                omega
              exact ⟨N5, ret_bool hfalse.symm, fun h => by rw [hfalse] at h; exact absurd h (by decide), hN6, hN7, hrow5, hb7⟩
            · have hz := HZ.out
              have hn := HN.out
              have e5 := HN5.out (by trivial)
              subst e5
              have hn' : k'.dep + 1 ≤ L ∧ k'.size + 1 ≤ N' := by simpa [smallOk] using hn
              have hz5 : smallOk k (L + 1) (N + 1) = true ↔ (k.drop (j + 1)).dep ≤ L ∧ (k.drop (j + 1)).size ≤ N' - (k'.size + 1) := by
                rw [hz]
                omega
              have hz6 : smallOk k (L + 1) (N + 1) = true → N' - (k'.size + 1) = N + (k.drop (j + 1)).size - k.size := fun h => by
                have := HZ2.out h
                omega
              have HZ5 := Lib.hid hz5
              have HZ6 := Lib.hid hz6
              clear hz hn hz5 hz6 hn'
              go_roundw
              case rel => exact ⟨j + 1, N' - (k'.size + 1), by omega, by go_num, by omega, HZ5.out, HZ6.out, hrow5, hsz5, hb7⟩
              case measure => simp [intOf]; omega
          · have e9 : j = k.len := by omega
            go_wp2
            go_ret
            have hz := HX.out
            have hz2 := HY.out
            rw [e9, Fo.drop_len] at hz hz2
            simp only [Fo.dep, Fo.size, Nat.zero_le, and_self, iff_true] at hz hz2
            refine ⟨N', ret_bool hz.symm, fun h => ?_, by omega, by omega, hrow, hb⟩
            have h1 := hz2 h
            have h2 : k.size + 1 ≤ N + 1 := by
              have := hz
              simp only [smallOk, Bool.and_eq_true, decide_eq_true_iff] at this
              exact this.2
            omega

theorem withinLimits_any (op n : Int) (k : Fo) (A : Option Addr) (c : Nat) (w : World) (hl : Lies w 0 w.heap.size A 0 k) (hlen : k.len ≤ maxLen) :
    Calls Tryz.prog 64 #[.agg #[.int .i64 op, .int .i64 n, .slice A k.len c]] w (Gives (.bool (smallOk k 14 80)) w) := by
  have hb0 : Below w.heap.size w ((w.alloc (Obj.cells #[Value.int IntKind.i64 op, Value.int IntKind.i64 n, Value.slice A k.len c] 36)).alloc (Obj.cells #[Value.int IntKind.i64 80] 3)) := ((Below.refl _ _).alloc (Nat.le_refl _) _).alloc (by simp) _
  have hr0 := Row.fresh (w.alloc (Obj.cells #[Value.int IntKind.i64 op, Value.int IntKind.i64 n, Value.slice A k.len c] 36)) 3 #[Value.int IntKind.i64 80]
  simp only [World.size_alloc] at hr0
  have hl0 := (hl.below hb0).mono_ (Nat.le_refl _) (show w.heap.size ≤ w.heap.size + 1 by omega)
  have HC := Lib.hid (small_any k.size op n k A c 14 80 (w.heap.size + 1) _ rfl hl0 hlen (by decide) (by decide) hr0)
  clear hl0 hr0
  go_enter Tryz.func64, Tryz.ntmps64
  go_wp2_with fail
  refine HC.out.mono ?_
  rintro e w2 ⟨N', rfl, _, _, _, _, hb2⟩
  have hb3 := hb0.trans ((hb2.mono hb0.size).below (Nat.le_succ _))
  clear HC hb0 hb2
  go_wp2
  go_ret
  exact ⟨rfl, hb3⟩
end Go.Proofs.YtpknegneogdmfaaGreat
