/-
  What reads as a slice of bytes is a list of numbers from 0 to 255 that lies in memory.
-/
import Derived.Test.YtpknegneogdmfaaGreatRead
import Derived.Test.YtpknegneogdmfaaGreatFo
namespace Go.Proofs.YtpknegneogdmfaaGreat
open Go.ChangeShapes Go.WideShapes Go.ChangeAt Go.RowKit
set_option maxRecDepth 100000

/-- The bytes bs lie in the slice at A, in a block from L on and below B. -/
def LiesY (w : World) (L B : Nat) (A : Option Addr) (bs : List Nat) : Prop :=
  ∀ i x, bs[i]? = some x → ∃ b o, A = some ⟨b, o, none⟩ ∧ L ≤ b ∧ b < B ∧ x < 256 ∧ w.cell? ⟨b, o + i, none⟩ = some (.int .u8 ((x : Nat) : Int))
theorem LiesY.keep {w w' : World} {L L' B B' : Nat} {A : Option Addr} {bs : List Nat} (hL : L' ≤ L) (hB : B ≤ B') (hk : ∀ p : Addr, L ≤ p.block → p.block < B → w'.cell? p = w.cell? p) (h : LiesY w L B A bs) : LiesY w' L' B' A bs := by
  intro i x hx
  obtain ⟨b, o, h1, h2, h3, h4, h5⟩ := h i x hx
  exact ⟨b, o, h1, by omega, by omega, h4, (hk _ h2 h3).trans h5⟩
theorem LiesY.below {w w' : World} {L B : Nat} {A : Option Addr} {bs : List Nat} (h : LiesY w L B A bs) (hb : Below B w w') : LiesY w' L B A bs := h.keep (Nat.le_refl _) (Nat.le_refl _) fun _ _ hp => hb.cell hp

section
variable {H : Type} {enc : TypeId × Value → H} {w : World} {sp : Nat → Bool} {hd : Bool}
theorem u8_of_wf {n : Int} (h : (Lit.int .u8 n).wf = true) : 0 ≤ n ∧ n < 256 := by
  simp [Lit.wf, IntKind.min, IntKind.max, IntKind.signed, IntKind.bits] at h
  omega

theorem read_bytes {A0 : Option Addr} {len cap : Nat} {d : DataW H} {ps : List MemPlace} (h : DataW.Trod enc Tryz.prog w 0 sp hd 22 (.slice A0 len cap) d ps) :
    ∃ (A : Option Addr) (c : Nat) (bs : List Nat), Value.slice A0 len cap = .slice A bs.length c ∧ bs.length ≤ c ∧ c ≤ maxLen ∧ LiesY w 0 w.heap.size A bs := by
  obtain ⟨fuel, hf⟩ := h
  rcases open_ints Tryz.underlying22 Tryz.underlying5 (show Tryz.prog.cellsOf 5 = 1 by kernel_rfl) hf with ⟨hcs, _⟩ | ⟨a, len', cap', zs, hcs, _, hl, hm, hz, _, hcell, hwz⟩
  · simp [Value.cells] at hcs
    obtain ⟨rfl, rfl, rfl⟩ := hcs
    exact ⟨none, 0, [], rfl, Nat.le_refl _, Nat.zero_le _, fun i x hx => by simp at hx⟩
  · simp [Value.cells] at hcs
    obtain ⟨rfl, rfl, rfl⟩ := hcs
    have hzl : len ≤ zs.length := by rw [hz]; split <;> omega
    have htl : ((zs.take len).map Int.toNat).length = len := by rw [List.length_map, List.length_take]; omega
    refine ⟨some a, cap, (zs.take len).map Int.toNat, by rw [htl], by rw [htl]; exact hl, hm, ?_⟩
    intro i x hx
    have hi : i < len := by have := (List.getElem?_eq_some_iff.1 hx).1; omega
    rw [List.getElem?_map, List.getElem?_take_of_lt hi] at hx
    obtain ⟨y, hx2, hxy⟩ := Option.map_eq_some_iff.1 hx
    have hi2 := hcell i (by omega)
    have h0 := hcell 0 (by omega)
    obtain ⟨b, off, spot⟩ := a
    have hspot : spot = none := by simpa [Addr.add] using World.cell?_spot h0
    subst hspot
    rw [add_plain_] at hi2
    have hb : b < w.heap.size := World.block_lt_of_cell? _ _ hi2
    have hgd : zs.getD i 0 = y := by rw [List.getD_eq_getElem?_getD, hx2]; rfl
    rw [hgd] at hi2
    obtain ⟨h1, h2⟩ := u8_of_wf (hwz y (List.mem_of_getElem? hx2))
    have hyx : y = ((x : Nat) : Int) := by rw [← hxy]; omega
    rw [hyx] at hi2
    exact ⟨b, off, rfl, Nat.zero_le _, hb, by omega, hi2⟩
end
end Go.Proofs.YtpknegneogdmfaaGreat
