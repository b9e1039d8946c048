/-
  The draws of one library: DrawLibraryValid, DrawFindDef.
-/
import Derived.Test.YtfijdlbcpmnbhaaMutL
namespace Go.Proofs.Ytfijdlbcpmnbhaa
open Go.RowKit Go.Shelf
set_option maxRecDepth 100000

theorem sizeD_bound {m : Nat} : ∀ (ds : List De), (∀ d ∈ ds, d.k.size ≤ m) → sizeD ds ≤ ds.length * (m + 1)
  | [], _ => by simp [sizeD]
  | d :: r, h => by
    have h1 := sizeD_bound r fun e he => h e (by simp [he])
    have h2 := h d (by simp)
    simp only [sizeD, List.length_cons, Nat.add_mul]
    omega

theorem LiesY.bytes {w : World} {L B : Nat} {A : Option Addr} {bs : List Nat} (h : LiesY w L B A bs) : ∀ x, x ∈ bs → x < 256 := fun x hx => by
  obtain ⟨i, hlt, hi⟩ := List.getElem_of_mem hx
  obtain ⟨_, _, _, _, _, h5, _⟩ := h i x (by rw [List.getElem?_eq_getElem hlt, hi])
  exact h5
theorem small_le80 {k : Fo} (h : smallOk k 14 80 = true) : k.size ≤ 80 := by
  unfold smallOk at h
  simp only [Bool.and_eq_true, decide_eq_true_iff] at h
  omega
/-- A library was drawn, valid or not. -/
def DrawnD (w : World) (base : Nat) (ds : List De) (X : Option Addr) (c : Nat) : Prop := LiesD w base w.heap.size X ds ∧ ds.length ≤ c ∧ c ≤ maxLen ∧ ds.length ≤ 100 ∧ sizeD ds ≤ 700000
def LibPost (w : World) (e : Ending) (w' : World) : Prop :=
  ∃ (ds : List De) (X : Option Addr) (c : Nat), e = .returned (.slice X ds.length c) ∧ DrawnD w' w.heap.size ds X c ∧ Below w.heap.size w w'

set_option maxHeartbeats 1000000 in
theorem drawLV_any (A : Option Addr) (bc : Nat) (bs : List Nat) (w : World) (hB : LiesY w 0 w.heap.size A bs) (hl : bs.length ≤ bc) (hc : bc ≤ maxLen) :
    Calls Try.prog 24 #[.slice A bs.length bc] w (LibPost w) := by
  have HCO := Lib.hid (open_any A bc bs w hB hl hc)
  clear hB
  go_enter Try.func24, Try.ntmps24
  go_wp2_with fail
  refine HCO.out.mono ?_
  rintro e w2 ⟨bs2, hl2, rfl, hY2, hr2, hb2, hz2⟩
  obtain ⟨Q, hQ⟩ := lim_ex bs2 hl2 hY2.bytes
  have HC := Lib.hid (l2Draw_any w.heap.size w.heap.size A bc bs2 Q 0 0 w2 hr2 hY2 (Nat.le_refl _) hl2 hQ (Ok.first hQ) (by decide))
  have HY2 := Lib.hid hY2
  have HB2 := Lib.hid hb2
  clear hY2 hr2 hb2 HCO
  go_wp2_with fail
  refine HC.out.mono ?_
  rintro e w3 ⟨v3, ds, bl, p3, rfl, hlok, ht3, hr3, hok3, hon3⟩
  obtain ⟨X3, c3, rfl, hc1, hc2⟩ := ht3.slice
  have hlen := libOk_len hlok
  have hsz : sizeD ds ≤ 40000 := by
    have h1 := sizeD_bound (m := 200) ds fun d hd => by
      have := small_le80 (libOk_small hlok d hd)
      omega
    have h2 : ds.length * (200 + 1) ≤ 8 * (200 + 1) := Nat.mul_le_mul_right _ hlen
    omega
  have hlt := ht3.lt
  have HM := Lib.hid (l2Mutate_any w.heap.size w.heap.size A bc bs2 Q p3 (0 + 1) ds X3 c3 (w.heap.size + 1) w3 hr3 (HY2.out.below ((hon3.mono (Nat.le_of_lt hz2)).below (Nat.le_refl _))) (Nat.le_refl _) hl2 hQ hok3 (by decide) (Nat.lt_succ_self _) (Nat.lt_of_lt_of_le hz2 hon3.size)
    ((ht3.lies (B := w3.heap.size) fun z hz => (hlt z hz).2).mono_ hz2 (Nat.le_refl _)) (by omega) hsz)
  have HB3 := Lib.hid (HB2.out.trans ((hon3.mono HB2.out.size).below (Nat.le_refl _)))
  have HSZ := Lib.hid hsz
  clear ht3 hr3 hok3 hon3 hlok hlt HC HY2
  go_wp2_with fail
  refine HM.out.mono ?_
  rintro e w4 ⟨ds4, X4, c4, p4, rfl, hl4, hc4, hc5, hn4, hs4, -, hok4, hon4⟩
  have HPOST := Lib.hid (show LibPost w (.returned (.slice X4 ds4.length c4)) w4 from ⟨ds4, X4, c4, rfl, ⟨hl4.mono_ (Nat.le_succ _) (Nat.le_refl _), hc4, hc5, by omega, by have := hok4.lt; have := hQ.1; have := HSZ.out; omega⟩, HB3.out.trans ((hon4.mono HB3.out.size).below (Nat.le_refl _))⟩)
  clear hl4 hon4 hok4 HM
  go_wp2_with fail
  go_ret
  exact HPOST.out

def FindDPost (w : World) (e : Ending) (w' : World) : Prop :=
  ∃ (ds : List De) (X : Option Addr) (c : Nat) (x : Int), e = .returned (.tuple #[.slice X ds.length c, .int .i64 x]) ∧ DrawnD w' w.heap.size ds X c ∧ I64 x ∧ Below w.heap.size w w'

set_option maxHeartbeats 1000000 in
theorem drawFind_any (A : Option Addr) (bc : Nat) (bs : List Nat) (w : World) (hB : LiesY w 0 w.heap.size A bs) (hl : bs.length ≤ bc) (hc : bc ≤ maxLen) :
    Calls Try.prog 22 #[.slice A bs.length bc] w (FindDPost w) := by
  have HC := Lib.hid (drawLV_any A bc bs w hB hl hc)
  have HY := Lib.hid hB
  clear hB
  go_enter Try.func22, Try.ntmps22
  go_wp2_with fail
  refine HC.out.mono ?_
  rintro e w1 ⟨ds, X, c, rfl, hd, hb1⟩
  have HCO := Lib.hid (open_any A bc bs w1 ((HY.out.below hb1).keep (Nat.le_refl _) hb1.size fun _ _ _ => rfl) hl hc)
  have HD := Lib.hid hd
  have HB1 := Lib.hid hb1
  clear hd hb1 HC HY
  go_wp2_with fail
  refine HCO.out.mono ?_
  rintro e w2 ⟨bs2, hl2, rfl, hY2, hr2, hb2, hz2⟩
  have ba := (Below.refl w2.heap.size w2).alloc (Nat.le_refl _) (Obj.cells #[.int .i64 0, .int .i64 1, .int .i64 2, .int .i64 3, .int .i64 7, .int .i64 (-1)] 3)
  have HN := Lib.hid (num_v w1.heap.size w1.heap.size A bc bs2 0 (some ⟨w2.heap.size, 0, none⟩) 6 [0, 1, 2, 3, 7, -1] _ (Row.below hr2 ba hz2) (hY2.below (ba.mono hb2.size)) (Nat.le_refl _) hl2 (by decide) (lies_new w2 (w1.heap.size + 1) [0, 1, 2, 3, 7, -1] (by intro x hx; simp at hx; unfold I64; omega) hz2) (by decide) (by decide))
  have HB2 := Lib.hid (hb2.trans (ba.mono hb2.size))
  clear ba hY2 hr2 hb2 hz2 HCO
  go_wp2_with fail
  refine HN.out.mono ?_
  rintro e w3 ⟨y, -, hyi, rfl, -, hon3⟩
  have hb3 : Below w1.heap.size w1 w3 := HB2.out.trans ((hon3.mono HB2.out.size).below (Nat.le_refl _))
  obtain ⟨h1, h2, h3, h4, h5⟩ := HD.out
  have HPOST := Lib.hid (show FindDPost w (.returned (.tuple #[.slice X ds.length c, .int .i64 y])) w3 from ⟨ds, X, c, y, rfl, ⟨(h1.below hb3).mono_ (Nat.le_refl _) hb3.size, h2, h3, h4, h5⟩, hyi, HB1.out.trans (hb3.mono HB1.out.size)⟩)
  clear hyi hon3 hb3 h1 h2 h3 h4 h5 HN HD
  go_wp2_with fail
  refine bodyPost_ret (v := .tuple #[.slice X ds.length c, .int .i64 y]) ?_ rfl HPOST.out
  simp [results, Try.f22, go_sem]
end Go.Proofs.Ytfijdlbcpmnbhaa
