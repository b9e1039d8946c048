/-
  Drawing a library: spec.l2Texts, spec.l2Draw.
-/
import Derived.Test.YtpknegneogdmfaaGreatParL
import Derived.Test.YtpknegneogdmfaaGreatSomeS
namespace Go.Proofs.YtpknegneogdmfaaGreat
open Go.RowKit Go.Shelf
set_option maxRecDepth 100000

/-- The texts of libraries that are drawn from. -/
def texts : List (List UInt8) := [[65, 49, 61, 40, 97, 43, 49, 41, 10, 66, 50, 126, 40, 65, 40, 97, 41, 43, 98, 41, 10, 67, 48, 61, 55, 10],
  [65, 50, 61, 40, 97, 43, 98, 41, 10, 66, 49, 126, 65, 40, 97, 44, 49, 41, 10, 67, 49, 126, 66, 40, 33, 97, 41, 10, 68, 50, 126, 123, 99, 61, 65, 40, 97, 44, 97, 41, 59, 40, 99, 43, 98, 41, 125, 10],
  [65, 49, 61, 33, 97, 10, 66, 49, 126, 123, 65, 40, 97, 41, 59, 97, 125, 10, 67, 50, 126, 91, 40, 97, 60, 98, 41, 63, 66, 40, 97, 41, 58, 65, 40, 98, 41, 93, 10],
  [65, 49, 61, 91, 40, 48, 60, 97, 41, 63, 40, 97, 43, 65, 40, 48, 41, 41, 58, 48, 93, 10, 66, 50, 126, 123, 99, 61, 33, 98, 59, 40, 99, 43, 65, 40, 97, 41, 41, 125, 10, 72, 51, 126, 66, 40, 99, 44, 97, 41, 10],
  [65, 48, 61, 53, 10, 66, 48, 126, 65, 40, 41, 10, 67, 49, 126, 40, 97, 43, 66, 40, 41, 41, 10, 68, 49, 61, 67, 40, 97, 41, 10],
  [65, 50, 61, 91, 40, 97, 60, 98, 41, 63, 33, 97, 58, 33, 98, 93, 10, 66, 50, 126, 65, 40, 98, 44, 97, 41, 10, 69, 49, 126, 66, 40, 97, 44, 97, 41, 10],
  [65, 49, 61, 65, 40, 97, 41, 10, 66, 49, 126, 65, 40, 97, 41, 10],
  [65, 51, 61, 123, 33, 97, 59, 123, 33, 98, 59, 33, 99, 125, 125, 10, 66, 51, 126, 65, 40, 99, 44, 98, 44, 97, 41, 10, 67, 50, 126, 66, 40, 97, 44, 33, 98, 44, 40, 97, 43, 98, 41, 41, 10, 68, 49, 126, 123, 98, 61, 33, 97, 59, 67, 40, 98, 44, 98, 41, 125, 10],
  []]

set_option maxHeartbeats 400000 in
theorem l2Texts_any (w : World) : Calls Tryz.prog 27 #[] w fun e w' => e = .returned (.slice (some ⟨w.heap.size, 0, none⟩) 9 9) ∧ w' = w.alloc (.cells (texts.map txt).toArray 9) := by
  go_enter Tryz.func27, Tryz.ntmps27
  go_wp2
  go_ret
  exact ⟨rfl, rfl⟩

theorem parseL_ok {s : List UInt8} {ds : List De} (h : parseL s = some ds) : libOk ds = true := by
  unfold parseL at h
  split at h
  · cases h
  · split at h
    · rename_i h2
      injection h with h
      subst h
      exact h2.1
    · cases h
/-- A library was drawn. -/
def Lib2Post (g : Nat) (A : Option Addr) (bc : Nat) (bs : List Nat) (Q : Nat) (b : Int) (w : World) (e : Ending) (w' : World) : Prop :=
  ∃ (v : Value) (ds : List De) (bl : List Nat) (p' : Nat), e = .returned v ∧ libOk ds = true ∧ TreeD w' w.heap.size v ds bl ∧ Rd w' g A bc bs p' ∧ Ok bs Q p' b ∧ Only g w.heap.size w w'

set_option maxHeartbeats 1000000 in
theorem l2Draw_any (g base : Nat) (A : Option Addr) (bc : Nat) (bs : List Nat) (Q p : Nat) (b : Int) (w : World) (hr : Rd w g A bc bs p) (hY : LiesY w 0 base A bs) (hbg : base ≤ g) (hl : bs.length ≤ 2000) (hQ : Lim bs Q) (hok : Ok bs Q p b) (hb9 : b ≤ 3990) :
    Calls Tryz.prog 15 #[.pointer (some ⟨g, 0, none⟩)] w (Lib2Post g A bc bs Q (b + 1) w) := by
  have HT := Lib.hid (l2Texts_any w)
  have hgz : g < w.heap.size := hr.size
  have HR := Lib.hid hr
  have HY := Lib.hid hY
  have HOK := Lib.hid (hok.next hQ (by omega))
  have HP := Lib.hid (hok.pb hQ)
  clear hr hY hok
  go_enter Tryz.func15, Tryz.ntmps15
  go_wp2_with fail
  refine HT.out.mono ?_
  rintro e w1 ⟨rfl, hw1⟩
  have hb1 : Below w.heap.size w w1 := by rw [hw1]; exact (Below.refl _ _).alloc (Nat.le_refl _) _
  have HX1 := Lib.hid (show Row w1 w.heap.size 9 (texts.map txt).toArray by rw [hw1]; exact Row.fresh _ _ _)
  have HR1 := Lib.hid (Row.below HR.out hb1 hgz)
  have HY1 := Lib.hid (HY.out.below (hb1.mono (by omega)))
  have HO1 := Lib.hid (Only.of_below (g := g) hb1)
  have HC := Lib.hid (pick_v g base A bc bs p 9 w1 HR1.out HY1.out hbg hl HP.out (by decide) (by decide))
  clear hw1 hb1 HT
  go_wp2_with fail
  refine HC.out.mono ?_
  rintro e w2 ⟨rfl, hr2, hon2⟩
  obtain ⟨x, hx⟩ : ∃ x, x = pkL bs p 9 := ⟨_, rfl⟩
  have hx9 : x < 9 := by rw [hx]; exact pkL_lt bs _ (by decide)
  rw [← hx]
  obtain ⟨tx, htx⟩ : ∃ tx, texts[x]? = some tx := ⟨_, List.getElem?_eq_getElem (show x < texts.length from hx9)⟩
  have htl : tx.length ≤ 50000 := by
    have h : texts.all (fun t => decide (t.length ≤ 50000)) = true := by decide
    have := List.all_eq_true.1 h tx (List.mem_of_getElem? htx)
    exact of_decide_eq_true this
  have hX2 := HX1.out.only hon2 HX1.out.size (by omega)
  have hcx : w2.cell? ⟨w.heap.size, x, none⟩ = some (.string ⟨tx.toArray⟩) := hX2.cell (i := x) (v := .string ⟨tx.toArray⟩) (by
    rw [List.getElem?_toArray, List.getElem?_map, htx]; rfl)
  have HPL := Lib.hid (specParL_any tx htl w2)
  have HR2 := Lib.hid (show Rd w2 g A bc bs (p + 1) from hr2)
  have HO2 := Lib.hid (HO1.out.trans (hon2.mono HO1.out.size))
  have hx9i : (x : Int) < 9 := by omega
  clear hx htx hX2 hr2 hon2 HC htl
  go_wp2_with fail
  refine HPL.out.mono ?_
  rintro e w3 ⟨v3, ds3, bl3, ok3, rfl, ht3, hb3, hres3⟩
  have hok3 : libOk ds3 = true := by
    cases hp : parseL tx with
    | none => rw [hp] at hres3; rw [hres3.1]; rfl
    | some d' => rw [hp] at hres3; rw [hres3.1]; exact parseL_ok hp
  have HEND := Lib.hid (show Lib2Post g A bc bs Q (b + 1) w (.returned v3) w3 from
    ⟨v3, ds3, bl3, p + 1, rfl, hok3, ht3.lower HO2.out.size, Row.below HR2.out hb3 (Row.size HR2.out), HOK.out, HO2.out.trans ((Only.of_below hb3).mono HO2.out.size)⟩)
  clear ht3 hb3 hres3 hok3 hcx
  go_wp2_with fail
  go_ret
  exact HEND.out
end Go.Proofs.YtpknegneogdmfaaGreat
