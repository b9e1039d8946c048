/-
  markDefS: numbers are written over a copy of a list of functions.
-/
import Derived.Test.YthjfinhfpgifiaaMk
import Derived.Test.YthjfinhfpgifiaaDe
import Derived.Test.YthjfinhfpgifiaaTools
namespace Go.Proofs.Ythjfinhfpgifiaa
open Go.RowKit
set_option maxRecDepth 100000

def SkD (w : World) (L B : Nat) (A : Option Addr) (ds : List De) : Prop := ∀ i d, ds[i]? = some d → ∃ b o A' c' t cs, A = some ⟨b, o, none⟩ ∧ L ≤ b ∧ b < B ∧ Row w b t cs ∧ o + i * 6 + 5 < cs.size ∧
  NS cs (o + i * 6) ∧ NS cs (o + i * 6 + 1) ∧ NS cs (o + i * 6 + 2) ∧ NS cs (o + i * 6 + 3) ∧ NS cs (o + i * 6 + 4) ∧ cs[o + i * 6 + 5]? = some (.slice A' d.k.len c') ∧ Sk w L B A' 0 d.k
theorem LiesD.sk {w : World} {L B : Nat} {A : Option Addr} {ds : List De} (ha : AllRows w L B) (h : LiesD w L B A ds) : SkD w L B A ds := by
  intro i d hd
  obtain ⟨b, o, A', c', hA, hl, hb, _, h1, h2, h3, h4, h5, h6, _, _, h9⟩ := h i d hd
  obtain ⟨t, cs, hr⟩ := ha b hl hb
  have hc := cell_row_ hr h6
  exact ⟨b, o, A', c', t, cs, hA, hl, hb, hr, (Array.getElem?_eq_some_iff.1 hc).1, NS.of (cell_row_ hr h1) rfl, NS.of (cell_row_ hr h2) rfl, NS.of (cell_row_ hr h3) rfl, NS.of (cell_row_ hr h4) rfl, NS.of (cell_row_ hr h5) rfl, hc, h9.sk ha⟩
theorem SkD.mk {w w' : World} {L B : Nat} {A : Option Addr} {ds : List De} (h : MkS L B w w') (hs : SkD w L B A ds) : SkD w' L B A ds := by
  intro i d hd
  obtain ⟨b, o, A', c', t, cs, hA, h1, h2, hr, hz, n0, n1, n2, n3, n4, hc, hk⟩ := hs i d hd
  obtain ⟨cs', r', s', e'⟩ := h.inn b t cs h1 h2 hr
  exact ⟨b, o, A', c', t, cs', hA, h1, h2, r', by omega, n0.keep s' e', n1.keep s' e', n2.keep s' e', n3.keep s' e', n4.keep s' e', (e' _ _ rfl).2 hc, hk.mk h⟩

theorem sizeD_append (xs ys : List De) : sizeD (xs ++ ys) = sizeD xs + sizeD ys := by
  induction xs with
  | nil => simp [sizeD]
  | cons d r ih => simp only [List.cons_append, sizeD, ih]; omega
theorem sizeD_take_le (ds : List De) (j : Nat) : sizeD (ds.take j) ≤ sizeD ds := by
  have h := sizeD_append (ds.take j) (ds.drop j)
  rw [List.take_append_drop] at h
  omega
theorem sizeD_take_succ {ds : List De} {j : Nat} {d : De} (h : ds[j]? = some d) : sizeD (ds.take (j + 1)) = sizeD (ds.take j) + (d.k.size + 1) := by
  rw [List.take_add_one, h, sizeD_append]
  simp only [Option.toList, sizeD]
  omega

set_option maxHeartbeats 2000000 in
theorem mkDefS_any (L B : Nat) (ds : List De) (A : Option Addr) (c : Nat) (w : World) (x : Int) (hl : SkD w L B A ds) (_hsz : sizeD ds ≤ 1048576) (hx0 : 0 ≤ x) (hx1 : x + 5 * (sizeD ds : Int) ≤ 16777216) :
    Calls Try.prog 13 #[.slice A ds.length c, .int .i64 x] w (MkPost (sizeD ds) x L B w) := by
  have hlen := sizeD_len ds
  go_enter Try.func13, Try.ntmps13
  go_wp2
  go_loopw [1, 5] (fun y i wr => ∃ (j : Nat) (x1 : Int), j ≤ ds.length ∧ i = .int .i64 j ∧ y = .int .i64 x1 ∧ x ≤ x1 ∧ x1 ≤ x + 5 * (sizeD (ds.take j) : Int) ∧ MkS L B w wr)
    (fun _ i _ => ds.length - (intOf i).toNat)
  case atStart => exact ⟨0, x, by omega, rfl, rfl, by omega, by simp [sizeD], MkS.refl _ _ _⟩
  case round =>
    obtain ⟨j, x1, hj, rfl, rfl, hxl, hxu, hmk⟩ := hrel
    have hst := sizeD_take_le ds j
    by_cases hlt : j < ds.length
    · have e1 := List.getElem?_eq_getElem hlt
      generalize ds[j] = d at e1
      have hst2 := sizeD_take_succ e1
      have hst3 := sizeD_take_le ds (j + 1)
      obtain ⟨b, o, A', c', t, cs, hA, h1, h2, hr, hs, n0, n1, n2, n3, n4, hc, hk⟩ := (hl.mk hmk) j d e1
      subst hA
      obtain ⟨v0, p0⟩ : ∃ v, cs[o + j * 6]? = some v := ⟨_, Array.getElem?_eq_getElem (by omega)⟩
      obtain ⟨v1, p1⟩ : ∃ v, cs[o + j * 6 + 1]? = some v := ⟨_, Array.getElem?_eq_getElem (by omega)⟩
      obtain ⟨v2, p2⟩ : ∃ v, cs[o + j * 6 + 2]? = some v := ⟨_, Array.getElem?_eq_getElem (by omega)⟩
      obtain ⟨v3, p3⟩ : ∃ v, cs[o + j * 6 + 3]? = some v := ⟨_, Array.getElem?_eq_getElem (by omega)⟩
      obtain ⟨v4, p4⟩ : ∃ v, cs[o + j * 6 + 4]? = some v := ⟨_, Array.getElem?_eq_getElem (by omega)⟩
      have q0 := hr.cell p0
      have q1 := hr.cell p1
      have q2 := hr.cell p2
      have q3 := hr.cell p3
      have q4 := hr.cell p4
      have q5 := hr.cell hc
      have f0 := hr.free (o + j * 6)
      have f1 := hr.free (o + j * 6 + 1)
      have f2 := hr.free (o + j * 6 + 2)
      have f3 := hr.free (o + j * 6 + 3)
      have f4 := hr.free (o + j * 6 + 4)
      have HR := Lib.hid (fun (y0 y1 : Int) (y2 : Bool) (y3 y4 : Int) => MkS.set (v := .int .i64 y4) (MkS.set (v := .int .i64 y3) (MkS.set (v := .bool y2) (MkS.set (v := .int .i64 y1) (MkS.set (v := .int .i64 y0) (MkS.refl L B wr) h1 h2 hr n0 rfl) h1 h2 hr n1 rfl) h1 h2 hr n2 rfl) h1 h2 hr n3 rfl) h1 h2 hr n4 rfl)
      have HM := Lib.hid hmk
      have HT := Lib.hid hst2
      have HK := Lib.hid hk
      have hb1 : x1 + 5 + 5 * (d.k.size : Int) ≤ 16777216 := by omega
      have hx2 : 0 ≤ x1 := by omega
      have HX := Lib.hid (show x ≤ x1 ∧ x1 ≤ x + 5 * (sizeD (ds.take j) : Int) from ⟨hxl, hxu⟩)
      clear p0 p1 p2 p3 p4 hc hr e1 hk hl hmk n0 n1 n2 n3 n4 hst hst2 hst3 hxl hxu
      go_wp2_with fail
      refine (mkExprS_any L B d.k.size d.k A' c' _ (x1 + 1 + 1 + 1 + 1 + 1) rfl (Sk.mk (HR.out _ _ _ _ _) HK.out) (by omega) (by omega)).mono ?_
      rintro e w2 ⟨r, rfl, hr1, hr2, hm3⟩
      have HM2 := Lib.hid (HM.out.trans ((HR.out _ _ _ _ _).trans hm3))
      clear hm3 q0 q1 q2 q3 q4 q5 f0 f1 f2 f3 f4 HM HK HR
      have hx9 := HX.out
      have ht9 := HT.out
      go_wp2
      go_roundw
      case rel => exact ⟨j + 1, r, by omega, by go_num, rfl, by omega, by omega, HM2.out⟩
      case measure => simp [intOf]; omega
    · have e9 : ds.take j = ds := List.take_of_length_le (by omega)
      rw [e9] at hxu
      go_wp2
      go_ret
      exact ⟨x1, rfl, hxl, hxu, hmk⟩
end Go.Proofs.Ythjfinhfpgifiaa
