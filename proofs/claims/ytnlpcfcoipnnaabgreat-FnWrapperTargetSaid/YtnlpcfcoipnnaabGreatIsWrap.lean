/-
  IsWrapper: the model and the program.
-/
import Derived.Test.YtnlpcfcoipnnaabGreatWrap
import Derived.Test.YtnlpcfcoipnnaabGreatLibVD
import Derived.Test.YtnlpcfcoipnnaabGreatLibVS
import Derived.Test.YtnlpcfcoipnnaabGreatLibVI
namespace Go.Proofs.YtnlpcfcoipnnaabGreat
open Go.RowKit
set_option maxRecDepth 100000

/-- Does the function x only call another one? -/
def wrapAt (x : Int) (ds : List De) : Bool := match fnd x ds with
  | some d => wrapN d.nm d.op d.n d.k
  | none => false
def isWrapB (x : Int) (ds : List De) : Bool := libOk ds && wrapAt x ds

set_option maxHeartbeats 2000000 in
theorem specIsWrap_any (ds : List De) (A : Option Addr) (c : Nat) (w : World) (x : Int) (hl : LiesD w 0 w.heap.size A ds) (hdz : sizeD ds ≤ 1048576) :
    Calls Tryz.prog 14 #[.slice A ds.length c, .int .i64 x] w (Gives (.bool (isWrapB x ds)) w) := by
  have hsz : ds.length ≤ 1048576 := Nat.le_trans (sizeD_len ds) hdz
  have hpl := place_any ds A c w x hl hsz
  obtain ⟨z, hz⟩ : ∃ z, plcI x ds = z := ⟨_, rfl⟩
  rw [hz] at hpl
  unfold plcI at hz
  have HL := Lib.hid hl
  obtain ⟨h1, h2⟩ := plc_fnd x ds
  clear hl
  cases hv : libOk ds with
  | false =>
    rw [show isWrapB x ds = false by simp [isWrapB, hv]]
    clear hz h1 h2
    go_enter Tryz.func14, Tryz.ntmps14
    go_wp2_with fail
    refine hpl.mono ?_
    rintro e w1 ⟨rfl, hb1⟩
    have HB1 := Lib.hid hb1
    clear hpl
    go_wp2_with fail
    refine (specLibValid_any ds A c w1 (HL.out.up hb1) hdz).mono ?_
    rintro e w2 ⟨rfl, hb2⟩
    have HB2 := Lib.hid (HB1.out.trans (hb2.mono HB1.out.size))
    rw [hv]
    clear hb2 hb1
    go_wp2_with fail
    go_ret
    exact ⟨rfl, HB2.out⟩
  | true =>
    by_cases hp : plc x ds < ds.length
    · obtain ⟨d, hd1, hd2⟩ := h1 hp
      rw [if_pos hp] at hz
      subst hz
      rw [show isWrapB x ds = wrapN d.nm d.op d.n d.k by simp [isWrapB, wrapAt, hv, hd2]]
      have HD := Lib.hid hd1
      clear hd1 hd2 h1 h2
      generalize plc x ds = p at *
      have HC := Lib.hid hpl
      clear hpl
      go_enter Tryz.func14, Tryz.ntmps14
      go_wp2_with fail
      refine HC.out.mono ?_
      rintro e w1 ⟨rfl, hb1⟩
      have HB1 := Lib.hid hb1
      clear HC
      go_wp2_with fail
      refine (specLibValid_any ds A c w1 (HL.out.up hb1) hdz).mono ?_
      rintro e w2 ⟨rfl, hb2⟩
      have HB2 := Lib.hid (HB1.out.trans (hb2.mono HB1.out.size))
      rw [hv]
      clear hb2 hb1
      obtain ⟨b, o, A', c', hA, hLb, hbB, hf, g1, g2, g3, g4, g5, g6, h7, h8, h9⟩ := (HL.out.up HB2.out) p d HD.out
      subst hA
      have HL9 := Lib.hid (h9.mono_ (Nat.zero_le _) (Nat.le_refl _))
      have hp0 : decide ((p : Int) ≥ 0) = true := by simp
      clear hv h9 hf
      go_wp2_with fail
      refine (l7Wraps_any d.nm d.ar d.old d.op d.n d.k A' c' w2 HL9.out (by omega)).mono ?_
      rintro e w3 ⟨rfl, hb3⟩
      have HB3 := Lib.hid (HB2.out.trans (hb3.mono HB2.out.size))
      clear hb3
      go_wp2_with fail
      go_ret
      exact ⟨by simp, HB3.out⟩
    · have hd2 := h2 hp
      rw [if_neg hp] at hz
      subst hz
      rw [show isWrapB x ds = false by simp [isWrapB, wrapAt, hd2]]
      clear hd2 h1 h2
      go_enter Tryz.func14, Tryz.ntmps14
      go_wp2_with fail
      refine hpl.mono ?_
      rintro e w1 ⟨rfl, hb1⟩
      have HB1 := Lib.hid hb1
      clear hpl
      go_wp2_with fail
      refine (specLibValid_any ds A c w1 (HL.out.up hb1) hdz).mono ?_
      rintro e w2 ⟨rfl, hb2⟩
      have HB2 := Lib.hid (HB1.out.trans (hb2.mono HB1.out.size))
      rw [hv]
      clear hb2 hb1 hv hp
      go_wp2_with fail
      go_ret
      exact ⟨rfl, HB2.out⟩
theorem libOk_inVar {ds : List De} (h : libOk ds = true) {x : Int} {d : De} (hf : fnd x ds = some d) : inVar x = true := by
  obtain ⟨hm, hn⟩ := fnd_mem hf
  simp only [libOk, Bool.and_eq_true] at h
  rw [← hn]
  exact (okL_named ds none h.2 d hm).1

/-- What the map of the functions gives for x: the function, or nothing but zeros. -/
theorem wrap_look {w : World} {L B : Nat} {ds : List De} {es : IEnts} (h : EntOk w L B ds es) (hv : libOk ds = true) (x : Int) : ∃ nm ar old op n k A c, (ilook es x).getD (.agg #[.int .i64 0, .int .i64 0, .bool false, .int .i64 0, .int .i64 0, .slice none 0 0]) = .agg #[.int .i64 nm, .int .i64 ar, .bool old, .int .i64 op, .int .i64 n, .slice A k.len c] ∧
    Lies w L B A 0 k ∧ k.len ≤ maxLen ∧ wrapN nm op n k = wrapAt x ds ∧ (∀ d, fnd x ds = some d → d.n = n) := by
  unfold wrapAt
  cases hf : fnd x ds with
  | none => exact ⟨0, 0, false, 0, 0, .nil, none, 0, by rw [h.2 x (.inr hf)]; rfl, trivial, by simp [Fo.len, maxLen], by simp [wrapN], fun d hd => by cases hd⟩
  | some d =>
    obtain ⟨A, c, h1, h2, h3, h4⟩ := h.1 x d (libOk_inVar hv hf) hf
    exact ⟨d.nm, d.ar, d.old, d.op, d.n, d.k, A, c, by rw [h1]; rfl, h2, Nat.le_trans h3 h4, rfl, fun e he => by injection he with he; rw [he]⟩

set_option maxHeartbeats 2000000 in
theorem implIsWrap_r (ds : List De) (A : Option Addr) (c L B : Nat) (w : World) (x : Int) (hd : LiesD w L B A ds) (hB : B ≤ w.heap.size) (hdz : sizeD ds ≤ 1048576) :
    Calls Tryz.prog 8 #[.slice A ds.length c, .int .i64 x] w (Gives (.bool (isWrapB x ds)) w) := by
  have hsz : ds.length ≤ 1048576 := Nat.le_trans (sizeD_len ds) hdz
  have HD := Lib.hid hd
  cases hv : libOk ds with
  | false =>
    rw [show isWrapB x ds = false by simp [isWrapB, hv]]
    go_enter Tryz.func8, Tryz.ntmps8
    go_wp2_with fail
    refine (implLibValid_r ds A c L B w HD.out hB hdz).mono ?_
    rintro e w1 ⟨rfl, hb1⟩
    have HB1 := Lib.hid hb1
    rw [hv]
    clear hb1 hd
    go_wp2_with fail
    go_ret
    exact ⟨rfl, HB1.out⟩
  | true =>
    rw [show isWrapB x ds = wrapAt x ds by simp [isWrapB, hv]]
    have HV := Lib.hid hv
    clear hd
    go_enter Tryz.func8, Tryz.ntmps8
    go_wp2_with fail
    refine (implLibValid_r ds A c L B w HD.out hB hdz).mono ?_
    rintro e w1 ⟨rfl, hb1⟩
    have HB1 := Lib.hid hb1
    rw [hv]
    clear hb1 hv
    go_wp2_with fail
    refine (defsByName_any ds A c w1 L B (HD.out.below (HB1.out.mono hB)) (Nat.le_trans hB HB1.out.size) hsz).mono ?_
    rintro e w2 ⟨es, rfl, hm2, hent2, hb2, hlt2⟩
    have HB2 := Lib.hid (HB1.out.trans (hb2.mono HB1.out.size))
    obtain ⟨nm, ar, old, op, n, k, A', c', hlo, hk, hkl, hw, -⟩ := wrap_look hent2 HV.out x
    have hlk := im_lookup1 (P := Tryz.prog) (a := x) Tryz.underlying38 Tryz.underlying3 (show (zeroValue 36).run Tryz.prog w2 = .ok (.agg #[.int .i64 0, .int .i64 0, .bool false, .int .i64 0, .int .i64 0, .slice none 0 0]) w2 by kernel_rfl) hm2
    rw [hlo] at hlk
    have HW := Lib.hid hw
    have HK := Lib.hid (hk.mono_ (Nat.zero_le _) (Nat.le_trans hB HB2.out.size))
    clear hb2 hm2 hent2 hlt2 hlo hk hw
    go_wp2_with fail
    refine (wrapped_any nm ar old op n k A' c' w2 HK.out hkl).mono ?_
    rintro e w3 ⟨rfl, hb3⟩
    have HB3 := Lib.hid (HB2.out.trans (hb3.mono HB2.out.size))
    obtain ⟨y, hy⟩ : ∃ y, (if wrapN nm op n k = true then n else 0) = y := ⟨_, rfl⟩
    obtain ⟨z, hz⟩ : ∃ z, wrapN nm op n k = z := ⟨_, rfl⟩
    rw [hy, hz]
    have HZ := Lib.hid (show z = wrapAt x ds by rw [← hz]; exact HW.out)
    clear hb3 hy hz hlk
    go_wp2_with fail
    go_ret
    refine ⟨?_, HB3.out⟩
    simp
    exact HZ.out
theorem implIsWrap_any (ds : List De) (A : Option Addr) (c L B : Nat) (w : World) (x : Int) (hd : LiesD w L B A ds) (hB : B ≤ w.heap.size) (_hal : AllRows w L B) (hdz : sizeD ds ≤ 1048576) :
    Calls Tryz.prog 8 #[.slice A ds.length c, .int .i64 x] w (Gives (.bool (isWrapB x ds)) w) :=
  implIsWrap_r ds A c L B w x hd hB hdz
end Go.Proofs.YtnlpcfcoipnnaabGreat
