/-
  spec.CommutesWith and impl.CommutesWith (made by gen_comm.py).
-/
import Derived.Test.YtfjhanfmcoebfaaPureS
import Derived.Test.YtfjhanfmcoebfaaIsPureI
import Derived.Deep.CutRange
namespace Go.Proofs.Ytfjhanfmcoebfaa
open Go.RowKit Go.Shelf
set_option maxRecDepth 100000

def commB (ds : List De) (o1 n1 : Int) (k1 : Fo) (o2 n2 : Int) (k2 : Fo) : Bool := libOk ds && (callsFitB ds o1 n1 k1 && (callsFitB ds o2 n2 k2 && (pureS ds o1 n1 k1 || pureS ds o2 n2 k2)))

set_option maxHeartbeats 2000000 in
theorem specComm_any (ds : List De) (DA : Option Addr) (DC : Nat) (o1 n1 : Int) (k1 : Fo) (A1 : Option Addr) (c1 : Nat) (o2 n2 : Int) (k2 : Fo) (A2 : Option Addr) (c2 : Nat) (w : World) (hd : LiesD w 0 w.heap.size DA ds) (hl1 : Lies w 0 w.heap.size A1 0 k1) (hl2 : Lies w 0 w.heap.size A2 0 k2) (hdz : sizeD ds ≤ 1048576) (hlen1 : k1.len ≤ maxLen) (hlen2 : k2.len ≤ maxLen) (hsz1 : k1.size ≤ 1048576) (hsz2 : k2.size ≤ 1048576) :
    Calls Try.prog 7 #[.slice DA ds.length DC, .agg #[.int .i64 o1, .int .i64 n1, .slice A1 k1.len c1], .agg #[.int .i64 o2, .int .i64 n2, .slice A2 k2.len c2]] w (Gives (.bool (commB ds o1 n1 k1 o2 n2 k2)) w) := by
  have hds := Nat.le_trans (sizeD_len ds) hdz
  obtain ⟨W, hW⟩ : ∃ W, W = (w.alloc (Obj.cells #[Value.int IntKind.i64 o1, Value.int IntKind.i64 n1, Value.slice A1 k1.len c1] 33)).alloc (Obj.cells #[Value.int IntKind.i64 o2, Value.int IntKind.i64 n2, Value.slice A2 k2.len c2] 33) := ⟨_, rfl⟩
  have hb0 : Below w.heap.size w W := by rw [hW]; exact ((Below.refl _ _).alloc (Nat.le_refl _) _).alloc (by simp) _
  have hx1 : Row W w.heap.size 33 #[Value.int IntKind.i64 o1, Value.int IntKind.i64 n1, Value.slice A1 k1.len c1] := by rw [hW]; exact (Row.fresh w 33 #[Value.int IntKind.i64 o1, Value.int IntKind.i64 n1, Value.slice A1 k1.len c1]).alloc _
  have hx2 : Row W (w.heap.size + 1) 33 #[Value.int IntKind.i64 o2, Value.int IntKind.i64 n2, Value.slice A2 k2.len c2] := by rw [hW]; have h := Row.fresh (w.alloc (Obj.cells #[Value.int IntKind.i64 o1, Value.int IntKind.i64 n1, Value.slice A1 k1.len c1] 33)) 33 #[Value.int IntKind.i64 o2, Value.int IntKind.i64 n2, Value.slice A2 k2.len c2]; rw [World.size_alloc] at h; exact h
  have HB0 := Lib.hid hb0
  have HQ := Lib.hid (show ∀ V, Below w.heap.size w V → Below W.heap.size W V → V.cell? ⟨w.heap.size, 0, none⟩ = some (.int .i64 o1) ∧ V.cell? ⟨w.heap.size, 1, none⟩ = some (.int .i64 n1) ∧ V.cell? ⟨w.heap.size, 2, none⟩ = some (.slice A1 k1.len c1) ∧ V.cell? ⟨w.heap.size + 1, 0, none⟩ = some (.int .i64 o2) ∧ V.cell? ⟨w.heap.size + 1, 1, none⟩ = some (.int .i64 n2) ∧ V.cell? ⟨w.heap.size + 1, 2, none⟩ = some (.slice A2 k2.len c2) from fun V _ h => by
    have h1 := hx1.below h hx1.size
    have h2 := hx2.below h hx2.size
    exact ⟨h1.cell rfl, h1.cell rfl, h1.cell rfl, h2.cell rfl, h2.cell rfl, h2.cell rfl⟩)
  have HC0 := Lib.hid (Below.refl W.heap.size W)
  have HR1 := Lib.hid (fun V (h : Below w.heap.size w V) => l5Right_any ds DA DC o1 n1 k1 A1 c1 V (hd.up h) (hl1.up h) hdz hlen1 hsz1)
  have HR2 := Lib.hid (fun V (h : Below w.heap.size w V) => l5Right_any ds DA DC o2 n2 k2 A2 c2 V (hd.up h) (hl2.up h) hdz hlen2 hsz2)
  have HP := Lib.hid (fun (hok : libOk ds = true) (V : World) (h : Below w.heap.size w V) => l5Pure_any ds DA DC hdz (fun d hd => (libOk_named hok d hd).1) k1.size o1 n1 k1 A1 c1 V rfl (hd.up h) (hl1.up h) hsz1)
  have HP2 := Lib.hid (fun (hok : libOk ds = true) (V : World) (h : Below w.heap.size w V) => l5Pure_any ds DA DC hdz (fun d hd => (libOk_named hok d hd).1) k2.size o2 n2 k2 A2 c2 V rfl (hd.up h) (hl2.up h) hsz2)
  clear hd hl1 hl2 hb0 hx1 hx2
  obtain ⟨z, hz⟩ : ∃ z, z = commB ds o1 n1 k1 o2 n2 k2 := ⟨_, rfl⟩
  rw [← hz]
  unfold commB at hz
  generalize libOk ds = v0 at *
  generalize callsFitB ds o1 n1 k1 = v1 at *
  generalize callsFitB ds o2 n2 k2 = v2 at *
  generalize pureS ds o1 n1 k1 = v3 at *
  generalize pureS ds o2 n2 k2 = v4 at *
  have HZ := Lib.hid hz
  clear hz
  go_enter Try.func7, Try.ntmps7
  go_upto_region 1 with fail
  rw [← hW]
  clear hW
  obtain ⟨q0, q1, q2, q3, q4, q5⟩ := HQ.out _ HB0.out HC0.out
  go_wp2_with fail
  refine (HR1.out _ HB0.out).mono ?_
  rintro e w1 ⟨rfl, hb⟩
  have HB1 := Lib.hid (HB0.out.trans (hb.mono HB0.out.size))
  have HC1 := Lib.hid (HC0.out.trans (hb.mono HC0.out.size))
  clear hb q0 q1 q2 q3 q4 q5
  cases v0 with
  | false =>
    go_wp2_with fail
    go_ret
    exact ⟨by rw [HZ.out]; rfl, HB1.out⟩
  | true =>
  cases v1 with
  | false =>
    go_wp2_with fail
    go_ret
    exact ⟨by rw [HZ.out]; rfl, HB1.out⟩
  | true =>
  obtain ⟨q0, q1, q2, q3, q4, q5⟩ := HQ.out _ HB1.out HC1.out
  go_wp2_with fail
  refine (HR2.out _ HB1.out).mono ?_
  rintro e w2 ⟨rfl, hb⟩
  have HB2 := Lib.hid (HB1.out.trans (hb.mono HB1.out.size))
  have HC2 := Lib.hid (HC1.out.trans (hb.mono HC1.out.size))
  clear hb q0 q1 q2 q3 q4 q5
  cases v2 with
  | false =>
    go_wp2_with fail
    go_ret
    exact ⟨by rw [HZ.out]; rfl, HB2.out⟩
  | true =>
  obtain ⟨q0, q1, q2, q3, q4, q5⟩ := HQ.out _ HB2.out HC2.out
  go_wp2_with fail
  refine (HP.out trivial _ HB2.out).mono ?_
  rintro e w3 ⟨rfl, hb⟩
  have HB3 := Lib.hid (HB2.out.trans (hb.mono HB2.out.size))
  have HC3 := Lib.hid (HC2.out.trans (hb.mono HC2.out.size))
  clear hb q0 q1 q2 q3 q4 q5
  cases v3 with
  | true =>
    go_wp2_with fail
    go_ret
    exact ⟨by rw [HZ.out]; rfl, HB3.out⟩
  | false =>
  obtain ⟨q0, q1, q2, q3, q4, q5⟩ := HQ.out _ HB3.out HC3.out
  go_wp2_with fail
  refine (HP2.out trivial _ HB3.out).mono ?_
  rintro e w4 ⟨rfl, hb⟩
  have HB4 := Lib.hid (HB3.out.trans (hb.mono HB3.out.size))
  have HC4 := Lib.hid (HC3.out.trans (hb.mono HC3.out.size))
  clear hb q0 q1 q2 q3 q4 q5
  go_wp2_with fail
  go_ret
  exact ⟨by rw [HZ.out]; rfl, HB4.out⟩

set_option maxHeartbeats 2000000 in
theorem implComm_any (ds : List De) (DA : Option Addr) (DC : Nat) (o1 n1 : Int) (k1 : Fo) (A1 : Option Addr) (c1 : Nat) (o2 n2 : Int) (k2 : Fo) (A2 : Option Addr) (c2 : Nat) (LD BD L1 B1 L2 B2 : Nat) (w : World) (hd : LiesD w LD BD DA ds) (hBD : BD ≤ w.heap.size) (hl1 : Lies w L1 B1 A1 0 k1) (hB1 : B1 ≤ w.heap.size) (hl2 : Lies w L2 B2 A2 0 k2) (hB2 : B2 ≤ w.heap.size) (hdz : sizeD ds ≤ 1048576) (hk1 : k1.len ≤ c1) (hc1 : c1 ≤ maxLen) (hk2 : k2.len ≤ c2) (hc2 : c2 ≤ maxLen) (hsz1 : k1.size ≤ 1048576) (hsz2 : k2.size ≤ 1048576) :
    Calls Try.prog 10 #[.slice DA ds.length DC, .agg #[.int .i64 o1, .int .i64 n1, .slice A1 k1.len c1], .agg #[.int .i64 o2, .int .i64 n2, .slice A2 k2.len c2]] w (Gives (.bool (commB ds o1 n1 k1 o2 n2 k2)) w) := by
  have hds := Nat.le_trans (sizeD_len ds) hdz
  obtain ⟨W, hW⟩ : ∃ W, W = (w.alloc (Obj.cells #[Value.int IntKind.i64 o1, Value.int IntKind.i64 n1, Value.slice A1 k1.len c1] 33)).alloc (Obj.cells #[Value.int IntKind.i64 o2, Value.int IntKind.i64 n2, Value.slice A2 k2.len c2] 33) := ⟨_, rfl⟩
  have hb0 : Below w.heap.size w W := by rw [hW]; exact ((Below.refl _ _).alloc (Nat.le_refl _) _).alloc (by simp) _
  have hx1 : Row W w.heap.size 33 #[Value.int IntKind.i64 o1, Value.int IntKind.i64 n1, Value.slice A1 k1.len c1] := by rw [hW]; exact (Row.fresh w 33 #[Value.int IntKind.i64 o1, Value.int IntKind.i64 n1, Value.slice A1 k1.len c1]).alloc _
  have hx2 : Row W (w.heap.size + 1) 33 #[Value.int IntKind.i64 o2, Value.int IntKind.i64 n2, Value.slice A2 k2.len c2] := by rw [hW]; have h := Row.fresh (w.alloc (Obj.cells #[Value.int IntKind.i64 o1, Value.int IntKind.i64 n1, Value.slice A1 k1.len c1] 33)) 33 #[Value.int IntKind.i64 o2, Value.int IntKind.i64 n2, Value.slice A2 k2.len c2]; rw [World.size_alloc] at h; exact h
  have HB0 := Lib.hid hb0
  have HQ := Lib.hid (show ∀ V, Below w.heap.size w V → Below W.heap.size W V → V.cell? ⟨w.heap.size, 0, none⟩ = some (.int .i64 o1) ∧ V.cell? ⟨w.heap.size, 1, none⟩ = some (.int .i64 n1) ∧ V.cell? ⟨w.heap.size, 2, none⟩ = some (.slice A1 k1.len c1) ∧ V.cell? ⟨w.heap.size + 1, 0, none⟩ = some (.int .i64 o2) ∧ V.cell? ⟨w.heap.size + 1, 1, none⟩ = some (.int .i64 n2) ∧ V.cell? ⟨w.heap.size + 1, 2, none⟩ = some (.slice A2 k2.len c2) from fun V _ h => by
    have h1 := hx1.below h hx1.size
    have h2 := hx2.below h hx2.size
    exact ⟨h1.cell rfl, h1.cell rfl, h1.cell rfl, h2.cell rfl, h2.cell rfl, h2.cell rfl⟩)
  have HC0 := Lib.hid (Below.refl W.heap.size W)
  have HV := Lib.hid (fun V (h : Below w.heap.size w V) => implLibValid_r ds DA DC LD BD V (hd.below (h.mono hBD)) (Nat.le_trans hBD h.size) hdz)
  have HF1 := Lib.hid (fun V (h : Below w.heap.size w V) => implCallsFit_r ds DA DC o1 n1 k1 A1 c1 L1 B1 V ((hd.mono_ (Nat.zero_le _) hBD).up h) (hl1.below (h.mono hB1)) (Nat.le_trans hB1 h.size) hds hk1 hc1 hsz1)
  have HF2 := Lib.hid (fun V (h : Below w.heap.size w V) => implCallsFit_r ds DA DC o2 n2 k2 A2 c2 L2 B2 V ((hd.mono_ (Nat.zero_le _) hBD).up h) (hl2.below (h.mono hB2)) (Nat.le_trans hB2 h.size) hds hk2 hc2 hsz2)
  have HPF := Lib.hid (fun (hok : libOk ds = true) (V : World) (h : Below w.heap.size w V) => pureFuns_r ds DA DC LD BD V (hd.below (h.mono hBD)) (Nat.le_trans hBD h.size) hdz hok)
  have HPW1 := Lib.hid (fun (hok : libOk ds = true) (hf : callsFitB ds o1 n1 k1 = true) (V : World) (h : Below w.heap.size w V) => (pure_is hok hf) ▸ isPureWith_r (pureT ds) o1 n1 k1 A1 c1 L1 B1 V (hl1.below (h.mono hB1)) (Nat.le_trans hB1 h.size) (RowsIf.small (callsFit_small hf)) hk1 hc1 hsz1)
  have HPW2 := Lib.hid (fun (hok : libOk ds = true) (hf : callsFitB ds o2 n2 k2 = true) (V : World) (h : Below w.heap.size w V) => (pure_is hok hf) ▸ isPureWith_r (pureT ds) o2 n2 k2 A2 c2 L2 B2 V (hl2.below (h.mono hB2)) (Nat.le_trans hB2 h.size) (RowsIf.small (callsFit_small hf)) hk2 hc2 hsz2)
  clear hd hl1 hl2 hb0 hx1 hx2
  obtain ⟨z, hz⟩ : ∃ z, z = commB ds o1 n1 k1 o2 n2 k2 := ⟨_, rfl⟩
  rw [← hz]
  unfold commB at hz
  generalize libOk ds = v0 at *
  generalize callsFitB ds o1 n1 k1 = v1 at *
  generalize callsFitB ds o2 n2 k2 = v2 at *
  generalize pureS ds o1 n1 k1 = v3 at *
  generalize pureS ds o2 n2 k2 = v4 at *
  generalize pureT ds = T at *
  have HZ := Lib.hid hz
  clear hz
  go_enter Try.func10, Try.ntmps10
  go_upto_region 1 with fail
  rw [← hW]
  clear hW
  obtain ⟨q0, q1, q2, q3, q4, q5⟩ := HQ.out _ HB0.out HC0.out
  go_wp2_with fail
  refine (HV.out _ HB0.out).mono ?_
  rintro e w1 ⟨rfl, hb⟩
  have HB1 := Lib.hid (HB0.out.trans (hb.mono HB0.out.size))
  have HC1 := Lib.hid (HC0.out.trans (hb.mono HC0.out.size))
  clear hb q0 q1 q2 q3 q4 q5
  cases v0 with
  | false =>
    go_wp2_with fail
    go_ret
    exact ⟨by rw [HZ.out]; rfl, HB1.out⟩
  | true =>
  obtain ⟨q0, q1, q2, q3, q4, q5⟩ := HQ.out _ HB1.out HC1.out
  go_wp2_with fail
  refine (HF1.out _ HB1.out).mono ?_
  rintro e w2 ⟨rfl, hb⟩
  have HB2 := Lib.hid (HB1.out.trans (hb.mono HB1.out.size))
  have HC2 := Lib.hid (HC1.out.trans (hb.mono HC1.out.size))
  clear hb q0 q1 q2 q3 q4 q5
  cases v1 with
  | false =>
    go_wp2_with fail
    go_ret
    exact ⟨by rw [HZ.out]; rfl, HB2.out⟩
  | true =>
  obtain ⟨q0, q1, q2, q3, q4, q5⟩ := HQ.out _ HB2.out HC2.out
  go_wp2_with fail
  refine (HF2.out _ HB2.out).mono ?_
  rintro e w3 ⟨rfl, hb⟩
  have HB3 := Lib.hid (HB2.out.trans (hb.mono HB2.out.size))
  have HC3 := Lib.hid (HC2.out.trans (hb.mono HC2.out.size))
  clear hb q0 q1 q2 q3 q4 q5
  cases v2 with
  | false =>
    go_wp2_with fail
    go_ret
    exact ⟨by rw [HZ.out]; rfl, HB3.out⟩
  | true =>
  obtain ⟨q0, q1, q2, q3, q4, q5⟩ := HQ.out _ HB3.out HC3.out
  go_wp2_with fail
  refine (HPF.out trivial _ HB3.out).mono ?_
  rintro e w4 ⟨rfl, hb⟩
  have HB4 := Lib.hid (HB3.out.trans (hb.mono HB3.out.size))
  have HC4 := Lib.hid (HC3.out.trans (hb.mono HC3.out.size))
  clear hb q0 q1 q2 q3 q4 q5
  unfold cells8
  have r8 := Row.fresh w4 51 (cells8 T)
  obtain ⟨W5, hW5⟩ : ∃ W5, W5 = w4.alloc (Obj.cells (cells8 T) 51) := ⟨_, rfl⟩
  have hb5 : Below w4.heap.size w4 W5 := by rw [hW5]; exact (Below.refl _ _).alloc (Nat.le_refl _) _
  rw [← hW5] at r8
  have HR8 := Lib.hid r8
  have HB5 := Lib.hid (HB4.out.trans (hb5.mono HB4.out.size))
  have HC5 := Lib.hid (HC4.out.trans (hb5.mono HC4.out.size))
  clear hb5 r8
  unfold cells8 at hW5
  go_upto_region 4 with fail
  rw [← hW5]
  clear hW5
  obtain ⟨e0, e1, e2, e3, e4, e5, e6, e7⟩ := HR8.out.eight
  obtain ⟨q0, q1, q2, q3, q4, q5⟩ := HQ.out _ HB5.out HC5.out
  go_wp2_with fail
  refine (HPW1.out trivial trivial _ HB5.out).mono ?_
  rintro e w6 ⟨rfl, hb⟩
  have HB6 := Lib.hid (HB5.out.trans (hb.mono HB5.out.size))
  have HR9 := Lib.hid (HR8.out.below hb HR8.out.size)
  have HC6 := Lib.hid (HC5.out.trans (hb.mono HC5.out.size))
  clear hb q0 q1 q2 q3 q4 q5 e0 e1 e2 e3 e4 e5 e6 e7
  cases v3 with
  | true =>
    go_wp2_with fail
    go_ret
    exact ⟨by rw [HZ.out]; rfl, HB6.out⟩
  | false =>
  obtain ⟨e0, e1, e2, e3, e4, e5, e6, e7⟩ := HR9.out.eight
  obtain ⟨q0, q1, q2, q3, q4, q5⟩ := HQ.out _ HB6.out HC6.out
  go_wp2_with fail
  refine (HPW2.out trivial trivial _ HB6.out).mono ?_
  rintro e w7 ⟨rfl, hb⟩
  have HB7 := Lib.hid (HB6.out.trans (hb.mono HB6.out.size))
  have HC7 := Lib.hid (HC6.out.trans (hb.mono HC6.out.size))
  clear hb q0 q1 q2 q3 q4 q5
  go_wp2_with fail
  go_ret
  exact ⟨by rw [HZ.out]; rfl, HB7.out⟩
end Go.Proofs.Ytfjhanfmcoebfaa
