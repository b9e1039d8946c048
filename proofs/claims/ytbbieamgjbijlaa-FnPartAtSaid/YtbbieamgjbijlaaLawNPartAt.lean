/-
  The walk of the law FnPartAt: true at every input (made by gen_npa.py).
-/
import Derived.Test.YtbbieamgjbijlaaDrawPA
import Derived.Test.YtbbieamgjbijlaaPartI
import Derived.Test.YtbbieamgjbijlaaISame
namespace Go.Proofs.Ytbbieamgjbijlaa
open Go.RowKit Go.Shelf
set_option maxRecDepth 100000

theorem pa_refl : ∀ f : Fo, sameFo f f = true
  | .nil => rfl
  | .cons _ _ k r => by simp [sameFo, pa_refl k, pa_refl r]
theorem paNrefl (op n : Int) (k : Fo) : sameN op n k op n k = true := by simp [sameN, pa_refl]

theorem part_i64 {w : World} {L B : Nat} : ∀ (zs : List Int) (p : Nd) (A : Option Addr) {q : Nd}, Lies w L B A 0 p.k → (I64 p.op ∧ I64 p.n) → partN p zs = some q → I64 q.op ∧ I64 q.n
  | [], p, _, q, _, h, e => by simp only [partN, Option.some.injEq] at e; rw [← e]; exact h
  | i :: r, p, A, q, hl, h, e => by
    by_cases h0 : 0 ≤ i
    · by_cases h1 : i.toNat < p.k.len
      · obtain ⟨o, m, k, e1, _, _⟩ := Fo.drop_of_lt p.k i.toNat h1
        rw [partN_in h0 e1] at e
        have ha := Lies.at_ i.toNat hl
        rw [e1] at ha
        obtain ⟨⟨b, o2, A', c', hA, hL, hB, x1, x2, x3, x4, x5, x6, x7, x8⟩, _⟩ := ha
        exact part_i64 r ⟨o, m, k⟩ A' x8 ⟨x1, x2⟩ e
      · rw [partN_out (by omega)] at e; cases e
    · rw [partN_neg (by omega)] at e; cases e

theorem part_step {p q : Nd} {i : Int} {r : List Int} (e : partN p (i :: r) = some q) : ∃ p1, partN p [i] = some p1 ∧ partN p1 r = some q := by
  by_cases h0 : 0 ≤ i
  · by_cases h1 : i.toNat < p.k.len
    · obtain ⟨o, m, k, e1, _, _⟩ := Fo.drop_of_lt p.k i.toNat h1
      rw [partN_in h0 e1] at e
      exact ⟨⟨o, m, k⟩, by rw [partN_in h0 e1]; rfl, e⟩
    · rw [partN_out (by omega)] at e; cases e
  · rw [partN_neg (by omega)] at e; cases e

/-- The node y has been laid into a variable behind the world V. -/
def Laid (V : World) (y : Nd) (p : Value) (wd : World) : Prop :=
  ∃ g A c, p = .pointer (some ⟨g, 0, none⟩) ∧ Row wd g 25 #[.int .i64 y.op, .int .i64 y.n, .slice A y.k.len c] ∧ V.heap.size ≤ g ∧ Held wd wd.heap.size A y.k ∧ y.k.len ≤ c ∧ c ≤ maxLen ∧ Below V.heap.size V wd

theorem laid_set {V v0 vd : World} {y : Nd} {A5 : Option Addr} {c5 : Nat} {b5 : List Nat} (hbp : Below V.heap.size V v0) (hr : Row v0 V.heap.size 25 #[Value.int .i64 0, Value.int .i64 0, Value.slice none 0 0]) (ht : Tree vd v0.heap.size (.slice A5 y.k.len c5) y.k b5) (hb : Below v0.heap.size v0 vd) :
    Laid V y (.pointer (some ⟨V.heap.size, 0, none⟩)) (((vd.setCell ⟨V.heap.size, 0, none⟩ (.int .i64 y.op)).setCell ⟨V.heap.size, 1, none⟩ (.int .i64 y.n)).setCell ⟨V.heap.size, 2, none⟩ (.slice A5 y.k.len c5)) := by
  have r5 := hr.below hb hr.size
  obtain ⟨_, _, hX, hk1, hk2⟩ := ht.slice
  injection hX with _ _ hX3
  subst hX3
  have hbd := hbp.trans (hb.mono hbp.size)
  have hs := hr.size
  have ht6 : Tree (((vd.setCell ⟨V.heap.size, 0, none⟩ (.int .i64 y.op)).setCell ⟨V.heap.size, 1, none⟩ (.int .i64 y.n)).setCell ⟨V.heap.size, 2, none⟩ (.slice A5 y.k.len c5)) v0.heap.size (.slice A5 y.k.len c5) y.k b5 := ht.keep fun z hz => by
    have hz1 := (ht.lt z hz).1
    have hz2 : z ≠ V.heap.size := by omega
    rw [Below.heap_setCell _ _ _ z hz2, Below.heap_setCell _ _ _ z hz2, Below.heap_setCell _ _ _ z hz2]
  exact ⟨V.heap.size, A5, c5, rfl, ((r5.put 0 _).put 1 _).put 2 _, Nat.le_refl _, ht6.held, hk1, hk2, ((hbd.setCell (p := ⟨V.heap.size, 0, none⟩) (Nat.le_refl _) (.int .i64 y.op)).setCell (p := ⟨V.heap.size, 1, none⟩) (Nat.le_refl _) (.int .i64 y.n)).setCell (p := ⟨V.heap.size, 2, none⟩) (Nat.le_refl _) (.slice A5 y.k.len c5)⟩
theorem laid_new {V v0 vd : World} {y : Nd} {A5 : Option Addr} {c5 : Nat} {b5 : List Nat} (hbp : Below V.heap.size V v0) (ht : Tree vd v0.heap.size (.slice A5 y.k.len c5) y.k b5) (hb : Below v0.heap.size v0 vd) :
    Laid V y (.pointer (some ⟨vd.heap.size, 0, none⟩)) (vd.alloc (Obj.cells #[Value.int .i64 y.op, Value.int .i64 y.n, Value.slice A5 y.k.len c5] 25)) := by
  obtain ⟨_, _, hX, hk1, hk2⟩ := ht.slice
  injection hX with _ _ hX3
  subst hX3
  have hbd := hbp.trans (hb.mono hbp.size)
  exact ⟨vd.heap.size, A5, c5, rfl, Row.fresh _ _ _, hbd.size, ht.held.up ((Below.refl _ _).alloc (Nat.le_refl _) _), hk1, hk2, hbd.alloc hbd.size _⟩

set_option maxHeartbeats 4000000 in
theorem law_NPartAt (bs : List Nat) (A : Option Addr) (c : Nat) (w : World) (hl : LiesY w 0 w.heap.size A bs) (hlc : bs.length ≤ c) (hc : c ≤ maxLen) :
    Calls Try.prog 4 #[.slice A bs.length c] w (Gives (.bool true) w) := by
  have HC := Lib.hid (drawPartAt_any A c bs w hl hlc hc)
  unfold maxLen at hc
  by_cases hsz : bs.length ≤ 1048576
  rotate_left
  · have hgt : 1048576 < bs.length := by omega
    clear hl
    go_enter Try.func4, Try.ntmps4
    go_wp2_with fail
    go_ret
    exact ⟨rfl, Below.refl _ _⟩
  clear hl
  go_enter Try.func4, Try.ntmps4
  go_wp2_with fail
  refine HC.out.mono ?_
  rintro e w1 ⟨op, n, k, X, cx, zs, A2, c2, rfl, ⟨bl, hi, ht, hs⟩, hz, hm1, hm2, hm3, hb⟩
  obtain ⟨_, _, hX, hk1, hk2⟩ := ht.slice
  injection hX with hX1 hX2 hX3
  subst hX3
  obtain ⟨W, hW⟩ : ∃ W, W = w1.alloc (Obj.cells #[.int .i64 op, .int .i64 n, .slice X k.len cx] 25) := ⟨_, rfl⟩
  have hbW : Below w1.heap.size w1 W := by rw [hW]; exact (Below.refl _ _).alloc (Nat.le_refl _) _
  have hx : Row W w1.heap.size 25 #[.int .i64 op, .int .i64 n, .slice X k.len cx] := by rw [hW]; exact Row.fresh _ _ _
  have HH := Lib.hid ((ht.held).up hbW)
  have HZ := Lib.hid (show LiesI W 0 W.heap.size A2 zs from LiesI.up (hz.keep (Nat.zero_le _) (Nat.le_refl _) fun _ _ _ => rfl) hbW)
  have HX := Lib.hid hx
  have HB := Lib.hid (hb.trans (hbW.mono hb.size))
  have HI := Lib.hid hi
  obtain ⟨y, hy⟩ : ∃ y, y = (partN ⟨op, n, k⟩ zs).getD nd0 := ⟨_, rfl⟩
  obtain ⟨ok, hok⟩ : ∃ ok, ok = (partN ⟨op, n, k⟩ zs).isSome := ⟨_, rfl⟩
  have hys : y.k.size ≤ 1048576 := by rw [hy]; exact partN_le _ _ (by show k.size ≤ 1048576; omega)
  have HY := Lib.hid hy
  have HOK := Lib.hid hok
  have HIM := Lib.hid (show ∀ w' : World, Below W.heap.size W w' → Calls Try.prog 11 #[.agg #[.int .i64 op, .int .i64 n, .slice X k.len cx], .slice A2 zs.length c2] w' (GivesN y ok w') from fun w' hb' => by rw [hy, hok]; exact implPart_r op n k X cx zs A2 c2 0 w'.heap.size w' (HH.out.up hb').1 (Nat.le_refl _) (HH.out.up hb').rows hk1 hk2 (HZ.out.up hb') hm3 (by omega) HI.out)
  have HSP := Lib.hid (show ∀ w' : World, Below W.heap.size W w' → Calls Try.prog 14 #[.agg #[.int .i64 op, .int .i64 n, .slice X k.len cx], .slice A2 zs.length c2] w' (GivesN y ok w') from fun w' hb' => by rw [hy, hok]; exact specPart_any op n k X cx zs A2 c2 w' (HH.out.up hb').1 (Nat.le_trans hk1 hk2) (HZ.out.up hb') hm3 (by omega) HI.out)
  clear hb hbW ht hX1 hX2 HC hi hz hx hy hok
  go_upto_region 4 with fail
  rw [← hW]
  clear hW
  have q0 := HX.out.cell (i := 0) rfl
  have q1 := HX.out.cell (i := 1) rfl
  have q2 := HX.out.cell (i := 2) rfl
  go_wp2_with fail
  refine (HIM.out W (Below.refl _ _)).mono ?_
  rintro e w2 ⟨A3, c3, b3, rfl, ht3, hb2⟩
  obtain ⟨_, _, hX, k31, k32⟩ := ht3.slice
  injection hX with gX1 gX2 gX3
  subst gX3
  clear gX1 gX2 q0 q1 q2
  obtain ⟨W3, hW3⟩ : ∃ V, V = w2.alloc (Obj.cells #[.int .i64 y.op, .int .i64 y.n, .slice A3 y.k.len c3] 25) := ⟨_, rfl⟩
  have b3' : Below w2.heap.size w2 W3 := by rw [hW3]; exact (Below.refl _ _).alloc (Nat.le_refl _) _
  have HX3 := Lib.hid (show Row W3 w2.heap.size 25 #[.int .i64 y.op, .int .i64 y.n, .slice A3 y.k.len c3] by rw [hW3]; exact Row.fresh _ _ _)
  have HH3 := Lib.hid ((ht3.held).up b3')
  have HBW3 := Lib.hid (hb2.trans (b3'.mono hb2.size))
  have HE3 := Lib.hid (HX.out.below HBW3.out HX.out.size)
  clear ht3 hb2 b3'
  go_upto_region 5 with fail
  rw [← hW3]
  clear hW3
  have q0 := HE3.out.cell (i := 0) rfl
  have q1 := HE3.out.cell (i := 1) rfl
  have q2 := HE3.out.cell (i := 2) rfl
  go_wp2_with fail
  refine (HSP.out W3 HBW3.out).mono ?_
  rintro e w4 ⟨A5, c5, b5, rfl, ht5, hb4⟩
  obtain ⟨_, _, hX, k51, k52⟩ := ht5.slice
  injection hX with gX1 gX2 gX3
  subst gX3
  clear gX1 gX2 q0 q1 q2 HE3 HSP
  obtain ⟨W5, hW5⟩ : ∃ V, V = w4.alloc (Obj.cells #[.int .i64 y.op, .int .i64 y.n, .slice A5 y.k.len c5] 25) := ⟨_, rfl⟩
  have b5' : Below w4.heap.size w4 W5 := by rw [hW5]; exact (Below.refl _ _).alloc (Nat.le_refl _) _
  have hb45 := hb4.trans (b5'.mono hb4.size)
  have HX5 := Lib.hid (show Row W5 w4.heap.size 25 #[.int .i64 y.op, .int .i64 y.n, .slice A5 y.k.len c5] by rw [hW5]; exact Row.fresh _ _ _)
  have HH5 := Lib.hid ((ht5.held).up b5')
  have HX35 := Lib.hid (HX3.out.below hb45 HX3.out.size)
  have HH35 := Lib.hid (HH3.out.up hb45)
  have HBW5 := Lib.hid (HBW3.out.trans (hb45.mono HBW3.out.size))
  clear ht5 hb4 b5' hb45 HX3 HH3 HBW3
  go_upto_region 6 with fail
  rw [← hW5]
  clear hW5
  have s0 := HX35.out.cell (i := 0) rfl
  have s1 := HX35.out.cell (i := 1) rfl
  have s2 := HX35.out.cell (i := 2) rfl
  have t0 := HX5.out.cell (i := 0) rfl
  have t1 := HX5.out.cell (i := 1) rfl
  have t2 := HX5.out.cell (i := 2) rfl
  have hne : (ok != ok) = false := by simp
  go_wp2_with fail
  refine (implSame_r y.op y.n y.op y.n y.k y.k A3 A5 c3 c5 W5 HH35.out.1 HH5.out.1 0 W5.heap.size HH35.out.1 (Nat.le_refl _) HH35.out.rows k31 k32 k51 k52 hys).mono ?_
  rintro e w6 ⟨rfl, hb6⟩
  rw [paNrefl]
  have HX6 := Lib.hid (HX35.out.below hb6 HX35.out.size)
  have HH6 := Lib.hid (HH35.out.up hb6)
  have HY6 := Lib.hid (HX5.out.below hb6 HX5.out.size)
  have HK6 := Lib.hid (HH5.out.up hb6)
  have HBW6 := Lib.hid (HBW5.out.trans (hb6.mono HBW5.out.size))
  have HE6 := Lib.hid (HX.out.below HBW6.out HX.out.size)
  clear hb6 s0 s1 s2 t0 t1 t2 HX35 HH35 HX5 HH5 HBW5 HX hne
  by_cases hend : ok = true ∧ 0 < zs.length
  rotate_left
  · have HEQ := Lib.hid (show ok = false ∨ zs.length = 0 by cases ok with | false => exact .inl rfl | true => exact .inr (by have := hend; simp at this; rw [this]; rfl))
    clear hend HIM HOK
    cases ok with
    | false =>
      have s0 := HX6.out.cell (i := 0) rfl
      have s1 := HX6.out.cell (i := 1) rfl
      have s2 := HX6.out.cell (i := 2) rfl
      have t0 := HY6.out.cell (i := 0) rfl
      have t1 := HY6.out.cell (i := 1) rfl
      have t2 := HY6.out.cell (i := 2) rfl
      go_wp2_with fail
      refine (implSame_r y.op y.n y.op y.n y.k y.k A3 A5 c3 c5 w6 HH6.out.1 HK6.out.1 0 w6.heap.size HH6.out.1 (Nat.le_refl _) HH6.out.rows k31 k32 k51 k52 hys).mono ?_
      rintro e w7 ⟨rfl, hb7⟩
      rw [paNrefl]
      have HB7 := Lib.hid (HB.out.trans ((HBW6.out.trans (hb7.mono HBW6.out.size)).mono HB.out.size))
      clear hb7
      go_wp2_with fail
      go_ret
      exact ⟨rfl, HB7.out⟩
    | true =>
      have s0 := HX6.out.cell (i := 0) rfl
      have s1 := HX6.out.cell (i := 1) rfl
      have s2 := HX6.out.cell (i := 2) rfl
      have t0 := HY6.out.cell (i := 0) rfl
      have t1 := HY6.out.cell (i := 1) rfl
      have t2 := HY6.out.cell (i := 2) rfl
      have hz0 : zs.length = 0 := by rcases HEQ.out with h | h; cases h; exact h
      have b1 : ((zs.length : Int) == 0) = true := by rw [hz0]; rfl
      clear hz0
      go_wp2_with fail
      refine (implSame_r y.op y.n y.op y.n y.k y.k A3 A5 c3 c5 w6 HH6.out.1 HK6.out.1 0 w6.heap.size HH6.out.1 (Nat.le_refl _) HH6.out.rows k31 k32 k51 k52 hys).mono ?_
      rintro e w7 ⟨rfl, hb7⟩
      rw [paNrefl]
      have HB7 := Lib.hid (HB.out.trans ((HBW6.out.trans (hb7.mono HBW6.out.size)).mono HB.out.size))
      clear hb7
      go_wp2_with fail
      go_ret
      exact ⟨rfl, HB7.out⟩
  · obtain ⟨rfl, hpos⟩ := hend
    have b1 : ((zs.length : Int) == 0) = false := beq_eq_false_iff_ne.2 (by omega)
    obtain ⟨z0, zr, hzz⟩ : ∃ z0 zr, zs = z0 :: zr := by cases zs with | nil => simp at hpos | cons a b => exact ⟨a, b, rfl⟩
    have hpy : partN ⟨op, n, k⟩ zs = some y := by
      cases hp : partN ⟨op, n, k⟩ zs with
      | none => have := HOK.out; rw [hp] at this; cases this
      | some q => have := HY.out; rw [hp] at this; rw [this]; rfl
    rw [hzz] at hpy
    obtain ⟨p1, hp1, hp2⟩ := part_step hpy
    obtain ⟨xb, xo, hA2, _, _, hz64, hzc⟩ := HZ.out 0 z0 (by rw [hzz]; rfl)
    subst hA2
    have hlen : zs.length = zr.length + 1 := by rw [hzz]; rfl
    have hlr : zr.length ≤ 1048576 := by omega
    have hps : p1.k.size ≤ 1048576 := Nat.le_trans (partN_size [z0] ⟨op, n, k⟩ hp1) (by show k.size ≤ 1048576; omega)
    have hpi := part_i64 [z0] ⟨op, n, k⟩ X (HH.out.1) HI.out hp1
    have HZ0 := Lib.hid (show LiesI W 0 W.heap.size (some ⟨xb, xo, none⟩) [z0] from fun i x hx => HZ.out i x (by cases i with | zero => rw [hzz]; exact hx | succ i => simp at hx))
    have HZR := Lib.hid (show LiesI W 0 W.heap.size (some ⟨xb, xo + 1, none⟩) zr from fun i x hx => by
      obtain ⟨b, o, hA, h1, h2, h3, h4⟩ := HZ.out (i + 1) x (by rw [hzz]; simpa using hx)
      injection hA with hA
      injection hA with g1 g2
      subst g1
      subst g2
      exact ⟨xb, xo + 1, rfl, h1, h2, h3, by rw [show xo + 1 + i = xo + (i + 1) by omega]; exact h4⟩)
    have HC1 := Lib.hid (show ∀ w' : World, Below w6.heap.size w6 w' → Calls Try.prog 11 #[.agg #[.int .i64 op, .int .i64 n, .slice X k.len cx], .slice (some ⟨xb, xo, none⟩) 1 c2] w' (GivesN p1 true w') from fun w' hb' => by
      have hbw := HBW6.out.trans (hb'.mono HBW6.out.size)
      have h := implPart_r op n k X cx [z0] (some ⟨xb, xo, none⟩) c2 0 w'.heap.size w' (HH.out.up hbw).1 (Nat.le_refl _) (HH.out.up hbw).rows hk1 hk2 (HZ0.out.up hbw) (by show 1 ≤ 1048576; decide) (by omega) HI.out
      rw [hp1] at h
      exact h)
    have HP2 := Lib.hid hp2
    have hc1 : 1 ≤ c2 := by omega
    have hc4 : (1 : Int) ≤ (c2 : Int) := by omega
    have hl1 : 1 ≤ zs.length := hpos
    have hl2 : (1 : Int) ≤ (zs.length : Int) := by omega
    have hl3 : (zs.length : Int) ≤ (c2 : Int) := by omega
    have HLR := Lib.hid hlen
    clear hzz hpy hp1 hp2 hz64 hzc HIM HOK HY HZ HZ0
    go_wp2_with fail
    have HSV := Lib.hid (show ∀ w' : World, Below w6.heap.size w6 w' → w'.cell? ⟨w1.heap.size, 0, none⟩ = some (Value.int .i64 op) ∧ w'.cell? ⟨w1.heap.size, 1, none⟩ = some (Value.int .i64 n) ∧ w'.cell? ⟨w1.heap.size, 2, none⟩ = some (Value.slice X k.len cx) from fun w' hb' => ⟨(HE6.out.below hb' HE6.out.size).cell (i := 0) rfl, (HE6.out.below hb' HE6.out.size).cell (i := 1) rfl, (HE6.out.below hb' HE6.out.size).cell (i := 2) rfl⟩)
    go_cut [9, 10] from 59 to 66 (fun p s wd => s = .bool true ∧ Laid w6 p1 p wd)
    case first =>
      have b0 : Below w6.heap.size w6 w6.drew := (Below.refl _ _).drew
      have bp : Below w6.heap.size w6 (w6.alloc (Obj.cells #[Value.int .i64 0, Value.int .i64 0, Value.slice none 0 0] 25)).drew := ((Below.refl _ _).alloc (Nat.le_refl _) _).drew
      have C0 := Lib.hid (HC1.out _ b0)
      have CP := Lib.hid (HC1.out _ bp)
      have s0 := HSV.out _ b0
      have sp := HSV.out _ bp
      have B0 := Lib.hid b0
      have BP := Lib.hid bp
      have RP := Lib.hid (show Row (w6.alloc (Obj.cells #[Value.int .i64 0, Value.int .i64 0, Value.slice none 0 0] 25)).drew w6.heap.size 25 #[Value.int .i64 0, Value.int .i64 0, Value.slice none 0 0] from (Row.fresh _ _ _).drew)
      clear b0 bp
      go_region_held3 (fun w' => w'.cell? ⟨w1.heap.size, 0, none⟩ = some (Value.int .i64 op) ∧ w'.cell? ⟨w1.heap.size, 1, none⟩ = some (Value.int .i64 n) ∧ w'.cell? ⟨w1.heap.size, 2, none⟩ = some (Value.slice X k.len cx))
        (first | with_reducible exact s0 | with_reducible exact sp | with_reducible exact s3 | with_reducible exact s4 | with_reducible exact s3z | fail)
        (first
          | (go_at_call 11
             refine CP.out.mono ?_
             rintro e vd ⟨A5, c5, b5, rfl, ht5, hb5⟩
             have hb := BP.out.trans (hb5.mono BP.out.size)
             have r5 := (RP.out).below hb5 ((RP.out).size)
             have f0 := r5.free 0
             have f1 := r5.free 1
             have f2 := r5.free 2
             have d0 := r5.cell (i := 0) rfl
             have d1 := r5.cell (i := 1) rfl
             have d2 := r5.cell (i := 2) rfl
             have hbs := ((hb.setCell (p := ⟨w6.heap.size, 0, none⟩) (Nat.le_refl _) (.int .i64 p1.op)).setCell (p := ⟨w6.heap.size, 1, none⟩) (Nat.le_refl _) (.int .i64 p1.n)).setCell (p := ⟨w6.heap.size, 2, none⟩) (Nat.le_refl _) (.slice A5 p1.k.len c5)
             have s3 := HSV.out _ hb
             have s4 := HSV.out _ hbs
             have HEND := Lib.hid (laid_set BP.out RP.out ht5 hb5)
             clear ht5 hb5 hb r5 hbs)
          | (go_at_call 11
             refine C0.out.mono ?_
             rintro e vd ⟨A5, c5, b5, rfl, ht5, hb5⟩
             have hb := B0.out.trans (hb5.mono B0.out.size)
             have hba := hb.alloc hb.size (Obj.cells #[Value.int .i64 p1.op, Value.int .i64 p1.n, Value.slice A5 p1.k.len c5] 25)
             have s3 := HSV.out _ hb
             have s4 := HSV.out _ hba
             have s3z := HSV.out _ (hb.alloc hb.size (Obj.cells #[Value.int .i64 0, Value.int .i64 0, Value.slice none 0 0] 25))
             have HEND := Lib.hid (laid_new B0.out ht5 hb5)
             clear ht5 hb5 hb hba)
          | fail)
      all_goals
        go_wp2_with fail
        go_meet
        exact ⟨rfl, HEND.out⟩
    case rest =>
      obtain ⟨rfl, g9, A9, c9, rfl, hr9, hg9, hh9, k91, k92, hb9⟩ := hcut
      obtain ⟨w7, hw7⟩ : ∃ v, v = wc := ⟨_, rfl⟩
      rw [← hw7] at hr9 hh9 hb9 ⊢
      have HR7 := Lib.hid hr9
      have HX7 := Lib.hid (HX6.out.below hb9 HX6.out.size)
      have HH7 := Lib.hid (HH6.out.up hb9)
      have HBW7 := Lib.hid (HBW6.out.trans (hb9.mono HBW6.out.size))
      by_cases hce : c2 = 1
      · have HZR0 := Lib.hid (show LiesI W 0 W.heap.size (some ⟨xb, xo, none⟩) zr from fun i x hx => by
          have h0 := (List.getElem?_eq_some_iff.1 hx).1
          have := HLR.out
          omega)
        subst hce
        have hz1 : (1 : Int) ≤ (zr.length : Int) + 1 := by omega
        have hz2 : (zr.length : Int) + 1 ≤ 1 := by have := HLR.out; omega
        have HC2 := Lib.hid (show ∀ w' : World, Below w7.heap.size w7 w' → Calls Try.prog 11 #[.agg #[.int .i64 p1.op, .int .i64 p1.n, .slice A9 p1.k.len c9], .slice (some ⟨xb, xo, none⟩) zr.length 0] w' (GivesN y true w') from fun w' hb' => by
          have hbw := HBW7.out.trans (hb'.mono HBW7.out.size)
          have e : partN ⟨p1.op, p1.n, p1.k⟩ zr = some y := HP2.out
          have h := implPart_r p1.op p1.n p1.k A9 c9 zr (some ⟨xb, xo, none⟩) 0 0 w'.heap.size w' (hh9.up hb').1 (Nat.le_refl _) (hh9.up hb').rows k91 k92 (HZR0.out.up hbw) hlr hps hpi
          rw [e] at h
          exact h)
        clear hw7 wc hr9 hg9 hh9 hb9 HC1 HSV HX6 HH6 HY6 HK6 HE6 HBW6
        go_wp2_with fail
        have HSV := Lib.hid (show ∀ w' : World, Below w7.heap.size w7 w' → w'.cell? ⟨g9, 0, none⟩ = some (Value.int .i64 p1.op) ∧ w'.cell? ⟨g9, 1, none⟩ = some (Value.int .i64 p1.n) ∧ w'.cell? ⟨g9, 2, none⟩ = some (Value.slice A9 p1.k.len c9) from fun w' hb' => ⟨(HR7.out.below hb' HR7.out.size).cell (i := 0) rfl, (HR7.out.below hb' HR7.out.size).cell (i := 1) rfl, (HR7.out.below hb' HR7.out.size).cell (i := 2) rfl⟩)
        go_cut [11, 12] from 66 to 73 (fun p s wd => s = .bool true ∧ Laid w7 y p wd)
        case first =>
          have b0 : Below w7.heap.size w7 w7.drew := (Below.refl _ _).drew
          have bp : Below w7.heap.size w7 (w7.alloc (Obj.cells #[Value.int .i64 0, Value.int .i64 0, Value.slice none 0 0] 25)).drew := ((Below.refl _ _).alloc (Nat.le_refl _) _).drew
          have C0 := Lib.hid (HC2.out _ b0)
          have CP := Lib.hid (HC2.out _ bp)
          have s0 := HSV.out _ b0
          have sp := HSV.out _ bp
          have B0 := Lib.hid b0
          have BP := Lib.hid bp
          have RP := Lib.hid (show Row (w7.alloc (Obj.cells #[Value.int .i64 0, Value.int .i64 0, Value.slice none 0 0] 25)).drew w7.heap.size 25 #[Value.int .i64 0, Value.int .i64 0, Value.slice none 0 0] from (Row.fresh _ _ _).drew)
          clear b0 bp
          go_region_held3 (fun w' => w'.cell? ⟨g9, 0, none⟩ = some (Value.int .i64 p1.op) ∧ w'.cell? ⟨g9, 1, none⟩ = some (Value.int .i64 p1.n) ∧ w'.cell? ⟨g9, 2, none⟩ = some (Value.slice A9 p1.k.len c9))
            (first | with_reducible exact s0 | with_reducible exact sp | with_reducible exact s3 | with_reducible exact s4 | with_reducible exact s3z | fail)
            (first
              | (go_at_call 11
                 with_reducible refine CP.out.mono ?_
                 rintro e vd ⟨A5, c5, b5, rfl, ht5, hb5⟩
                 have hb := BP.out.trans (hb5.mono BP.out.size)
                 have r5 := (RP.out).below hb5 ((RP.out).size)
                 have f0 := r5.free 0
                 have f1 := r5.free 1
                 have f2 := r5.free 2
                 have d0 := r5.cell (i := 0) rfl
                 have d1 := r5.cell (i := 1) rfl
                 have d2 := r5.cell (i := 2) rfl
                 have hbs := ((hb.setCell (p := ⟨w7.heap.size, 0, none⟩) (Nat.le_refl _) (.int .i64 y.op)).setCell (p := ⟨w7.heap.size, 1, none⟩) (Nat.le_refl _) (.int .i64 y.n)).setCell (p := ⟨w7.heap.size, 2, none⟩) (Nat.le_refl _) (.slice A5 y.k.len c5)
                 have s3 := HSV.out _ hb
                 have s4 := HSV.out _ hbs
                 have HEND := Lib.hid (laid_set BP.out RP.out ht5 hb5)
                 clear ht5 hb5 hb r5 hbs)
              | (go_at_call 11
                 with_reducible refine C0.out.mono ?_
                 rintro e vd ⟨A5, c5, b5, rfl, ht5, hb5⟩
                 have hb := B0.out.trans (hb5.mono B0.out.size)
                 have hba := hb.alloc hb.size (Obj.cells #[Value.int .i64 y.op, Value.int .i64 y.n, Value.slice A5 y.k.len c5] 25)
                 have s3 := HSV.out _ hb
                 have s4 := HSV.out _ hba
                 have s3z := HSV.out _ (hb.alloc hb.size (Obj.cells #[Value.int .i64 0, Value.int .i64 0, Value.slice none 0 0] 25))
                 have HEND := Lib.hid (laid_new B0.out ht5 hb5)
                 clear ht5 hb5 hb hba)
              | fail)
          all_goals
            go_wp2_with fail
            go_meet
            exact ⟨rfl, HEND.out⟩
        case rest =>
          obtain ⟨rfl, g8, A8, c8, rfl, hr8, hg8, hh8, k81, k82, hb8⟩ := hcut
          obtain ⟨w8, hw8⟩ : ∃ v, v = wc := ⟨_, rfl⟩
          rw [← hw8] at hr8 hh8 hb8 ⊢
          have HX8 := Lib.hid (HX7.out.below hb8 HX7.out.size)
          have HH8 := Lib.hid (HH7.out.up hb8)
          have HK8 := Lib.hid hh8
          have HB8 := Lib.hid (HB.out.trans ((HBW7.out.trans (hb8.mono HBW7.out.size)).mono HB.out.size))
          have s0 := hr8.cell (i := 0) rfl
          have s1 := hr8.cell (i := 1) rfl
          have s2 := hr8.cell (i := 2) rfl
          have t0 := HX8.out.cell (i := 0) rfl
          have t1 := HX8.out.cell (i := 1) rfl
          have t2 := HX8.out.cell (i := 2) rfl
          clear hw8 wc hr8 hg8 hh8 hb8 HC2 HSV HX7 HH7 HR7 HBW7
          go_wp2_with fail
          refine (implSame_r y.op y.n y.op y.n y.k y.k A8 A3 c8 c3 w8 HK8.out.1 HH8.out.1 0 w8.heap.size HK8.out.1 (Nat.le_refl _) HK8.out.rows k81 k82 k31 k32 hys).mono ?_
          rintro e w9 ⟨rfl, hb9⟩
          rw [paNrefl]
          have HB9 := Lib.hid (HB8.out.trans (hb9.mono HB8.out.size))
          clear hb9
          go_wp2_with fail
          go_ret
          exact ⟨rfl, HB9.out⟩
      · have hcl : 1 < c2 := by omega
        have hz1 : (1 : Int) ≤ (zr.length : Int) + 1 := by omega
        have hz2 : (zr.length : Int) + 1 ≤ (c2 : Int) := by omega
        have HC2 := Lib.hid (show ∀ w' : World, Below w7.heap.size w7 w' → Calls Try.prog 11 #[.agg #[.int .i64 p1.op, .int .i64 p1.n, .slice A9 p1.k.len c9], .slice (some ⟨xb, xo + 1, none⟩) zr.length (c2 - 1)] w' (GivesN y true w') from fun w' hb' => by
          have hbw := HBW7.out.trans (hb'.mono HBW7.out.size)
          have e : partN ⟨p1.op, p1.n, p1.k⟩ zr = some y := HP2.out
          have h := implPart_r p1.op p1.n p1.k A9 c9 zr (some ⟨xb, xo + 1, none⟩) (c2 - 1) 0 w'.heap.size w' (hh9.up hb').1 (Nat.le_refl _) (hh9.up hb').rows k91 k92 (HZR.out.up hbw) hlr hps hpi
          rw [e] at h
          exact h)
        clear hw7 wc hr9 hg9 hh9 hb9 HC1 HSV HX6 HH6 HY6 HK6 HE6 HBW6
        go_wp2_with fail
        have HSV := Lib.hid (show ∀ w' : World, Below w7.heap.size w7 w' → w'.cell? ⟨g9, 0, none⟩ = some (Value.int .i64 p1.op) ∧ w'.cell? ⟨g9, 1, none⟩ = some (Value.int .i64 p1.n) ∧ w'.cell? ⟨g9, 2, none⟩ = some (Value.slice A9 p1.k.len c9) from fun w' hb' => ⟨(HR7.out.below hb' HR7.out.size).cell (i := 0) rfl, (HR7.out.below hb' HR7.out.size).cell (i := 1) rfl, (HR7.out.below hb' HR7.out.size).cell (i := 2) rfl⟩)
        go_cut [11, 12] from 66 to 73 (fun p s wd => s = .bool true ∧ Laid w7 y p wd)
        case first =>
          have b0 : Below w7.heap.size w7 w7.drew := (Below.refl _ _).drew
          have bp : Below w7.heap.size w7 (w7.alloc (Obj.cells #[Value.int .i64 0, Value.int .i64 0, Value.slice none 0 0] 25)).drew := ((Below.refl _ _).alloc (Nat.le_refl _) _).drew
          have C0 := Lib.hid (HC2.out _ b0)
          have CP := Lib.hid (HC2.out _ bp)
          have s0 := HSV.out _ b0
          have sp := HSV.out _ bp
          have B0 := Lib.hid b0
          have BP := Lib.hid bp
          have RP := Lib.hid (show Row (w7.alloc (Obj.cells #[Value.int .i64 0, Value.int .i64 0, Value.slice none 0 0] 25)).drew w7.heap.size 25 #[Value.int .i64 0, Value.int .i64 0, Value.slice none 0 0] from (Row.fresh _ _ _).drew)
          clear b0 bp
          go_region_held3 (fun w' => w'.cell? ⟨g9, 0, none⟩ = some (Value.int .i64 p1.op) ∧ w'.cell? ⟨g9, 1, none⟩ = some (Value.int .i64 p1.n) ∧ w'.cell? ⟨g9, 2, none⟩ = some (Value.slice A9 p1.k.len c9))
            (first | with_reducible exact s0 | with_reducible exact sp | with_reducible exact s3 | with_reducible exact s4 | with_reducible exact s3z | fail)
            (first
              | (go_at_call 11
                 with_reducible refine CP.out.mono ?_
                 rintro e vd ⟨A5, c5, b5, rfl, ht5, hb5⟩
                 have hb := BP.out.trans (hb5.mono BP.out.size)
                 have r5 := (RP.out).below hb5 ((RP.out).size)
                 have f0 := r5.free 0
                 have f1 := r5.free 1
                 have f2 := r5.free 2
                 have d0 := r5.cell (i := 0) rfl
                 have d1 := r5.cell (i := 1) rfl
                 have d2 := r5.cell (i := 2) rfl
                 have hbs := ((hb.setCell (p := ⟨w7.heap.size, 0, none⟩) (Nat.le_refl _) (.int .i64 y.op)).setCell (p := ⟨w7.heap.size, 1, none⟩) (Nat.le_refl _) (.int .i64 y.n)).setCell (p := ⟨w7.heap.size, 2, none⟩) (Nat.le_refl _) (.slice A5 y.k.len c5)
                 have s3 := HSV.out _ hb
                 have s4 := HSV.out _ hbs
                 have HEND := Lib.hid (laid_set BP.out RP.out ht5 hb5)
                 clear ht5 hb5 hb r5 hbs)
              | (go_at_call 11
                 with_reducible refine C0.out.mono ?_
                 rintro e vd ⟨A5, c5, b5, rfl, ht5, hb5⟩
                 have hb := B0.out.trans (hb5.mono B0.out.size)
                 have hba := hb.alloc hb.size (Obj.cells #[Value.int .i64 y.op, Value.int .i64 y.n, Value.slice A5 y.k.len c5] 25)
                 have s3 := HSV.out _ hb
                 have s4 := HSV.out _ hba
                 have s3z := HSV.out _ (hb.alloc hb.size (Obj.cells #[Value.int .i64 0, Value.int .i64 0, Value.slice none 0 0] 25))
                 have HEND := Lib.hid (laid_new B0.out ht5 hb5)
                 clear ht5 hb5 hb hba)
              | fail)
          all_goals
            go_wp2_with fail
            go_meet
            exact ⟨rfl, HEND.out⟩
        case rest =>
          obtain ⟨rfl, g8, A8, c8, rfl, hr8, hg8, hh8, k81, k82, hb8⟩ := hcut
          obtain ⟨w8, hw8⟩ : ∃ v, v = wc := ⟨_, rfl⟩
          rw [← hw8] at hr8 hh8 hb8 ⊢
          have HX8 := Lib.hid (HX7.out.below hb8 HX7.out.size)
          have HH8 := Lib.hid (HH7.out.up hb8)
          have HK8 := Lib.hid hh8
          have HB8 := Lib.hid (HB.out.trans ((HBW7.out.trans (hb8.mono HBW7.out.size)).mono HB.out.size))
          have s0 := hr8.cell (i := 0) rfl
          have s1 := hr8.cell (i := 1) rfl
          have s2 := hr8.cell (i := 2) rfl
          have t0 := HX8.out.cell (i := 0) rfl
          have t1 := HX8.out.cell (i := 1) rfl
          have t2 := HX8.out.cell (i := 2) rfl
          clear hw8 wc hr8 hg8 hh8 hb8 HC2 HSV HX7 HH7 HR7 HBW7
          go_wp2_with fail
          refine (implSame_r y.op y.n y.op y.n y.k y.k A8 A3 c8 c3 w8 HK8.out.1 HH8.out.1 0 w8.heap.size HK8.out.1 (Nat.le_refl _) HK8.out.rows k81 k82 k31 k32 hys).mono ?_
          rintro e w9 ⟨rfl, hb9⟩
          rw [paNrefl]
          have HB9 := Lib.hid (HB8.out.trans (hb9.mono HB8.out.size))
          clear hb9
          go_wp2_with fail
          go_ret
          exact ⟨rfl, HB9.out⟩
end Go.Proofs.Ytbbieamgjbijlaa
