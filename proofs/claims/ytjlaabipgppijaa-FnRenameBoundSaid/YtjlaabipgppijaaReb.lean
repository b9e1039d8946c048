/-
  impl.RenameBound.
  impl.SubstVar.
  spec.RenameBound.
  spec.SubstVar.
-/
import Derived.Test.YtjlaabipgppijaaPutI
import Derived.Test.YtjlaabipgppijaaNodeM
import Derived.Test.YtjlaabipgppijaaOwnS
import Derived.Test.YtjlaabipgppijaaOpen
import Derived.Test.YtjlaabipgppijaaVars
import Derived.Test.YtjlaabipgppijaaPutD
import Derived.Test.YtjlaabipgppijaaNamesD
import Derived.Test.YtjlaabipgppijaaPutSS
import Derived.Test.YtjlaabipgppijaaShape
namespace Go.Proofs.Ytjlaabipgppijaa
open Go.RowKit Go.Shelf
set_option maxRecDepth 100000

def renOk (p : Nd) (u : Int) : Bool := decide (p.op = 7) && (nodeIs p.op p.n p.k (firstS 8) && (inVar u && !decide (u ∈ varsP (kid2 p.k))))
def renB (p : Nd) (u : Int) : Option Nd := if renOk p u = true then (match putN (p.k.size + 1) (kid2 p.k) p.n ⟨2, u, .nil⟩ with | none => none | some q => some ⟨7, u, pair (kid1 p.k) q⟩) else none
theorem renB_no {p : Nd} {u : Int} (h : renOk p u = false) : renB p u = none := by unfold renB; rw [if_neg (by rw [h]; simp)]
/-- Where it can be renamed: what it is. -/
theorem renB_yes {p : Nd} {u : Int} (h : renOk p u = true) : ∃ (oa ma : Int) (ka : Fo) (ob mb : Int) (kb : Fo) (v : Nat) (q : Nd), p.op = 7 ∧ p.k = .cons oa ma ka (.cons ob mb kb .nil) ∧ v < 8 ∧ u = (v : Int) ∧ nodeIs p.op p.n p.k (firstS 8) = true ∧ hasB ownVL ⟨ob, mb, kb⟩ v = false ∧ FitN p ∧
    putN (p.k.size + 1) ⟨ob, mb, kb⟩ p.n ⟨2, (v : Int), .nil⟩ = some q ∧ renB p u = some ⟨7, u, pair ⟨oa, ma, ka⟩ q⟩ := by
  have h0 := h
  unfold renOk at h
  simp only [Bool.and_eq_true, decide_eq_true_iff, Bool.not_eq_true', decide_eq_false_iff_not] at h
  obtain ⟨h7, hn, hu, hm⟩ := h
  have hfit := fitN_is hn
  obtain ⟨oa, ma, ka, ob, mb, kb, ek⟩ := FitN.two (p := ⟨p.op, p.n, p.k⟩) hfit h7
  obtain ⟨v, hv, rfl⟩ := inVar_at hu
  dsimp only at ek
  have hh : hasB ownVL ⟨ob, mb, kb⟩ v = false := by
    cases e : hasB ownVL ⟨ob, mb, kb⟩ v with
    | false => rfl
    | true =>
      rw [ek] at hm
      exact absurd (numsUpto_at.2 ⟨hv, e⟩) hm
  have hff := hfit.2
  dsimp only at hff
  rw [ek, fitP_cons, fitP_cons] at hff
  obtain ⟨q, hq⟩ := Option.isSome_iff_exists.1 (putN_is (n := p.n) (w := v) (p.k.size + 1) ⟨ob, mb, kb⟩ hff.2.1 hh (by rw [ek]; simp only [Fo.size]; omega))
  refine ⟨oa, ma, ka, ob, mb, kb, v, q, h7, ek, hv, rfl, hn, hh, hfit, hq, ?_⟩
  unfold renB
  rw [if_pos h0, ek]
  show (match putN ((Fo.cons oa ma ka (.cons ob mb kb .nil)).size + 1) (⟨ob, mb, kb⟩ : Nd) p.n ⟨2, (v : Int), .nil⟩ with | none => none | some q => some (⟨7, (v : Int), pair (⟨oa, ma, ka⟩ : Nd) q⟩ : Nd)) = _
  rw [← ek, hq]

set_option maxHeartbeats 2000000 in
theorem implReb_any (op n : Int) (k : Fo) (A : Option Addr) (c : Nat) (u : Int) (w : World) (hl : Lies w 0 w.heap.size A 0 k) (hlen : k.len ≤ maxLen) :
    Calls Try.prog 6 #[.agg #[.int .i64 op, .int .i64 n, .slice A k.len c], .int .i64 u] w (GivesN ((renB ⟨op, n, k⟩ u).getD nd0) (renB ⟨op, n, k⟩ u).isSome w) := by
  obtain ⟨hb, r1, r2⟩ := two_boxes w 25 25 #[Value.int IntKind.i64 op, Value.int IntKind.i64 n, Value.slice A k.len c] #[Value.int IntKind.i64 0, Value.int IntKind.i64 0, Value.slice none 0 0]
  obtain ⟨W, hW⟩ : ∃ W, W = (w.alloc (Obj.cells #[Value.int IntKind.i64 op, Value.int IntKind.i64 n, Value.slice A k.len c] 25)).alloc (Obj.cells #[Value.int IntKind.i64 0, Value.int IntKind.i64 0, Value.slice none 0 0] 25) := ⟨_, rfl⟩
  rw [← hW] at hb r1 r2
  have HB := Lib.hid hb
  have HR1 := Lib.hid r1
  have HR2 := Lib.hid r2
  have HL := Lib.hid (hl.up hb)
  have HVL := Lib.hid (validOpen_any op n k A c W (hl.up hb) hlen)
  clear hb r1 r2 hl hlen
  obtain ⟨R, hR⟩ : ∃ R, R = renB ⟨op, n, k⟩ u := ⟨_, rfl⟩
  rw [← hR]
  have HRR := Lib.hid hR
  clear hR
  obtain ⟨ok, hok⟩ : ∃ ok, ok = renOk ⟨op, n, k⟩ u := ⟨_, rfl⟩
  have HOK := Lib.hid hok
  clear hok
  go_enter Try.func6, Try.ntmps6
  go_upto_region 1 with fail
  rw [← hW]
  clear hW
  go_cut [27] from 6 to 27 (fun s wd => s = .bool (!ok) ∧ Below W.heap.size W wd)
  case first =>
    have q0 := HR1.out.cell (i := 0) rfl
    have q1 := HR1.out.cell (i := 1) rfl
    have q2 := HR1.out.cell (i := 2) rfl
    by_cases h7 : op = 7
    · cases hn : nodeIs op n k (firstS 8) with
      | false =>
        have HZ := Lib.hid (show ok = false by rw [HOK.out]; unfold renOk; simp [hn])
        rw [hn] at HVL
        subst h7
        clear hn
        go_wp2_with fail
        refine HVL.out.mono ?_
        rintro e w1 ⟨rfl, hb1⟩
        have HB1 := Lib.hid hb1
        clear hb1 HVL
        go_wp2_with fail
        go_meet
        exact ⟨by rw [HZ.out]; rfl, HB1.out⟩
      | true =>
        obtain ⟨oa, ma, ka, ob, mb, kb, ek⟩ := FitN.two (p := ⟨op, n, k⟩) (fitN_is hn) h7
        dsimp only at ek
        have hsm : smallOk k 14 80 = true := by
          have := hn
          rw [nodeIs_eq, Bool.and_eq_true] at this
          exact this.1
        rw [ek] at hsm
        have HSB := Lib.hid (small_kids (small_kids hsm).2).1
        have HN := Lib.hid hn
        rw [hn] at HVL
        subst h7
        subst ek
        clear hn hsm
        cases hu : inVar u with
        | false =>
          have HZ := Lib.hid (show ok = false by rw [HOK.out]; unfold renOk; simp [hu])
          go_wp2_with fail
          refine HVL.out.mono ?_
          rintro e w1 ⟨rfl, hb1⟩
          have HB1 := Lib.hid hb1
          have HC := Lib.hid (isVar_any u w1)
          rw [hu] at HC
          clear hb1 HVL hu
          go_wp2_with fail
          refine HC.out.mono ?_
          rintro e w2 ⟨rfl, hb2⟩
          have HB2 := Lib.hid (HB1.out.trans (hb2.mono HB1.out.size))
          clear hb2
          go_wp2_with fail
          go_meet
          exact ⟨by rw [HZ.out]; rfl, HB2.out⟩
        | true =>
          have HZ := Lib.hid (show ok = !decide (u ∈ varsP ⟨ob, mb, kb⟩) by rw [HOK.out]; unfold renOk; rw [HN.out, hu]; rfl)
          obtain ⟨⟨b, o, A8, c8, hA, _, hbb, j1, j2, g1, g2, g3, h1, h2, h3⟩, ⟨b', o', A9, c9, hA9, _, _, j3, j4, g4, g5, g6, h4, h5, h6⟩, _⟩ := HL.out
          subst hA
          injection hA9 with hA9
          injection hA9 with e1 e2
          subst e1 e2
          have g7 : W.cell? ⟨b, o + 3, none⟩ = some (.int .i64 ob) := g4
          have g8 : W.cell? ⟨b, o + 4, none⟩ = some (.int .i64 mb) := g5
          have g9 : W.cell? ⟨b, o + 5, none⟩ = some (.slice A9 kb.len c9) := g6
          have G := Lib.hid (And.intro g7 (And.intro g8 g9))
          have H6 := Lib.hid (And.intro h6 (And.intro h4 (And.intro h5 hbb)))
          clear g1 g2 g3 g4 g5 g6 g7 g8 g9 h1 h2 h3 h4 h5 h6 j1 j2 j3 j4 hbb
          go_wp2_with fail
          refine HVL.out.mono ?_
          rintro e w1 ⟨rfl, hb1⟩
          have HB1 := Lib.hid hb1
          have HC := Lib.hid (isVar_any u w1)
          rw [hu] at HC
          clear hb1 HVL hu
          go_wp2_with fail
          refine HC.out.mono ?_
          rintro e w2 ⟨rfl, hb2⟩
          have hb3 := HB1.out.trans (hb2.mono HB1.out.size)
          have HB3 := Lib.hid hb3
          have z7 := (hb3.cell (p := ⟨b, o + 3, none⟩) H6.out.2.2.2).trans G.out.1
          have z8 := (hb3.cell (p := ⟨b, o + 4, none⟩) H6.out.2.2.2).trans G.out.2.1
          have z9 := (hb3.cell (p := ⟨b, o + 5, none⟩) H6.out.2.2.2).trans G.out.2.2
          have s2 : w2.cell? ⟨w.heap.size, 2, none⟩ = some (.slice (some ⟨b, o, none⟩) 2 c) := (HR1.out.below hb3 HR1.out.size).cell (i := 2) rfl
          have HC2 := Lib.hid (implAll_r ob mb kb A9 c9 0 w2.heap.size w2 (H6.out.1.up hb3) (Nat.le_refl _) (RowsIf.small HSB.out) H6.out.2.1 H6.out.2.2.1 (Nat.le_trans (small_size HSB.out) (by decide)))
          clear hb2 hb3 HC q0 q1 q2
          go_wp2_with fail
          refine HC2.out.mono ?_
          rintro e w4 ⟨v4, rfl, ho4, hb4⟩
          obtain ⟨A4, c4, rfl, hI4⟩ := own_ints ho4 (fun y hy => numsUpto_small _ 8 y (by decide) hy)
          have HB4 := Lib.hid (HB3.out.trans (hb4.mono HB3.out.size))
          have HC3 := Lib.hid (contains_any (varsP ⟨ob, mb, kb⟩) A4 c4 u w4 (hI4.mono_ (Nat.zero_le _) (Nat.le_refl _)) (Nat.le_trans (numsUpto_len _ 8) (by decide)))
          clear ho4 hb4 hI4 HC2 z7 z8 z9 s2
          go_wp2_with fail
          refine HC3.out.mono ?_
          rintro e w5 ⟨rfl, hb5⟩
          have HB5 := Lib.hid (HB4.out.trans (hb5.mono HB4.out.size))
          clear hb5 HC3
          go_wp2_with fail
          go_meet
          exact ⟨by rw [HZ.out]; simp, HB5.out⟩
    · have b7 : (op != 7) = true := by simpa using h7
      have HZ := Lib.hid (show ok = false by rw [HOK.out]; unfold renOk; simp [h7])
      go_wp2_with fail
      go_meet
      exact ⟨by rw [HZ.out]; rfl, Below.refl _ _⟩
  case rest =>
    obtain ⟨rfl, hbd⟩ := hcut
    have HBD := Lib.hid (HB.out.trans (hbd.mono HB.out.size))
    have HT1 := Lib.hid (HR1.out.below hbd HR1.out.size)
    have HT2 := Lib.hid (HR2.out.below hbd HR2.out.size)
    have HLD := Lib.hid (HL.out.up hbd)
    have HZ2 := Lib.hid HR2.out.size
    clear HVL hbd
    cases ok with
    | false =>
      have HRN := Lib.hid (show R = none from HRR.out.trans (renB_no HOK.out.symm))
      have c0 := HT2.out.cell (i := 0) rfl
      have c1 := HT2.out.cell (i := 1) rfl
      have c2 := HT2.out.cell (i := 2) rfl
      have f0 := HT2.out.free 0
      have f1 := HT2.out.free 1
      have f2 := HT2.out.free 2
      have hr3 := ((HT2.out.put 0 (.int .i64 0)).put 1 (.int .i64 0)).put 2 (.slice none 0 0)
      have r0 := hr3.cell (i := 0) rfl
      have r1 := hr3.cell (i := 1) rfl
      have r2 := hr3.cell (i := 2) rfl
      have HBC := Lib.hid (((HBD.out.setCell (p := ⟨w.heap.size + 1, 0, none⟩) (Nat.le_succ _) (.int .i64 0)).setCell (p := ⟨w.heap.size + 1, 1, none⟩) (Nat.le_succ _) (.int .i64 0)).setCell (p := ⟨w.heap.size + 1, 2, none⟩) (Nat.le_succ _) (.slice none 0 0))
      clear hr3
      go_wp2_with fail
      refine bodyPost_ret (v := .tuple #[.agg #[.int .i64 0, .int .i64 0, .slice none 0 0], .bool false]) ?_ rfl (by rw [HRN.out]; exact GivesN.zero HBC.out)
      simp [results, Try.f6, go_sem, r0, r1, r2]
    | true =>
      obtain ⟨oa, ma, ka, ob, mb, kb, z, q, h7, ek, hz, hu, hn, hh, hfit, hq, hrb⟩ := renB_yes HOK.out.symm
      dsimp only at h7 ek hn hq hrb
      have hsm : smallOk k 14 80 = true := by
        have := hn
        rw [nodeIs_eq, Bool.and_eq_true] at this
        exact this.1
      have hff := hfit.2
      dsimp only at hff
      subst h7
      subst ek
      subst hu
      rw [fitP_cons, fitP_cons] at hff
      have HRN := Lib.hid (show R = some ⟨7, (z : Int), pair ⟨oa, ma, ka⟩ q⟩ from HRR.out.trans hrb)
      have HC := Lib.hid (bound_of _ (in_any _) n ⟨oa, ma, ka⟩ ⟨ob, mb, kb⟩ q z A c wc HLD.out hz hq (by simp only [Fo.size]; omega) (small_kids (small_kids hsm).2).1 (small_kids hsm).1 hff.2.1 (node_i64 hn).2)
      have q0 := HT1.out.cell (i := 0) rfl
      have q1 := HT1.out.cell (i := 1) rfl
      have q2 : wc.cell? ⟨w.heap.size, 2, none⟩ = some (.slice A 2 c) := HT1.out.cell (i := 2) rfl
      clear hz hn hh hfit hq hrb hsm hff
      go_wp2_with fail
      refine HC.out.mono ?_
      rintro e w5 ⟨A5, c5, b5, rfl, ht5, hb5⟩
      have hr5 := HT2.out.below hb5 HT2.out.size
      have f0 := hr5.free 0
      have f1 := hr5.free 1
      have f2 := hr5.free 2
      have c0 := hr5.cell (i := 0) rfl
      have c1 := hr5.cell (i := 1) rfl
      have c2 := hr5.cell (i := 2) rfl
      have hr6 := ((hr5.put 0 (.int .i64 7)).put 1 (.int .i64 (z : Int))).put 2 (.slice A5 (pair ⟨oa, ma, ka⟩ q).len c5)
      have r0 := hr6.cell (i := 0) rfl
      have r1 := hr6.cell (i := 1) rfl
      have r2 := hr6.cell (i := 2) rfl
      have hz3 := HT2.out.size
      have HTC := Lib.hid ((((ht5.put (p := ⟨w.heap.size + 1, 0, none⟩) hz3 (.int .i64 7)).put (p := ⟨w.heap.size + 1, 1, none⟩) hz3 (.int .i64 (z : Int))).put (p := ⟨w.heap.size + 1, 2, none⟩) hz3 (.slice A5 (pair ⟨oa, ma, ka⟩ q).len c5)).lower HBD.out.size)
      have HBC := Lib.hid ((((HBD.out.trans (hb5.mono HBD.out.size)).setCell (p := ⟨w.heap.size + 1, 0, none⟩) (Nat.le_succ _) (.int .i64 7)).setCell (p := ⟨w.heap.size + 1, 1, none⟩) (Nat.le_succ _) (.int .i64 (z : Int))).setCell (p := ⟨w.heap.size + 1, 2, none⟩) (Nat.le_succ _) (.slice A5 (pair ⟨oa, ma, ka⟩ q).len c5))
      clear hr5 hr6 hz3 ht5 hb5 HC q0 q1 q2
      go_wp2_with fail
      refine bodyPost_ret (v := .tuple #[.agg #[.int .i64 7, .int .i64 (z : Int), .slice A5 (pair ⟨oa, ma, ka⟩ q).len c5], .bool true]) ?_ rfl (by rw [HRN.out]; exact ⟨A5, c5, b5, rfl, HTC.out, HBC.out⟩)
      simp [results, Try.f6, go_sem, r0, r1, r2]
end Go.Proofs.Ytjlaabipgppijaa

namespace Go.Proofs.Ytjlaabipgppijaa
open Go.RowKit Go.Shelf
set_option maxRecDepth 100000

def subOk (p : Nd) (v : Int) (x : Nd) : Bool := ndIs p && (ndIs x && inVar v)
def subB (p : Nd) (v : Int) (x : Nd) : Option Nd := if subOk p v x = true then (match putN (p.k.size + 1) p v x with | none => none | some y => if ndIs y = true then some y else none) else none
theorem subB_no {p x : Nd} {v : Int} (h : subOk p v x = false) : subB p v x = none := by unfold subB; rw [if_neg (by rw [h]; simp)]
theorem subB_none {p x : Nd} {v : Int} (h : putN (p.k.size + 1) p v x = none) : subB p v x = none := by unfold subB; rw [h]; split <;> rfl
theorem subB_bad {p x y : Nd} {v : Int} (h : putN (p.k.size + 1) p v x = some y) (hy : ndIs y = false) : subB p v x = none := by unfold subB; rw [h]; split <;> simp [hy]
theorem subB_yes {p x y : Nd} {v : Int} (h0 : subOk p v x = true) (h : putN (p.k.size + 1) p v x = some y) (hy : ndIs y = true) : subB p v x = some y := by unfold subB; rw [if_pos h0, h]; simp [hy]
theorem subOk_is {p x : Nd} {v : Int} (h : subOk p v x = true) : ndIs p = true ∧ ndIs x = true ∧ inVar v = true := by
  unfold subOk at h
  simpa only [Bool.and_eq_true] using h

set_option maxHeartbeats 2000000 in
theorem implSub_any (p : Nd) (v : Int) (x : Nd) (A X : Option Addr) (c cx : Nat) (w : World) (hl : Lies w 0 w.heap.size A 0 p.k) (hx : Lies w 0 w.heap.size X 0 x.k) (hlen : p.k.len ≤ maxLen) (hxl : x.k.len ≤ cx) (hxc : cx ≤ maxLen) :
    Calls Try.prog 14 #[.agg #[.int .i64 p.op, .int .i64 p.n, .slice A p.k.len c], .int .i64 v, .agg #[.int .i64 x.op, .int .i64 x.n, .slice X x.k.len cx]] w (GivesN ((subB p v x).getD nd0) (subB p v x).isSome w) := by
  obtain ⟨hb, r1, r2, r3⟩ := three_boxes w 25 25 25 #[Value.int IntKind.i64 p.op, Value.int IntKind.i64 p.n, Value.slice A p.k.len c] #[Value.int IntKind.i64 x.op, Value.int IntKind.i64 x.n, Value.slice X x.k.len cx] #[.int .i64 0, .int .i64 0, .slice none 0 0]
  obtain ⟨W, hW⟩ : ∃ W, W = ((w.alloc (Obj.cells #[Value.int IntKind.i64 p.op, Value.int IntKind.i64 p.n, Value.slice A p.k.len c] 25)).alloc (Obj.cells #[Value.int IntKind.i64 x.op, Value.int IntKind.i64 x.n, Value.slice X x.k.len cx] 25)).alloc (Obj.cells #[.int .i64 0, .int .i64 0, .slice none 0 0] 25) := ⟨_, rfl⟩
  rw [← hW] at hb r1 r2 r3
  have HB := Lib.hid hb
  have HR1 := Lib.hid r1
  have HR2 := Lib.hid r2
  have HR3 := Lib.hid r3
  have HL := Lib.hid (hl.up hb)
  have HX := Lib.hid (hx.up hb)
  have HVL := Lib.hid (show Calls Try.prog 23 #[.agg #[.int .i64 p.op, .int .i64 p.n, .slice A p.k.len c]] W (Gives (.bool (ndIs p)) W) from validOpen_any p.op p.n p.k A c W (hl.up hb) hlen)
  have HXL := Lib.hid (And.intro hxl hxc)
  clear hb r1 r2 r3 hl hx hlen hxl hxc
  obtain ⟨R, hR⟩ : ∃ R, R = subB p v x := ⟨_, rfl⟩
  rw [← hR]
  have HRR := Lib.hid hR
  clear hR
  obtain ⟨ok, hok⟩ : ∃ ok, ok = subOk p v x := ⟨_, rfl⟩
  have HOK := Lib.hid hok
  clear hok
  go_enter Try.func14, Try.ntmps14
  go_upto_region 1 with fail
  rw [← hW]
  clear hW
  go_cut [22] from 10 to 22 (fun s wd => s = .bool (!ok) ∧ Below W.heap.size W wd)
  case first =>
    have q0 := HR1.out.cell (i := 0) rfl
    have q1 := HR1.out.cell (i := 1) rfl
    have q2 := HR1.out.cell (i := 2) rfl
    cases hn : ndIs p with
    | false =>
      have HZ := Lib.hid (show ok = false by rw [HOK.out]; unfold subOk; simp [hn])
      rw [hn] at HVL
      clear hn
      go_wp2_with fail
      refine HVL.out.mono ?_
      rintro e w1 ⟨rfl, hb1⟩
      have HB1 := Lib.hid hb1
      clear hb1 HVL
      go_wp2_with fail
      go_meet
      exact ⟨by rw [HZ.out]; rfl, HB1.out⟩
    | true =>
      rw [hn] at HVL
      have HN := Lib.hid hn
      clear hn
      go_wp2_with fail
      refine HVL.out.mono ?_
      rintro e w1 ⟨rfl, hb1⟩
      have HB1 := Lib.hid hb1
      have p0 := (HR2.out.below hb1 HR2.out.size).cell (i := 0) rfl
      have p1 := (HR2.out.below hb1 HR2.out.size).cell (i := 1) rfl
      have p2 := (HR2.out.below hb1 HR2.out.size).cell (i := 2) rfl
      have HV2 := Lib.hid (show Calls Try.prog 23 #[.agg #[.int .i64 x.op, .int .i64 x.n, .slice X x.k.len cx]] w1 (Gives (.bool (ndIs x)) w1) from validOpen_any x.op x.n x.k X cx w1 (HX.out.up hb1) (Nat.le_trans HXL.out.1 HXL.out.2))
      clear hb1 HVL q0 q1 q2
      cases hn : ndIs x with
      | false =>
        have HZ := Lib.hid (show ok = false by rw [HOK.out]; unfold subOk; simp [hn])
        rw [hn] at HV2
        clear hn
        go_wp2_with fail
        refine HV2.out.mono ?_
        rintro e w2 ⟨rfl, hb2⟩
        have HB2 := Lib.hid (HB1.out.trans (hb2.mono HB1.out.size))
        clear hb2 HV2
        go_wp2_with fail
        go_meet
        exact ⟨by rw [HZ.out]; rfl, HB2.out⟩
      | true =>
        have HZ := Lib.hid (show ok = inVar v by rw [HOK.out]; unfold subOk; rw [HN.out, hn]; rfl)
        rw [hn] at HV2
        clear hn
        go_wp2_with fail
        refine HV2.out.mono ?_
        rintro e w2 ⟨rfl, hb2⟩
        have HB2 := Lib.hid (HB1.out.trans (hb2.mono HB1.out.size))
        have HC := Lib.hid (isVar_any v w2)
        clear hb2 HV2 p0 p1 p2
        go_wp2_with fail
        refine HC.out.mono ?_
        rintro e w3 ⟨rfl, hb3⟩
        have HB3 := Lib.hid (HB2.out.trans (hb3.mono HB2.out.size))
        clear hb3 HC
        go_wp2_with fail
        go_meet
        exact ⟨by rw [HZ.out], HB3.out⟩
  case rest =>
    obtain ⟨rfl, hbd⟩ := hcut
    obtain ⟨W2, hW2⟩ : ∃ W2, W2 = wc := ⟨_, rfl⟩
    rw [← hW2] at hbd ⊢
    clear hW2 wc
    have HBD := Lib.hid (HB.out.trans (hbd.mono HB.out.size))
    have HT1 := Lib.hid (HR1.out.below hbd HR1.out.size)
    have HT2 := Lib.hid (HR2.out.below hbd HR2.out.size)
    have HT3 := Lib.hid (HR3.out.below hbd HR3.out.size)
    have HLD := Lib.hid (HL.out.up hbd)
    have HXD := Lib.hid (HX.out.up hbd)
    clear hbd HVL HL HX
    -- what is returned where it cannot be done
    have hzero : ∀ w9 : World, Below W2.heap.size W2 w9 → R = none → Row w9 (w.heap.size + 1 + 1) 25 #[.int .i64 0, .int .i64 0, .slice none 0 0] := fun w9 hb9 _ => HT3.out.below hb9 HT3.out.size
    have HZERO := Lib.hid hzero
    clear hzero
    cases ok with
    | false =>
      have HRN := Lib.hid (show R = none from HRR.out.trans (subB_no HOK.out.symm))
      have c0 := HT3.out.cell (i := 0) rfl
      have c1 := HT3.out.cell (i := 1) rfl
      have c2 := HT3.out.cell (i := 2) rfl
      have f0 := HT3.out.free 0
      have f1 := HT3.out.free 1
      have f2 := HT3.out.free 2
      have hr3 := ((HT3.out.put 0 (.int .i64 0)).put 1 (.int .i64 0)).put 2 (.slice none 0 0)
      have r0 := hr3.cell (i := 0) rfl
      have r1 := hr3.cell (i := 1) rfl
      have r2 := hr3.cell (i := 2) rfl
      have HBC := Lib.hid (((HBD.out.setCell (p := ⟨w.heap.size + 1 + 1, 0, none⟩) (by dsimp only; omega) (.int .i64 0)).setCell (p := ⟨w.heap.size + 1 + 1, 1, none⟩) (by dsimp only; omega) (.int .i64 0)).setCell (p := ⟨w.heap.size + 1 + 1, 2, none⟩) (by dsimp only; omega) (.slice none 0 0))
      clear hr3
      go_wp2_with fail
      refine bodyPost_ret (v := .tuple #[.agg #[.int .i64 0, .int .i64 0, .slice none 0 0], .bool false]) ?_ rfl (by rw [HRN.out]; exact GivesN.zero HBC.out)
      simp [results, Try.f14, go_sem, r0, r1, r2]
    | true =>
      obtain ⟨hnp, hnx, hv⟩ := subOk_is HOK.out.symm
      obtain ⟨RP, hRP⟩ : ∃ RP, RP = putN (p.k.size + 1) p v x := ⟨_, rfl⟩
      have HRP := Lib.hid hRP
      have HC := Lib.hid (show Calls Try.prog 38 #[.agg #[.int .i64 p.op, .int .i64 p.n, .slice A p.k.len c], .int .i64 v, .agg #[.int .i64 x.op, .int .i64 x.n, .slice X x.k.len cx]] W2 (PutPost RP W2) by
        rw [hRP]
        exact rep_any _ (in_any _) p v x A X c cx W2 HLD.out HXD.out (Nat.lt_succ_self _) (ndIs_small hnp) (fitN_is hnp) (node_i64 hnp) (ndIs_small hnx) (node_i64 hnx) (inVar_i64 hv) HXL.out.1 HXL.out.2)
      have HSP := Lib.hid (And.intro (small_size (ndIs_small hnp)) (small_size (ndIs_small hnx)))
      have HFP := Lib.hid (show FitN p from fitN_is hnp)
      have q0 := HT1.out.cell (i := 0) rfl
      have q1 := HT1.out.cell (i := 1) rfl
      have q2 := HT1.out.cell (i := 2) rfl
      have p0 := HT2.out.cell (i := 0) rfl
      have p1 := HT2.out.cell (i := 1) rfl
      have p2 := HT2.out.cell (i := 2) rfl
      clear hRP hnp hnx hv
      go_wp2_with fail
      refine HC.out.mono ?_
      rintro e w5 hpp
      obtain ⟨o5, m5, A5, l5, c5, rfl, hb5, hy5⟩ := PutPost.opened hpp
      obtain ⟨wk, hwk⟩ : ∃ wk, wk = w5.alloc (Obj.cells #[Value.int .i64 o5, Value.int .i64 m5, Value.slice A5 l5 c5] 25) := ⟨_, rfl⟩
      have hbk : Below w5.heap.size w5 wk := by rw [hwk]; exact (Below.refl _ _).alloc (Nat.le_refl _) _
      have hrk : Row wk w5.heap.size 25 #[Value.int .i64 o5, Value.int .i64 m5, Value.slice A5 l5 c5] := by rw [hwk]; exact Row.fresh _ _ _
      have hb6 := hb5.trans (hbk.mono hb5.size)
      have HB6 := Lib.hid hb6
      have HRK := Lib.hid hrk
      have HY5 := Lib.hid (show ∀ y, RP = some y → o5 = y.op ∧ m5 = y.n ∧ l5 = y.k.len ∧ ∃ bs, Tree wk W2.heap.size (.slice A5 l5 c5) y.k bs from fun y hy => by
        obtain ⟨e1, e2, e3, bs, ht⟩ := hy5 y hy
        exact ⟨e1, e2, e3, bs, ht.over hbk⟩)
      clear hpp hb5 hy5 hbk hrk hb6 q0 q1 q2 p0 p1 p2 HC
      cases RP with
      | none =>
        have HRN := Lib.hid (show R = none from HRR.out.trans (subB_none HRP.out.symm))
        have HU3 := Lib.hid (HT3.out.below HB6.out HT3.out.size)
        go_upto_region 4 with fail
        rw [← hwk]
        clear hwk
        have c0 := HU3.out.cell (i := 0) rfl
        have c1 := HU3.out.cell (i := 1) rfl
        have c2 := HU3.out.cell (i := 2) rfl
        have f0 := HU3.out.free 0
        have f1 := HU3.out.free 1
        have f2 := HU3.out.free 2
        have hr3 := ((HU3.out.put 0 (.int .i64 0)).put 1 (.int .i64 0)).put 2 (.slice none 0 0)
        have r0 := hr3.cell (i := 0) rfl
        have r1 := hr3.cell (i := 1) rfl
        have r2 := hr3.cell (i := 2) rfl
        have HBC := Lib.hid ((((HBD.out.trans (HB6.out.mono HBD.out.size)).setCell (p := ⟨w.heap.size + 1 + 1, 0, none⟩) (by dsimp only; omega) (.int .i64 0)).setCell (p := ⟨w.heap.size + 1 + 1, 1, none⟩) (by dsimp only; omega) (.int .i64 0)).setCell (p := ⟨w.heap.size + 1 + 1, 2, none⟩) (by dsimp only; omega) (.slice none 0 0))
        clear hr3
        go_wp2_with fail
        refine bodyPost_ret (v := .tuple #[.agg #[.int .i64 0, .int .i64 0, .slice none 0 0], .bool false]) ?_ rfl (by rw [HRN.out]; exact GivesN.zero HBC.out)
        simp [results, Try.f14, go_sem, r0, r1, r2]
      | some y =>
        obtain ⟨rfl, rfl, rfl, bs, ht⟩ := HY5.out y rfl
        have HT := Lib.hid ht
        have HTL := Lib.hid ((ht.lies fun z hz => (ht.lt z hz).2).mono_ (Nat.zero_le _) (Nat.le_refl _))
        have HTS := Lib.hid (show y.k.len ≤ maxLen by obtain ⟨_, _, _, h1, h2⟩ := ht.slice; exact Nat.le_trans h1 h2)
        clear ht HY5
        have HV := Lib.hid (show Calls Try.prog 23 #[.agg #[.int .i64 y.op, .int .i64 y.n, .slice A5 y.k.len c5]] wk (Gives (.bool (ndIs y)) wk) from validOpen_any y.op y.n y.k A5 c5 wk HTL.out HTS.out)
        go_upto_region 4 with fail
        rw [← hwk]
        clear hwk
        have q0 := HRK.out.cell (i := 0) rfl
        have q1 := HRK.out.cell (i := 1) rfl
        have q2 := HRK.out.cell (i := 2) rfl
        cases hy : ndIs y with
        | false =>
          have HRN := Lib.hid (show R = none from HRR.out.trans (subB_bad HRP.out.symm hy))
          rw [hy] at HV
          clear hy
          go_wp2_with fail
          refine HV.out.mono ?_
          rintro e w7 ⟨rfl, hb7⟩
          have hb8 := HB6.out.trans (hb7.mono HB6.out.size)
          have HB8 := Lib.hid hb8
          have HU3 := Lib.hid (HT3.out.below hb8 HT3.out.size)
          clear hb7 hb8 HV q0 q1 q2
          have c0 := HU3.out.cell (i := 0) rfl
          have c1 := HU3.out.cell (i := 1) rfl
          have c2 := HU3.out.cell (i := 2) rfl
          have f0 := HU3.out.free 0
          have f1 := HU3.out.free 1
          have f2 := HU3.out.free 2
          have hr3 := ((HU3.out.put 0 (.int .i64 0)).put 1 (.int .i64 0)).put 2 (.slice none 0 0)
          have r0 := hr3.cell (i := 0) rfl
          have r1 := hr3.cell (i := 1) rfl
          have r2 := hr3.cell (i := 2) rfl
          have HBC := Lib.hid ((((HBD.out.trans (HB8.out.mono HBD.out.size)).setCell (p := ⟨w.heap.size + 1 + 1, 0, none⟩) (by dsimp only; omega) (.int .i64 0)).setCell (p := ⟨w.heap.size + 1 + 1, 1, none⟩) (by dsimp only; omega) (.int .i64 0)).setCell (p := ⟨w.heap.size + 1 + 1, 2, none⟩) (by dsimp only; omega) (.slice none 0 0))
          clear hr3
          go_wp2_with fail
          refine bodyPost_ret (v := .tuple #[.agg #[.int .i64 0, .int .i64 0, .slice none 0 0], .bool false]) ?_ rfl (by rw [HRN.out]; exact GivesN.zero HBC.out)
          simp [results, Try.f14, go_sem, r0, r1, r2]
        | true =>
          have HRN := Lib.hid (show R = some y from HRR.out.trans (subB_yes HOK.out.symm HRP.out.symm hy))
          rw [hy] at HV
          clear hy
          go_wp2_with fail
          refine HV.out.mono ?_
          rintro e w7 ⟨rfl, hb7⟩
          have hb8 := HB6.out.trans (hb7.mono HB6.out.size)
          have HB8 := Lib.hid hb8
          have HU3 := Lib.hid (HT3.out.below hb8 HT3.out.size)
          have HT7 := Lib.hid (HT.out.over hb7)
          have HRK7 := Lib.hid (HRK.out.below hb7 HRK.out.size)
          clear hb7 hb8 HV q0 q1 q2
          have q0 := HRK7.out.cell (i := 0) rfl
          have q1 := HRK7.out.cell (i := 1) rfl
          have q2 := HRK7.out.cell (i := 2) rfl
          have c0 := HU3.out.cell (i := 0) rfl
          have c1 := HU3.out.cell (i := 1) rfl
          have c2 := HU3.out.cell (i := 2) rfl
          have f0 := HU3.out.free 0
          have f1 := HU3.out.free 1
          have f2 := HU3.out.free 2
          have hr3 := ((HU3.out.put 0 (.int .i64 y.op)).put 1 (.int .i64 y.n)).put 2 (.slice A5 y.k.len c5)
          have r0 := hr3.cell (i := 0) rfl
          have r1 := hr3.cell (i := 1) rfl
          have r2 := hr3.cell (i := 2) rfl
          have hz3 := HT3.out.size
          have HTC := Lib.hid ((((HT7.out.put (p := ⟨w.heap.size + 1 + 1, 0, none⟩) hz3 (.int .i64 y.op)).put (p := ⟨w.heap.size + 1 + 1, 1, none⟩) hz3 (.int .i64 y.n)).put (p := ⟨w.heap.size + 1 + 1, 2, none⟩) hz3 (.slice A5 y.k.len c5)).lower HBD.out.size)
          have HBC := Lib.hid ((((HBD.out.trans (HB8.out.mono HBD.out.size)).setCell (p := ⟨w.heap.size + 1 + 1, 0, none⟩) (by dsimp only; omega) (.int .i64 y.op)).setCell (p := ⟨w.heap.size + 1 + 1, 1, none⟩) (by dsimp only; omega) (.int .i64 y.n)).setCell (p := ⟨w.heap.size + 1 + 1, 2, none⟩) (by dsimp only; omega) (.slice A5 y.k.len c5))
          clear hr3 hz3
          go_wp2_with fail
          refine bodyPost_ret (v := .tuple #[.agg #[.int .i64 y.op, .int .i64 y.n, .slice A5 y.k.len c5], .bool true]) ?_ rfl (by rw [HRN.out]; exact ⟨A5, c5, bs, rfl, HTC.out, HBC.out⟩)
          simp [results, Try.f14, go_sem, r0, r1, r2]
end Go.Proofs.Ytjlaabipgppijaa

namespace Go.Proofs.Ytjlaabipgppijaa
open Go.RowKit Go.Shelf
set_option maxRecDepth 100000

set_option maxHeartbeats 4000000 in
theorem specReb_any (op n : Int) (k : Fo) (A : Option Addr) (c : Nat) (u : Int) (w : World) (hl : Lies w 0 w.heap.size A 0 k) (hsz : k.size ≤ 1048576) :
    Calls Try.prog 7 #[.agg #[.int .i64 op, .int .i64 n, .slice A k.len c], .int .i64 u] w (GivesN ((renB ⟨op, n, k⟩ u).getD nd0) (renB ⟨op, n, k⟩ u).isSome w) := by
  obtain ⟨hb, r1, r2⟩ := two_boxes w 25 25 #[Value.int IntKind.i64 op, Value.int IntKind.i64 n, Value.slice A k.len c] #[Value.int IntKind.i64 0, Value.int IntKind.i64 0, Value.slice none 0 0]
  obtain ⟨W, hW⟩ : ∃ W, W = (w.alloc (Obj.cells #[Value.int IntKind.i64 op, Value.int IntKind.i64 n, Value.slice A k.len c] 25)).alloc (Obj.cells #[Value.int IntKind.i64 0, Value.int IntKind.i64 0, Value.slice none 0 0] 25) := ⟨_, rfl⟩
  rw [← hW] at hb r1 r2
  have HZW := Lib.hid (show W.heap.size = w.heap.size + 1 + 1 by rw [hW]; simp)
  have HB := Lib.hid hb
  have HR1 := Lib.hid r1
  have HR2 := Lib.hid r2
  have HC := Lib.hid (ownExpr_any op n k A c W (hl.up hb) hsz)
  have HK := Lib.hid hsz
  have q0 := r1.cell (i := 0) rfl
  have q1 := r1.cell (i := 1) rfl
  have q2 := r1.cell (i := 2) rfl
  clear hb r1 r2 hl hsz
  obtain ⟨R, hR⟩ : ∃ R, R = renB ⟨op, n, k⟩ u := ⟨_, rfl⟩
  rw [← hR]
  have HRR := Lib.hid hR
  clear hR
  obtain ⟨ok, hok⟩ : ∃ ok, ok = renOk ⟨op, n, k⟩ u := ⟨_, rfl⟩
  have HOK := Lib.hid hok
  clear hok
  go_enter Try.func7, Try.ntmps7
  go_upto_region 1 with fail
  rw [← hW]
  clear hW
  go_wp2_with fail
  refine HC.out.mono ?_
  rintro e w1 ⟨A1, c1, bs, rfl, ht, hb1⟩
  have hr1 := HR1.out.below hb1 HR1.out.size
  have hr2 := HR2.out.below hb1 HR2.out.size
  have f0 := hr1.free 0
  have f1 := hr1.free 1
  have f2 := hr1.free 2
  have c0 := hr1.cell (i := 0) rfl
  have cc1 := hr1.cell (i := 1) rfl
  have cc2 := hr1.cell (i := 2) rfl
  obtain ⟨W1, hW1⟩ : ∃ W1, W1 = ((w1.setCell ⟨w.heap.size, 0, none⟩ (.int .i64 op)).setCell ⟨w.heap.size, 1, none⟩ (.int .i64 n)).setCell ⟨w.heap.size, 2, none⟩ (.slice A1 k.len c1) := ⟨_, rfl⟩
  have hs1 := ((hr1.put 0 (.int .i64 op)).put 1 (.int .i64 n)).put 2 (.slice A1 k.len c1)
  have hs2 := ((hr2.apart (p := ⟨w.heap.size, 0, none⟩) (by dsimp only; omega) (.int .i64 op)).apart (p := ⟨w.heap.size, 1, none⟩) (by dsimp only; omega) (.int .i64 n)).apart (p := ⟨w.heap.size, 2, none⟩) (by dsimp only; omega) (.slice A1 k.len c1)
  have hz1 := HR1.out.size
  have ht1 := ((ht.put (p := ⟨w.heap.size, 0, none⟩) hz1 (.int .i64 op)).put (p := ⟨w.heap.size, 1, none⟩) hz1 (.int .i64 n)).put (p := ⟨w.heap.size, 2, none⟩) hz1 (.slice A1 k.len c1)
  have hbw := (((HB.out.trans (hb1.mono HB.out.size)).setCell (p := ⟨w.heap.size, 0, none⟩) (Nat.le_refl _) (.int .i64 op)).setCell (p := ⟨w.heap.size, 1, none⟩) (Nat.le_refl _) (.int .i64 n)).setCell (p := ⟨w.heap.size, 2, none⟩) (Nat.le_refl _) (.slice A1 k.len c1)
  rw [← hW1] at hs1 hs2 ht1 hbw
  have hsl := ht1.slice
  have HS1 := Lib.hid (show Row W1 w.heap.size 25 #[.int .i64 op, .int .i64 n, .slice A1 k.len c1] from hs1)
  have HS2 := Lib.hid hs2
  have HT1 := Lib.hid ht1
  have HB1 := Lib.hid hbw
  have HL1 := Lib.hid ((ht1.lies fun x hx => (ht1.lt x hx).2).mono_ (Nat.zero_le _) (Nat.le_refl _))
  have HLEN := Lib.hid (show k.len ≤ maxLen by obtain ⟨_, c9, e9, h1, h2⟩ := hsl; exact Nat.le_trans h1 h2)
  have HW1 := Lib.hid (show W.heap.size ≤ W1.heap.size by rw [hW1]; simpa using hb1.size)
  clear hr1 hr2 hs1 hs2 ht1 hbw hsl hz1 ht hb1 HC HR1 HR2
  go_upto_region 2 with fail
  rw [← hW1]
  clear hW1 q0 q1 q2 f0 f1 f2 c0 cc1 cc2
  go_cut [34] from 10 to 34 (fun s wd => s = .bool (!ok) ∧ Below W1.heap.size W1 wd)
  case first =>
    have q0 := HS1.out.cell (i := 0) rfl
    have q1 := HS1.out.cell (i := 1) rfl
    have q2 := HS1.out.cell (i := 2) rfl
    have HVL := Lib.hid (l1Any_any op n k A1 c1 W1 HL1.out HLEN.out)
    cases hn : nodeIs op n k (firstS 8) with
    | false =>
      have HZ := Lib.hid (show ok = false by rw [HOK.out]; unfold renOk; simp [hn])
      rw [hn] at HVL
      clear hn
      go_wp2_with fail
      refine HVL.out.mono ?_
      rintro e w2 ⟨rfl, hb2⟩
      have HB2 := Lib.hid hb2
      clear hb2 HVL
      go_wp2_with fail
      go_meet
      exact ⟨by rw [HZ.out]; rfl, HB2.out⟩
    | true =>
      have HN := Lib.hid hn
      rw [hn] at HVL
      clear hn
      by_cases h7 : op = 7
      · obtain ⟨oa, ma, ka, ob, mb, kb, ek⟩ := FitN.two (p := ⟨op, n, k⟩) (fitN_is HN.out) h7
        dsimp only at ek
        subst h7
        subst ek
        by_cases h0 : u < 0
        · have HZ := Lib.hid (show ok = false by rw [HOK.out]; unfold renOk inVar; have : ¬ 0 ≤ u := by omega
                                                 simp [this])
          go_wp2_with fail
          refine HVL.out.mono ?_
          rintro e w2 ⟨rfl, hb2⟩
          have HB2 := Lib.hid hb2
          have p0 := (HS1.out.below hb2 HS1.out.size).cell (i := 0) rfl
          clear hb2 HVL
          go_wp2_with fail
          go_meet
          exact ⟨by rw [HZ.out]; rfl, HB2.out⟩
        · by_cases h8 : u ≥ 8
          · have HZ := Lib.hid (show ok = false by rw [HOK.out]; unfold renOk inVar; have : ¬ u < 8 := by omega
                                                   simp [this])
            go_wp2_with fail
            refine HVL.out.mono ?_
            rintro e w2 ⟨rfl, hb2⟩
            have HB2 := Lib.hid hb2
            have p0 := (HS1.out.below hb2 HS1.out.size).cell (i := 0) rfl
            clear hb2 HVL
            go_wp2_with fail
            go_meet
            exact ⟨by rw [HZ.out]; rfl, HB2.out⟩
          · have HZ := Lib.hid (show ok = !decide (u ∈ varsP ⟨ob, mb, kb⟩) by
              rw [HOK.out]
              unfold renOk
              rw [HN.out, show inVar u = true by unfold inVar; simp; omega]
              rfl)
            obtain ⟨⟨b, o, A8, c8, hA, _, hbb, j1, j2, g1, g2, g3, h1, h2, h3⟩, ⟨b', o', A9, c9, hA9, _, _, j3, j4, g4, g5, g6, h4, h5, h6⟩, _⟩ := HL1.out
            subst hA
            injection hA9 with hA9
            injection hA9 with e1 e2
            subst e1 e2
            have g7 : W1.cell? ⟨b, o + 3, none⟩ = some (.int .i64 ob) := g4
            have g8 : W1.cell? ⟨b, o + 4, none⟩ = some (.int .i64 mb) := g5
            have g9 : W1.cell? ⟨b, o + 5, none⟩ = some (.slice A9 kb.len c9) := g6
            have G := Lib.hid (And.intro g7 (And.intro g8 g9))
            have H6 := Lib.hid (And.intro h6 hbb)
            have HSB := Lib.hid (show kb.size ≤ 1048576 by have := HK.out; simp only [Fo.size] at this; omega)
            clear g1 g2 g3 g4 g5 g6 g7 g8 g9 h1 h2 h3 h4 h5 h6 j1 j2 j3 j4 hbb
            go_wp2_with fail
            refine HVL.out.mono ?_
            rintro e w2 ⟨rfl, hb2⟩
            have HB2 := Lib.hid hb2
            have p0 := (HS1.out.below hb2 HS1.out.size).cell (i := 0) rfl
            have p2 : w2.cell? ⟨w.heap.size, 2, none⟩ = some (.slice (some ⟨b, o, none⟩) 2 c1) := (HS1.out.below hb2 HS1.out.size).cell (i := 2) rfl
            have z7 := (hb2.cell (p := ⟨b, o + 3, none⟩) H6.out.2).trans G.out.1
            have z8 := (hb2.cell (p := ⟨b, o + 4, none⟩) H6.out.2).trans G.out.2.1
            have z9 := (hb2.cell (p := ⟨b, o + 5, none⟩) H6.out.2).trans G.out.2.2
            have HC2 := Lib.hid (specAll_any ob mb kb A9 c9 w2 (H6.out.1.up hb2) HSB.out)
            clear hb2 HVL q0 q1 q2
            go_wp2_with fail
            refine HC2.out.mono ?_
            rintro e w4 ⟨v4, rfl, ho4, hb4⟩
            obtain ⟨A4, c4, rfl, hI4⟩ := own_ints ho4 (fun y hy => numsUpto_small _ 8 y (by decide) hy)
            have HB4 := Lib.hid (HB2.out.trans (hb4.mono HB2.out.size))
            have HC3 := Lib.hid (l1Has_any (varsP ⟨ob, mb, kb⟩) A4 c4 u w4 (hI4.mono_ (Nat.zero_le _) (Nat.le_refl _)) (Nat.le_trans (numsUpto_len _ 8) (by decide)))
            clear ho4 hb4 hI4 HC2 z7 z8 z9 p0 p2
            go_wp2_with fail
            refine HC3.out.mono ?_
            rintro e w5 ⟨rfl, hb5⟩
            have HB5 := Lib.hid (HB4.out.trans (hb5.mono HB4.out.size))
            clear hb5 HC3
            go_wp2_with fail
            go_meet
            exact ⟨by rw [HZ.out]; simp; intro h9; omega, HB5.out⟩
      · have b7 : (op != 7) = true := by simpa using h7
        have HZ := Lib.hid (show ok = false by rw [HOK.out]; unfold renOk; simp [h7])
        go_wp2_with fail
        refine HVL.out.mono ?_
        rintro e w2 ⟨rfl, hb2⟩
        have HB2 := Lib.hid hb2
        have p0 := (HS1.out.below hb2 HS1.out.size).cell (i := 0) rfl
        clear hb2 HVL
        go_wp2_with fail
        go_meet
        exact ⟨by rw [HZ.out]; rfl, HB2.out⟩
  case rest =>
    obtain ⟨rfl, hbd⟩ := hcut
    obtain ⟨W2, hW2⟩ : ∃ W2, W2 = wc := ⟨_, rfl⟩
    rw [← hW2] at hbd ⊢
    clear hW2 wc
    have HBD := Lib.hid (HB1.out.trans (hbd.mono HB1.out.size))
    have HU1 := Lib.hid (HS1.out.below hbd HS1.out.size)
    have HU2 := Lib.hid (HS2.out.below hbd HS2.out.size)
    have HLD := Lib.hid (HL1.out.up hbd)
    have HWW := Lib.hid (Nat.le_trans HW1.out hbd.size)
    have HTD := Lib.hid (HT1.out.over hbd)
    clear hbd HS1 HS2 HL1 HT1
    cases ok with
    | false =>
      have HRN := Lib.hid (show R = none from HRR.out.trans (renB_no HOK.out.symm))
      have c0 := HU2.out.cell (i := 0) rfl
      have c3 := HU2.out.cell (i := 1) rfl
      have c2 := HU2.out.cell (i := 2) rfl
      have f0 := HU2.out.free 0
      have f1 := HU2.out.free 1
      have f2 := HU2.out.free 2
      have hr3 := ((HU2.out.put 0 (.int .i64 0)).put 1 (.int .i64 0)).put 2 (.slice none 0 0)
      have r0 := hr3.cell (i := 0) rfl
      have r1 := hr3.cell (i := 1) rfl
      have r2 := hr3.cell (i := 2) rfl
      have HBC := Lib.hid (((HBD.out.setCell (p := ⟨w.heap.size + 1, 0, none⟩) (Nat.le_succ _) (.int .i64 0)).setCell (p := ⟨w.heap.size + 1, 1, none⟩) (Nat.le_succ _) (.int .i64 0)).setCell (p := ⟨w.heap.size + 1, 2, none⟩) (Nat.le_succ _) (.slice none 0 0))
      clear hr3
      go_wp2_with fail
      refine bodyPost_ret (v := .tuple #[.agg #[.int .i64 0, .int .i64 0, .slice none 0 0], .bool false]) ?_ rfl (by rw [HRN.out]; exact GivesN.zero HBC.out)
      simp [results, Try.f7, go_sem, r0, r1, r2]
    | true =>
      obtain ⟨oa, ma, ka, ob, mb, kb, z, q, h7, ek, hz, hu, hn, hh, hfit, hq, hrb⟩ := renB_yes HOK.out.symm
      dsimp only at h7 ek hn hq hrb
      have hsm := small_is hn
      have hff := hfit.2
      dsimp only at hff
      subst h7
      subst ek
      subst hu
      rw [fitP_cons, fitP_cons] at hff
      have HRN := Lib.hid (show R = some ⟨7, (z : Int), pair ⟨oa, ma, ka⟩ q⟩ from HRR.out.trans hrb)
      obtain ⟨⟨b, o, A8, c8, hA, hb0, hbb, j1, j2, g1, g2, g3, h1, h2, h3⟩, ⟨b', o', A9, c9, hA9, _, _, j3, j4, g4, g5, g6, h4, h5, h6⟩, _⟩ := HLD.out
      subst hA
      injection hA9 with hA9
      injection hA9 with e1 e2
      subst e1 e2
      have hbW : W.heap.size ≤ b := by
        obtain ⟨st, b1, k1', k2', rfl, _⟩ := HTD.out
        exact (blk_lt k1' (by unfold blkV; simp [Value.ownBlock])).1
      have hz1 := HU1.out.size
      have g1' : W2.cell? ⟨b, o, none⟩ = some (Value.int .i64 oa) := by simpa using g1
      have g2' : W2.cell? ⟨b, o + 1, none⟩ = some (Value.int .i64 ma) := by simpa using g2
      have g3' : W2.cell? ⟨b, o + 2, none⟩ = some (Value.slice A8 ka.len c8) := by simpa using g3
      have hS1 : ∀ w' : World, Below W2.heap.size W2 w' → w'.cell? ⟨w.heap.size, 1, none⟩ = some (Value.int .i64 n) ∧ w'.cell? ⟨w.heap.size, 2, none⟩ = some (Value.slice (some ⟨b, o, none⟩) 2 c1) ∧ w'.cell? ⟨b, o + 3, none⟩ = some (Value.int .i64 ob) ∧ w'.cell? ⟨b, o + 4, none⟩ = some (Value.int .i64 mb) ∧ w'.cell? ⟨b, o + 5, none⟩ = some (Value.slice A9 kb.len c9) := fun w' hb =>
        ⟨(hb.cell (p := ⟨w.heap.size, 1, none⟩) hz1).trans (HU1.out.cell (i := 1) rfl), (hb.cell (p := ⟨w.heap.size, 2, none⟩) hz1).trans (HU1.out.cell (i := 2) rfl),
          (hb.cell (p := ⟨b, o + 3, none⟩) hbb).trans g4, (hb.cell (p := ⟨b, o + 4, none⟩) hbb).trans g5, (hb.cell (p := ⟨b, o + 5, none⟩) hbb).trans g6⟩
      have hS2 : ∀ w' : World, Below W2.heap.size W2 w' → w'.cell? ⟨w.heap.size, 2, none⟩ = some (Value.slice (some ⟨b, o, none⟩) 2 c1) ∧ w'.cell? ⟨b, o, none⟩ = some (Value.int .i64 oa) ∧ w'.cell? ⟨b, o + 1, none⟩ = some (Value.int .i64 ma) ∧ w'.cell? ⟨b, o + 2, none⟩ = some (Value.slice A8 ka.len c8) := fun w' hb =>
        ⟨(hb.cell (p := ⟨w.heap.size, 2, none⟩) hz1).trans (HU1.out.cell (i := 2) rfl), (hb.cell (p := ⟨b, o, none⟩) hbb).trans g1', (hb.cell (p := ⟨b, o + 1, none⟩) hbb).trans g2', (hb.cell (p := ⟨b, o + 2, none⟩) hbb).trans g3'⟩
      have hix : I64 (⟨2, (z : Int), .nil⟩ : Nd).op ∧ I64 (⟨2, (z : Int), .nil⟩ : Nd).n := by unfold I64; dsimp only; omega
      have hszs : kb.size < (Fo.cons oa ma ka (.cons ob mb kb .nil)).size + 1 ∧ kb.size ≤ 80 ∧ ka.size ≤ 80 := by
        simp only [Fo.size] at hsm ⊢
        omega
      have HREP := Lib.hid (show ∀ w' : World, Below W2.heap.size W2 w' → Calls Try.prog 32 #[.agg #[.int .i64 ob, .int .i64 mb, .slice A9 kb.len c9], .int .i64 n, .agg #[.int .i64 2, .int .i64 (z : Int), .slice none 0 0]] w' (PutPost (some q) w') from fun w' hb => by
        rw [← hq]
        exact put_any _ ⟨ob, mb, kb⟩ n ⟨2, (z : Int), .nil⟩ A9 none c9 0 w' ⟨h6.up hb, trivial, hszs.1, hszs.2.1, hff.2.1, ⟨j3, j4⟩, Nat.zero_le _, hix, (node_i64 hn).2⟩)
      have HCPY := Lib.hid (show ∀ w' : World, Below W2.heap.size W2 w' → Calls Try.prog 33 #[.agg #[.int .i64 oa, .int .i64 ma, .slice A8 ka.len c8]] w' (Makes oa ma ka w') from fun w' hb =>
        l1Copy_any ka.size oa ma ka A8 c8 w' rfl (h3.up hb) (Nat.le_trans hszs.2.2 (by decide)) ⟨j1, j2⟩)
      have HQI := Lib.hid (putN_i64 (p := ⟨ob, mb, kb⟩) ⟨j3, j4⟩ hix hq)
      have HIA := Lib.hid (And.intro j1 j2)
      have HS1 := Lib.hid hS1
      have HS2 := Lib.hid hS2
      have HBB := Lib.hid (And.intro hbW hbb)
      clear hS1 hS2 hz1 hbb hb0 j1 j2 j3 j4 g1 g2 g3 g1' g2' g3' g4 g5 g6 h1 h2 h3 h4 h5 h6 hix hq hszs hsm hff hfit hn hh hrb hz hbW HTD
      go_upto_region 4 with fail
      go_cut [6, 7] from 36 to 47 (fun p s wd => ∃ g A5 c5 b5, p = .pointer (some ⟨g, 0, none⟩) ∧ s = .bool true ∧ Row wd g 25 #[.int .i64 q.op, .int .i64 q.n, .slice A5 q.k.len c5] ∧ W2.heap.size ≤ g ∧ Tree wd W2.heap.size (.slice A5 q.k.len c5) q.k b5 ∧ Below W2.heap.size W2 wd)
      case first =>
        have b0 : Below W2.heap.size W2 W2.drew := (Below.refl _ _).drew
        have bp : Below W2.heap.size W2 (W2.alloc (Obj.cells #[Value.int .i64 0, Value.int .i64 0, Value.slice none 0 0] 25)).drew := ((Below.refl _ _).alloc (Nat.le_refl _) _).drew
        have CA := Lib.hid (HREP.out _ bp)
        have CB := Lib.hid (HREP.out _ b0)
        have s0 := HS1.out _ b0
        have sp := HS1.out _ bp
        have B0 := Lib.hid b0
        have BP := Lib.hid bp
        have RP := Lib.hid (show Row (W2.alloc (Obj.cells #[Value.int .i64 0, Value.int .i64 0, Value.slice none 0 0] 25)).drew W2.heap.size 25 #[Value.int .i64 0, Value.int .i64 0, Value.slice none 0 0] from (Row.fresh _ _ _).drew)
        have hza : (W2.alloc (Obj.cells #[Value.int .i64 0, Value.int .i64 0, Value.slice none 0 0] 25)).drew.heap.size = W2.heap.size + 1 := by simp
        have HZA := Lib.hid hza
        clear b0 bp hza
        go_region_held3 (fun w' => w'.cell? ⟨w.heap.size, 1, none⟩ = some (Value.int .i64 n) ∧ w'.cell? ⟨w.heap.size, 2, none⟩ = some (Value.slice (some ⟨b, o, none⟩) 2 c1) ∧ w'.cell? ⟨b, o + 3, none⟩ = some (Value.int .i64 ob) ∧ w'.cell? ⟨b, o + 4, none⟩ = some (Value.int .i64 mb) ∧ w'.cell? ⟨b, o + 5, none⟩ = some (Value.slice A9 kb.len c9))
          (first | with_reducible exact s0 | with_reducible exact sp | with_reducible exact s5 | with_reducible exact s6 | with_reducible exact s5z | fail)
          (first
            | (go_at_call 32
               with_reducible refine CA.out.mono ?_
               rintro e w5 ⟨A5, c5, b5, rfl, ht5, hb5⟩
               have hb := BP.out.trans (hb5.mono BP.out.size)
               have r5 := RP.out.below hb5 RP.out.size
               have f0 := r5.free 0
               have f1 := r5.free 1
               have f2 := r5.free 2
               have d0 := r5.cell (i := 0) rfl
               have d1 := r5.cell (i := 1) rfl
               have d2 := r5.cell (i := 2) rfl
               have hbs := ((hb.setCell (p := ⟨W2.heap.size, 0, none⟩) (Nat.le_refl _) (.int .i64 q.op)).setCell (p := ⟨W2.heap.size, 1, none⟩) (Nat.le_refl _) (.int .i64 q.n)).setCell (p := ⟨W2.heap.size, 2, none⟩) (Nat.le_refl _) (.slice A5 q.k.len c5)
               have s5 := HS1.out _ hb
               have s6 := HS1.out _ hbs
               rw [HZA.out] at ht5
               have HEND := Lib.hid (show ∃ g A6 c6 b6, Value.pointer (some ⟨W2.heap.size, 0, none⟩) = .pointer (some ⟨g, 0, none⟩) ∧ Row (((w5.setCell ⟨W2.heap.size, 0, none⟩ (.int .i64 q.op)).setCell ⟨W2.heap.size, 1, none⟩ (.int .i64 q.n)).setCell ⟨W2.heap.size, 2, none⟩ (.slice A5 q.k.len c5)) g 25 #[.int .i64 q.op, .int .i64 q.n, .slice A6 q.k.len c6] ∧ W2.heap.size ≤ g ∧ Tree (((w5.setCell ⟨W2.heap.size, 0, none⟩ (.int .i64 q.op)).setCell ⟨W2.heap.size, 1, none⟩ (.int .i64 q.n)).setCell ⟨W2.heap.size, 2, none⟩ (.slice A5 q.k.len c5)) W2.heap.size (.slice A6 q.k.len c6) q.k b6 ∧ Below W2.heap.size W2 (((w5.setCell ⟨W2.heap.size, 0, none⟩ (.int .i64 q.op)).setCell ⟨W2.heap.size, 1, none⟩ (.int .i64 q.n)).setCell ⟨W2.heap.size, 2, none⟩ (.slice A5 q.k.len c5)) from
                 ⟨W2.heap.size, A5, c5, b5, rfl, ((r5.put 0 _).put 1 _).put 2 _, Nat.le_refl _, (((ht5.put (p := ⟨W2.heap.size, 0, none⟩) (Nat.lt_succ_self _) _).put (p := ⟨W2.heap.size, 1, none⟩) (Nat.lt_succ_self _) _).put (p := ⟨W2.heap.size, 2, none⟩) (Nat.lt_succ_self _) _).lower (Nat.le_succ _), hbs⟩)
               clear ht5 hb5 hb r5 hbs)
            | (go_at_call 32
               with_reducible refine CB.out.mono ?_
               rintro e w5 ⟨A5, c5, b5, rfl, ht5, hb5⟩
               have hb := B0.out.trans (hb5.mono B0.out.size)
               have hbl := (Below.refl w5.heap.size w5).alloc (Nat.le_refl _) (Obj.cells #[Value.int .i64 q.op, Value.int .i64 q.n, Value.slice A5 q.k.len c5] 25)
               have hba := hb.trans (hbl.mono hb.size)
               have s5 := HS1.out _ hb
               have s6 := HS1.out _ hba
               have s5z := HS1.out _ (hb.alloc hb.size (Obj.cells #[Value.int .i64 0, Value.int .i64 0, Value.slice none 0 0] 25))
               have HEND := Lib.hid (show ∃ g A6 c6 b6, Value.pointer (some ⟨w5.heap.size, 0, none⟩) = .pointer (some ⟨g, 0, none⟩) ∧ Row (w5.alloc (Obj.cells #[Value.int .i64 q.op, Value.int .i64 q.n, Value.slice A5 q.k.len c5] 25)) g 25 #[.int .i64 q.op, .int .i64 q.n, .slice A6 q.k.len c6] ∧ W2.heap.size ≤ g ∧ Tree (w5.alloc (Obj.cells #[Value.int .i64 q.op, Value.int .i64 q.n, Value.slice A5 q.k.len c5] 25)) W2.heap.size (.slice A6 q.k.len c6) q.k b6 ∧ Below W2.heap.size W2 (w5.alloc (Obj.cells #[Value.int .i64 q.op, Value.int .i64 q.n, Value.slice A5 q.k.len c5] 25)) from
                 ⟨w5.heap.size, A5, c5, b5, rfl, Row.fresh _ _ _, hb.size, ht5.over hbl, hba⟩)
               clear ht5 hb5 hb hbl hba)
            | fail)
        all_goals
          go_wp2_with fail
          go_meet
          obtain ⟨g, A6, c6, b6, hp, hr⟩ := HEND.out
          exact ⟨g, A6, c6, b6, hp, rfl, hr⟩
      case rest =>
        obtain ⟨g, A5, c5, b5, rfl, rfl, hrg, hgW, ht5, hbd⟩ := hcut
        have hgz := hrg.size
        have hS : ∀ w' : World, Below wc.heap.size wc w' → w'.cell? ⟨w.heap.size, 2, none⟩ = some (Value.slice (some ⟨b, o, none⟩) 2 c1) ∧ w'.cell? ⟨b, o, none⟩ = some (Value.int .i64 oa) ∧ w'.cell? ⟨b, o + 1, none⟩ = some (Value.int .i64 ma) ∧ w'.cell? ⟨b, o + 2, none⟩ = some (Value.slice A8 ka.len c8) ∧ w'.cell? ⟨g, 0, none⟩ = some (Value.int .i64 q.op) ∧ w'.cell? ⟨g, 1, none⟩ = some (Value.int .i64 q.n) ∧ w'.cell? ⟨g, 2, none⟩ = some (Value.slice A5 q.k.len c5) := fun w' hb => by
          obtain ⟨t1, t2, t3, t4⟩ := HS2.out w' (hbd.trans (hb.mono hbd.size))
          exact ⟨t1, t2, t3, t4, (hb.cell (p := ⟨g, 0, none⟩) hgz).trans (hrg.cell (i := 0) rfl), (hb.cell (p := ⟨g, 1, none⟩) hgz).trans (hrg.cell (i := 1) rfl), (hb.cell (p := ⟨g, 2, none⟩) hgz).trans (hrg.cell (i := 2) rfl)⟩
        have HRD := Lib.hid (HU2.out.below hbd HU2.out.size)
        have b0 : Below wc.heap.size wc wc.drew := (Below.refl _ _).drew
        have CC := Lib.hid (HCPY.out wc.drew (hbd.trans (b0.mono hbd.size)))
        have HSS := Lib.hid hS
        have HT5 := Lib.hid ht5
        have HBE := Lib.hid hbd
        have B0 := Lib.hid b0
        have s0 := hS _ b0
        have HGW := Lib.hid (And.intro hgW hgz)
        have HSET := Lib.hid (show ∀ (w' : World) (i : Nat) (u' : Value), (w'.cell? ⟨w.heap.size, 2, none⟩ = some (Value.slice (some ⟨b, o, none⟩) 2 c1) ∧ w'.cell? ⟨b, o, none⟩ = some (Value.int .i64 oa) ∧ w'.cell? ⟨b, o + 1, none⟩ = some (Value.int .i64 ma) ∧ w'.cell? ⟨b, o + 2, none⟩ = some (Value.slice A8 ka.len c8) ∧ w'.cell? ⟨g, 0, none⟩ = some (Value.int .i64 q.op) ∧ w'.cell? ⟨g, 1, none⟩ = some (Value.int .i64 q.n) ∧ w'.cell? ⟨g, 2, none⟩ = some (Value.slice A5 q.k.len c5)) → (w'.setCell ⟨w.heap.size + 1, i, none⟩ u').cell? ⟨w.heap.size, 2, none⟩ = some (Value.slice (some ⟨b, o, none⟩) 2 c1) ∧ (w'.setCell ⟨w.heap.size + 1, i, none⟩ u').cell? ⟨b, o, none⟩ = some (Value.int .i64 oa) ∧ (w'.setCell ⟨w.heap.size + 1, i, none⟩ u').cell? ⟨b, o + 1, none⟩ = some (Value.int .i64 ma) ∧ (w'.setCell ⟨w.heap.size + 1, i, none⟩ u').cell? ⟨b, o + 2, none⟩ = some (Value.slice A8 ka.len c8) ∧ (w'.setCell ⟨w.heap.size + 1, i, none⟩ u').cell? ⟨g, 0, none⟩ = some (Value.int .i64 q.op) ∧ (w'.setCell ⟨w.heap.size + 1, i, none⟩ u').cell? ⟨g, 1, none⟩ = some (Value.int .i64 q.n) ∧ (w'.setCell ⟨w.heap.size + 1, i, none⟩ u').cell? ⟨g, 2, none⟩ = some (Value.slice A5 q.k.len c5) from fun w' i u' => by
          rintro ⟨t1, t2, t3, t4, t5, t6, t7⟩
          have hz := HZW.out
          have hg2 := HGW.out.1
          have hbn := HBB.out.1
          have hww := HWW.out
          refine ⟨(cell_apart w' ?_ u').trans t1, (cell_apart w' ?_ u').trans t2, (cell_apart w' ?_ u').trans t3, (cell_apart w' ?_ u').trans t4, (cell_apart w' ?_ u').trans t5, (cell_apart w' ?_ u').trans t6, (cell_apart w' ?_ u').trans t7⟩ <;> dsimp only <;> omega)
        clear hS hrg hgW hgz ht5 hbd b0
        go_upto_region 7 with fail
        go_region_held3 (fun w' => w'.cell? ⟨w.heap.size, 2, none⟩ = some (Value.slice (some ⟨b, o, none⟩) 2 c1) ∧ w'.cell? ⟨b, o, none⟩ = some (Value.int .i64 oa) ∧ w'.cell? ⟨b, o + 1, none⟩ = some (Value.int .i64 ma) ∧ w'.cell? ⟨b, o + 2, none⟩ = some (Value.slice A8 ka.len c8) ∧ w'.cell? ⟨g, 0, none⟩ = some (Value.int .i64 q.op) ∧ w'.cell? ⟨g, 1, none⟩ = some (Value.int .i64 q.n) ∧ w'.cell? ⟨g, 2, none⟩ = some (Value.slice A5 q.k.len c5))
          (first | with_reducible exact s0 | with_reducible exact s6 | with_reducible exact s7 | with_reducible exact s8 | fail)
          (first
            | (go_at_call 33
               with_reducible refine CC.out.mono ?_
               rintro e w6 ⟨A6, c6, b6, rfl, ht6, hb6⟩
               have hb := B0.out.trans (hb6.mono B0.out.size)
               have hbl := (Below.refl w6.heap.size w6).alloc (Nat.le_refl _) (Obj.cells #[Value.int .i64 oa, Value.int .i64 ma, Value.slice A6 ka.len c6, Value.int .i64 q.op, Value.int .i64 q.n, Value.slice A5 q.k.len c5] 25)
               have hba := hb.trans (hbl.mono hb.size)
               have s6 := HSS.out _ hb
               have s7 := HSS.out _ hba
               have s8 := HSET.out _ 2 (.slice (some ⟨w6.heap.size, 0, none⟩) 2 2) (HSET.out _ 1 (.int .i64 (z : Int)) (HSET.out _ 0 (.int .i64 7) s7))
               have hr6 := HRD.out.below hba HRD.out.size
               have f0 := hr6.free 0
               have f1 := hr6.free 1
               have f2 := hr6.free 2
               have d0 := hr6.cell (i := 0) rfl
               have d1 := hr6.cell (i := 1) rfl
               have d2 := hr6.cell (i := 2) rfl
               have htp := tree_pair (a := ⟨oa, ma, ka⟩) (b := q) (base := W2.heap.size) (Row.fresh w6 25 #[Value.int .i64 oa, Value.int .i64 ma, Value.slice A6 ka.len c6, Value.int .i64 q.op, Value.int .i64 q.n, Value.slice A5 q.k.len c5]) (Nat.le_trans HBE.out.size hb.size)
                 ((ht6.over hbl).lower HBE.out.size) ((HT5.out.over hba)) (fun z h1 h2 => by
                   have e1 := (ht6.lt z h1).1
                   have e2 := (HT5.out.lt z h2).2
                   have e3 : wc.heap.size ≤ z := e1
                   omega)
                 (fun h => Nat.lt_irrefl _ (ht6.lt _ h).2) (fun h => Nat.lt_irrefl _ (Nat.lt_of_lt_of_le (HT5.out.lt _ h).2 hb.size)) HIA.out HQI.out
               have HTP := Lib.hid htp
               have HR6 := Lib.hid hr6
               have HB6 := Lib.hid (HBE.out.trans (hba.mono HBE.out.size))
               clear ht6 hb6 hb hbl hba htp hr6)
            | fail)
        all_goals
          have hr7 := ((HR6.out.put 0 (.int .i64 7)).put 1 (.int .i64 (z : Int))).put 2 (.slice (some ⟨w6.heap.size, 0, none⟩) 2 2)
          have r0 := hr7.cell (i := 0) rfl
          have r1 := hr7.cell (i := 1) rfl
          have r2 := hr7.cell (i := 2) rfl
          obtain ⟨bs, htp⟩ := HTP.out
          have HBC := Lib.hid (((((HBD.out.trans (HB6.out.mono HBD.out.size)).setCell (p := ⟨w.heap.size + 1, 0, none⟩) (Nat.le_succ _) (.int .i64 7)).setCell (p := ⟨w.heap.size + 1, 1, none⟩) (Nat.le_succ _) (.int .i64 (z : Int))).setCell (p := ⟨w.heap.size + 1, 2, none⟩) (Nat.le_succ _) (.slice (some ⟨w6.heap.size, 0, none⟩) 2 2)))
          have hz3 := HU2.out.size
          have HTC := Lib.hid ((((htp.put (p := ⟨w.heap.size + 1, 0, none⟩) hz3 (.int .i64 7)).put (p := ⟨w.heap.size + 1, 1, none⟩) hz3 (.int .i64 (z : Int))).put (p := ⟨w.heap.size + 1, 2, none⟩) hz3 (.slice (some ⟨w6.heap.size, 0, none⟩) 2 2)).lower HBD.out.size)
          clear hr7 hz3 htp
          go_wp2_with fail
          refine bodyPost_ret (v := .tuple #[.agg #[.int .i64 7, .int .i64 (z : Int), .slice (some ⟨w6.heap.size, 0, none⟩) 2 2], .bool true]) ?_ rfl (by rw [HRN.out]; exact ⟨some ⟨w6.heap.size, 0, none⟩, 2, bs, rfl, HTC.out, HBC.out⟩)
          simp [results, Try.f7, go_sem, r0, r1, r2]
end Go.Proofs.Ytjlaabipgppijaa

namespace Go.Proofs.Ytjlaabipgppijaa
open Go.RowKit Go.Shelf
set_option maxRecDepth 100000

def fitsB (p : Nd) (v : Int) (x : Nd) : Bool := decide (p.k.size + 1 + cntP v p * x.k.size ≤ 80)
theorem fits_wrap {a b d : Nat} (ha : a ≤ 81) (hb : b ≤ 81) (hd : 1 ≤ d) (hd2 : d ≤ 81) : decide (IntKind.i64.wrap ((a : Int) + IntKind.i64.wrap ((b : Int) * IntKind.i64.wrap ((d : Int) - 1))) ≤ 80) = decide (a + b * (d - 1) ≤ 80) := by
  obtain ⟨d', rfl⟩ : ∃ d', d = d' + 1 := ⟨d - 1, by omega⟩
  have h1 : ((d' + 1 : Nat) : Int) - 1 = (d' : Int) := by omega
  have h2 : b * d' ≤ 81 * 81 := Nat.mul_le_mul hb (by omega)
  have h3 : (b : Int) * (d' : Int) = ((b * d' : Nat) : Int) := by simp
  have hw : ∀ y : Int, 0 ≤ y → y ≤ 9223372036854775807 → IntKind.i64.wrap y = y := fun y g1 g2 => by rw [IntKind.wrap_i64]; omega
  rw [h1, hw (d' : Int) (by omega) (by omega), h3]
  rw [show d' + 1 - 1 = d' by omega]
  generalize b * d' = t at h2
  rw [hw (t : Int) (by omega) (by omega), hw ((a : Int) + (t : Int)) (by omega) (by omega)]
  by_cases h : a + t ≤ 80
  · rw [decide_eq_true h, decide_eq_true (by omega)]
  · rw [decide_eq_false h, decide_eq_false (by omega)]
theorem cntOf_small {s : Nat} (h : s ≤ 80) : cntOf s 80 = s + 1 := by unfold cntOf; omega

set_option maxHeartbeats 2000000 in
theorem fits_any (p : Nd) (v : Int) (x : Nd) (A X : Option Addr) (c cx : Nat) (w : World) (hl : Lies w 0 w.heap.size A 0 p.k) (hx : Lies w 0 w.heap.size X 0 x.k) (hp : p.k.size ≤ 80) (hxs : x.k.size ≤ 80) :
    Calls Try.prog 39 #[.agg #[.int .i64 p.op, .int .i64 p.n, .slice A p.k.len c], .int .i64 v, .agg #[.int .i64 x.op, .int .i64 x.n, .slice X x.k.len cx]] w (Gives (.bool (fitsB p v x)) w) := by
  obtain ⟨hb, r1, r2⟩ := two_boxes w 25 25 #[Value.int IntKind.i64 p.op, Value.int IntKind.i64 p.n, Value.slice A p.k.len c] #[Value.int IntKind.i64 x.op, Value.int IntKind.i64 x.n, Value.slice X x.k.len cx]
  obtain ⟨W, hW⟩ : ∃ W, W = (w.alloc (Obj.cells #[Value.int IntKind.i64 p.op, Value.int IntKind.i64 p.n, Value.slice A p.k.len c] 25)).alloc (Obj.cells #[Value.int IntKind.i64 x.op, Value.int IntKind.i64 x.n, Value.slice X x.k.len cx] 25) := ⟨_, rfl⟩
  rw [← hW] at hb r1 r2
  have b0 : Below W.heap.size W W.drew := (Below.refl _ _).drew
  have hz1 := r1.size
  have hz2 := r2.size
  have hS : ∀ w' : World, Below W.heap.size W w' → w'.cell? ⟨w.heap.size, 0, none⟩ = some (Value.int .i64 p.op) ∧ w'.cell? ⟨w.heap.size, 1, none⟩ = some (Value.int .i64 p.n) ∧ w'.cell? ⟨w.heap.size, 2, none⟩ = some (Value.slice A p.k.len c) ∧ w'.cell? ⟨w.heap.size + 1, 0, none⟩ = some (Value.int .i64 x.op) ∧ w'.cell? ⟨w.heap.size + 1, 1, none⟩ = some (Value.int .i64 x.n) ∧ w'.cell? ⟨w.heap.size + 1, 2, none⟩ = some (Value.slice X x.k.len cx) := fun w' hb =>
    ⟨(hb.cell (p := ⟨w.heap.size, 0, none⟩) hz1).trans (r1.cell (i := 0) rfl), (hb.cell (p := ⟨w.heap.size, 1, none⟩) hz1).trans (r1.cell (i := 1) rfl), (hb.cell (p := ⟨w.heap.size, 2, none⟩) hz1).trans (r1.cell (i := 2) rfl),
      (hb.cell (p := ⟨w.heap.size + 1, 0, none⟩) hz2).trans (r2.cell (i := 0) rfl), (hb.cell (p := ⟨w.heap.size + 1, 1, none⟩) hz2).trans (r2.cell (i := 1) rfl), (hb.cell (p := ⟨w.heap.size + 1, 2, none⟩) hz2).trans (r2.cell (i := 2) rfl)⟩
  have hll : p.k.len ≤ maxLen := Nat.le_trans (Fo.len_le_size _) (Nat.le_trans hp (by decide))
  have hlx : x.k.len ≤ maxLen := Nat.le_trans (Fo.len_le_size _) (Nat.le_trans hxs (by decide))
  have C1 := Lib.hid (show Calls Try.prog 57 #[.agg #[.int .i64 p.op, .int .i64 p.n, .slice A p.k.len c], .int .i64 80] W.drew (Gives (.int .i64 (cntOf p.k.size 80 : Nat)) W.drew) from l1Count_any p.k.size p.op p.n p.k A c 80 W.drew rfl ((hl.up hb).up b0) hll (Nat.le_refl _))
  have HC2 := Lib.hid (show ∀ w' : World, Below W.heap.size W w' → Calls Try.prog 58 #[.agg #[.int .i64 p.op, .int .i64 p.n, .slice A p.k.len c], .int .i64 v] w' (Gives (.int .i64 ((cntP v p : Nat) : Int)) w') from fun w' hb' => specCount_any p.k.size v p.op p.n p.k A c w' rfl ((hl.up hb).up hb') (Nat.le_trans hp (by decide)))
  have HC3 := Lib.hid (show ∀ w' : World, Below W.heap.size W w' → Calls Try.prog 57 #[.agg #[.int .i64 x.op, .int .i64 x.n, .slice X x.k.len cx], .int .i64 80] w' (Gives (.int .i64 (cntOf x.k.size 80 : Nat)) w') from fun w' hb' => l1Count_any x.k.size x.op x.n x.k X cx 80 w' rfl ((hx.up hb).up hb') hlx (Nat.le_refl _))
  have HSS := Lib.hid hS
  have B0 := Lib.hid b0
  have s0 := hS _ b0
  have HB := Lib.hid hb
  have hcb : cntP v p ≤ 81 := Nat.le_trans (cntN_le v p.op p.n p.k) (by omega)
  have HFW := Lib.hid (show decide (IntKind.i64.wrap (((cntOf p.k.size 80 : Nat) : Int) + IntKind.i64.wrap (((cntP v p : Nat) : Int) * IntKind.i64.wrap (((cntOf x.k.size 80 : Nat) : Int) - 1))) ≤ 80) = fitsB p v x by
    rw [fits_wrap (by rw [cntOf_small hp]; omega) hcb (by rw [cntOf_small hxs]; omega) (by rw [cntOf_small hxs]; omega), cntOf_small hp, cntOf_small hxs]
    rfl)
  clear hS hz1 hz2 hll hlx hl hx hb r1 r2 b0 hcb hp hxs
  generalize cntOf p.k.size 80 = na at C1 HFW
  generalize cntOf x.k.size 80 = nx at HC3 HFW
  generalize cntP v p = nb at HC2 HFW
  go_enter Try.func39, Try.ntmps39
  go_upto_region 1 with fail
  rw [← hW]
  clear hW
  go_region_held3 (fun w' => w'.cell? ⟨w.heap.size, 0, none⟩ = some (Value.int .i64 p.op) ∧ w'.cell? ⟨w.heap.size, 1, none⟩ = some (Value.int .i64 p.n) ∧ w'.cell? ⟨w.heap.size, 2, none⟩ = some (Value.slice A p.k.len c) ∧ w'.cell? ⟨w.heap.size + 1, 0, none⟩ = some (Value.int .i64 x.op) ∧ w'.cell? ⟨w.heap.size + 1, 1, none⟩ = some (Value.int .i64 x.n) ∧ w'.cell? ⟨w.heap.size + 1, 2, none⟩ = some (Value.slice X x.k.len cx))
    (first | with_reducible exact s0 | with_reducible exact s1 | with_reducible exact s2 | with_reducible exact s3 | fail)
    (first
      | (go_at_call 57
         with_reducible refine C3.out.mono ?_
         rintro e w3 ⟨rfl, hb3⟩
         have B3 := Lib.hid (B2.out.trans (hb3.mono B2.out.size))
         have s3 := HSS.out _ B3.out
         clear hb3)
      | (go_at_call 58
         with_reducible refine C2.out.mono ?_
         rintro e w2 ⟨rfl, hb2⟩
         have B2 := Lib.hid (B1.out.trans (hb2.mono B1.out.size))
         have C3 := Lib.hid (HC3.out w2 B2.out)
         have s2 := HSS.out _ B2.out
         clear hb2)
      | (go_at_call 57
         with_reducible refine C1.out.mono ?_
         rintro e w1 ⟨rfl, hb1⟩
         have B1 := Lib.hid (B0.out.trans (hb1.mono B0.out.size))
         have C2 := Lib.hid (HC2.out w1 B1.out)
         have s1 := HSS.out _ B1.out
         clear hb1)
      | fail)
  all_goals
    go_wp2_with fail
    go_ret
    exact ⟨ret_bool (by rw [← HFW.out]), HB.out.trans (B3.out.mono HB.out.size)⟩
theorem sub_fits {p x y : Nd} {v : Int} (hf : FitN p) (hno : fitsB p v x = false) (h : putN (p.k.size + 1) p v x = some y) : ndIs y = false := by
  have hs := putN_size _ p y hf h
  cases hy : ndIs y with
  | false => rfl
  | true =>
    have h1 := small_size (ndIs_small hy)
    have h2 := ndIs_small hy
    unfold smallOk at h2
    simp only [Bool.and_eq_true, decide_eq_true_iff] at h2
    have h3 := of_decide_eq_false hno
    omega
/-- What the model asks first. -/
def subOkS (p : Nd) (v : Int) (x : Nd) : Bool := subOk p v x && fitsB p v x
theorem subB_noS {p x : Nd} {v : Int} (h : subOkS p v x = false) : subB p v x = none := by
  cases h0 : subOk p v x with
  | false => exact subB_no h0
  | true =>
    have hf : fitsB p v x = false := by unfold subOkS at h; rw [h0, Bool.true_and] at h; exact h
    cases hp : putN (p.k.size + 1) p v x with
    | none => exact subB_none hp
    | some y => exact subB_bad hp (sub_fits (fitN_is (subOk_is h0).1) hf hp)

set_option maxHeartbeats 4000000 in
theorem specSub_any (p : Nd) (v : Int) (x : Nd) (A X : Option Addr) (c cx : Nat) (w : World) (hl : Lies w 0 w.heap.size A 0 p.k) (hx : Lies w 0 w.heap.size X 0 x.k) (hsz : p.k.size ≤ 1048576) (hlx : x.k.len ≤ maxLen) :
    Calls Try.prog 15 #[.agg #[.int .i64 p.op, .int .i64 p.n, .slice A p.k.len c], .int .i64 v, .agg #[.int .i64 x.op, .int .i64 x.n, .slice X x.k.len cx]] w (GivesN ((subB p v x).getD nd0) (subB p v x).isSome w) := by
  obtain ⟨hb, r1, r2, r3⟩ := three_boxes w 25 25 25 #[Value.int IntKind.i64 p.op, Value.int IntKind.i64 p.n, Value.slice A p.k.len c] #[Value.int IntKind.i64 x.op, Value.int IntKind.i64 x.n, Value.slice X x.k.len cx] #[.int .i64 0, .int .i64 0, .slice none 0 0]
  obtain ⟨W, hW⟩ : ∃ W, W = ((w.alloc (Obj.cells #[Value.int IntKind.i64 p.op, Value.int IntKind.i64 p.n, Value.slice A p.k.len c] 25)).alloc (Obj.cells #[Value.int IntKind.i64 x.op, Value.int IntKind.i64 x.n, Value.slice X x.k.len cx] 25)).alloc (Obj.cells #[.int .i64 0, .int .i64 0, .slice none 0 0] 25) := ⟨_, rfl⟩
  rw [← hW] at hb r1 r2 r3
  have HB := Lib.hid hb
  have HR1 := Lib.hid r1
  have HR2 := Lib.hid r2
  have HR3 := Lib.hid r3
  have HX0 := Lib.hid hx
  have HC := Lib.hid (ownExpr_any p.op p.n p.k A c W (hl.up hb) hsz)
  have HLX := Lib.hid hlx
  have q0 := r1.cell (i := 0) rfl
  have q1 := r1.cell (i := 1) rfl
  have q2 := r1.cell (i := 2) rfl
  clear hb r1 r2 r3 hl hx hsz hlx
  obtain ⟨R, hR⟩ : ∃ R, R = subB p v x := ⟨_, rfl⟩
  rw [← hR]
  have HRR := Lib.hid hR
  clear hR
  obtain ⟨ok, hok⟩ : ∃ ok, ok = subOkS p v x := ⟨_, rfl⟩
  have HOK := Lib.hid hok
  clear hok
  go_enter Try.func15, Try.ntmps15
  go_upto_region 1 with fail
  rw [← hW]
  clear hW
  go_wp2_with fail
  refine HC.out.mono ?_
  rintro e w1 ⟨A1, c1, bs, rfl, ht, hb1⟩
  have hr1 := HR1.out.below hb1 HR1.out.size
  have hr2 := HR2.out.below hb1 HR2.out.size
  have hr3 := HR3.out.below hb1 HR3.out.size
  have f0 := hr1.free 0
  have f1 := hr1.free 1
  have f2 := hr1.free 2
  have c0 := hr1.cell (i := 0) rfl
  have cc1 := hr1.cell (i := 1) rfl
  have cc2 := hr1.cell (i := 2) rfl
  obtain ⟨W1, hW1⟩ : ∃ W1, W1 = ((w1.setCell ⟨w.heap.size, 0, none⟩ (.int .i64 p.op)).setCell ⟨w.heap.size, 1, none⟩ (.int .i64 p.n)).setCell ⟨w.heap.size, 2, none⟩ (.slice A1 p.k.len c1) := ⟨_, rfl⟩
  have hs1 := ((hr1.put 0 (.int .i64 p.op)).put 1 (.int .i64 p.n)).put 2 (.slice A1 p.k.len c1)
  have hs2 := ((hr2.apart (p := ⟨w.heap.size, 0, none⟩) (by dsimp only; omega) (.int .i64 p.op)).apart (p := ⟨w.heap.size, 1, none⟩) (by dsimp only; omega) (.int .i64 p.n)).apart (p := ⟨w.heap.size, 2, none⟩) (by dsimp only; omega) (.slice A1 p.k.len c1)
  have hs3 := ((hr3.apart (p := ⟨w.heap.size, 0, none⟩) (by dsimp only; omega) (.int .i64 p.op)).apart (p := ⟨w.heap.size, 1, none⟩) (by dsimp only; omega) (.int .i64 p.n)).apart (p := ⟨w.heap.size, 2, none⟩) (by dsimp only; omega) (.slice A1 p.k.len c1)
  have hz1 := HR1.out.size
  have ht1 := ((ht.put (p := ⟨w.heap.size, 0, none⟩) hz1 (.int .i64 p.op)).put (p := ⟨w.heap.size, 1, none⟩) hz1 (.int .i64 p.n)).put (p := ⟨w.heap.size, 2, none⟩) hz1 (.slice A1 p.k.len c1)
  have hbw := (((HB.out.trans (hb1.mono HB.out.size)).setCell (p := ⟨w.heap.size, 0, none⟩) (Nat.le_refl _) (.int .i64 p.op)).setCell (p := ⟨w.heap.size, 1, none⟩) (Nat.le_refl _) (.int .i64 p.n)).setCell (p := ⟨w.heap.size, 2, none⟩) (Nat.le_refl _) (.slice A1 p.k.len c1)
  rw [← hW1] at hs1 hs2 hs3 ht1 hbw
  have hsl := ht1.slice
  have HS1 := Lib.hid (show Row W1 w.heap.size 25 #[.int .i64 p.op, .int .i64 p.n, .slice A1 p.k.len c1] from hs1)
  have HS2 := Lib.hid hs2
  have HS3 := Lib.hid hs3
  have HB1 := Lib.hid hbw
  have HL1 := Lib.hid ((ht1.lies fun x hx => (ht1.lt x hx).2).mono_ (Nat.zero_le _) (Nat.le_refl _))
  have HLEN := Lib.hid (show p.k.len ≤ maxLen by obtain ⟨_, c9, e9, h1, h2⟩ := hsl; exact Nat.le_trans h1 h2)
  have HX1 := Lib.hid (HX0.out.up hbw)
  clear hr1 hr2 hr3 hs1 hs2 hs3 ht1 hbw hsl hz1 ht hb1 HC HR1 HR2 HR3
  go_upto_region 2 with fail
  rw [← hW1]
  clear hW1 q0 q1 q2 f0 f1 f2 c0 cc1 cc2
  go_cut [34] from 12 to 34 (fun s wd => s = .bool (!ok) ∧ Below W1.heap.size W1 wd)
  case first =>
    have q0 := HS1.out.cell (i := 0) rfl
    have q1 := HS1.out.cell (i := 1) rfl
    have q2 := HS1.out.cell (i := 2) rfl
    have HVL := Lib.hid (show Calls Try.prog 29 #[.agg #[.int .i64 p.op, .int .i64 p.n, .slice A1 p.k.len c1]] W1 (Gives (.bool (ndIs p)) W1) from l1Any_any p.op p.n p.k A1 c1 W1 HL1.out HLEN.out)
    cases hn : ndIs p with
    | false =>
      have HZ := Lib.hid (show ok = false by rw [HOK.out]; unfold subOkS subOk; simp [hn])
      rw [hn] at HVL
      clear hn
      go_wp2_with fail
      refine HVL.out.mono ?_
      rintro e w2 ⟨rfl, hb2⟩
      have HB2 := Lib.hid hb2
      clear hb2 HVL
      go_wp2_with fail
      go_meet
      exact ⟨by rw [HZ.out]; rfl, HB2.out⟩
    | true =>
      have HN := Lib.hid hn
      rw [hn] at HVL
      clear hn
      go_wp2_with fail
      refine HVL.out.mono ?_
      rintro e w2 ⟨rfl, hb2⟩
      have HB2 := Lib.hid hb2
      have p0 := (HS2.out.below hb2 HS2.out.size).cell (i := 0) rfl
      have p1 := (HS2.out.below hb2 HS2.out.size).cell (i := 1) rfl
      have p2 := (HS2.out.below hb2 HS2.out.size).cell (i := 2) rfl
      have HV2 := Lib.hid (show Calls Try.prog 29 #[.agg #[.int .i64 x.op, .int .i64 x.n, .slice X x.k.len cx]] w2 (Gives (.bool (ndIs x)) w2) from l1Any_any x.op x.n x.k X cx w2 (HX1.out.up hb2) HLX.out)
      clear hb2 HVL q0 q1 q2
      cases hn : ndIs x with
      | false =>
        have HZ := Lib.hid (show ok = false by rw [HOK.out]; unfold subOkS subOk; simp [hn])
        rw [hn] at HV2
        clear hn
        go_wp2_with fail
        refine HV2.out.mono ?_
        rintro e w3 ⟨rfl, hb3⟩
        have HB3 := Lib.hid (HB2.out.trans (hb3.mono HB2.out.size))
        clear hb3 HV2
        go_wp2_with fail
        go_meet
        exact ⟨by rw [HZ.out]; rfl, HB3.out⟩
      | true =>
        have HNX := Lib.hid hn
        rw [hn] at HV2
        clear hn
        go_wp2_with fail
        refine HV2.out.mono ?_
        rintro e w3 ⟨rfl, hb3⟩
        have hb4 := HB2.out.trans (hb3.mono HB2.out.size)
        have HB3 := Lib.hid hb4
        have q0 := (HS1.out.below hb4 HS1.out.size).cell (i := 0) rfl
        have q1 := (HS1.out.below hb4 HS1.out.size).cell (i := 1) rfl
        have q2 := (HS1.out.below hb4 HS1.out.size).cell (i := 2) rfl
        have y0 := (HS2.out.below hb4 HS2.out.size).cell (i := 0) rfl
        have y1 := (HS2.out.below hb4 HS2.out.size).cell (i := 1) rfl
        have y2 := (HS2.out.below hb4 HS2.out.size).cell (i := 2) rfl
        have HCF := Lib.hid (fits_any p v x A1 X c1 cx w3 (HL1.out.up hb4) (HX1.out.up hb4) (small_size (ndIs_small HN.out)) (small_size (ndIs_small HNX.out)))
        clear hb3 hb4 HV2 p0 p1 p2
        by_cases h0 : v < 0
        · have HZ := Lib.hid (show ok = false by rw [HOK.out]; unfold subOkS subOk inVar; have : ¬ 0 ≤ v := by omega
                                                 simp [this])
          go_wp2_with fail
          go_meet
          exact ⟨by rw [HZ.out]; rfl, HB3.out⟩
        · by_cases h8 : v ≥ 8
          · have HZ := Lib.hid (show ok = false by rw [HOK.out]; unfold subOkS subOk inVar; have : ¬ v < 8 := by omega
                                                   simp [this])
            go_wp2_with fail
            go_meet
            exact ⟨by rw [HZ.out]; rfl, HB3.out⟩
          · have HZ := Lib.hid (show ok = fitsB p v x by
              rw [HOK.out]
              unfold subOkS subOk
              rw [HN.out, HNX.out, show inVar v = true by unfold inVar; simp; omega]
              rfl)
            go_wp2_with fail
            refine HCF.out.mono ?_
            rintro e w5 ⟨rfl, hb5⟩
            have HB5 := Lib.hid (HB3.out.trans (hb5.mono HB3.out.size))
            clear hb5 HCF
            go_wp2_with fail
            go_meet
            exact ⟨by rw [HZ.out]; first | rfl | (simp; intro h9; omega), HB5.out⟩
  case rest =>
    obtain ⟨rfl, hbd⟩ := hcut
    obtain ⟨W2, hW2⟩ : ∃ W2, W2 = wc := ⟨_, rfl⟩
    rw [← hW2] at hbd ⊢
    clear hW2 wc
    have HBD := Lib.hid (HB1.out.trans (hbd.mono HB1.out.size))
    have HT1 := Lib.hid (HS1.out.below hbd HS1.out.size)
    have HT2 := Lib.hid (HS2.out.below hbd HS2.out.size)
    have HT3 := Lib.hid (HS3.out.below hbd HS3.out.size)
    have HLD := Lib.hid (HL1.out.up hbd)
    have HXD := Lib.hid (HX1.out.up hbd)
    clear hbd HL1 HX1 HS1 HS2 HS3
    cases ok with
    | false =>
      have HRN := Lib.hid (show R = none from HRR.out.trans (subB_noS HOK.out.symm))
      have c0 := HT3.out.cell (i := 0) rfl
      have c3 := HT3.out.cell (i := 1) rfl
      have c2 := HT3.out.cell (i := 2) rfl
      have f0 := HT3.out.free 0
      have f1 := HT3.out.free 1
      have f2 := HT3.out.free 2
      have hr3 := ((HT3.out.put 0 (.int .i64 0)).put 1 (.int .i64 0)).put 2 (.slice none 0 0)
      have r0 := hr3.cell (i := 0) rfl
      have r1 := hr3.cell (i := 1) rfl
      have r2 := hr3.cell (i := 2) rfl
      have HBC := Lib.hid (((HBD.out.setCell (p := ⟨w.heap.size + 1 + 1, 0, none⟩) (by dsimp only; omega) (.int .i64 0)).setCell (p := ⟨w.heap.size + 1 + 1, 1, none⟩) (by dsimp only; omega) (.int .i64 0)).setCell (p := ⟨w.heap.size + 1 + 1, 2, none⟩) (by dsimp only; omega) (.slice none 0 0))
      clear hr3
      go_wp2_with fail
      refine bodyPost_ret (v := .tuple #[.agg #[.int .i64 0, .int .i64 0, .slice none 0 0], .bool false]) ?_ rfl (by rw [HRN.out]; exact GivesN.zero HBC.out)
      simp [results, Try.f15, go_sem, r0, r1, r2]
    | true =>
      obtain ⟨hok0, _⟩ : subOk p v x = true ∧ fitsB p v x = true := by
        have := HOK.out.symm
        unfold subOkS at this
        simpa only [Bool.and_eq_true] using this
      obtain ⟨hnp, hnx, hv⟩ := subOk_is hok0
      have HOK0 := Lib.hid hok0
      obtain ⟨RP, hRP⟩ : ∃ RP, RP = putN (p.k.size + 1) p v x := ⟨_, rfl⟩
      have HRP := Lib.hid hRP
      have HC := Lib.hid (show Calls Try.prog 32 #[.agg #[.int .i64 p.op, .int .i64 p.n, .slice A1 p.k.len c1], .int .i64 v, .agg #[.int .i64 x.op, .int .i64 x.n, .slice X x.k.len cx]] W2 (PutPost RP W2) by
        rw [hRP]
        exact put_any _ p v x A1 X c1 cx W2 ⟨HLD.out, HXD.out, Nat.lt_succ_self _, small_size (ndIs_small hnp), fitN_is hnp, node_i64 hnp, small_size (ndIs_small hnx), node_i64 hnx, inVar_i64 hv⟩)
      have q0 := HT1.out.cell (i := 0) rfl
      have q1 := HT1.out.cell (i := 1) rfl
      have q2 := HT1.out.cell (i := 2) rfl
      have p0 := HT2.out.cell (i := 0) rfl
      have p1 := HT2.out.cell (i := 1) rfl
      have p2 := HT2.out.cell (i := 2) rfl
      clear hRP hnp hnx hv hok0
      go_wp2_with fail
      refine HC.out.mono ?_
      rintro e w5 hpp
      obtain ⟨o5, m5, A5, l5, c5, rfl, hb5, hy5⟩ := PutPost.opened hpp
      obtain ⟨wk, hwk⟩ : ∃ wk, wk = w5.alloc (Obj.cells #[Value.int .i64 o5, Value.int .i64 m5, Value.slice A5 l5 c5] 25) := ⟨_, rfl⟩
      have hbk : Below w5.heap.size w5 wk := by rw [hwk]; exact (Below.refl _ _).alloc (Nat.le_refl _) _
      have hrk : Row wk w5.heap.size 25 #[Value.int .i64 o5, Value.int .i64 m5, Value.slice A5 l5 c5] := by rw [hwk]; exact Row.fresh _ _ _
      have hb6 := hb5.trans (hbk.mono hb5.size)
      have HB6 := Lib.hid hb6
      have HRK := Lib.hid hrk
      have HY5 := Lib.hid (show ∀ y, RP = some y → o5 = y.op ∧ m5 = y.n ∧ l5 = y.k.len ∧ ∃ bs, Tree wk W2.heap.size (.slice A5 l5 c5) y.k bs from fun y hy => by
        obtain ⟨e1, e2, e3, bs, ht⟩ := hy5 y hy
        exact ⟨e1, e2, e3, bs, ht.over hbk⟩)
      clear hpp hb5 hy5 hbk hrk hb6 q0 q1 q2 p0 p1 p2 HC
      cases RP with
      | none =>
        have HRN := Lib.hid (show R = none from HRR.out.trans (subB_none HRP.out.symm))
        have HU3 := Lib.hid (HT3.out.below HB6.out HT3.out.size)
        go_upto_region 5 with fail
        rw [← hwk]
        clear hwk
        have c0 := HU3.out.cell (i := 0) rfl
        have c3 := HU3.out.cell (i := 1) rfl
        have c2 := HU3.out.cell (i := 2) rfl
        have f0 := HU3.out.free 0
        have f1 := HU3.out.free 1
        have f2 := HU3.out.free 2
        have hr3 := ((HU3.out.put 0 (.int .i64 0)).put 1 (.int .i64 0)).put 2 (.slice none 0 0)
        have r0 := hr3.cell (i := 0) rfl
        have r1 := hr3.cell (i := 1) rfl
        have r2 := hr3.cell (i := 2) rfl
        have HBC := Lib.hid ((((HBD.out.trans (HB6.out.mono HBD.out.size)).setCell (p := ⟨w.heap.size + 1 + 1, 0, none⟩) (by dsimp only; omega) (.int .i64 0)).setCell (p := ⟨w.heap.size + 1 + 1, 1, none⟩) (by dsimp only; omega) (.int .i64 0)).setCell (p := ⟨w.heap.size + 1 + 1, 2, none⟩) (by dsimp only; omega) (.slice none 0 0))
        clear hr3
        go_wp2_with fail
        refine bodyPost_ret (v := .tuple #[.agg #[.int .i64 0, .int .i64 0, .slice none 0 0], .bool false]) ?_ rfl (by rw [HRN.out]; exact GivesN.zero HBC.out)
        simp [results, Try.f15, go_sem, r0, r1, r2]
      | some y =>
        obtain ⟨rfl, rfl, rfl, bs, ht⟩ := HY5.out y rfl
        have HT := Lib.hid ht
        have HTL := Lib.hid ((ht.lies fun z hz => (ht.lt z hz).2).mono_ (Nat.zero_le _) (Nat.le_refl _))
        have HTS := Lib.hid (show y.k.len ≤ maxLen by obtain ⟨_, _, _, h1, h2⟩ := ht.slice; exact Nat.le_trans h1 h2)
        clear ht HY5
        have HV := Lib.hid (show Calls Try.prog 29 #[.agg #[.int .i64 y.op, .int .i64 y.n, .slice A5 y.k.len c5]] wk (Gives (.bool (ndIs y)) wk) from l1Any_any y.op y.n y.k A5 c5 wk HTL.out HTS.out)
        go_upto_region 5 with fail
        rw [← hwk]
        clear hwk
        have q0 := HRK.out.cell (i := 0) rfl
        have q1 := HRK.out.cell (i := 1) rfl
        have q2 := HRK.out.cell (i := 2) rfl
        cases hy : ndIs y with
        | false =>
          have HRN := Lib.hid (show R = none from HRR.out.trans (subB_bad HRP.out.symm hy))
          rw [hy] at HV
          clear hy
          go_wp2_with fail
          refine HV.out.mono ?_
          rintro e w7 ⟨rfl, hb7⟩
          have hb8 := HB6.out.trans (hb7.mono HB6.out.size)
          have HB8 := Lib.hid hb8
          have HU3 := Lib.hid (HT3.out.below hb8 HT3.out.size)
          clear hb7 hb8 HV q0 q1 q2
          have c0 := HU3.out.cell (i := 0) rfl
          have c3 := HU3.out.cell (i := 1) rfl
          have c2 := HU3.out.cell (i := 2) rfl
          have f0 := HU3.out.free 0
          have f1 := HU3.out.free 1
          have f2 := HU3.out.free 2
          have hr3 := ((HU3.out.put 0 (.int .i64 0)).put 1 (.int .i64 0)).put 2 (.slice none 0 0)
          have r0 := hr3.cell (i := 0) rfl
          have r1 := hr3.cell (i := 1) rfl
          have r2 := hr3.cell (i := 2) rfl
          have HBC := Lib.hid ((((HBD.out.trans (HB8.out.mono HBD.out.size)).setCell (p := ⟨w.heap.size + 1 + 1, 0, none⟩) (by dsimp only; omega) (.int .i64 0)).setCell (p := ⟨w.heap.size + 1 + 1, 1, none⟩) (by dsimp only; omega) (.int .i64 0)).setCell (p := ⟨w.heap.size + 1 + 1, 2, none⟩) (by dsimp only; omega) (.slice none 0 0))
          clear hr3
          go_wp2_with fail
          refine bodyPost_ret (v := .tuple #[.agg #[.int .i64 0, .int .i64 0, .slice none 0 0], .bool false]) ?_ rfl (by rw [HRN.out]; exact GivesN.zero HBC.out)
          simp [results, Try.f15, go_sem, r0, r1, r2]
        | true =>
          have HRN := Lib.hid (show R = some y from HRR.out.trans (subB_yes HOK0.out HRP.out.symm hy))
          rw [hy] at HV
          clear hy
          go_wp2_with fail
          refine HV.out.mono ?_
          rintro e w7 ⟨rfl, hb7⟩
          have hb8 := HB6.out.trans (hb7.mono HB6.out.size)
          have HB8 := Lib.hid hb8
          have HU3 := Lib.hid (HT3.out.below hb8 HT3.out.size)
          have HT7 := Lib.hid (HT.out.over hb7)
          have HRK7 := Lib.hid (HRK.out.below hb7 HRK.out.size)
          clear hb7 hb8 HV q0 q1 q2
          have q0 := HRK7.out.cell (i := 0) rfl
          have q1 := HRK7.out.cell (i := 1) rfl
          have q2 := HRK7.out.cell (i := 2) rfl
          have c0 := HU3.out.cell (i := 0) rfl
          have c3 := HU3.out.cell (i := 1) rfl
          have c2 := HU3.out.cell (i := 2) rfl
          have f0 := HU3.out.free 0
          have f1 := HU3.out.free 1
          have f2 := HU3.out.free 2
          have hr3 := ((HU3.out.put 0 (.int .i64 y.op)).put 1 (.int .i64 y.n)).put 2 (.slice A5 y.k.len c5)
          have r0 := hr3.cell (i := 0) rfl
          have r1 := hr3.cell (i := 1) rfl
          have r2 := hr3.cell (i := 2) rfl
          have hz3 := HT3.out.size
          have HTC := Lib.hid ((((HT7.out.put (p := ⟨w.heap.size + 1 + 1, 0, none⟩) hz3 (.int .i64 y.op)).put (p := ⟨w.heap.size + 1 + 1, 1, none⟩) hz3 (.int .i64 y.n)).put (p := ⟨w.heap.size + 1 + 1, 2, none⟩) hz3 (.slice A5 y.k.len c5)).lower HBD.out.size)
          have HBC := Lib.hid ((((HBD.out.trans (HB8.out.mono HBD.out.size)).setCell (p := ⟨w.heap.size + 1 + 1, 0, none⟩) (by dsimp only; omega) (.int .i64 y.op)).setCell (p := ⟨w.heap.size + 1 + 1, 1, none⟩) (by dsimp only; omega) (.int .i64 y.n)).setCell (p := ⟨w.heap.size + 1 + 1, 2, none⟩) (by dsimp only; omega) (.slice A5 y.k.len c5))
          clear hr3 hz3
          go_wp2_with fail
          refine bodyPost_ret (v := .tuple #[.agg #[.int .i64 y.op, .int .i64 y.n, .slice A5 y.k.len c5], .bool true]) ?_ rfl (by rw [HRN.out]; exact ⟨A5, c5, bs, rfl, HTC.out, HBC.out⟩)
          simp [results, Try.f15, go_sem, r0, r1, r2]
theorem ren_le (p : Nd) (u : Int) : ((renB p u).getD nd0).k.size ≤ 1048576 := by
  cases h : renOk p u with
  | false => rw [renB_no h]; decide
  | true =>
    obtain ⟨oa, ma, ka, ob, mb, kb, v, q, h7, ek, hv, rfl, hn, hh, hfit, hq, hr⟩ := renB_yes h
    have hf := hfit.2
    rw [ek, fitP_cons, fitP_cons] at hf
    have hs := (putN_ren hv _ ⟨ob, mb, kb⟩ q hf.2.1 hh hq).size
    have hz := small_is hn
    rw [hr]
    rw [ek] at hz
    simp only [Option.getD_some, pair, Fo.size] at hs hz ⊢
    omega
theorem sub_le (p : Nd) (v : Int) (x : Nd) : ((subB p v x).getD nd0).k.size ≤ 1048576 := by
  unfold subB
  split
  · split
    · decide
    · split
      · rename_i hy
        have := small_size (ndIs_small hy)
        simp only [Option.getD_some]
        omega
      · decide
  · decide
end Go.Proofs.Ytjlaabipgppijaa
