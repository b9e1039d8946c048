/-
  impl.RenameBound.
  impl.SubstVar.
  spec.RenameBound.
  spec.SubstVar.
-/
import Derived.Test.YtlkicbekabcelaaPutI
import Derived.Test.YtlkicbekabcelaaNodeM
import Derived.Test.YtlkicbekabcelaaOwnS
import Derived.Test.YtlkicbekabcelaaOpen
import Derived.Test.YtlkicbekabcelaaVars
import Derived.Test.YtlkicbekabcelaaPutD
import Derived.Test.YtlkicbekabcelaaNamesD
import Derived.Test.YtlkicbekabcelaaPutSS
import Derived.Test.YtlkicbekabcelaaShape
namespace Go.Proofs.Ytlkicbekabcelaa
open Go.RowKit Go.Shelf
set_option maxRecDepth 100000

def renOk (p : Nd) (u : Int) : Bool := decide (p.op = 7) && (nodeIs p.op p.n p.k (firstS 8) && (inVar u && !decide (u ∈ varsP (kid2 p.k))))
def renB (p : Nd) (u : Int) : Option Nd := if renOk p u = true then (match putN (p.k.size + 1) (kid2 p.k) p.n ⟨2, u, .nil⟩ with | none => none | some q => some ⟨7, u, pair (kid1 p.k) q⟩) else none
theorem renB_no {p : Nd} {u : Int} (h : renOk p u = false) : renB p u = none := by unfold renB; rw [if_neg (by rw [h]; simp)]
/-- Where it can be renamed: what it is. -/
theorem renB_yes {p : Nd} {u : Int} (h : renOk p u = true) : ∃ (oa ma : Int) (ka : Fo) (ob mb : Int) (kb : Fo) (v : Nat) (q : Nd), p.op = 7 ∧ p.k = .cons oa ma ka (.cons ob mb kb .nil) ∧ v < 8 ∧ u = (v : Int) ∧ nodeIs p.op p.n p.k (firstS 8) = true ∧ hasB ownVL ⟨ob, mb, kb⟩ v = false ∧ FitN p ∧
    putN (p.k.size + 1) ⟨ob, mb, kb⟩ p.n ⟨2, (v : Int), .nil⟩ = some q ∧ renB p u = some ⟨7, u, pair ⟨oa, ma, ka⟩ q⟩ := by
  have h0 := h
  unfold renOk at h
  simp only [Bool.and_eq_true, decide_eq_true_iff, Bool.not_eq_true', decide_eq_false_iff_not] at h
  obtain ⟨h7, hn, hu, hm⟩ := h
  have hfit := fitN_is hn
  obtain ⟨oa, ma, ka, ob, mb, kb, ek⟩ := FitN.two (p := ⟨p.op, p.n, p.k⟩) hfit h7
  obtain ⟨v, hv, rfl⟩ := inVar_at hu
  dsimp only at ek
  have hh : hasB ownVL ⟨ob, mb, kb⟩ v = false := by
    cases e : hasB ownVL ⟨ob, mb, kb⟩ v with
    | false => rfl
    | true =>
      rw [ek] at hm
      exact absurd (numsUpto_at.2 ⟨hv, e⟩) hm
  have hff := hfit.2
  dsimp only at hff
  rw [ek, fitP_cons, fitP_cons] at hff
  obtain ⟨q, hq⟩ := Option.isSome_iff_exists.1 (putN_is (n := p.n) (w := v) (p.k.size + 1) ⟨ob, mb, kb⟩ hff.2.1 hh (by rw [ek]; simp only [Fo.size]; omega))
  refine ⟨oa, ma, ka, ob, mb, kb, v, q, h7, ek, hv, rfl, hn, hh, hfit, hq, ?_⟩
  unfold renB
  rw [if_pos h0, ek]
  show (match putN ((Fo.cons oa ma ka (.cons ob mb kb .nil)).size + 1) (⟨ob, mb, kb⟩ : Nd) p.n ⟨2, (v : Int), .nil⟩ with | none => none | some q => some (⟨7, (v : Int), pair (⟨oa, ma, ka⟩ : Nd) q⟩ : Nd)) = _
  rw [← ek, hq]

end Go.Proofs.Ytlkicbekabcelaa

namespace Go.Proofs.Ytlkicbekabcelaa
open Go.RowKit Go.Shelf
set_option maxRecDepth 100000

def subOk (p : Nd) (v : Int) (x : Nd) : Bool := ndIs p && (ndIs x && inVar v)
def subB (p : Nd) (v : Int) (x : Nd) : Option Nd := if subOk p v x = true then (match putN (p.k.size + 1) p v x with | none => none | some y => if ndIs y = true then some y else none) else none
theorem subB_no {p x : Nd} {v : Int} (h : subOk p v x = false) : subB p v x = none := by unfold subB; rw [if_neg (by rw [h]; simp)]
theorem subB_none {p x : Nd} {v : Int} (h : putN (p.k.size + 1) p v x = none) : subB p v x = none := by unfold subB; rw [h]; split <;> rfl
theorem subB_bad {p x y : Nd} {v : Int} (h : putN (p.k.size + 1) p v x = some y) (hy : ndIs y = false) : subB p v x = none := by unfold subB; rw [h]; split <;> simp [hy]
theorem subB_yes {p x y : Nd} {v : Int} (h0 : subOk p v x = true) (h : putN (p.k.size + 1) p v x = some y) (hy : ndIs y = true) : subB p v x = some y := by unfold subB; rw [if_pos h0, h]; simp [hy]
theorem subOk_is {p x : Nd} {v : Int} (h : subOk p v x = true) : ndIs p = true ∧ ndIs x = true ∧ inVar v = true := by
  unfold subOk at h
  simpa only [Bool.and_eq_true] using h

set_option maxHeartbeats 2000000 in
theorem implSub_any (p : Nd) (v : Int) (x : Nd) (A X : Option Addr) (c cx : Nat) (w : World) (hl : Lies w 0 w.heap.size A 0 p.k) (hx : Lies w 0 w.heap.size X 0 x.k) (hlen : p.k.len ≤ maxLen) (hxl : x.k.len ≤ cx) (hxc : cx ≤ maxLen) :
    Calls Try.prog 6 #[.agg #[.int .i64 p.op, .int .i64 p.n, .slice A p.k.len c], .int .i64 v, .agg #[.int .i64 x.op, .int .i64 x.n, .slice X x.k.len cx]] w (GivesN ((subB p v x).getD nd0) (subB p v x).isSome w) := by
  obtain ⟨hb, r1, r2, r3⟩ := three_boxes w 25 25 25 #[Value.int IntKind.i64 p.op, Value.int IntKind.i64 p.n, Value.slice A p.k.len c] #[Value.int IntKind.i64 x.op, Value.int IntKind.i64 x.n, Value.slice X x.k.len cx] #[.int .i64 0, .int .i64 0, .slice none 0 0]
  obtain ⟨W, hW⟩ : ∃ W, W = ((w.alloc (Obj.cells #[Value.int IntKind.i64 p.op, Value.int IntKind.i64 p.n, Value.slice A p.k.len c] 25)).alloc (Obj.cells #[Value.int IntKind.i64 x.op, Value.int IntKind.i64 x.n, Value.slice X x.k.len cx] 25)).alloc (Obj.cells #[.int .i64 0, .int .i64 0, .slice none 0 0] 25) := ⟨_, rfl⟩
  rw [← hW] at hb r1 r2 r3
  have HB := Lib.hid hb
  have HR1 := Lib.hid r1
  have HR2 := Lib.hid r2
  have HR3 := Lib.hid r3
  have HL := Lib.hid (hl.up hb)
  have HX := Lib.hid (hx.up hb)
  have HVL := Lib.hid (show Calls Try.prog 15 #[.agg #[.int .i64 p.op, .int .i64 p.n, .slice A p.k.len c]] W (Gives (.bool (ndIs p)) W) from validOpen_any p.op p.n p.k A c W (hl.up hb) hlen)
  have HXL := Lib.hid (And.intro hxl hxc)
  clear hb r1 r2 r3 hl hx hlen hxl hxc
  obtain ⟨R, hR⟩ : ∃ R, R = subB p v x := ⟨_, rfl⟩
  rw [← hR]
  have HRR := Lib.hid hR
  clear hR
  obtain ⟨ok, hok⟩ : ∃ ok, ok = subOk p v x := ⟨_, rfl⟩
  have HOK := Lib.hid hok
  clear hok
  go_enter Try.func6, Try.ntmps6
  go_upto_region 1 with fail
  rw [← hW]
  clear hW
  go_cut [22] from 10 to 22 (fun s wd => s = .bool (!ok) ∧ Below W.heap.size W wd)
  case first =>
    have q0 := HR1.out.cell (i := 0) rfl
    have q1 := HR1.out.cell (i := 1) rfl
    have q2 := HR1.out.cell (i := 2) rfl
    cases hn : ndIs p with
    | false =>
      have HZ := Lib.hid (show ok = false by rw [HOK.out]; unfold subOk; simp [hn])
      rw [hn] at HVL
      clear hn
      go_wp2_with fail
      refine HVL.out.mono ?_
      rintro e w1 ⟨rfl, hb1⟩
      have HB1 := Lib.hid hb1
      clear hb1 HVL
      go_wp2_with fail
      go_meet
      exact ⟨by rw [HZ.out]; rfl, HB1.out⟩
    | true =>
      rw [hn] at HVL
      have HN := Lib.hid hn
      clear hn
      go_wp2_with fail
      refine HVL.out.mono ?_
      rintro e w1 ⟨rfl, hb1⟩
      have HB1 := Lib.hid hb1
      have p0 := (HR2.out.below hb1 HR2.out.size).cell (i := 0) rfl
      have p1 := (HR2.out.below hb1 HR2.out.size).cell (i := 1) rfl
      have p2 := (HR2.out.below hb1 HR2.out.size).cell (i := 2) rfl
      have HV2 := Lib.hid (show Calls Try.prog 15 #[.agg #[.int .i64 x.op, .int .i64 x.n, .slice X x.k.len cx]] w1 (Gives (.bool (ndIs x)) w1) from validOpen_any x.op x.n x.k X cx w1 (HX.out.up hb1) (Nat.le_trans HXL.out.1 HXL.out.2))
      clear hb1 HVL q0 q1 q2
      cases hn : ndIs x with
      | false =>
        have HZ := Lib.hid (show ok = false by rw [HOK.out]; unfold subOk; simp [hn])
        rw [hn] at HV2
        clear hn
        go_wp2_with fail
        refine HV2.out.mono ?_
        rintro e w2 ⟨rfl, hb2⟩
        have HB2 := Lib.hid (HB1.out.trans (hb2.mono HB1.out.size))
        clear hb2 HV2
        go_wp2_with fail
        go_meet
        exact ⟨by rw [HZ.out]; rfl, HB2.out⟩
      | true =>
        have HZ := Lib.hid (show ok = inVar v by rw [HOK.out]; unfold subOk; rw [HN.out, hn]; rfl)
        rw [hn] at HV2
        clear hn
        go_wp2_with fail
        refine HV2.out.mono ?_
        rintro e w2 ⟨rfl, hb2⟩
        have HB2 := Lib.hid (HB1.out.trans (hb2.mono HB1.out.size))
        have HC := Lib.hid (isVar_any v w2)
        clear hb2 HV2 p0 p1 p2
        go_wp2_with fail
        refine HC.out.mono ?_
        rintro e w3 ⟨rfl, hb3⟩
        have HB3 := Lib.hid (HB2.out.trans (hb3.mono HB2.out.size))
        clear hb3 HC
        go_wp2_with fail
        go_meet
        exact ⟨by rw [HZ.out], HB3.out⟩
  case rest =>
    obtain ⟨rfl, hbd⟩ := hcut
    obtain ⟨W2, hW2⟩ : ∃ W2, W2 = wc := ⟨_, rfl⟩
    rw [← hW2] at hbd ⊢
    clear hW2 wc
    have HBD := Lib.hid (HB.out.trans (hbd.mono HB.out.size))
    have HT1 := Lib.hid (HR1.out.below hbd HR1.out.size)
    have HT2 := Lib.hid (HR2.out.below hbd HR2.out.size)
    have HT3 := Lib.hid (HR3.out.below hbd HR3.out.size)
    have HLD := Lib.hid (HL.out.up hbd)
    have HXD := Lib.hid (HX.out.up hbd)
    clear hbd HVL HL HX
    -- what is returned where it cannot be done
    have hzero : ∀ w9 : World, Below W2.heap.size W2 w9 → R = none → Row w9 (w.heap.size + 1 + 1) 25 #[.int .i64 0, .int .i64 0, .slice none 0 0] := fun w9 hb9 _ => HT3.out.below hb9 HT3.out.size
    have HZERO := Lib.hid hzero
    clear hzero
    cases ok with
    | false =>
      have HRN := Lib.hid (show R = none from HRR.out.trans (subB_no HOK.out.symm))
      have c0 := HT3.out.cell (i := 0) rfl
      have c1 := HT3.out.cell (i := 1) rfl
      have c2 := HT3.out.cell (i := 2) rfl
      have f0 := HT3.out.free 0
      have f1 := HT3.out.free 1
      have f2 := HT3.out.free 2
      have hr3 := ((HT3.out.put 0 (.int .i64 0)).put 1 (.int .i64 0)).put 2 (.slice none 0 0)
      have r0 := hr3.cell (i := 0) rfl
      have r1 := hr3.cell (i := 1) rfl
      have r2 := hr3.cell (i := 2) rfl
      have HBC := Lib.hid (((HBD.out.setCell (p := ⟨w.heap.size + 1 + 1, 0, none⟩) (by dsimp only; omega) (.int .i64 0)).setCell (p := ⟨w.heap.size + 1 + 1, 1, none⟩) (by dsimp only; omega) (.int .i64 0)).setCell (p := ⟨w.heap.size + 1 + 1, 2, none⟩) (by dsimp only; omega) (.slice none 0 0))
      clear hr3
      go_wp2_with fail
      refine bodyPost_ret (v := .tuple #[.agg #[.int .i64 0, .int .i64 0, .slice none 0 0], .bool false]) ?_ rfl (by rw [HRN.out]; exact GivesN.zero HBC.out)
      simp [results, Try.f6, go_sem, r0, r1, r2]
    | true =>
      obtain ⟨hnp, hnx, hv⟩ := subOk_is HOK.out.symm
      obtain ⟨RP, hRP⟩ : ∃ RP, RP = putN (p.k.size + 1) p v x := ⟨_, rfl⟩
      have HRP := Lib.hid hRP
      have HC := Lib.hid (show Calls Try.prog 17 #[.agg #[.int .i64 p.op, .int .i64 p.n, .slice A p.k.len c], .int .i64 v, .agg #[.int .i64 x.op, .int .i64 x.n, .slice X x.k.len cx]] W2 (PutPost RP W2) by
        rw [hRP]
        exact rep_any _ (in_any _) p v x A X c cx W2 HLD.out HXD.out (Nat.lt_succ_self _) (ndIs_small hnp) (fitN_is hnp) (node_i64 hnp) (ndIs_small hnx) (node_i64 hnx) (inVar_i64 hv) HXL.out.1 HXL.out.2)
      have HSP := Lib.hid (And.intro (small_size (ndIs_small hnp)) (small_size (ndIs_small hnx)))
      have HFP := Lib.hid (show FitN p from fitN_is hnp)
      have q0 := HT1.out.cell (i := 0) rfl
      have q1 := HT1.out.cell (i := 1) rfl
      have q2 := HT1.out.cell (i := 2) rfl
      have p0 := HT2.out.cell (i := 0) rfl
      have p1 := HT2.out.cell (i := 1) rfl
      have p2 := HT2.out.cell (i := 2) rfl
      clear hRP hnp hnx hv
      go_wp2_with fail
      refine HC.out.mono ?_
      rintro e w5 hpp
      obtain ⟨o5, m5, A5, l5, c5, rfl, hb5, hy5⟩ := PutPost.opened hpp
      obtain ⟨wk, hwk⟩ : ∃ wk, wk = w5.alloc (Obj.cells #[Value.int .i64 o5, Value.int .i64 m5, Value.slice A5 l5 c5] 25) := ⟨_, rfl⟩
      have hbk : Below w5.heap.size w5 wk := by rw [hwk]; exact (Below.refl _ _).alloc (Nat.le_refl _) _
      have hrk : Row wk w5.heap.size 25 #[Value.int .i64 o5, Value.int .i64 m5, Value.slice A5 l5 c5] := by rw [hwk]; exact Row.fresh _ _ _
      have hb6 := hb5.trans (hbk.mono hb5.size)
      have HB6 := Lib.hid hb6
      have HRK := Lib.hid hrk
      have HY5 := Lib.hid (show ∀ y, RP = some y → o5 = y.op ∧ m5 = y.n ∧ l5 = y.k.len ∧ ∃ bs, Tree wk W2.heap.size (.slice A5 l5 c5) y.k bs from fun y hy => by
        obtain ⟨e1, e2, e3, bs, ht⟩ := hy5 y hy
        exact ⟨e1, e2, e3, bs, ht.over hbk⟩)
      clear hpp hb5 hy5 hbk hrk hb6 q0 q1 q2 p0 p1 p2 HC
      cases RP with
      | none =>
        have HRN := Lib.hid (show R = none from HRR.out.trans (subB_none HRP.out.symm))
        have HU3 := Lib.hid (HT3.out.below HB6.out HT3.out.size)
        go_upto_region 4 with fail
        rw [← hwk]
        clear hwk
        have c0 := HU3.out.cell (i := 0) rfl
        have c1 := HU3.out.cell (i := 1) rfl
        have c2 := HU3.out.cell (i := 2) rfl
        have f0 := HU3.out.free 0
        have f1 := HU3.out.free 1
        have f2 := HU3.out.free 2
        have hr3 := ((HU3.out.put 0 (.int .i64 0)).put 1 (.int .i64 0)).put 2 (.slice none 0 0)
        have r0 := hr3.cell (i := 0) rfl
        have r1 := hr3.cell (i := 1) rfl
        have r2 := hr3.cell (i := 2) rfl
        have HBC := Lib.hid ((((HBD.out.trans (HB6.out.mono HBD.out.size)).setCell (p := ⟨w.heap.size + 1 + 1, 0, none⟩) (by dsimp only; omega) (.int .i64 0)).setCell (p := ⟨w.heap.size + 1 + 1, 1, none⟩) (by dsimp only; omega) (.int .i64 0)).setCell (p := ⟨w.heap.size + 1 + 1, 2, none⟩) (by dsimp only; omega) (.slice none 0 0))
        clear hr3
        go_wp2_with fail
        refine bodyPost_ret (v := .tuple #[.agg #[.int .i64 0, .int .i64 0, .slice none 0 0], .bool false]) ?_ rfl (by rw [HRN.out]; exact GivesN.zero HBC.out)
        simp [results, Try.f6, go_sem, r0, r1, r2]
      | some y =>
        obtain ⟨rfl, rfl, rfl, bs, ht⟩ := HY5.out y rfl
        have HT := Lib.hid ht
        have HTL := Lib.hid ((ht.lies fun z hz => (ht.lt z hz).2).mono_ (Nat.zero_le _) (Nat.le_refl _))
        have HTS := Lib.hid (show y.k.len ≤ maxLen by obtain ⟨_, _, _, h1, h2⟩ := ht.slice; exact Nat.le_trans h1 h2)
        clear ht HY5
        have HV := Lib.hid (show Calls Try.prog 15 #[.agg #[.int .i64 y.op, .int .i64 y.n, .slice A5 y.k.len c5]] wk (Gives (.bool (ndIs y)) wk) from validOpen_any y.op y.n y.k A5 c5 wk HTL.out HTS.out)
        go_upto_region 4 with fail
        rw [← hwk]
        clear hwk
        have q0 := HRK.out.cell (i := 0) rfl
        have q1 := HRK.out.cell (i := 1) rfl
        have q2 := HRK.out.cell (i := 2) rfl
        cases hy : ndIs y with
        | false =>
          have HRN := Lib.hid (show R = none from HRR.out.trans (subB_bad HRP.out.symm hy))
          rw [hy] at HV
          clear hy
          go_wp2_with fail
          refine HV.out.mono ?_
          rintro e w7 ⟨rfl, hb7⟩
          have hb8 := HB6.out.trans (hb7.mono HB6.out.size)
          have HB8 := Lib.hid hb8
          have HU3 := Lib.hid (HT3.out.below hb8 HT3.out.size)
          clear hb7 hb8 HV q0 q1 q2
          have c0 := HU3.out.cell (i := 0) rfl
          have c1 := HU3.out.cell (i := 1) rfl
          have c2 := HU3.out.cell (i := 2) rfl
          have f0 := HU3.out.free 0
          have f1 := HU3.out.free 1
          have f2 := HU3.out.free 2
          have hr3 := ((HU3.out.put 0 (.int .i64 0)).put 1 (.int .i64 0)).put 2 (.slice none 0 0)
          have r0 := hr3.cell (i := 0) rfl
          have r1 := hr3.cell (i := 1) rfl
          have r2 := hr3.cell (i := 2) rfl
          have HBC := Lib.hid ((((HBD.out.trans (HB8.out.mono HBD.out.size)).setCell (p := ⟨w.heap.size + 1 + 1, 0, none⟩) (by dsimp only; omega) (.int .i64 0)).setCell (p := ⟨w.heap.size + 1 + 1, 1, none⟩) (by dsimp only; omega) (.int .i64 0)).setCell (p := ⟨w.heap.size + 1 + 1, 2, none⟩) (by dsimp only; omega) (.slice none 0 0))
          clear hr3
          go_wp2_with fail
          refine bodyPost_ret (v := .tuple #[.agg #[.int .i64 0, .int .i64 0, .slice none 0 0], .bool false]) ?_ rfl (by rw [HRN.out]; exact GivesN.zero HBC.out)
          simp [results, Try.f6, go_sem, r0, r1, r2]
        | true =>
          have HRN := Lib.hid (show R = some y from HRR.out.trans (subB_yes HOK.out.symm HRP.out.symm hy))
          rw [hy] at HV
          clear hy
          go_wp2_with fail
          refine HV.out.mono ?_
          rintro e w7 ⟨rfl, hb7⟩
          have hb8 := HB6.out.trans (hb7.mono HB6.out.size)
          have HB8 := Lib.hid hb8
          have HU3 := Lib.hid (HT3.out.below hb8 HT3.out.size)
          have HT7 := Lib.hid (HT.out.over hb7)
          have HRK7 := Lib.hid (HRK.out.below hb7 HRK.out.size)
          clear hb7 hb8 HV q0 q1 q2
          have q0 := HRK7.out.cell (i := 0) rfl
          have q1 := HRK7.out.cell (i := 1) rfl
          have q2 := HRK7.out.cell (i := 2) rfl
          have c0 := HU3.out.cell (i := 0) rfl
          have c1 := HU3.out.cell (i := 1) rfl
          have c2 := HU3.out.cell (i := 2) rfl
          have f0 := HU3.out.free 0
          have f1 := HU3.out.free 1
          have f2 := HU3.out.free 2
          have hr3 := ((HU3.out.put 0 (.int .i64 y.op)).put 1 (.int .i64 y.n)).put 2 (.slice A5 y.k.len c5)
          have r0 := hr3.cell (i := 0) rfl
          have r1 := hr3.cell (i := 1) rfl
          have r2 := hr3.cell (i := 2) rfl
          have hz3 := HT3.out.size
          have HTC := Lib.hid ((((HT7.out.put (p := ⟨w.heap.size + 1 + 1, 0, none⟩) hz3 (.int .i64 y.op)).put (p := ⟨w.heap.size + 1 + 1, 1, none⟩) hz3 (.int .i64 y.n)).put (p := ⟨w.heap.size + 1 + 1, 2, none⟩) hz3 (.slice A5 y.k.len c5)).lower HBD.out.size)
          have HBC := Lib.hid ((((HBD.out.trans (HB8.out.mono HBD.out.size)).setCell (p := ⟨w.heap.size + 1 + 1, 0, none⟩) (by dsimp only; omega) (.int .i64 y.op)).setCell (p := ⟨w.heap.size + 1 + 1, 1, none⟩) (by dsimp only; omega) (.int .i64 y.n)).setCell (p := ⟨w.heap.size + 1 + 1, 2, none⟩) (by dsimp only; omega) (.slice A5 y.k.len c5))
          clear hr3 hz3
          go_wp2_with fail
          refine bodyPost_ret (v := .tuple #[.agg #[.int .i64 y.op, .int .i64 y.n, .slice A5 y.k.len c5], .bool true]) ?_ rfl (by rw [HRN.out]; exact ⟨A5, c5, bs, rfl, HTC.out, HBC.out⟩)
          simp [results, Try.f6, go_sem, r0, r1, r2]
end Go.Proofs.Ytlkicbekabcelaa

namespace Go.Proofs.Ytlkicbekabcelaa
open Go.RowKit Go.Shelf
set_option maxRecDepth 100000

end Go.Proofs.Ytlkicbekabcelaa

namespace Go.Proofs.Ytlkicbekabcelaa
open Go.RowKit Go.Shelf
set_option maxRecDepth 100000

def fitsB (p : Nd) (v : Int) (x : Nd) : Bool := decide (p.k.size + 1 + cntP v p * x.k.size ≤ 80)
theorem fits_wrap {a b d : Nat} (ha : a ≤ 81) (hb : b ≤ 81) (hd : 1 ≤ d) (hd2 : d ≤ 81) : decide (IntKind.i64.wrap ((a : Int) + IntKind.i64.wrap ((b : Int) * IntKind.i64.wrap ((d : Int) - 1))) ≤ 80) = decide (a + b * (d - 1) ≤ 80) := by
  obtain ⟨d', rfl⟩ : ∃ d', d = d' + 1 := ⟨d - 1, by omega⟩
  have h1 : ((d' + 1 : Nat) : Int) - 1 = (d' : Int) := by omega
  have h2 : b * d' ≤ 81 * 81 := Nat.mul_le_mul hb (by omega)
  have h3 : (b : Int) * (d' : Int) = ((b * d' : Nat) : Int) := by simp
  have hw : ∀ y : Int, 0 ≤ y → y ≤ 9223372036854775807 → IntKind.i64.wrap y = y := fun y g1 g2 => by rw [IntKind.wrap_i64]; omega
  rw [h1, hw (d' : Int) (by omega) (by omega), h3]
  rw [show d' + 1 - 1 = d' by omega]
  generalize b * d' = t at h2
  rw [hw (t : Int) (by omega) (by omega), hw ((a : Int) + (t : Int)) (by omega) (by omega)]
  by_cases h : a + t ≤ 80
  · rw [decide_eq_true h, decide_eq_true (by omega)]
  · rw [decide_eq_false h, decide_eq_false (by omega)]
theorem cntOf_small {s : Nat} (h : s ≤ 80) : cntOf s 80 = s + 1 := by unfold cntOf; omega

set_option maxHeartbeats 2000000 in
theorem fits_any (p : Nd) (v : Int) (x : Nd) (A X : Option Addr) (c cx : Nat) (w : World) (hl : Lies w 0 w.heap.size A 0 p.k) (hx : Lies w 0 w.heap.size X 0 x.k) (hp : p.k.size ≤ 80) (hxs : x.k.size ≤ 80) :
    Calls Try.prog 20 #[.agg #[.int .i64 p.op, .int .i64 p.n, .slice A p.k.len c], .int .i64 v, .agg #[.int .i64 x.op, .int .i64 x.n, .slice X x.k.len cx]] w (Gives (.bool (fitsB p v x)) w) := by
  obtain ⟨hb, r1, r2⟩ := two_boxes w 25 25 #[Value.int IntKind.i64 p.op, Value.int IntKind.i64 p.n, Value.slice A p.k.len c] #[Value.int IntKind.i64 x.op, Value.int IntKind.i64 x.n, Value.slice X x.k.len cx]
  obtain ⟨W, hW⟩ : ∃ W, W = (w.alloc (Obj.cells #[Value.int IntKind.i64 p.op, Value.int IntKind.i64 p.n, Value.slice A p.k.len c] 25)).alloc (Obj.cells #[Value.int IntKind.i64 x.op, Value.int IntKind.i64 x.n, Value.slice X x.k.len cx] 25) := ⟨_, rfl⟩
  rw [← hW] at hb r1 r2
  have b0 : Below W.heap.size W W.drew := (Below.refl _ _).drew
  have hz1 := r1.size
  have hz2 := r2.size
  have hS : ∀ w' : World, Below W.heap.size W w' → w'.cell? ⟨w.heap.size, 0, none⟩ = some (Value.int .i64 p.op) ∧ w'.cell? ⟨w.heap.size, 1, none⟩ = some (Value.int .i64 p.n) ∧ w'.cell? ⟨w.heap.size, 2, none⟩ = some (Value.slice A p.k.len c) ∧ w'.cell? ⟨w.heap.size + 1, 0, none⟩ = some (Value.int .i64 x.op) ∧ w'.cell? ⟨w.heap.size + 1, 1, none⟩ = some (Value.int .i64 x.n) ∧ w'.cell? ⟨w.heap.size + 1, 2, none⟩ = some (Value.slice X x.k.len cx) := fun w' hb =>
    ⟨(hb.cell (p := ⟨w.heap.size, 0, none⟩) hz1).trans (r1.cell (i := 0) rfl), (hb.cell (p := ⟨w.heap.size, 1, none⟩) hz1).trans (r1.cell (i := 1) rfl), (hb.cell (p := ⟨w.heap.size, 2, none⟩) hz1).trans (r1.cell (i := 2) rfl),
      (hb.cell (p := ⟨w.heap.size + 1, 0, none⟩) hz2).trans (r2.cell (i := 0) rfl), (hb.cell (p := ⟨w.heap.size + 1, 1, none⟩) hz2).trans (r2.cell (i := 1) rfl), (hb.cell (p := ⟨w.heap.size + 1, 2, none⟩) hz2).trans (r2.cell (i := 2) rfl)⟩
  have hll : p.k.len ≤ maxLen := Nat.le_trans (Fo.len_le_size _) (Nat.le_trans hp (by decide))
  have hlx : x.k.len ≤ maxLen := Nat.le_trans (Fo.len_le_size _) (Nat.le_trans hxs (by decide))
  have C1 := Lib.hid (show Calls Try.prog 34 #[.agg #[.int .i64 p.op, .int .i64 p.n, .slice A p.k.len c], .int .i64 80] W.drew (Gives (.int .i64 (cntOf p.k.size 80 : Nat)) W.drew) from l1Count_any p.k.size p.op p.n p.k A c 80 W.drew rfl ((hl.up hb).up b0) hll (Nat.le_refl _))
  have HC2 := Lib.hid (show ∀ w' : World, Below W.heap.size W w' → Calls Try.prog 35 #[.agg #[.int .i64 p.op, .int .i64 p.n, .slice A p.k.len c], .int .i64 v] w' (Gives (.int .i64 ((cntP v p : Nat) : Int)) w') from fun w' hb' => specCount_any p.k.size v p.op p.n p.k A c w' rfl ((hl.up hb).up hb') (Nat.le_trans hp (by decide)))
  have HC3 := Lib.hid (show ∀ w' : World, Below W.heap.size W w' → Calls Try.prog 34 #[.agg #[.int .i64 x.op, .int .i64 x.n, .slice X x.k.len cx], .int .i64 80] w' (Gives (.int .i64 (cntOf x.k.size 80 : Nat)) w') from fun w' hb' => l1Count_any x.k.size x.op x.n x.k X cx 80 w' rfl ((hx.up hb).up hb') hlx (Nat.le_refl _))
  have HSS := Lib.hid hS
  have B0 := Lib.hid b0
  have s0 := hS _ b0
  have HB := Lib.hid hb
  have hcb : cntP v p ≤ 81 := Nat.le_trans (cntN_le v p.op p.n p.k) (by omega)
  have HFW := Lib.hid (show decide (IntKind.i64.wrap (((cntOf p.k.size 80 : Nat) : Int) + IntKind.i64.wrap (((cntP v p : Nat) : Int) * IntKind.i64.wrap (((cntOf x.k.size 80 : Nat) : Int) - 1))) ≤ 80) = fitsB p v x by
    rw [fits_wrap (by rw [cntOf_small hp]; omega) hcb (by rw [cntOf_small hxs]; omega) (by rw [cntOf_small hxs]; omega), cntOf_small hp, cntOf_small hxs]
    rfl)
  clear hS hz1 hz2 hll hlx hl hx hb r1 r2 b0 hcb hp hxs
  generalize cntOf p.k.size 80 = na at C1 HFW
  generalize cntOf x.k.size 80 = nx at HC3 HFW
  generalize cntP v p = nb at HC2 HFW
  go_enter Try.func20, Try.ntmps20
  go_upto_region 1 with fail
  rw [← hW]
  clear hW
  go_region_held3 (fun w' => w'.cell? ⟨w.heap.size, 0, none⟩ = some (Value.int .i64 p.op) ∧ w'.cell? ⟨w.heap.size, 1, none⟩ = some (Value.int .i64 p.n) ∧ w'.cell? ⟨w.heap.size, 2, none⟩ = some (Value.slice A p.k.len c) ∧ w'.cell? ⟨w.heap.size + 1, 0, none⟩ = some (Value.int .i64 x.op) ∧ w'.cell? ⟨w.heap.size + 1, 1, none⟩ = some (Value.int .i64 x.n) ∧ w'.cell? ⟨w.heap.size + 1, 2, none⟩ = some (Value.slice X x.k.len cx))
    (first | with_reducible exact s0 | with_reducible exact s1 | with_reducible exact s2 | with_reducible exact s3 | fail)
    (first
      | (go_at_call 34
         with_reducible refine C3.out.mono ?_
         rintro e w3 ⟨rfl, hb3⟩
         have B3 := Lib.hid (B2.out.trans (hb3.mono B2.out.size))
         have s3 := HSS.out _ B3.out
         clear hb3)
      | (go_at_call 35
         with_reducible refine C2.out.mono ?_
         rintro e w2 ⟨rfl, hb2⟩
         have B2 := Lib.hid (B1.out.trans (hb2.mono B1.out.size))
         have C3 := Lib.hid (HC3.out w2 B2.out)
         have s2 := HSS.out _ B2.out
         clear hb2)
      | (go_at_call 34
         with_reducible refine C1.out.mono ?_
         rintro e w1 ⟨rfl, hb1⟩
         have B1 := Lib.hid (B0.out.trans (hb1.mono B0.out.size))
         have C2 := Lib.hid (HC2.out w1 B1.out)
         have s1 := HSS.out _ B1.out
         clear hb1)
      | fail)
  all_goals
    go_wp2_with fail
    go_ret
    exact ⟨ret_bool (by rw [← HFW.out]), HB.out.trans (B3.out.mono HB.out.size)⟩
theorem sub_fits {p x y : Nd} {v : Int} (hf : FitN p) (hno : fitsB p v x = false) (h : putN (p.k.size + 1) p v x = some y) : ndIs y = false := by
  have hs := putN_size _ p y hf h
  cases hy : ndIs y with
  | false => rfl
  | true =>
    have h1 := small_size (ndIs_small hy)
    have h2 := ndIs_small hy
    unfold smallOk at h2
    simp only [Bool.and_eq_true, decide_eq_true_iff] at h2
    have h3 := of_decide_eq_false hno
    omega
/-- What the model asks first. -/
def subOkS (p : Nd) (v : Int) (x : Nd) : Bool := subOk p v x && fitsB p v x
theorem subB_noS {p x : Nd} {v : Int} (h : subOkS p v x = false) : subB p v x = none := by
  cases h0 : subOk p v x with
  | false => exact subB_no h0
  | true =>
    have hf : fitsB p v x = false := by unfold subOkS at h; rw [h0, Bool.true_and] at h; exact h
    cases hp : putN (p.k.size + 1) p v x with
    | none => exact subB_none hp
    | some y => exact subB_bad hp (sub_fits (fitN_is (subOk_is h0).1) hf hp)

set_option maxHeartbeats 4000000 in
theorem specSub_any (p : Nd) (v : Int) (x : Nd) (A X : Option Addr) (c cx : Nat) (w : World) (hl : Lies w 0 w.heap.size A 0 p.k) (hx : Lies w 0 w.heap.size X 0 x.k) (hsz : p.k.size ≤ 1048576) (hlx : x.k.len ≤ maxLen) :
    Calls Try.prog 7 #[.agg #[.int .i64 p.op, .int .i64 p.n, .slice A p.k.len c], .int .i64 v, .agg #[.int .i64 x.op, .int .i64 x.n, .slice X x.k.len cx]] w (GivesN ((subB p v x).getD nd0) (subB p v x).isSome w) := by
  obtain ⟨hb, r1, r2, r3⟩ := three_boxes w 25 25 25 #[Value.int IntKind.i64 p.op, Value.int IntKind.i64 p.n, Value.slice A p.k.len c] #[Value.int IntKind.i64 x.op, Value.int IntKind.i64 x.n, Value.slice X x.k.len cx] #[.int .i64 0, .int .i64 0, .slice none 0 0]
  obtain ⟨W, hW⟩ : ∃ W, W = ((w.alloc (Obj.cells #[Value.int IntKind.i64 p.op, Value.int IntKind.i64 p.n, Value.slice A p.k.len c] 25)).alloc (Obj.cells #[Value.int IntKind.i64 x.op, Value.int IntKind.i64 x.n, Value.slice X x.k.len cx] 25)).alloc (Obj.cells #[.int .i64 0, .int .i64 0, .slice none 0 0] 25) := ⟨_, rfl⟩
  rw [← hW] at hb r1 r2 r3
  have HB := Lib.hid hb
  have HR1 := Lib.hid r1
  have HR2 := Lib.hid r2
  have HR3 := Lib.hid r3
  have HX0 := Lib.hid hx
  have HC := Lib.hid (ownExpr_any p.op p.n p.k A c W (hl.up hb) hsz)
  have HLX := Lib.hid hlx
  have q0 := r1.cell (i := 0) rfl
  have q1 := r1.cell (i := 1) rfl
  have q2 := r1.cell (i := 2) rfl
  clear hb r1 r2 r3 hl hx hsz hlx
  obtain ⟨R, hR⟩ : ∃ R, R = subB p v x := ⟨_, rfl⟩
  rw [← hR]
  have HRR := Lib.hid hR
  clear hR
  obtain ⟨ok, hok⟩ : ∃ ok, ok = subOkS p v x := ⟨_, rfl⟩
  have HOK := Lib.hid hok
  clear hok
  go_enter Try.func7, Try.ntmps7
  go_upto_region 1 with fail
  rw [← hW]
  clear hW
  go_wp2_with fail
  refine HC.out.mono ?_
  rintro e w1 ⟨A1, c1, bs, rfl, ht, hb1⟩
  have hr1 := HR1.out.below hb1 HR1.out.size
  have hr2 := HR2.out.below hb1 HR2.out.size
  have hr3 := HR3.out.below hb1 HR3.out.size
  have f0 := hr1.free 0
  have f1 := hr1.free 1
  have f2 := hr1.free 2
  have c0 := hr1.cell (i := 0) rfl
  have cc1 := hr1.cell (i := 1) rfl
  have cc2 := hr1.cell (i := 2) rfl
  obtain ⟨W1, hW1⟩ : ∃ W1, W1 = ((w1.setCell ⟨w.heap.size, 0, none⟩ (.int .i64 p.op)).setCell ⟨w.heap.size, 1, none⟩ (.int .i64 p.n)).setCell ⟨w.heap.size, 2, none⟩ (.slice A1 p.k.len c1) := ⟨_, rfl⟩
  have hs1 := ((hr1.put 0 (.int .i64 p.op)).put 1 (.int .i64 p.n)).put 2 (.slice A1 p.k.len c1)
  have hs2 := ((hr2.apart (p := ⟨w.heap.size, 0, none⟩) (by dsimp only; omega) (.int .i64 p.op)).apart (p := ⟨w.heap.size, 1, none⟩) (by dsimp only; omega) (.int .i64 p.n)).apart (p := ⟨w.heap.size, 2, none⟩) (by dsimp only; omega) (.slice A1 p.k.len c1)
  have hs3 := ((hr3.apart (p := ⟨w.heap.size, 0, none⟩) (by dsimp only; omega) (.int .i64 p.op)).apart (p := ⟨w.heap.size, 1, none⟩) (by dsimp only; omega) (.int .i64 p.n)).apart (p := ⟨w.heap.size, 2, none⟩) (by dsimp only; omega) (.slice A1 p.k.len c1)
  have hz1 := HR1.out.size
  have ht1 := ((ht.put (p := ⟨w.heap.size, 0, none⟩) hz1 (.int .i64 p.op)).put (p := ⟨w.heap.size, 1, none⟩) hz1 (.int .i64 p.n)).put (p := ⟨w.heap.size, 2, none⟩) hz1 (.slice A1 p.k.len c1)
  have hbw := (((HB.out.trans (hb1.mono HB.out.size)).setCell (p := ⟨w.heap.size, 0, none⟩) (Nat.le_refl _) (.int .i64 p.op)).setCell (p := ⟨w.heap.size, 1, none⟩) (Nat.le_refl _) (.int .i64 p.n)).setCell (p := ⟨w.heap.size, 2, none⟩) (Nat.le_refl _) (.slice A1 p.k.len c1)
  rw [← hW1] at hs1 hs2 hs3 ht1 hbw
  have hsl := ht1.slice
  have HS1 := Lib.hid (show Row W1 w.heap.size 25 #[.int .i64 p.op, .int .i64 p.n, .slice A1 p.k.len c1] from hs1)
  have HS2 := Lib.hid hs2
  have HS3 := Lib.hid hs3
  have HB1 := Lib.hid hbw
  have HL1 := Lib.hid ((ht1.lies fun x hx => (ht1.lt x hx).2).mono_ (Nat.zero_le _) (Nat.le_refl _))
  have HLEN := Lib.hid (show p.k.len ≤ maxLen by obtain ⟨_, c9, e9, h1, h2⟩ := hsl; exact Nat.le_trans h1 h2)
  have HX1 := Lib.hid (HX0.out.up hbw)
  clear hr1 hr2 hr3 hs1 hs2 hs3 ht1 hbw hsl hz1 ht hb1 HC HR1 HR2 HR3
  go_upto_region 2 with fail
  rw [← hW1]
  clear hW1 q0 q1 q2 f0 f1 f2 c0 cc1 cc2
  go_cut [34] from 12 to 34 (fun s wd => s = .bool (!ok) ∧ Below W1.heap.size W1 wd)
  case first =>
    have q0 := HS1.out.cell (i := 0) rfl
    have q1 := HS1.out.cell (i := 1) rfl
    have q2 := HS1.out.cell (i := 2) rfl
    have HVL := Lib.hid (show Calls Try.prog 19 #[.agg #[.int .i64 p.op, .int .i64 p.n, .slice A1 p.k.len c1]] W1 (Gives (.bool (ndIs p)) W1) from l1Any_any p.op p.n p.k A1 c1 W1 HL1.out HLEN.out)
    cases hn : ndIs p with
    | false =>
      have HZ := Lib.hid (show ok = false by rw [HOK.out]; unfold subOkS subOk; simp [hn])
      rw [hn] at HVL
      clear hn
      go_wp2_with fail
      refine HVL.out.mono ?_
      rintro e w2 ⟨rfl, hb2⟩
      have HB2 := Lib.hid hb2
      clear hb2 HVL
      go_wp2_with fail
      go_meet
      exact ⟨by rw [HZ.out]; rfl, HB2.out⟩
    | true =>
      have HN := Lib.hid hn
      rw [hn] at HVL
      clear hn
      go_wp2_with fail
      refine HVL.out.mono ?_
      rintro e w2 ⟨rfl, hb2⟩
      have HB2 := Lib.hid hb2
      have p0 := (HS2.out.below hb2 HS2.out.size).cell (i := 0) rfl
      have p1 := (HS2.out.below hb2 HS2.out.size).cell (i := 1) rfl
      have p2 := (HS2.out.below hb2 HS2.out.size).cell (i := 2) rfl
      have HV2 := Lib.hid (show Calls Try.prog 19 #[.agg #[.int .i64 x.op, .int .i64 x.n, .slice X x.k.len cx]] w2 (Gives (.bool (ndIs x)) w2) from l1Any_any x.op x.n x.k X cx w2 (HX1.out.up hb2) HLX.out)
      clear hb2 HVL q0 q1 q2
      cases hn : ndIs x with
      | false =>
        have HZ := Lib.hid (show ok = false by rw [HOK.out]; unfold subOkS subOk; simp [hn])
        rw [hn] at HV2
        clear hn
        go_wp2_with fail
        refine HV2.out.mono ?_
        rintro e w3 ⟨rfl, hb3⟩
        have HB3 := Lib.hid (HB2.out.trans (hb3.mono HB2.out.size))
        clear hb3 HV2
        go_wp2_with fail
        go_meet
        exact ⟨by rw [HZ.out]; rfl, HB3.out⟩
      | true =>
        have HNX := Lib.hid hn
        rw [hn] at HV2
        clear hn
        go_wp2_with fail
        refine HV2.out.mono ?_
        rintro e w3 ⟨rfl, hb3⟩
        have hb4 := HB2.out.trans (hb3.mono HB2.out.size)
        have HB3 := Lib.hid hb4
        have q0 := (HS1.out.below hb4 HS1.out.size).cell (i := 0) rfl
        have q1 := (HS1.out.below hb4 HS1.out.size).cell (i := 1) rfl
        have q2 := (HS1.out.below hb4 HS1.out.size).cell (i := 2) rfl
        have y0 := (HS2.out.below hb4 HS2.out.size).cell (i := 0) rfl
        have y1 := (HS2.out.below hb4 HS2.out.size).cell (i := 1) rfl
        have y2 := (HS2.out.below hb4 HS2.out.size).cell (i := 2) rfl
        have HCF := Lib.hid (fits_any p v x A1 X c1 cx w3 (HL1.out.up hb4) (HX1.out.up hb4) (small_size (ndIs_small HN.out)) (small_size (ndIs_small HNX.out)))
        clear hb3 hb4 HV2 p0 p1 p2
        by_cases h0 : v < 0
        · have HZ := Lib.hid (show ok = false by rw [HOK.out]; unfold subOkS subOk inVar; have : ¬ 0 ≤ v := by omega
                                                 simp [this])
          go_wp2_with fail
          go_meet
          exact ⟨by rw [HZ.out]; rfl, HB3.out⟩
        · by_cases h8 : v ≥ 8
          · have HZ := Lib.hid (show ok = false by rw [HOK.out]; unfold subOkS subOk inVar; have : ¬ v < 8 := by omega
                                                   simp [this])
            go_wp2_with fail
            go_meet
            exact ⟨by rw [HZ.out]; rfl, HB3.out⟩
          · have HZ := Lib.hid (show ok = fitsB p v x by
              rw [HOK.out]
              unfold subOkS subOk
              rw [HN.out, HNX.out, show inVar v = true by unfold inVar; simp; omega]
              rfl)
            go_wp2_with fail
            refine HCF.out.mono ?_
            rintro e w5 ⟨rfl, hb5⟩
            have HB5 := Lib.hid (HB3.out.trans (hb5.mono HB3.out.size))
            clear hb5 HCF
            go_wp2_with fail
            go_meet
            exact ⟨by rw [HZ.out]; first | rfl | (simp; intro h9; omega), HB5.out⟩
  case rest =>
    obtain ⟨rfl, hbd⟩ := hcut
    obtain ⟨W2, hW2⟩ : ∃ W2, W2 = wc := ⟨_, rfl⟩
    rw [← hW2] at hbd ⊢
    clear hW2 wc
    have HBD := Lib.hid (HB1.out.trans (hbd.mono HB1.out.size))
    have HT1 := Lib.hid (HS1.out.below hbd HS1.out.size)
    have HT2 := Lib.hid (HS2.out.below hbd HS2.out.size)
    have HT3 := Lib.hid (HS3.out.below hbd HS3.out.size)
    have HLD := Lib.hid (HL1.out.up hbd)
    have HXD := Lib.hid (HX1.out.up hbd)
    clear hbd HL1 HX1 HS1 HS2 HS3
    cases ok with
    | false =>
      have HRN := Lib.hid (show R = none from HRR.out.trans (subB_noS HOK.out.symm))
      have c0 := HT3.out.cell (i := 0) rfl
      have c3 := HT3.out.cell (i := 1) rfl
      have c2 := HT3.out.cell (i := 2) rfl
      have f0 := HT3.out.free 0
      have f1 := HT3.out.free 1
      have f2 := HT3.out.free 2
      have hr3 := ((HT3.out.put 0 (.int .i64 0)).put 1 (.int .i64 0)).put 2 (.slice none 0 0)
      have r0 := hr3.cell (i := 0) rfl
      have r1 := hr3.cell (i := 1) rfl
      have r2 := hr3.cell (i := 2) rfl
      have HBC := Lib.hid (((HBD.out.setCell (p := ⟨w.heap.size + 1 + 1, 0, none⟩) (by dsimp only; omega) (.int .i64 0)).setCell (p := ⟨w.heap.size + 1 + 1, 1, none⟩) (by dsimp only; omega) (.int .i64 0)).setCell (p := ⟨w.heap.size + 1 + 1, 2, none⟩) (by dsimp only; omega) (.slice none 0 0))
      clear hr3
      go_wp2_with fail
      refine bodyPost_ret (v := .tuple #[.agg #[.int .i64 0, .int .i64 0, .slice none 0 0], .bool false]) ?_ rfl (by rw [HRN.out]; exact GivesN.zero HBC.out)
      simp [results, Try.f7, go_sem, r0, r1, r2]
    | true =>
      obtain ⟨hok0, _⟩ : subOk p v x = true ∧ fitsB p v x = true := by
        have := HOK.out.symm
        unfold subOkS at this
        simpa only [Bool.and_eq_true] using this
      obtain ⟨hnp, hnx, hv⟩ := subOk_is hok0
      have HOK0 := Lib.hid hok0
      obtain ⟨RP, hRP⟩ : ∃ RP, RP = putN (p.k.size + 1) p v x := ⟨_, rfl⟩
      have HRP := Lib.hid hRP
      have HC := Lib.hid (show Calls Try.prog 21 #[.agg #[.int .i64 p.op, .int .i64 p.n, .slice A1 p.k.len c1], .int .i64 v, .agg #[.int .i64 x.op, .int .i64 x.n, .slice X x.k.len cx]] W2 (PutPost RP W2) by
        rw [hRP]
        exact put_any _ p v x A1 X c1 cx W2 ⟨HLD.out, HXD.out, Nat.lt_succ_self _, small_size (ndIs_small hnp), fitN_is hnp, node_i64 hnp, small_size (ndIs_small hnx), node_i64 hnx, inVar_i64 hv⟩)
      have q0 := HT1.out.cell (i := 0) rfl
      have q1 := HT1.out.cell (i := 1) rfl
      have q2 := HT1.out.cell (i := 2) rfl
      have p0 := HT2.out.cell (i := 0) rfl
      have p1 := HT2.out.cell (i := 1) rfl
      have p2 := HT2.out.cell (i := 2) rfl
      clear hRP hnp hnx hv hok0
      go_wp2_with fail
      refine HC.out.mono ?_
      rintro e w5 hpp
      obtain ⟨o5, m5, A5, l5, c5, rfl, hb5, hy5⟩ := PutPost.opened hpp
      obtain ⟨wk, hwk⟩ : ∃ wk, wk = w5.alloc (Obj.cells #[Value.int .i64 o5, Value.int .i64 m5, Value.slice A5 l5 c5] 25) := ⟨_, rfl⟩
      have hbk : Below w5.heap.size w5 wk := by rw [hwk]; exact (Below.refl _ _).alloc (Nat.le_refl _) _
      have hrk : Row wk w5.heap.size 25 #[Value.int .i64 o5, Value.int .i64 m5, Value.slice A5 l5 c5] := by rw [hwk]; exact Row.fresh _ _ _
      have hb6 := hb5.trans (hbk.mono hb5.size)
      have HB6 := Lib.hid hb6
      have HRK := Lib.hid hrk
      have HY5 := Lib.hid (show ∀ y, RP = some y → o5 = y.op ∧ m5 = y.n ∧ l5 = y.k.len ∧ ∃ bs, Tree wk W2.heap.size (.slice A5 l5 c5) y.k bs from fun y hy => by
        obtain ⟨e1, e2, e3, bs, ht⟩ := hy5 y hy
        exact ⟨e1, e2, e3, bs, ht.over hbk⟩)
      clear hpp hb5 hy5 hbk hrk hb6 q0 q1 q2 p0 p1 p2 HC
      cases RP with
      | none =>
        have HRN := Lib.hid (show R = none from HRR.out.trans (subB_none HRP.out.symm))
        have HU3 := Lib.hid (HT3.out.below HB6.out HT3.out.size)
        go_upto_region 5 with fail
        rw [← hwk]
        clear hwk
        have c0 := HU3.out.cell (i := 0) rfl
        have c3 := HU3.out.cell (i := 1) rfl
        have c2 := HU3.out.cell (i := 2) rfl
        have f0 := HU3.out.free 0
        have f1 := HU3.out.free 1
        have f2 := HU3.out.free 2
        have hr3 := ((HU3.out.put 0 (.int .i64 0)).put 1 (.int .i64 0)).put 2 (.slice none 0 0)
        have r0 := hr3.cell (i := 0) rfl
        have r1 := hr3.cell (i := 1) rfl
        have r2 := hr3.cell (i := 2) rfl
        have HBC := Lib.hid ((((HBD.out.trans (HB6.out.mono HBD.out.size)).setCell (p := ⟨w.heap.size + 1 + 1, 0, none⟩) (by dsimp only; omega) (.int .i64 0)).setCell (p := ⟨w.heap.size + 1 + 1, 1, none⟩) (by dsimp only; omega) (.int .i64 0)).setCell (p := ⟨w.heap.size + 1 + 1, 2, none⟩) (by dsimp only; omega) (.slice none 0 0))
        clear hr3
        go_wp2_with fail
        refine bodyPost_ret (v := .tuple #[.agg #[.int .i64 0, .int .i64 0, .slice none 0 0], .bool false]) ?_ rfl (by rw [HRN.out]; exact GivesN.zero HBC.out)
        simp [results, Try.f7, go_sem, r0, r1, r2]
      | some y =>
        obtain ⟨rfl, rfl, rfl, bs, ht⟩ := HY5.out y rfl
        have HT := Lib.hid ht
        have HTL := Lib.hid ((ht.lies fun z hz => (ht.lt z hz).2).mono_ (Nat.zero_le _) (Nat.le_refl _))
        have HTS := Lib.hid (show y.k.len ≤ maxLen by obtain ⟨_, _, _, h1, h2⟩ := ht.slice; exact Nat.le_trans h1 h2)
        clear ht HY5
        have HV := Lib.hid (show Calls Try.prog 19 #[.agg #[.int .i64 y.op, .int .i64 y.n, .slice A5 y.k.len c5]] wk (Gives (.bool (ndIs y)) wk) from l1Any_any y.op y.n y.k A5 c5 wk HTL.out HTS.out)
        go_upto_region 5 with fail
        rw [← hwk]
        clear hwk
        have q0 := HRK.out.cell (i := 0) rfl
        have q1 := HRK.out.cell (i := 1) rfl
        have q2 := HRK.out.cell (i := 2) rfl
        cases hy : ndIs y with
        | false =>
          have HRN := Lib.hid (show R = none from HRR.out.trans (subB_bad HRP.out.symm hy))
          rw [hy] at HV
          clear hy
          go_wp2_with fail
          refine HV.out.mono ?_
          rintro e w7 ⟨rfl, hb7⟩
          have hb8 := HB6.out.trans (hb7.mono HB6.out.size)
          have HB8 := Lib.hid hb8
          have HU3 := Lib.hid (HT3.out.below hb8 HT3.out.size)
          clear hb7 hb8 HV q0 q1 q2
          have c0 := HU3.out.cell (i := 0) rfl
          have c3 := HU3.out.cell (i := 1) rfl
          have c2 := HU3.out.cell (i := 2) rfl
          have f0 := HU3.out.free 0
          have f1 := HU3.out.free 1
          have f2 := HU3.out.free 2
          have hr3 := ((HU3.out.put 0 (.int .i64 0)).put 1 (.int .i64 0)).put 2 (.slice none 0 0)
          have r0 := hr3.cell (i := 0) rfl
          have r1 := hr3.cell (i := 1) rfl
          have r2 := hr3.cell (i := 2) rfl
          have HBC := Lib.hid ((((HBD.out.trans (HB8.out.mono HBD.out.size)).setCell (p := ⟨w.heap.size + 1 + 1, 0, none⟩) (by dsimp only; omega) (.int .i64 0)).setCell (p := ⟨w.heap.size + 1 + 1, 1, none⟩) (by dsimp only; omega) (.int .i64 0)).setCell (p := ⟨w.heap.size + 1 + 1, 2, none⟩) (by dsimp only; omega) (.slice none 0 0))
          clear hr3
          go_wp2_with fail
          refine bodyPost_ret (v := .tuple #[.agg #[.int .i64 0, .int .i64 0, .slice none 0 0], .bool false]) ?_ rfl (by rw [HRN.out]; exact GivesN.zero HBC.out)
          simp [results, Try.f7, go_sem, r0, r1, r2]
        | true =>
          have HRN := Lib.hid (show R = some y from HRR.out.trans (subB_yes HOK0.out HRP.out.symm hy))
          rw [hy] at HV
          clear hy
          go_wp2_with fail
          refine HV.out.mono ?_
          rintro e w7 ⟨rfl, hb7⟩
          have hb8 := HB6.out.trans (hb7.mono HB6.out.size)
          have HB8 := Lib.hid hb8
          have HU3 := Lib.hid (HT3.out.below hb8 HT3.out.size)
          have HT7 := Lib.hid (HT.out.over hb7)
          have HRK7 := Lib.hid (HRK.out.below hb7 HRK.out.size)
          clear hb7 hb8 HV q0 q1 q2
          have q0 := HRK7.out.cell (i := 0) rfl
          have q1 := HRK7.out.cell (i := 1) rfl
          have q2 := HRK7.out.cell (i := 2) rfl
          have c0 := HU3.out.cell (i := 0) rfl
          have c3 := HU3.out.cell (i := 1) rfl
          have c2 := HU3.out.cell (i := 2) rfl
          have f0 := HU3.out.free 0
          have f1 := HU3.out.free 1
          have f2 := HU3.out.free 2
          have hr3 := ((HU3.out.put 0 (.int .i64 y.op)).put 1 (.int .i64 y.n)).put 2 (.slice A5 y.k.len c5)
          have r0 := hr3.cell (i := 0) rfl
          have r1 := hr3.cell (i := 1) rfl
          have r2 := hr3.cell (i := 2) rfl
          have hz3 := HT3.out.size
          have HTC := Lib.hid ((((HT7.out.put (p := ⟨w.heap.size + 1 + 1, 0, none⟩) hz3 (.int .i64 y.op)).put (p := ⟨w.heap.size + 1 + 1, 1, none⟩) hz3 (.int .i64 y.n)).put (p := ⟨w.heap.size + 1 + 1, 2, none⟩) hz3 (.slice A5 y.k.len c5)).lower HBD.out.size)
          have HBC := Lib.hid ((((HBD.out.trans (HB8.out.mono HBD.out.size)).setCell (p := ⟨w.heap.size + 1 + 1, 0, none⟩) (by dsimp only; omega) (.int .i64 y.op)).setCell (p := ⟨w.heap.size + 1 + 1, 1, none⟩) (by dsimp only; omega) (.int .i64 y.n)).setCell (p := ⟨w.heap.size + 1 + 1, 2, none⟩) (by dsimp only; omega) (.slice A5 y.k.len c5))
          clear hr3 hz3
          go_wp2_with fail
          refine bodyPost_ret (v := .tuple #[.agg #[.int .i64 y.op, .int .i64 y.n, .slice A5 y.k.len c5], .bool true]) ?_ rfl (by rw [HRN.out]; exact ⟨A5, c5, bs, rfl, HTC.out, HBC.out⟩)
          simp [results, Try.f7, go_sem, r0, r1, r2]
theorem ren_le (p : Nd) (u : Int) : ((renB p u).getD nd0).k.size ≤ 1048576 := by
  cases h : renOk p u with
  | false => rw [renB_no h]; decide
  | true =>
    obtain ⟨oa, ma, ka, ob, mb, kb, v, q, h7, ek, hv, rfl, hn, hh, hfit, hq, hr⟩ := renB_yes h
    have hf := hfit.2
    rw [ek, fitP_cons, fitP_cons] at hf
    have hs := (putN_ren hv _ ⟨ob, mb, kb⟩ q hf.2.1 hh hq).size
    have hz := small_is hn
    rw [hr]
    rw [ek] at hz
    simp only [Option.getD_some, pair, Fo.size] at hs hz ⊢
    omega
theorem sub_le (p : Nd) (v : Int) (x : Nd) : ((subB p v x).getD nd0).k.size ≤ 1048576 := by
  unfold subB
  split
  · split
    · decide
    · split
      · rename_i hy
        have := small_size (ndIs_small hy)
        simp only [Option.getD_some]
        omega
      · decide
  · decide
end Go.Proofs.Ytlkicbekabcelaa
