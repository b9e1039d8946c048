/-
  impl.OldCalls.
  spec.OldCalls.
-/
import Derived.Test.YtiepflaghfjijaaEffD
import Derived.Test.YtiepflaghfjijaaLibVI
import Derived.Test.YtiepflaghfjijaaCallsM
import Derived.Test.YtiepflaghfjijaaFo
import Derived.Maps.AppendAt
import Derived.Test.YtiepflaghfjijaaLibVD
import Derived.Test.YtiepflaghfjijaaLibVS
namespace Go.Proofs.Ytiepflaghfjijaa
open Go.RowKit
set_option maxRecDepth 100000

set_option maxHeartbeats 2000000 in
theorem implOld_r (ds : List De) (DA : Option Addr) (DC : Nat) (op n : Int) (k : Fo) (A : Option Addr) (c : Nat) (LD BD L B : Nat) (w : World) (hd : LiesD w LD BD DA ds) (hBD : BD ≤ w.heap.size) (hl : Lies w L B A 0 k) (hB : B ≤ w.heap.size) (hdz : sizeD ds ≤ 1048576) (hk1 : k.len ≤ c) (hk2 : c ≤ maxLen) (hsz : k.size ≤ 1048576) :
    Calls Try.prog 6 #[.slice DA ds.length DC, .agg #[.int .i64 op, .int .i64 n, .slice A k.len c]] w (ListPost (oldL ds op n k) w) := by
  have hds := Nat.le_trans (sizeD_len ds) hdz
  obtain ⟨hb1, hr1⟩ := one_box w 26 #[Value.int IntKind.i64 op, Value.int IntKind.i64 n, Value.slice A k.len c]
  have HA := Lib.hid (implLibValid_r ds DA DC LD BD _ (hd.below (hb1.mono hBD)) (Nat.le_trans hBD hb1.size) hdz)
  have HB1 := Lib.hid hb1
  have HR1 := Lib.hid hr1
  have HD := Lib.hid (hd.mono_ (Nat.zero_le _) hBD)
  have HL := Lib.hid hl
  clear hb1 hr1 hd hl
  cases hv : libOk ds with
  | false =>
    rw [hv] at HA
    have HZ := Lib.hid (oldL_no (op := op) (n := n) (k := k) (ds := ds) (by rw [hv]; rfl))
    clear hv
    go_enter Try.func6, Try.ntmps6
    go_wp2_with fail
    refine HA.out.mono ?_
    rintro e w2 ⟨rfl, hb2⟩
    have HB2 := Lib.hid (HB1.out.trans (hb2.mono HB1.out.size))
    clear hb2 HA HB1 HR1
    go_wp2
    go_ret
    exact ⟨_, rfl, by rw [HZ.out]; exact World.ownsRow_nil _ _ _ _, HB2.out⟩
  | true =>
    rw [hv] at HA
    generalize hf : callsFitB ds op n k = z
    cases z with
    | false =>
      have HZ := Lib.hid (oldL_no (op := op) (n := n) (k := k) (ds := ds) (by rw [hv, hf]; rfl))
      have HF := Lib.hid hf
      clear hv hf
      go_enter Try.func6, Try.ntmps6
      go_wp2_with fail
      refine HA.out.mono ?_
      rintro e w2 ⟨rfl, hb2⟩
      have HB2 := Lib.hid (HB1.out.trans (hb2.mono HB1.out.size))
      have HR2 := HR1.out.below hb2 HR1.out.size
      have q0 := HR2.cell (i := 0) rfl
      have q1 := HR2.cell (i := 1) rfl
      have q2 := HR2.cell (i := 2) rfl
      clear hb2 HA HB1 HR1 HR2
      go_wp2_with fail
      refine (implCallsFit_r ds DA DC op n k A c L B w2 (HD.out.up HB2.out) (HL.out.below (HB2.out.mono hB)) (Nat.le_trans hB HB2.out.size) hds hk1 hk2 hsz).mono ?_
      rintro e w3 ⟨rfl, hb3⟩
      rw [HF.out]
      have HB3 := Lib.hid (HB2.out.trans (hb3.mono HB2.out.size))
      clear hb3 HB2 q0 q1 q2
      go_wp2
      go_ret
      exact ⟨_, rfl, by rw [HZ.out]; exact World.ownsRow_nil _ _ _ _, HB3.out⟩
    | true =>
      have HZ := Lib.hid (oldL_yes hv hf)
      have HF := Lib.hid hf
      have HSM := Lib.hid (callsFit_small hf)
      have HT := Lib.hid (called_there hf)
      clear hv hf
      go_enter Try.func6, Try.ntmps6
      go_wp2_with fail
      refine HA.out.mono ?_
      rintro e w2 ⟨rfl, hb2⟩
      have HB2 := Lib.hid (HB1.out.trans (hb2.mono HB1.out.size))
      have HR2 := HR1.out.below hb2 HR1.out.size
      have q0 := HR2.cell (i := 0) rfl
      have q1 := HR2.cell (i := 1) rfl
      have q2 := HR2.cell (i := 2) rfl
      have HR2' := Lib.hid HR2
      clear hb2 HA HB1 HR1 HR2
      go_wp2_with fail
      refine (implCallsFit_r ds DA DC op n k A c L B w2 (HD.out.up HB2.out) (HL.out.below (HB2.out.mono hB)) (Nat.le_trans hB HB2.out.size) hds hk1 hk2 hsz).mono ?_
      rintro e w3 ⟨rfl, hb3⟩
      rw [HF.out]
      have HB3 := Lib.hid (HB2.out.trans (hb3.mono HB2.out.size))
      have HR3 := Lib.hid (HR2'.out.below hb3 HR2'.out.size)
      clear hb3 HB2 q0 q1 q2 HR2'
      go_wp2_with fail
      refine (defsByName_any ds DA DC w3 0 w.heap.size (HD.out.below HB3.out) HB3.out.size hds).mono ?_
      rintro e w4 ⟨es, rfl, hm4, hent4, hb4, hlt4⟩
      have HB4 := Lib.hid (HB3.out.trans (hb4.mono HB3.out.size))
      have HR4 := HR3.out.below hb4 HR3.out.size
      have HM4 := Lib.hid hm4
      have HE4 := Lib.hid hent4
      have q0 := HR4.cell (i := 0) rfl
      have q1 := HR4.cell (i := 1) rfl
      have q2 := HR4.cell (i := 2) rfl
      have HS4 := Lib.hid (show w3.heap.size < w4.heap.size ∧ w.heap.size ≤ w3.heap.size ∧ w.heap.size ≤ w4.heap.size from ⟨hlt4, HB3.out.size, HB4.out.size⟩)
      clear hb4 HB3 HR3 HR4 hm4 hent4 hlt4
      go_wp2_with fail
      refine (implCalls_r op n k A c L B w4 (HL.out.below (HB4.out.mono hB)) (Nat.le_trans hB HB4.out.size) (RowsIf.small HSM.out) hk1 hk2 hsz).mono ?_
      rintro e w6 ⟨v6, rfl, hown6, hb6⟩
      have HB6 := HB4.out.trans (hb6.mono HB4.out.size)
      have HM6 := Lib.hid (HM4.out.below hb6 HS4.out.1)
      have HE6 := Lib.hid (HE4.out.below (hb6.mono HS4.out.2.2))
      have HS6 := Lib.hid (show w3.heap.size < w6.heap.size ∧ w.heap.size ≤ w6.heap.size from ⟨Nat.lt_of_lt_of_le HS4.out.1 hb6.size, HB6.size⟩)
      have hzl := numsUpto_len (callB ⟨op, n, k⟩) 8
      have hzi : ∀ x ∈ numsUpto (callB ⟨op, n, k⟩) 8, I64 x := fun x hx => numsUpto_small _ 8 x (Nat.le_refl _) hx
      obtain ⟨zs, hzs⟩ : ∃ zs, zs = numsUpto (callB ⟨op, n, k⟩) 8 := ⟨_, rfl⟩
      rw [← hzs] at hown6 hzl hzi HZ HT
      clear hzs
      obtain ⟨A6, c6, rfl, hI6⟩ := own_ints hown6 hzi
      have HI6 := Lib.hid hI6
      have HB6' := Lib.hid HB6
      clear hb6 hown6 HB4 HM4 HE4 HS4 q0 q1 q2 HF hzi HB6 hI6
      go_wp2
      go_loopw [6, 23] (fun v i wr => ∃ (j : Nat), j ≤ zs.length ∧ i = .int .i64 j ∧ wr.ownsRow w6.heap.size 3 1 v ((zs.take j).filter (oldB ds)).length (((zs.take j).filter (oldB ds)).map (Value.int .i64)) ∧ Below w6.heap.size w6 wr)
        (fun _ i _ => zs.length - (intOf i).toNat)
      case atStart => exact ⟨0, by omega, rfl, World.ownsRow_nil _ _ _ _, Below.refl _ _⟩
      case round =>
        obtain ⟨j, hj, rfl, hown, hb⟩ := hrel
        by_cases hlt : j < zs.length
        · have e1 := List.getElem?_eq_getElem hlt
          generalize zs[j] = x at e1
          obtain ⟨b, o, hA, _, hbb, ix, g1⟩ := (HI6.out.below hb) j x e1
          obtain ⟨hxv, d, hfd⟩ := HT.out x (List.mem_of_getElem? e1)
          obtain ⟨A', c', hil, _⟩ := HE6.out.1 x d hxv hfd
          have hold : oldB ds x = d.old := by unfold oldB; rw [hfd]
          have hlk := im_lookup1 (P := Try.prog) (a := x) Try.underlying42 Try.underlying3 (show (zeroValue 38).run Try.prog wr = .ok (.agg #[.int .i64 0, .int .i64 0, .bool false, .int .i64 0, .int .i64 0, .slice none 0 0]) wr by kernel_rfl) (HM6.out.below hb HS6.out.1)
          rw [hil, Option.getD_some] at hlk
          unfold valD at hlk
          have HE := Lib.hid e1
          have HOLD := Lib.hid hold
          have HOWN := Lib.hid hown
          have HBR := Lib.hid hb
          have hfl := filter_take_len (oldB ds) zs j
          subst hA
          clear e1 hold hown hb hfd hxv hil
          cases hdo : d.old with
          | false =>
            rw [hdo] at hlk
            have hfd : ∀ w : World, (Instr.field 38 (.agg #[.int .i64 d.nm, .int .i64 d.ar, .bool false, .int .i64 d.op, .int .i64 d.n, .slice A' d.k.len c']) 2).run Try.prog w = .ok (.bool false) w := fun _ => by kernel_rfl
            have HF := Lib.hid (filter_take_no (p := oldB ds) HE.out (by rw [HOLD.out, hdo]))
            clear hdo
            go_wp2
            go_roundw
            case rel => exact ⟨j + 1, hlt, by go_num, by rw [HF.out]; exact HOWN.out, HBR.out⟩
            case measure => simp [intOf]; omega
          | true =>
            rw [hdo] at hlk
            have hfd : ∀ w : World, (Instr.field 38 (.agg #[.int .i64 d.nm, .int .i64 d.ar, .bool true, .int .i64 d.op, .int .i64 d.n, .slice A' d.k.len c']) 2).run Try.prog w = .ok (.bool true) w := fun _ => by kernel_rfl
            have HF := Lib.hid (filter_take_yes (p := oldB ds) HE.out (by rw [HOLD.out, hdo]))
            clear hdo
            obtain ⟨iT, hiT, hiz0, hiz1, hiz2⟩ := info_parts (show (Try.prog.info? 3).map (fun i => (i.zero, i.size, i.bytes)) = some (some (.int .i64 0), 1, 8) by kernel_rfl)
            have HIT := Lib.hid hiT
            have HIZ0 := Lib.hid hiz0
            have HIZ1 := Lib.hid hiz1
            have HIZ2 := Lib.hid hiz2
            have C1 := Lib.hid (fresh_cells wr 3 #[Value.int .i64 x])
            have HC2 := Lib.hid (show ∀ u ∈ [Value.int .i64 x], u.oneCell' = true by intro u hu; rw [List.mem_singleton.1 hu]; rfl)
            have HC3 := Lib.hid (show ((zs.take j).filter (oldB ds)).length + 1 ≤ maxLen by unfold maxLen; omega)
            have HC4 := Lib.hid (show (((zs.take j).filter (oldB ds)).length + 1) * 8 ≤ 140737488355328 by omega)
            have HC5 := Lib.hid (show w6.heap.size ≤ (wr.alloc (.cells #[Value.int .i64 x] 3)).heap.size by have := HBR.out.size; rw [World.size_alloc]; omega)
            have HOA := Lib.hid (HOWN.out.alloc (.cells #[Value.int .i64 x] 3))
            clear hiT hiz0 hiz1 hiz2
            go_wp2_with (at_builtin; refine wpList_append_own_at _ rfl _ _ 29 rfl w6.heap.size 3 iT _ 1 8 Try.underlying29 HIT.out HIZ0.out HIZ1.out HIZ2.out rfl (by decide) _ _ _ rfl HOA.out ⟨wr.heap.size, 0, none⟩ 1 1 [Value.int .i64 x] rfl rfl C1.out HC2.out HC3.out HC4.out HC5.out ?_; intro v' w' hown5 hgrow5 _ hblk)
            have hb6 : Below w6.heap.size w6 w' := Below.grown (HBR.out.alloc HBR.out.size (.cells #[Value.int .i64 x] 3)) hgrow5 HC5.out (fun g' hg' => own_at_least HOWN.out hg')
            have HO6 := Lib.hid hown5
            have HB7 := Lib.hid hb6
            clear hown5 hgrow5 hblk hb6
            go_wp2_with fail
            go_roundw
            case rel =>
              refine ⟨j + 1, hlt, by go_num, ?_, HB7.out⟩
              rw [HF.out, List.length_append, List.map_append]
              exact HO6.out
            case measure => simp [intOf]; omega
        · have e9 : j = zs.length := by omega
          subst e9
          have HE : zs.take zs.length = zs := List.take_length
          rw [HE] at hown
          have HO9 := Lib.hid (own_less hown HS6.out.2)
          have HB9 := Lib.hid (HB6'.out.trans (hb.mono HS6.out.2))
          clear hown HE hb
          go_wp2
          go_ret
          exact ⟨_, rfl, by rw [HZ.out]; exact HO9.out, HB9.out⟩

theorem implOld_any (ds : List De) (DA : Option Addr) (DC : Nat) (op n : Int) (k : Fo) (A : Option Addr) (c : Nat) (LD BD L B : Nat) (w : World) (hd : LiesD w LD BD DA ds) (hBD : BD ≤ w.heap.size) (_hald : AllRows w LD BD) (hl : Lies w L B A 0 k) (hB : B ≤ w.heap.size) (_hal : AllRows w L B) (hdz : sizeD ds ≤ 1048576) (hk1 : k.len ≤ c) (hk2 : c ≤ maxLen) (hsz : k.size ≤ 1048576) :
    Calls Try.prog 6 #[.slice DA ds.length DC, .agg #[.int .i64 op, .int .i64 n, .slice A k.len c]] w (ListPost (oldL ds op n k) w) :=
  implOld_r ds DA DC op n k A c LD BD L B w hd hBD hl hB hdz hk1 hk2 hsz
end Go.Proofs.Ytiepflaghfjijaa

namespace Go.Proofs.Ytiepflaghfjijaa
open Go.RowKit
set_option maxRecDepth 100000

/-- A new empty list. -/
theorem own_empty0 (w : World) (base : Nat) (hb : base ≤ w.heap.size) : (w.alloc (Obj.cells #[] 3)).ownsRow base 3 1 (.slice (some ⟨w.heap.size, 0, none⟩) 0 0) 0 [] :=
  ⟨rfl, .inr ⟨w.heap.size, 0, #[], rfl, hb, heap_alloc_new _ _, Nat.le_refl _, by decide, rfl, rfl⟩⟩

/-- The place of a name that is there. -/
theorem place_there {x : Int} {ds : List De} {d : De} (h : fnd x ds = some d) : ∃ p : Nat, plcI x ds = (p : Int) ∧ ds[p]? = some d ∧ p < ds.length := by
  have h2 := plc_fnd x ds
  by_cases hp : plc x ds < ds.length
  · obtain ⟨d', e1, e2⟩ := h2.1 hp
    rw [h] at e2
    cases e2
    exact ⟨plc x ds, by unfold plcI; rw [if_pos hp], e1, hp⟩
  · rw [h2.2 hp] at h
    cases h

set_option maxHeartbeats 2000000 in
theorem specOld_any (ds : List De) (DA : Option Addr) (DC : Nat) (op n : Int) (k : Fo) (A : Option Addr) (c : Nat) (w : World) (hd : LiesD w 0 w.heap.size DA ds) (hl : Lies w 0 w.heap.size A 0 k) (hdz : sizeD ds ≤ 1048576) (hlen : k.len ≤ maxLen) (hsz : k.size ≤ 1048576) :
    Calls Try.prog 8 #[.slice DA ds.length DC, .agg #[.int .i64 op, .int .i64 n, .slice A k.len c]] w (ListPost (oldL ds op n k) w) := by
  have hds := Nat.le_trans (sizeD_len ds) hdz
  obtain ⟨hb0, hr0⟩ := one_box w 26 #[Value.int IntKind.i64 op, Value.int IntKind.i64 n, Value.slice A k.len c]
  have hb1 := hb0.alloc hb0.size (Obj.cells #[] 3)
  have hr1 := hr0.alloc (Obj.cells #[] 3)
  have ho1 := own_empty0 (w.alloc (Obj.cells #[Value.int IntKind.i64 op, Value.int IntKind.i64 n, Value.slice A k.len c] 26)) w.heap.size hb0.size
  rw [World.size_alloc] at ho1
  have HA := Lib.hid (specLibValid_any ds DA DC _ (hd.up hb1) hdz)
  have HB1 := Lib.hid hb1
  have HR1 := Lib.hid hr1
  have HO1 := Lib.hid ho1
  have HD := Lib.hid hd
  have HL := Lib.hid hl
  clear hb0 hr0 hb1 hr1 ho1 hd hl
  cases hv : libOk ds with
  | false =>
    rw [hv] at HA
    have HZ := Lib.hid (oldL_no (op := op) (n := n) (k := k) (ds := ds) (by rw [hv]; rfl))
    clear hv
    go_enter Try.func8, Try.ntmps8
    go_wp2_with fail
    refine HA.out.mono ?_
    rintro e w2 ⟨rfl, hb2⟩
    have HB2 := Lib.hid (HB1.out.trans (hb2.mono HB1.out.size))
    have HO2 := Lib.hid (own_below HO1.out hb2)
    clear hb2 HA HB1 HO1 HR1
    go_wp2
    go_ret
    exact ⟨_, rfl, by rw [HZ.out]; exact HO2.out, HB2.out⟩
  | true =>
    rw [hv] at HA
    generalize hf : callsFitB ds op n k = z
    cases z with
    | false =>
      have HZ := Lib.hid (oldL_no (op := op) (n := n) (k := k) (ds := ds) (by rw [hv, hf]; rfl))
      have HF := Lib.hid hf
      clear hv hf
      go_enter Try.func8, Try.ntmps8
      go_wp2_with fail
      refine HA.out.mono ?_
      rintro e w2 ⟨rfl, hb2⟩
      have HB2 := Lib.hid (HB1.out.trans (hb2.mono HB1.out.size))
      have HO2 := Lib.hid (own_below HO1.out hb2)
      have HR2 := HR1.out.below hb2 HR1.out.size
      have q0 := HR2.cell (i := 0) rfl
      have q1 := HR2.cell (i := 1) rfl
      have q2 := HR2.cell (i := 2) rfl
      clear hb2 HA HB1 HO1 HR1 HR2
      go_wp2_with fail
      refine (specCallsFit_any ds DA DC op n k A c w2 (HD.out.up HB2.out) (HL.out.up HB2.out) hds hlen hsz).mono ?_
      rintro e w3 ⟨rfl, hb3⟩
      rw [HF.out]
      have HB3 := Lib.hid (HB2.out.trans (hb3.mono HB2.out.size))
      have HO3 := Lib.hid (own_below HO2.out hb3)
      clear hb3 HB2 HO2 q0 q1 q2
      go_wp2
      go_ret
      exact ⟨_, rfl, by rw [HZ.out]; exact HO3.out, HB3.out⟩
    | true =>
      have HZ := Lib.hid (oldL_yes hv hf)
      have HF := Lib.hid hf
      have HT := Lib.hid (called_there hf)
      clear hv hf
      go_enter Try.func8, Try.ntmps8
      go_wp2_with fail
      refine HA.out.mono ?_
      rintro e w2 ⟨rfl, hb2⟩
      have HB2 := Lib.hid (HB1.out.trans (hb2.mono HB1.out.size))
      have HO2 := Lib.hid (own_below HO1.out hb2)
      have HR2 := HR1.out.below hb2 HR1.out.size
      have HS2 := Lib.hid (show w.heap.size + 1 + 1 ≤ w2.heap.size from Nat.le_trans (by simp) hb2.size)
      have q0 := HR2.cell (i := 0) rfl
      have q1 := HR2.cell (i := 1) rfl
      have q2 := HR2.cell (i := 2) rfl
      clear hb2 HA HB1 HO1 HR1
      have HR2' := Lib.hid HR2
      clear HR2
      go_wp2_with fail
      refine (specCallsFit_any ds DA DC op n k A c w2 (HD.out.up HB2.out) (HL.out.up HB2.out) hds hlen hsz).mono ?_
      rintro e w3 ⟨rfl, hb3⟩
      rw [HF.out]
      have HB3 := Lib.hid (HB2.out.trans (hb3.mono HB2.out.size))
      have HO3 := Lib.hid (own_below HO2.out hb3)
      have HS3 := Lib.hid (Nat.le_trans HS2.out hb3.size)
      have HR3 := HR2'.out.below hb3 HR2'.out.size
      clear hb3 HB2 HO2 q0 q1 q2 HR2' HS2
      have q0 := HR3.cell (i := 0) rfl
      have q1 := HR3.cell (i := 1) rfl
      have q2 := HR3.cell (i := 2) rfl
      clear HR3
      go_wp2_with fail
      refine (specCalls_any op n k A c w3 (HL.out.up HB3.out) hsz).mono ?_
      rintro e w4 ⟨v4, rfl, hown4, hb4⟩
      have HB4 := HB3.out.trans (hb4.mono HB3.out.size)
      have HO4 := own_below HO3.out hb4
      have hzl := numsUpto_len (callB ⟨op, n, k⟩) 8
      have hzi : ∀ x ∈ numsUpto (callB ⟨op, n, k⟩) 8, I64 x := fun x hx => numsUpto_small _ 8 x (Nat.le_refl _) hx
      obtain ⟨zs, hzs⟩ : ∃ zs, zs = numsUpto (callB ⟨op, n, k⟩) 8 := ⟨_, rfl⟩
      rw [← hzs] at hown4 hzl hzi HZ HT
      have HZS := Lib.hid hzs
      clear hzs
      obtain ⟨A4, c4, rfl, hI4⟩ := own_ints hown4 hzi
      have HD4 := HD.out.up HB4
      have hs34 := hb4.size
      have HS3' := HS3.out
      clear hb4 hown4 HB3 HO3 q0 q1 q2 HF HZS HS3 hzi
      go_wp2
      go_loopw [5, 7] (fun v i wr => ∃ (j : Nat), j ≤ zs.length ∧ i = .int .i64 j ∧ wr.ownsRow w.heap.size 3 1 v ((zs.take j).filter (oldB ds)).length (((zs.take j).filter (oldB ds)).map (Value.int .i64)) ∧
          (∀ g, v.ownBlock = some g → g < w3.heap.size ∨ w4.heap.size ≤ g) ∧ LiesI wr w3.heap.size w4.heap.size A4 zs ∧ w4.heap.size ≤ wr.heap.size ∧ Below w.heap.size w wr)
        (fun _ i _ => zs.length - (intOf i).toNat)
      case atStart => exact ⟨0, by omega, rfl, HO4, fun g hg => .inl (by simp [Value.ownBlock] at hg; omega), hI4, Nat.le_refl _, HB4⟩
      case round =>
        clear HO4 HB4 hI4 HD4
        obtain ⟨j, hj, rfl, hown, hgv, hI, hwz, hb⟩ := hrel
        by_cases hlt : j < zs.length
        · have e1 := List.getElem?_eq_getElem hlt
          generalize zs[j] = x at e1
          obtain ⟨b, o, hA, _, hbb, ix, g1⟩ := hI j x e1
          obtain ⟨hxv, d, hfd⟩ := HT.out x (List.mem_of_getElem? e1)
          obtain ⟨p, hpl, hpd, hpn⟩ := place_there hfd
          have hold : oldB ds x = d.old := by unfold oldB; rw [hfd]
          have HE := Lib.hid e1
          have HOLD := Lib.hid hold
          have HPL := Lib.hid hpl
          have HPD := Lib.hid hpd
          have HOWN := Lib.hid hown
          have HGV := Lib.hid hgv
          have HI := Lib.hid hI
          have HBR := Lib.hid hb
          have hfl := filter_take_len (oldB ds) zs j
          subst hA
          clear e1 hold hpl hpd hown hgv hI hb hfd hxv
          go_wp2_with fail
          refine (place_any ds DA DC wr x (HD.out.up HBR.out) hds).mono ?_
          rintro e w5 ⟨rfl, hb5⟩
          rw [HPL.out]
          have HB5 := Lib.hid (HBR.out.trans (hb5.mono HBR.out.size))
          have HO5 := Lib.hid (own_below HOWN.out hb5)
          have HI5 := Lib.hid (HI.out.below (hb5.mono hwz))
          have hwz5 := Nat.le_trans hwz hb5.size
          obtain ⟨bd, od, A', c', hDA, _, hbd, hfit, d0, d1, d2, d3, d4, d5, _⟩ := (HD.out.up HB5.out) p d HPD.out
          obtain ⟨b2, o2, hA2, _, _, _, g2⟩ := HI5.out j x HE.out
          obtain ⟨rfl, rfl⟩ : b2 = b ∧ o2 = o := by simp at hA2; exact ⟨hA2.1.symm, hA2.2.symm⟩
          subst hDA
          clear hA2 hb5 HBR HOWN HI g1 d0 d1 d3 d4 d5
          cases hdo : d.old with
          | false =>
            rw [hdo] at d2
            have HF := Lib.hid (filter_take_no (p := oldB ds) HE.out (by rw [HOLD.out, hdo]))
            clear hdo
            go_wp2
            go_roundw
            case rel => exact ⟨j + 1, hlt, by go_num, by rw [HF.out]; exact HO5.out, HGV.out, HI5.out, hwz5, HB5.out⟩
            case measure => simp [intOf]; omega
          | true =>
            rw [hdo] at d2
            have HF := Lib.hid (filter_take_yes (p := oldB ds) HE.out (by rw [HOLD.out, hdo]))
            clear hdo
            obtain ⟨iT, hiT, hiz0, hiz1, hiz2⟩ := info_parts (show (Try.prog.info? 3).map (fun i => (i.zero, i.size, i.bytes)) = some (some (.int .i64 0), 1, 8) by kernel_rfl)
            have HIT := Lib.hid hiT
            have HIZ0 := Lib.hid hiz0
            have HIZ1 := Lib.hid hiz1
            have HIZ2 := Lib.hid hiz2
            have C1 := Lib.hid (fresh_cells w5 3 #[Value.int .i64 x])
            have HC2 := Lib.hid (show ∀ u ∈ [Value.int .i64 x], u.oneCell' = true by intro u hu; rw [List.mem_singleton.1 hu]; rfl)
            have HC3 := Lib.hid (show ((zs.take j).filter (oldB ds)).length + 1 ≤ maxLen by unfold maxLen; omega)
            have HC4 := Lib.hid (show (((zs.take j).filter (oldB ds)).length + 1) * 8 ≤ 140737488355328 by omega)
            have HC5 := Lib.hid (show w.heap.size ≤ (w5.alloc (.cells #[Value.int .i64 x] 3)).heap.size by have := HB5.out.size; rw [World.size_alloc]; omega)
            have HOA := Lib.hid (HO5.out.alloc (.cells #[Value.int .i64 x] 3))
            clear hiT hiz0 hiz1 hiz2
            go_wp2_with (at_builtin; refine wpList_append_own_at _ rfl _ _ 29 rfl w.heap.size 3 iT _ 1 8 Try.underlying29 HIT.out HIZ0.out HIZ1.out HIZ2.out rfl (by decide) _ _ _ rfl HOA.out ⟨w5.heap.size, 0, none⟩ 1 1 [Value.int .i64 x] rfl rfl C1.out HC2.out HC3.out HC4.out HC5.out ?_; intro v' w' hown5 hgrow5 _ hblk)
            have hb6 : Below w.heap.size w w' := Below.grown (HB5.out.alloc HB5.out.size (.cells #[Value.int .i64 x] 3)) hgrow5 HC5.out (fun g' hg' => own_at_least HO5.out hg')
            have hs5 : (w5.alloc (.cells #[Value.int .i64 x] 3)).heap.size = w5.heap.size + 1 := by simp
            have hI6 : LiesI w' w3.heap.size w4.heap.size (some ⟨b2, o2, none⟩) zs := by
              refine (HI5.out.below (((Below.refl w5.heap.size w5).alloc (Nat.le_refl _) (.cells #[Value.int .i64 x] 3)).mono hwz5)).keep (Nat.le_refl _) (Nat.le_refl _) fun p h1 h2 => ?_
              refine World.cell?_of_block (hgrow5.block p.block (by rw [hs5]; omega) fun hg => ?_)
              have := HGV.out p.block hg.symm
              omega
            have hgv6 : ∀ g, v'.ownBlock = some g → g < w3.heap.size ∨ w4.heap.size ≤ g := by
              intro g hg
              rcases hblk with h | h
              · exact HGV.out g (h.symm.trans hg)
              · have h9 := h.symm.trans hg
                rw [hs5] at h9
                injection h9 with h9
                omega
            have hs6 : w4.heap.size ≤ w'.heap.size := by have := hgrow5.size; rw [hs5] at this; omega
            have HO6 := Lib.hid hown5
            have HB6 := Lib.hid hb6
            have HI6 := Lib.hid hI6
            have HG6 := Lib.hid hgv6
            clear hown5 hgrow5 hblk hb6 hI6 hgv6 hs5
            go_wp2_with fail
            go_roundw
            case rel =>
              refine ⟨j + 1, hlt, by go_num, ?_, HG6.out, HI6.out, hs6, HB6.out⟩
              rw [HF.out, List.length_append, List.map_append]
              exact HO6.out
            case measure => simp [intOf]; omega
        · have e9 : j = zs.length := by omega
          subst e9
          have HE : zs.take zs.length = zs := List.take_length
          rw [HE] at hown
          have HO9 := Lib.hid hown
          clear hown HE
          go_wp2
          go_ret
          exact ⟨_, rfl, by rw [HZ.out]; exact HO9.out, hb⟩
end Go.Proofs.Ytiepflaghfjijaa
