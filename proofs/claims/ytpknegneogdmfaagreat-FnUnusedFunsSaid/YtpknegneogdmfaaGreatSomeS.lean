/-
  spec.l1Some: an expression is drawn.
-/
import Derived.Test.YtpknegneogdmfaaGreatSomeD
namespace Go.Proofs.YtpknegneogdmfaaGreat
open Go.RowKit Go.Shelf
set_option maxRecDepth 100000

/-- The contract of a draw down to the depth d. -/
def SomeAt (d : Nat) : Prop := ∀ (g base : Nat) (A : Option Addr) (bc : Nat) (bs : List Nat) (Q p : Nat) (b : Int) (ZA : Option Addr) (Zc : Nat) (zs : List Int) (RA : Option Addr) (Rc : Nat) (ar : List Int) (w : World),
  Rd w g A bc bs p → LiesY w 0 base A bs → base ≤ g → bs.length ≤ 2000 → Lim bs Q → Ok bs Q p b → b + costD d ≤ 4000 → LiesI w (g + 1) w.heap.size ZA zs → zs.length + d ≤ 100 → LiesI w (g + 1) w.heap.size RA ar → ar.length ≤ 8 → (∀ x, x ∈ ar → x ≤ 3) →
  Calls Tryz.prog 29 #[.pointer (some ⟨g, 0, none⟩), .slice ZA zs.length Zc, .slice RA ar.length Rc, .int .i64 (d : Int)] w (SomePost g A bc bs Q (b + costD d) (nodesD d) w)

theorem Ok.pb {bs : List Nat} {Q p : Nat} {b : Int} (h : Ok bs Q p b) (hQ : Lim bs Q) : p ≤ 1000000 := by have := h.lt; have := hQ.1; omega

theorem Only.grown {g : Nat} {a b c : World} {r : Option Nat} (h : Only g a.heap.size a b) (hg : b.grownBy c r) (hr : ∀ z, r = some z → a.heap.size ≤ z) : Only g a.heap.size a c :=
  ⟨hg.os.trans h.os, hg.tape.trans h.tape, hg.output.trans h.output, Nat.le_trans h.size hg.size, fun i hi hne => (hg.block i (Nat.lt_of_lt_of_le hi h.size) (fun e => Nat.lt_irrefl _ (Nat.lt_of_lt_of_le hi (hr i e.symm)))).trans (h.block i hi hne)⟩
theorem liesI_only {w V : World} {g : Nat} {A : Option Addr} {zs : List Int} (h : LiesI w (g + 1) w.heap.size A zs) (hon : Only g w.heap.size w V) : LiesI V (g + 1) V.heap.size A zs :=
  h.keep (Nat.le_refl _) hon.size fun p h1 h2 => hon.cell h2 (by omega)
theorem liesY_only {w V : World} {g base : Nat} {A : Option Addr} {bs : List Nat} (h : LiesY w 0 base A bs) (hon : Only g w.heap.size w V) (hb : base ≤ w.heap.size) (hg : base ≤ g) : LiesY V 0 base A bs :=
  h.below ((hon.mono hb).below hg)
theorem LiesI.drew {w : World} {L : Nat} {A : Option Addr} {zs : List Int} (h : LiesI w L w.heap.size A zs) : LiesI w.drew L w.drew.heap.size A zs := h
theorem LiesY.drew {w : World} {L B : Nat} {A : Option Addr} {bs : List Nat} (h : LiesY w L B A bs) : LiesY w.drew L B A bs := h
theorem snoc_size : ∀ (f : Fo) (op n : Int) (k : Fo), (f.snoc op n k).size = f.size + k.size + 1
  | .nil, _, _, _ => by simp [Fo.snoc, Fo.size]
  | .cons _ _ _ r, op, n, k => by simp only [Fo.snoc, Fo.size, snoc_size r op n k]; omega

set_option maxHeartbeats 4000000 in
/-- The leaf: what the draw does where it goes no deeper. -/
theorem some_leaf (d : Nat) (hd : d < 2) : SomeAt d := by
  intro g base A bc bs Q p b ZA Zc zs RA Rc ar w hr hY hbg hl hQ hok hcost hz hzl hra hrl hr3
  have hc2 := costD_two d
  have hn1 := nodesD_one d
  have hp := hok.pb hQ
  have hb0 : Below w.heap.size w (w.alloc (Obj.cells #[.int .i64 0, .int .i64 0, .slice none 0 0] 36)) := (Below.refl _ _).alloc (Nat.le_refl _) _
  have r0 := Row.fresh w 36 #[.int .i64 0, .int .i64 0, .slice none 0 0]
  have hr1 := hr.below hb0 hr.size
  have hY1 := hY.below (hb0.mono (Nat.le_trans hbg (Nat.le_of_lt hr.size)))
  have hz1 := (hz.below hb0).mono_ (Nat.le_refl _) hb0.size
  have hgz : g < w.heap.size := hr.size
  obtain ⟨W, hW⟩ : ∃ W, W = w.alloc (Obj.cells #[.int .i64 0, .int .i64 0, .slice none 0 0] 36) := ⟨_, rfl⟩
  rw [← hW] at hb0 r0 hr1 hY1 hz1
  have h2 : decide ((d : Int) < 2) = true := by simp; omega
  have hsz : w.heap.size + 1 ≤ W.heap.size := by rw [hW]; simp
  have HR1 := Lib.hid hr1
  have HY1 := Lib.hid hY1
  have HZ1 := Lib.hid hz1
  have HB0 := Lib.hid hb0
  have R0 := Lib.hid r0
  have HSZ := Lib.hid hsz
  clear hr1 hY1 hz1 hb0 r0 hr hY hz hra hsz
  have hO0 : Only g w.heap.size w W := .of_below HB0.out
  have HO := Lib.hid hO0
  have HOK := Lib.hid (hok.mono (show b ≤ b + 0 by omega))
  clear hO0
  go_enter Tryz.func29, Tryz.ntmps29
  go_upto_region 1 with fail
  rw [← hW]
  clear hW
--LEAF
  have HSP := Lib.hid hp
  obtain ⟨q1, hq1⟩ : ∃ q, q = p := ⟨_, rfl⟩
  rw [← hq1] at HR1 HSP HOK
  obtain ⟨b1, hb1⟩ : ∃ z, z = b + 0 := ⟨_, rfl⟩
  rw [← hb1] at HOK
  have HBB := Lib.hid (show b1 + 2 ≤ b + costD d ∧ b + costD d ≤ 4000 by omega)
  clear hq1 hb1 hp
  have HG := Lib.hid (show base ≤ W.heap.size ∧ g + 1 ≤ W.heap.size ∧ g < w.heap.size ∧ w.heap.size ≤ W.heap.size by have := HSZ.out; omega)
  go_wp2_with fail
  case isTrue =>
    have HC := Lib.hid (pick_v g base A bc bs q1 3 W HR1.out HY1.out hbg hl HSP.out (by decide) (by decide))
    refine HC.out.mono ?_
    rintro e w2 ⟨rfl, hr2, hon2⟩
    obtain ⟨x, hx⟩ : ∃ x, x = pkL bs q1 3 := ⟨_, rfl⟩
    rw [← hx]
    have HR2 := Lib.hid (show Rd w2 g A bc bs (q1 + 1) from hr2)
    have HO2 := Lib.hid (HO.out.trans (hon2.mono (Nat.le_of_lt (by have := HSZ.out; omega))))
    have HY2 := Lib.hid (HY1.out.below ((hon2.mono HG.out.1).below hbg))
    have HZ2 := Lib.hid (HZ1.out.keep (Nat.le_refl _) hon2.size fun p h1 h2 => hon2.cell h2 (by omega))
    have HRB2 := Lib.hid (R0.out.only hon2 (by have := HSZ.out; omega) (by have := HG.out; omega))
    have HOK2 := Lib.hid (HOK.out.next hQ (by have := HBB.out; omega))
    have HS2 := Lib.hid hon2.size
    clear hr2 hon2 HC HR1 HO HY1 HZ1 R0 HOK hx HB0
    go_wp2_with fail
    · have HG2 := Lib.hid (show base ≤ w2.heap.size ∧ g + 1 ≤ w2.heap.size ∧ g < w.heap.size ∧ w.heap.size ≤ w2.heap.size by have := HG.out; have := HS2.out; omega)
      have HSP2 := Lib.hid (HOK2.out.pb hQ)
      have hz0 : 1 ≤ zs.length := by omega
      have HC := Lib.hid (pick_v g base A bc bs (q1 + 1) zs.length w2 HR2.out HY2.out hbg hl HSP2.out hz0 (by omega))
      refine HC.out.mono ?_
      rintro e w3 ⟨rfl, hr3', hon3⟩
      obtain ⟨x3, hx3⟩ : ∃ x3, x3 = pkL bs (q1 + 1) zs.length := ⟨_, rfl⟩
      have hlt3 : x3 < zs.length := by rw [hx3]; exact pkL_lt bs _ hz0
      rw [← hx3]
      have e3 := List.getElem?_eq_getElem hlt3
      generalize zs[x3] = y at e3
      obtain ⟨zb, zo, hZA, hzb1, hzb2, hyi, hyc⟩ := HZ2.out x3 y e3
      subst hZA
      have hyc3 := (hon3.cell (p := ⟨zb, zo + x3, none⟩) hzb2 (by dsimp only; omega)).trans hyc
      have HR8 := Lib.hid (show Rd w3 g A bc bs (q1 + 1 + 1) from hr3')
      have HO8 := Lib.hid (HO2.out.trans (hon3.mono HG2.out.2.2.2))
      have HB8 := Lib.hid (HRB2.out.only hon3 HRB2.out.size (by have := HG2.out; omega))
      have HOK8 := Lib.hid ((HOK2.out.next hQ (by have := HBB.out; omega)).mono (c := b + costD d) (by have := HBB.out; omega))
      have HYI := Lib.hid hyi
      have f0 := HB8.out.free 0
      have f1 := HB8.out.free 1
      have f2 := HB8.out.free 2
      have c0 := HB8.out.cell (i := 0) rfl
      have c1 := HB8.out.cell (i := 1) rfl
      have c2 := HB8.out.cell (i := 2) rfl
      clear hr3' hon3 HC hyc hyi e3 hx3
      go_wp2_with fail
      have r7 := ((HB8.out.put 0 (.int .i64 2)).put 1 (.int .i64 y)).put 2 (.slice none 0 0)
      have s0 := r7.cell (i := 0) rfl
      have s1 := r7.cell (i := 1) rfl
      have s2 := r7.cell (i := 2) rfl
      refine bodyPost_ret (v := .agg #[.int .i64 2, .int .i64 y, .slice none 0 0]) ?_ rfl ⟨2, y, .nil, none, 0, [], _, rfl, ⟨by unfold I64; omega, HYI.out⟩, Tree.none _ _, by simpa [Fo.size] using hn1, ((HR8.out.apart (by have := HG.out; dsimp only; omega) _).apart (by have := HG.out; dsimp only; omega) _).apart (by have := HG.out; dsimp only; omega) _, HOK8.out, ((HO8.out.set (.inr (Nat.le_refl _)) _).set (.inr (Nat.le_refl _)) _).set (.inr (Nat.le_refl _)) _⟩
      simp [results, Tryz.f29, go_sem, s0, s1, s2]
    · have HG2 := Lib.hid (show base ≤ w2.heap.size ∧ g + 1 ≤ w2.heap.size ∧ g < w.heap.size ∧ w.heap.size ≤ w2.heap.size by have := HG.out; have := HS2.out; omega)
      have HSP2 := Lib.hid (HOK2.out.pb hQ)
      have ba := (Below.refl w2.heap.size w2).alloc (Nat.le_refl _) (Obj.cells #[.int .i64 0, .int .i64 1, .int .i64 2, .int .i64 5, .int .i64 99, .int .i64 30] 3)
      have HN := Lib.hid (num_v g base A bc bs (q1 + 1) (some ⟨w2.heap.size, 0, none⟩) 6 [0, 1, 2, 5, 99, 30] _ (Row.below HR2.out ba HR2.out.size) (HY2.out.below (ba.mono HG2.out.1)) hbg hl HSP2.out (lies_new w2 (g + 1) [0, 1, 2, 5, 99, 30] (by intro x hx; simp at hx; unfold I64; omega) HG2.out.2.1) (by decide) (by decide))
      have HA := Lib.hid ba
      clear ba
      refine HN.out.mono ?_
      rintro e w8 ⟨y, -, hyi, rfl, hr8, hon8⟩
      have hz8 := HA.out.size
      have HB8 := Lib.hid ((HRB2.out.below HA.out HRB2.out.size).only hon8 (by have := HG2.out; have := HRB2.out.size; omega) (by have := HG2.out.2.2; omega))
      have HR8 := Lib.hid (show Rd w8 g A bc bs (q1 + 1 + 1) from hr8)
      have HO8 := Lib.hid (HO2.out.trans (((Only.of_below (HA.out.mono HG2.out.2.2.2)).trans (hon8.mono (by have := HG2.out; omega))).mono (Nat.le_refl _)))
      have HOK8 := Lib.hid ((HOK2.out.next hQ (by have := HBB.out; omega)).mono (c := b + costD d) (by have := HBB.out; omega))
      have HYI := Lib.hid hyi
      have f0 := HB8.out.free 0
      have f1 := HB8.out.free 1
      have f2 := HB8.out.free 2
      have c0 := HB8.out.cell (i := 0) rfl
      have c1 := HB8.out.cell (i := 1) rfl
      have c2 := HB8.out.cell (i := 2) rfl
      clear hr8 hon8 hyi HN hz8
      go_wp2_with fail
      have r7 := ((HB8.out.put 0 (.int .i64 1)).put 1 (.int .i64 y)).put 2 (.slice none 0 0)
      have s0 := r7.cell (i := 0) rfl
      have s1 := r7.cell (i := 1) rfl
      have s2 := r7.cell (i := 2) rfl
      refine bodyPost_ret (v := .agg #[.int .i64 1, .int .i64 y, .slice none 0 0]) ?_ rfl ⟨1, y, .nil, none, 0, [], _, rfl, ⟨by unfold I64; omega, HYI.out⟩, Tree.none _ _, by simpa [Fo.size] using hn1, ((HR8.out.apart (by have := HG2.out.2.2; dsimp only; omega) _).apart (by have := HG2.out.2.2; dsimp only; omega) _).apart (by have := HG2.out.2.2; dsimp only; omega) _, HOK8.out, ((HO8.out.set (.inr (Nat.le_refl _)) _).set (.inr (Nat.le_refl _)) _).set (.inr (Nat.le_refl _)) _⟩
      simp [results, Tryz.f29, go_sem, s0, s1, s2]
  -- no variable: a number
  have ba := (Below.refl W.heap.size W).alloc (Nat.le_refl _) (Obj.cells #[.int .i64 0, .int .i64 1, .int .i64 2, .int .i64 5, .int .i64 99, .int .i64 30] 3)
  have HN := Lib.hid (num_v g base A bc bs q1 (some ⟨W.heap.size, 0, none⟩) 6 [0, 1, 2, 5, 99, 30] _ (Row.below HR1.out ba HR1.out.size) (HY1.out.below (ba.mono HG.out.1)) hbg hl HSP.out (lies_new W (g + 1) [0, 1, 2, 5, 99, 30] (by intro x hx; simp at hx; unfold I64; omega) HG.out.2.1) (by decide) (by decide))
  have HA := Lib.hid ba
  clear ba
  refine HN.out.mono ?_
  rintro e w8 ⟨y, -, hyi, rfl, hr8, hon8⟩
  have hz8 := HA.out.size
  have HB8 := Lib.hid ((R0.out.below HA.out R0.out.size).only hon8 (by have := HG.out; have := R0.out.size; omega) (by have := HG.out.2.2; omega))
  have HR8 := Lib.hid (show Rd w8 g A bc bs (q1 + 1) from hr8)
  have HO8 := Lib.hid (HO.out.trans (((Only.of_below (HA.out.mono HG.out.2.2.2)).trans (hon8.mono (by have := HG.out; omega))).mono (Nat.le_refl _)))
  have HOK8 := Lib.hid ((HOK.out.next hQ (by have := HBB.out; omega)).mono (c := b + costD d) (by have := HBB.out; omega))
  have HYI := Lib.hid hyi
  have f0 := HB8.out.free 0
  have f1 := HB8.out.free 1
  have f2 := HB8.out.free 2
  have c0 := HB8.out.cell (i := 0) rfl
  have c1 := HB8.out.cell (i := 1) rfl
  have c2 := HB8.out.cell (i := 2) rfl
  clear hr8 hon8 hyi HN hz8
  go_wp2_with fail
  have r7 := ((HB8.out.put 0 (.int .i64 1)).put 1 (.int .i64 y)).put 2 (.slice none 0 0)
  have s0 := r7.cell (i := 0) rfl
  have s1 := r7.cell (i := 1) rfl
  have s2 := r7.cell (i := 2) rfl
  refine bodyPost_ret (v := .agg #[.int .i64 1, .int .i64 y, .slice none 0 0]) ?_ rfl ⟨1, y, .nil, none, 0, [], _, rfl, ⟨by unfold I64; omega, HYI.out⟩, Tree.none _ _, by simpa [Fo.size] using hn1, ((HR8.out.apart (by have := HG.out.2.2; dsimp only; omega) _).apart (by have := HG.out.2.2; dsimp only; omega) _).apart (by have := HG.out.2.2; dsimp only; omega) _, HOK8.out, ((HO8.out.set (.inr (Nat.le_refl _)) _).set (.inr (Nat.le_refl _)) _).set (.inr (Nat.le_refl _)) _⟩
  simp [results, Tryz.f29, go_sem, s0, s1, s2]

set_option maxHeartbeats 40000000 in
/-- A node: what the draw does where it may go deeper. -/
theorem some_node (d : Nat) (hd : 2 ≤ d) (hd9 : d ≤ 20) (ih : SomeAt (d - 1)) : SomeAt d := by
  intro g base A bc bs Q p b ZA Zc zs RA Rc ar w hr hY hbg hl hQ hok hcost hz hzl hra hrl hr3
  have hc2 := costD_step hd
  have hc3 := costD_two (d - 1)
  have hn1 := nodesD_one d
  have hp := hok.pb hQ
  have hb0 : Below w.heap.size w (w.alloc (Obj.cells #[.int .i64 0, .int .i64 0, .slice none 0 0] 36)) := (Below.refl _ _).alloc (Nat.le_refl _) _
  have r0 := Row.fresh w 36 #[.int .i64 0, .int .i64 0, .slice none 0 0]
  have hr1 := hr.below hb0 hr.size
  have hgz : g < w.heap.size := hr.size
  obtain ⟨W0, hW⟩ : ∃ W0, W0 = w.alloc (Obj.cells #[.int .i64 0, .int .i64 0, .slice none 0 0] 36) := ⟨_, rfl⟩
  rw [← hW] at hb0 r0 hr1
  have h2 : decide ((d : Int) < 2) = false := by simp; omega
  have hsz : w.heap.size + 1 ≤ W0.heap.size := by rw [hW]; simp
  have hO0 : Only g w.heap.size w W0 := .of_below hb0
  have HY0 := Lib.hid hY
  have HZ0 := Lib.hid hz
  have HRA0 := Lib.hid hra
  have hY1 := liesY_only hY hO0 (by omega) hbg
  have HCP := Lib.hid (pick_v g base A bc bs p 6 W0 hr1 hY1 hbg hl hp (by decide) (by decide))
  have HR1 := Lib.hid r0
  have HO0 := Lib.hid hO0
  have HSZ0 := Lib.hid hsz
  have HOK0 := Lib.hid (hok.next hQ (by omega))
  have HND := Lib.hid (nodesD_step hd)
  have HC2 := Lib.hid hc2
  have HC9 := Lib.hid (show 3 ≤ costD d ∧ b + costD d ≤ 4000 by omega)
  clear hc2 hc3
  clear hr1 hY1 hb0 r0 hr hY hz hra hsz hok hp hO0
  go_enter Tryz.func29, Tryz.ntmps29
  go_upto_region 1 with fail
  rw [← hW]
  clear hW
  go_wp2_with fail
  refine HCP.out.mono ?_
  rintro e W ⟨rfl, hrp, hop⟩
  obtain ⟨xp, hxp⟩ : ∃ x, x = pkL bs p 6 := ⟨_, rfl⟩
  rw [← hxp]
  have HO := Lib.hid (HO0.out.trans (hop.mono (Nat.le_of_lt HSZ0.out)))
  have R0 := Lib.hid (HR1.out.only hop (by have := HSZ0.out; omega) (by omega))
  obtain ⟨q1, hq1⟩ : ∃ q, q = p + 1 := ⟨_, rfl⟩
  rw [← hq1] at hrp HOK0
  obtain ⟨b1, hb1⟩ : ∃ z, z = b + 1 := ⟨_, rfl⟩
  rw [← hb1] at HOK0
  have HOK := Lib.hid HOK0.out
  have HSZ := Lib.hid (show w.heap.size + 1 ≤ W.heap.size from Nat.le_trans HSZ0.out hop.size)
  clear HR1
  have HR1 := Lib.hid (show Rd W g A bc bs q1 from hrp)
  have HY1 := Lib.hid (liesY_only HY0.out HO.out (by omega) hbg)
  have HZ1 := Lib.hid (liesI_only HZ0.out HO.out)
  have HB0 := Lib.hid (show True from trivial)
  have HSP := Lib.hid (HOK.out.pb hQ)
  have HB1 := Lib.hid hb1
  have HBB := Lib.hid (show b1 + 2 ≤ b + costD d ∧ b + costD d ≤ 4000 by have := HC9.out; omega)
  have HG := Lib.hid (show base ≤ W.heap.size ∧ g + 1 ≤ W.heap.size ∧ g < w.heap.size ∧ w.heap.size ≤ W.heap.size by have := HSZ.out; omega)
  clear hrp hop hxp HCP HO0 HSZ0 HOK0 hq1 hb1
  by_cases hx0 : xp = 0
  · subst hx0
    go_wp2_with fail
    case isTrue =>
      have HC := Lib.hid (pick_v g base A bc bs q1 3 W HR1.out HY1.out hbg hl HSP.out (by decide) (by decide))
      refine HC.out.mono ?_
      rintro e w2 ⟨rfl, hr2, hon2⟩
      obtain ⟨x, hx⟩ : ∃ x, x = pkL bs q1 3 := ⟨_, rfl⟩
      rw [← hx]
      have HR2 := Lib.hid (show Rd w2 g A bc bs (q1 + 1) from hr2)
      have HO2 := Lib.hid (HO.out.trans (hon2.mono (Nat.le_of_lt (by have := HSZ.out; omega))))
      have HY2 := Lib.hid (HY1.out.below ((hon2.mono HG.out.1).below hbg))
      have HZ2 := Lib.hid (HZ1.out.keep (Nat.le_refl _) hon2.size fun p h1 h2 => hon2.cell h2 (by omega))
      have HRB2 := Lib.hid (R0.out.only hon2 (by have := HSZ.out; omega) (by have := HG.out; omega))
      have HOK2 := Lib.hid (HOK.out.next hQ (by have := HBB.out; omega))
      have HS2 := Lib.hid hon2.size
      clear hr2 hon2 HC HR1 HO HY1 HZ1 R0 HOK hx HB0
      go_wp2_with fail
      · have HG2 := Lib.hid (show base ≤ w2.heap.size ∧ g + 1 ≤ w2.heap.size ∧ g < w.heap.size ∧ w.heap.size ≤ w2.heap.size by have := HG.out; have := HS2.out; omega)
        have HSP2 := Lib.hid (HOK2.out.pb hQ)
        have hz0 : 1 ≤ zs.length := by omega
        have HC := Lib.hid (pick_v g base A bc bs (q1 + 1) zs.length w2 HR2.out HY2.out hbg hl HSP2.out hz0 (by omega))
        refine HC.out.mono ?_
        rintro e w3 ⟨rfl, hr3', hon3⟩
        obtain ⟨x3, hx3⟩ : ∃ x3, x3 = pkL bs (q1 + 1) zs.length := ⟨_, rfl⟩
        have hlt3 : x3 < zs.length := by rw [hx3]; exact pkL_lt bs _ hz0
        rw [← hx3]
        have e3 := List.getElem?_eq_getElem hlt3
        generalize zs[x3] = y at e3
        obtain ⟨zb, zo, hZA, hzb1, hzb2, hyi, hyc⟩ := HZ2.out x3 y e3
        subst hZA
        have hyc3 := (hon3.cell (p := ⟨zb, zo + x3, none⟩) hzb2 (by dsimp only; omega)).trans hyc
        have HR8 := Lib.hid (show Rd w3 g A bc bs (q1 + 1 + 1) from hr3')
        have HO8 := Lib.hid (HO2.out.trans (hon3.mono HG2.out.2.2.2))
        have HB8 := Lib.hid (HRB2.out.only hon3 HRB2.out.size (by have := HG2.out; omega))
        have HOK8 := Lib.hid ((HOK2.out.next hQ (by have := HBB.out; omega)).mono (c := b + costD d) (by have := HBB.out; omega))
        have HYI := Lib.hid hyi
        have f0 := HB8.out.free 0
        have f1 := HB8.out.free 1
        have f2 := HB8.out.free 2
        have c0 := HB8.out.cell (i := 0) rfl
        have c1 := HB8.out.cell (i := 1) rfl
        have c2 := HB8.out.cell (i := 2) rfl
        clear hr3' hon3 HC hyc hyi e3 hx3
        go_wp2_with fail
        have r7 := ((HB8.out.put 0 (.int .i64 2)).put 1 (.int .i64 y)).put 2 (.slice none 0 0)
        have s0 := r7.cell (i := 0) rfl
        have s1 := r7.cell (i := 1) rfl
        have s2 := r7.cell (i := 2) rfl
        refine bodyPost_ret (v := .agg #[.int .i64 2, .int .i64 y, .slice none 0 0]) ?_ rfl ⟨2, y, .nil, none, 0, [], _, rfl, ⟨by unfold I64; omega, HYI.out⟩, Tree.none _ _, by simpa [Fo.size] using hn1, ((HR8.out.apart (by have := HG.out; dsimp only; omega) _).apart (by have := HG.out; dsimp only; omega) _).apart (by have := HG.out; dsimp only; omega) _, HOK8.out, ((HO8.out.set (.inr (Nat.le_refl _)) _).set (.inr (Nat.le_refl _)) _).set (.inr (Nat.le_refl _)) _⟩
        simp [results, Tryz.f29, go_sem, s0, s1, s2]
      · have HG2 := Lib.hid (show base ≤ w2.heap.size ∧ g + 1 ≤ w2.heap.size ∧ g < w.heap.size ∧ w.heap.size ≤ w2.heap.size by have := HG.out; have := HS2.out; omega)
        have HSP2 := Lib.hid (HOK2.out.pb hQ)
        have ba := (Below.refl w2.heap.size w2).alloc (Nat.le_refl _) (Obj.cells #[.int .i64 0, .int .i64 1, .int .i64 2, .int .i64 5, .int .i64 99, .int .i64 30] 3)
        have HN := Lib.hid (num_v g base A bc bs (q1 + 1) (some ⟨w2.heap.size, 0, none⟩) 6 [0, 1, 2, 5, 99, 30] _ (Row.below HR2.out ba HR2.out.size) (HY2.out.below (ba.mono HG2.out.1)) hbg hl HSP2.out (lies_new w2 (g + 1) [0, 1, 2, 5, 99, 30] (by intro x hx; simp at hx; unfold I64; omega) HG2.out.2.1) (by decide) (by decide))
        have HA := Lib.hid ba
        clear ba
        refine HN.out.mono ?_
        rintro e w8 ⟨y, -, hyi, rfl, hr8, hon8⟩
        have hz8 := HA.out.size
        have HB8 := Lib.hid ((HRB2.out.below HA.out HRB2.out.size).only hon8 (by have := HG2.out; have := HRB2.out.size; omega) (by have := HG2.out.2.2; omega))
        have HR8 := Lib.hid (show Rd w8 g A bc bs (q1 + 1 + 1) from hr8)
        have HO8 := Lib.hid (HO2.out.trans (((Only.of_below (HA.out.mono HG2.out.2.2.2)).trans (hon8.mono (by have := HG2.out; omega))).mono (Nat.le_refl _)))
        have HOK8 := Lib.hid ((HOK2.out.next hQ (by have := HBB.out; omega)).mono (c := b + costD d) (by have := HBB.out; omega))
        have HYI := Lib.hid hyi
        have f0 := HB8.out.free 0
        have f1 := HB8.out.free 1
        have f2 := HB8.out.free 2
        have c0 := HB8.out.cell (i := 0) rfl
        have c1 := HB8.out.cell (i := 1) rfl
        have c2 := HB8.out.cell (i := 2) rfl
        clear hr8 hon8 hyi HN hz8
        go_wp2_with fail
        have r7 := ((HB8.out.put 0 (.int .i64 1)).put 1 (.int .i64 y)).put 2 (.slice none 0 0)
        have s0 := r7.cell (i := 0) rfl
        have s1 := r7.cell (i := 1) rfl
        have s2 := r7.cell (i := 2) rfl
        refine bodyPost_ret (v := .agg #[.int .i64 1, .int .i64 y, .slice none 0 0]) ?_ rfl ⟨1, y, .nil, none, 0, [], _, rfl, ⟨by unfold I64; omega, HYI.out⟩, Tree.none _ _, by simpa [Fo.size] using hn1, ((HR8.out.apart (by have := HG2.out.2.2; dsimp only; omega) _).apart (by have := HG2.out.2.2; dsimp only; omega) _).apart (by have := HG2.out.2.2; dsimp only; omega) _, HOK8.out, ((HO8.out.set (.inr (Nat.le_refl _)) _).set (.inr (Nat.le_refl _)) _).set (.inr (Nat.le_refl _)) _⟩
        simp [results, Tryz.f29, go_sem, s0, s1, s2]
    -- no variable: a number
    have ba := (Below.refl W.heap.size W).alloc (Nat.le_refl _) (Obj.cells #[.int .i64 0, .int .i64 1, .int .i64 2, .int .i64 5, .int .i64 99, .int .i64 30] 3)
    have HN := Lib.hid (num_v g base A bc bs q1 (some ⟨W.heap.size, 0, none⟩) 6 [0, 1, 2, 5, 99, 30] _ (Row.below HR1.out ba HR1.out.size) (HY1.out.below (ba.mono HG.out.1)) hbg hl HSP.out (lies_new W (g + 1) [0, 1, 2, 5, 99, 30] (by intro x hx; simp at hx; unfold I64; omega) HG.out.2.1) (by decide) (by decide))
    have HA := Lib.hid ba
    clear ba
    refine HN.out.mono ?_
    rintro e w8 ⟨y, -, hyi, rfl, hr8, hon8⟩
    have hz8 := HA.out.size
    have HB8 := Lib.hid ((R0.out.below HA.out R0.out.size).only hon8 (by have := HG.out; have := R0.out.size; omega) (by have := HG.out.2.2; omega))
    have HR8 := Lib.hid (show Rd w8 g A bc bs (q1 + 1) from hr8)
    have HO8 := Lib.hid (HO.out.trans (((Only.of_below (HA.out.mono HG.out.2.2.2)).trans (hon8.mono (by have := HG.out; omega))).mono (Nat.le_refl _)))
    have HOK8 := Lib.hid ((HOK.out.next hQ (by have := HBB.out; omega)).mono (c := b + costD d) (by have := HBB.out; omega))
    have HYI := Lib.hid hyi
    have f0 := HB8.out.free 0
    have f1 := HB8.out.free 1
    have f2 := HB8.out.free 2
    have c0 := HB8.out.cell (i := 0) rfl
    have c1 := HB8.out.cell (i := 1) rfl
    have c2 := HB8.out.cell (i := 2) rfl
    clear hr8 hon8 hyi HN hz8
    go_wp2_with fail
    have r7 := ((HB8.out.put 0 (.int .i64 1)).put 1 (.int .i64 y)).put 2 (.slice none 0 0)
    have s0 := r7.cell (i := 0) rfl
    have s1 := r7.cell (i := 1) rfl
    have s2 := r7.cell (i := 2) rfl
    refine bodyPost_ret (v := .agg #[.int .i64 1, .int .i64 y, .slice none 0 0]) ?_ rfl ⟨1, y, .nil, none, 0, [], _, rfl, ⟨by unfold I64; omega, HYI.out⟩, Tree.none _ _, by simpa [Fo.size] using hn1, ((HR8.out.apart (by have := HG.out.2.2; dsimp only; omega) _).apart (by have := HG.out.2.2; dsimp only; omega) _).apart (by have := HG.out.2.2; dsimp only; omega) _, HOK8.out, ((HO8.out.set (.inr (Nat.le_refl _)) _).set (.inr (Nat.le_refl _)) _).set (.inr (Nat.le_refl _)) _⟩
    simp [results, Tryz.f29, go_sem, s0, s1, s2]
  have hx1 : ((xp : Int) == 0) = false := by simp; omega
  clear hx0
  go_wp2_with fail
  have ba := (Below.refl W.heap.size W).alloc (Nat.le_refl _) (Obj.cells #[.int .i64 3, .int .i64 4, .int .i64 5, .int .i64 6, .int .i64 7, .int .i64 8, .int .i64 9, .int .i64 3, .int .i64 7, .int .i64 9] 3)
  have HN := Lib.hid (num_v g base A bc bs q1 (some ⟨W.heap.size, 0, none⟩) 10 [3, 4, 5, 6, 7, 8, 9, 3, 7, 9] _ (Row.below HR1.out ba HR1.out.size) (HY1.out.below (ba.mono HG.out.1)) hbg hl HSP.out (lies_new W (g + 1) [3, 4, 5, 6, 7, 8, 9, 3, 7, 9] (by intro x hx; simp at hx; unfold I64; omega) HG.out.2.1) (by decide) (by decide))
  have HA := Lib.hid ba
  clear ba
  refine HN.out.mono ?_
  rintro e w8 ⟨y, hym, hyi, rfl, hr8, hon8⟩
  have hy9 : y = 3 ∨ y = 7 ∨ (y ≠ 3 ∧ y ≠ 7) := by omega
  have hz8 := HA.out.size
  have hB8 := ((R0.out.below HA.out R0.out.size).only hon8 (by have := R0.out.size; omega) (by omega))
  have hO8 := HO.out.trans ((Only.of_below (HA.out.mono HG.out.2.2.2)).trans (hon8.mono (by have := HG.out; omega)))
  have HOK8 := Lib.hid (HOK.out.next hQ (by have := HBB.out; omega))
  have HYI := Lib.hid hyi
  have HS8 := Lib.hid (show w.heap.size + 1 ≤ w8.heap.size by have := HSZ.out; have := hon8.size; omega)
  have hR8 : Rd w8 g A bc bs (q1 + 1) := hr8
  clear hr8 hon8 hyi HN hz8 hym HO R0 HR1 HY1 HZ1 HA HSP HOK HSZ
  go_upto_region 6 with fail
  obtain ⟨W1, hW1⟩ : ∃ W1, W1 = w8.alloc (Obj.cells #[.int .i64 y, .int .i64 0, .slice none 0 0] 36) := ⟨_, rfl⟩
  have hb1 : Below w8.heap.size w8 W1 := by rw [hW1]; exact (Below.refl _ _).alloc (Nat.le_refl _) _
  have hX1 : Row W1 w8.heap.size 36 #[.int .i64 y, .int .i64 0, .slice none 0 0] := by rw [hW1]; exact Row.fresh _ _ _
  obtain ⟨c10, hc10⟩ : ∃ c, c = w8.heap.size := ⟨_, rfl⟩
  have HROW1 := Lib.hid (show Row W1 c10 36 #[.int .i64 y, .int .i64 0, .slice none 0 0] by rw [hc10]; exact hX1)
  have HRES1 := Lib.hid (hB8.below hb1 hB8.size)
  have HON1 := Lib.hid (hO8.trans (.of_below (hb1.mono hO8.size)))
  have HRD1 := Lib.hid (show Rd W1 g A bc bs (q1 + 1) from Row.below hR8 hb1 hR8.size)
  have HG1 := Lib.hid (show base ≤ w.heap.size ∧ g < w.heap.size ∧ w.heap.size + 1 ≤ c10 ∧ c10 < W1.heap.size by have := HS8.out; have := hX1.size; omega)
  clear HG
  have HG := HG1
  clear HG1
  have HNI := Lib.hid (show I64 0 by unfold I64; omega)
  clear hb1 hX1 hB8 hO8 hR8 HS8
  go_upto_region 7 with fail
  rw [← hW1, ← hc10]
  clear hW1 hc10
  rcases hy9 with rfl | rfl | ⟨hy3, hy7⟩
  · -- a call
    have hq1 := HOK8.out.pb hQ
    have HC8 := Lib.hid (pick_v g base A bc bs (q1 + 1) 8 W1 HRD1.out (liesY_only HY0.out HON1.out HG.out.1 hbg) hbg hl hq1 (by decide) (by decide))
    clear hq1
    go_wp2_with fail
    refine HC8.out.mono ?_
    rintro e W2 ⟨rfl, hr2, hon2⟩
    obtain ⟨f, hf⟩ : ∃ f, f = pkL bs (q1 + 1) 8 := ⟨_, rfl⟩
    have hf8 : f < 8 := by rw [hf]; exact pkL_lt bs _ (by decide)
    rw [← hf]
    obtain ⟨q2, hq2⟩ : ∃ q, q = q1 + 1 + 1 := ⟨_, rfl⟩
    obtain ⟨b0, hb0⟩ : ∃ z, z = b1 + 2 := ⟨_, rfl⟩
    have HBL := Lib.hid (show b0 + 3 * ((costD (d - 1) : Nat) : Int) ≤ b + costD d ∧ b + costD d ≤ 4000 by have := HC2.out; have := HC9.out; have := HB1.out; omega)
    have HOK2 := Lib.hid (show Ok bs Q q2 b0 by rw [hq2, hb0]; exact (HOK8.out.next hQ (by have := HBB.out; omega)).mono (by omega))
    have HRD2 := Lib.hid (show Rd W2 g A bc bs q2 by rw [hq2]; exact hr2)
    have HROW2 := Lib.hid (HROW1.out.only hon2 HROW1.out.size (by have := HG.out; omega))
    have HRES2 := Lib.hid (HRES1.out.only hon2 HRES1.out.size (by have := HG.out; omega))
    have HON2 := Lib.hid (HON1.out.trans (hon2.mono HON1.out.size))
    clear HOK8 HRD1 HROW1 HON1 HRES1 hq2 hb0 hr2 hon2 HC8 hf
    by_cases hfl : f < ar.length
    rotate_left
    · have h4 : decide (ar.length ≤ f) = true := by simp; omega
      go_upto_region 10 with fail
      have hd1 : IntKind.i64.wrap ((d : Int) - 1) = ((d - 1 : Nat) : Int) := by rw [IntKind.wrap_i64]; omega
      have HC := Lib.hid (ih g base A bc bs Q q2 b0 ZA Zc zs _ Rc ar W2 HRD2.out (liesY_only HY0.out HON2.out HG.out.1 hbg) hbg hl hQ HOK2.out (by have := HBL.out; omega) (liesI_only HZ0.out HON2.out) (by omega) (liesI_only HRA0.out HON2.out) hrl hr3)
      go_wp2_with fail
      refine HC.out.mono ?_
      rintro e w5 ⟨o5, n5, k5, A5, c5, b5, p5, rfl, hi5, ht5, hs5, hrd5, hok5, hon5⟩
      have hon6 := HON2.out.trans (hon5.mono HON2.out.size)
      have hres5 := HRES2.out.only hon5 HRES2.out.size (by have := HG.out; omega)
      have ba := (Below.refl w5.heap.size w5).alloc (Nat.le_refl _) (Obj.cells #[.int .i64 o5, .int .i64 n5, .slice A5 k5.len c5] 36)
      have hresA := hres5.below ba hres5.size
      have HRDA := Lib.hid (show Row (w5.alloc (Obj.cells #[.int .i64 o5, .int .i64 n5, .slice A5 k5.len c5] 36)) g 55 #[.slice A bs.length bc, .int .i64 (p5 : Int)] from Row.below hrd5 ba (Row.size hrd5))
      have htA := tree_one (base := w.heap.size + 1) (Row.fresh w5 36 #[.int .i64 o5, .int .i64 n5, .slice A5 k5.len c5]) hres5.size ((ht5.over ba).lower HRES2.out.size) (fun h => Nat.lt_irrefl _ (ht5.lt _ h).2) hi5 (rfl : w = w)
      have HTA := Lib.hid htA
      have HONA := Lib.hid (hon6.trans (.of_below (ba.mono hon6.size)))
      have HOKA := Lib.hid (show Ok bs Q p5 (b + costD d) from hok5.mono (by have := HBL.out; omega))
      have HSZA := Lib.hid (show (Fo.cons o5 n5 k5 .nil).size + 1 ≤ nodesD d by have := HND.out; have := nodesD_one (d - 1); simp only [Fo.size]; omega)
      have HRSA := Lib.hid hresA
      have f0 := hresA.free 0
      have f1 := hresA.free 1
      have f2 := hresA.free 2
      have c0 := hresA.cell (i := 0) rfl
      have c1 := hresA.cell (i := 1) rfl
      have c2 := hresA.cell (i := 2) rfl
      clear hi5 ht5 hs5 hrd5 hok5 hon5 hon6 hres5 ba hresA htA
      go_wp2_with fail
      have r7 := ((HRSA.out.put 0 (.int .i64 9)).put 1 (.int .i64 0)).put 2 (.slice (some ⟨w5.heap.size, 0, none⟩) 1 1)
      have t0 := r7.cell (i := 0) rfl
      have t1 := r7.cell (i := 1) rfl
      have t2 := r7.cell (i := 2) rfl
      refine bodyPost_ret (v := .agg #[.int .i64 9, .int .i64 0, .slice (some ⟨w5.heap.size, 0, none⟩) 1 1]) ?_ rfl ⟨9, 0, .cons o5 n5 k5 .nil, some ⟨w5.heap.size, 0, none⟩, 1, _, p5, rfl, ⟨by unfold I64; omega, by unfold I64; omega⟩, ((HTA.out.keep fun z hz => ?_).lower (Nat.le_succ _)), HSZA.out, ((HRDA.out.apart (by have := HG.out; dsimp only; omega) _).apart (by have := HG.out; dsimp only; omega) _).apart (by have := HG.out; dsimp only; omega) _, HOKA.out, ((HONA.out.set (.inr (Nat.le_refl _)) _).set (.inr (Nat.le_refl _)) _).set (.inr (Nat.le_refl _)) _⟩
      · simp [results, Tryz.f29, go_sem, t0, t1, t2]
      · have hz1 := (HTA.out.lt z hz).1
        have hz2 : z ≠ w.heap.size := by omega
        rw [Below.heap_setCell _ _ _ z hz2, Below.heap_setCell _ _ _ z hz2, Below.heap_setCell _ _ _ z hz2]
    have h4 : decide (ar.length ≤ f) = false := by simp; omega
    have e1 := List.getElem?_eq_getElem hfl
    generalize ar[f] = z at e1
    have hz3 := hr3 z (List.mem_of_getElem? e1)
    obtain ⟨rb, ro, hRA, hrb1, hrb2, hzi, hzc⟩ := HRA0.out f z e1
    subst hRA
    have hzc2 := (HON2.out.cell (p := ⟨rb, ro + f, none⟩) hrb2 (by dsimp only; omega)).trans hzc
    by_cases hz0 : z < 0
    · have h5 : decide (z < 0) = true := by simpa using hz0
      clear e1 hzi hzc
      go_upto_region 10 with fail
      clear hzc2
      have hd1 : IntKind.i64.wrap ((d : Int) - 1) = ((d - 1 : Nat) : Int) := by rw [IntKind.wrap_i64]; omega
      have HC := Lib.hid (ih g base A bc bs Q q2 b0 ZA Zc zs _ Rc ar W2 HRD2.out (liesY_only HY0.out HON2.out HG.out.1 hbg) hbg hl hQ HOK2.out (by have := HBL.out; omega) (liesI_only HZ0.out HON2.out) (by omega) (liesI_only HRA0.out HON2.out) hrl hr3)
      go_wp2_with fail
      refine HC.out.mono ?_
      rintro e w5 ⟨o5, n5, k5, A5, c5, b5, p5, rfl, hi5, ht5, hs5, hrd5, hok5, hon5⟩
      have hon6 := HON2.out.trans (hon5.mono HON2.out.size)
      have hres5 := HRES2.out.only hon5 HRES2.out.size (by have := HG.out; omega)
      have ba := (Below.refl w5.heap.size w5).alloc (Nat.le_refl _) (Obj.cells #[.int .i64 o5, .int .i64 n5, .slice A5 k5.len c5] 36)
      have hresA := hres5.below ba hres5.size
      have HRDA := Lib.hid (show Row (w5.alloc (Obj.cells #[.int .i64 o5, .int .i64 n5, .slice A5 k5.len c5] 36)) g 55 #[.slice A bs.length bc, .int .i64 (p5 : Int)] from Row.below hrd5 ba (Row.size hrd5))
      have htA := tree_one (base := w.heap.size + 1) (Row.fresh w5 36 #[.int .i64 o5, .int .i64 n5, .slice A5 k5.len c5]) hres5.size ((ht5.over ba).lower HRES2.out.size) (fun h => Nat.lt_irrefl _ (ht5.lt _ h).2) hi5 (rfl : w = w)
      have HTA := Lib.hid htA
      have HONA := Lib.hid (hon6.trans (.of_below (ba.mono hon6.size)))
      have HOKA := Lib.hid (show Ok bs Q p5 (b + costD d) from hok5.mono (by have := HBL.out; omega))
      have HSZA := Lib.hid (show (Fo.cons o5 n5 k5 .nil).size + 1 ≤ nodesD d by have := HND.out; have := nodesD_one (d - 1); simp only [Fo.size]; omega)
      have HRSA := Lib.hid hresA
      have f0 := hresA.free 0
      have f1 := hresA.free 1
      have f2 := hresA.free 2
      have c0 := hresA.cell (i := 0) rfl
      have c1 := hresA.cell (i := 1) rfl
      have c2 := hresA.cell (i := 2) rfl
      clear hi5 ht5 hs5 hrd5 hok5 hon5 hon6 hres5 ba hresA htA
      go_wp2_with fail
      have r7 := ((HRSA.out.put 0 (.int .i64 9)).put 1 (.int .i64 0)).put 2 (.slice (some ⟨w5.heap.size, 0, none⟩) 1 1)
      have t0 := r7.cell (i := 0) rfl
      have t1 := r7.cell (i := 1) rfl
      have t2 := r7.cell (i := 2) rfl
      refine bodyPost_ret (v := .agg #[.int .i64 9, .int .i64 0, .slice (some ⟨w5.heap.size, 0, none⟩) 1 1]) ?_ rfl ⟨9, 0, .cons o5 n5 k5 .nil, some ⟨w5.heap.size, 0, none⟩, 1, _, p5, rfl, ⟨by unfold I64; omega, by unfold I64; omega⟩, ((HTA.out.keep fun z hz => ?_).lower (Nat.le_succ _)), HSZA.out, ((HRDA.out.apart (by have := HG.out; dsimp only; omega) _).apart (by have := HG.out; dsimp only; omega) _).apart (by have := HG.out; dsimp only; omega) _, HOKA.out, ((HONA.out.set (.inr (Nat.le_refl _)) _).set (.inr (Nat.le_refl _)) _).set (.inr (Nat.le_refl _)) _⟩
      · simp [results, Tryz.f29, go_sem, t0, t1, t2]
      · have hz1 := (HTA.out.lt z hz).1
        have hz2 : z ≠ w.heap.size := by omega
        rw [Below.heap_setCell _ _ _ z hz2, Below.heap_setCell _ _ _ z hz2, Below.heap_setCell _ _ _ z hz2]
    have h5 : decide (z < 0) = false := by simpa using hz0
    have HZC := Lib.hid hzc
    have HZR := Lib.hid (And.intro hrb1 hrb2)
    have hz6 : 0 ≤ z := by omega
    have HNI := Lib.hid (show I64 (f : Int) by unfold I64; omega)
    have HRX := Lib.hid (HROW2.out.put 1 (.int .i64 (f : Int)))
    have hx0 := HROW2.out.free 1
    have hx1 := HROW2.out.cell (i := 1) rfl
    have HROW0 := Lib.hid (show Row (W2.setCell ⟨c10, 1, none⟩ (.int .i64 (f : Int))) c10 36 #[.int .i64 3, .int .i64 (f : Int), .slice none 0 0] from HRX.out)
    have HRES0 := Lib.hid (HRES2.out.apart (p := ⟨c10, 1, none⟩) (by have := HG.out; dsimp only; omega) (.int .i64 (f : Int)))
    have HRD0 := Lib.hid (show Rd (W2.setCell ⟨c10, 1, none⟩ (.int .i64 (f : Int))) g A bc bs q2 from Row.apart HRD2.out (p := ⟨c10, 1, none⟩) (by have := HG.out; dsimp only; omega) (.int .i64 (f : Int)))
    have HON0 := Lib.hid (HON2.out.set (p := ⟨c10, 1, none⟩) (.inr (by have := HG.out; dsimp only; omega)) (.int .i64 (f : Int)))
    have HOK0 := HOK2
    clear e1 hzi hzc HRX HROW2 HRES2 HRD2 HON2 HOK2
    go_wp2_with fail
    clear hx0 hx1 hzc2 h4 h5
    go_loopw [12] (fun i wr => ∃ (j : Nat) (pr : Fo) (A1 : Option Addr) (c1' : Nat) (bl : List Nat) (q : Nat), j ≤ 3 ∧ i = .int .i64 (j : Int) ∧ pr.len = j ∧ Row wr c10 36 #[.int .i64 3, .int .i64 (f : Int), .slice A1 pr.len c1'] ∧ Tree wr (c10 + 1) (.slice A1 pr.len c1') pr bl ∧
        pr.size ≤ j * nodesD (d - 1) ∧ Rd wr g A bc bs q ∧ Ok bs Q q (b0 + j * (costD (d - 1) : Nat)) ∧ Only g w.heap.size w wr ∧ Row wr w.heap.size 36 #[.int .i64 0, .int .i64 0, .slice none 0 0] ∧ c10 < wr.heap.size)
      (fun i _ => 3 - (intOf i).toNat)
    case atStart => exact ⟨0, .nil, none, 0, [], q2, by omega, rfl, rfl, HROW0.out, Tree.none _ _, by simp [Fo.size], HRD0.out, HOK0.out.mono (by omega), HON0.out, HRES0.out, HROW0.out.size⟩
    case round =>
      clear HROW0 HRD0 HOK0 HON0 HRES0
      obtain ⟨j, pr, A1, c1', bl, q, hj, rfl, hpl, hrow, ht, hps, hrd, hq, hon, hres, hwz⟩ := hrel
      have HPL := Lib.hid hpl
      have hpl2 : pr.len ≤ 1048576 := by omega
      clear hpl
      have s0 := hrow.cell (i := 0) rfl
      have s1 := hrow.cell (i := 1) rfl
      have s2 := hrow.cell (i := 2) rfl
      have f0 := hres.free 0
      have f1 := hres.free 1
      have f2 := hres.free 2
      have c0 := hres.cell (i := 0) rfl
      have c1 := hres.cell (i := 1) rfl
      have c2 := hres.cell (i := 2) rfl
      have hzw := (hon.cell (p := ⟨rb, ro + f, none⟩) HZR.out.2 (by have := HZR.out; dsimp only; omega)).trans HZC.out
      go_upto_region 15 with fail
      · -- one more
        have hj2 : j ≤ 2 := by omega
        clear s0 s1 s2 f0 f1 f2 c0 c1 c2
        have q3 : wr.drew.cell? ⟨c10, 2, none⟩ = some (.slice A1 pr.len c1') := hrow.cell (i := 2) rfl
        have hza : c10 < wr.drew.heap.size := hrow.size
        have hzr : w.heap.size ≤ wr.heap.size := hon.size
        have HC := Lib.hid (ih g base A bc bs Q q (b0 + j * (costD (d - 1) : Nat)) ZA Zc zs _ Rc ar wr.drew hrd (liesY_only HY0.out hon HG.out.1 hbg).drew hbg hl hQ hq (by
          have h1 := HBL.out
          have h2 : (j : Int) * ((costD (d - 1) : Nat) : Int) ≤ 2 * ((costD (d - 1) : Nat) : Int) := Int.mul_le_mul_of_nonneg_right (by omega) (by omega)
          omega) (liesI_only HZ0.out hon).drew (by omega) (liesI_only HRA0.out hon).drew hrl hr3)
        have hd1 : IntKind.i64.wrap ((d : Int) - 1) = ((d - 1 : Nat) : Int) := by rw [IntKind.wrap_i64]; omega
        have HT := Lib.hid ht
        have HON := Lib.hid hon
        have HROW := Lib.hid hrow
        have HRES := Lib.hid hres
        have HPS := Lib.hid hps
        have HWR := Lib.hid (show c10 + 1 ≤ wr.heap.size from hza)
        have hbox : ∀ z, (Value.slice A1 pr.len c1').ownBlock = some z → c10 + 1 ≤ z ∧ z < wr.heap.size := fun z hz => by
          obtain ⟨st, b1', k1', k2', rfl, _⟩ := ht
          exact blk_lt k1' (by unfold blkV; rw [hz]; simp)
        have HBOX := Lib.hid hbox
        clear hrow ht hon hres hrd hq hps hbox
        go_wp2_with fail
        go_region_law (first
            | (refine step_push rfl (.tmp 82) (.tmp 89) rfl (c10 + 1) (.slice A1 pr.len c1') pr bl b5 o5 n5 k5 A5 c5 rfl rfl HT5.out HK5.out HI5.out HD5.out hpl2 HZ5.out ?_
               intro v6 w6 bs6 ht6 hg6 hin6
               obtain ⟨A6, c6, rfl, hc61, hc62⟩ := ht6.slice
               have hne : ∀ z, z < c10 + 1 → some z ≠ (Value.slice A1 pr.len c1').ownBlock := fun z hz e => by have := HBOX.out z e.symm; omega
               have hr6 := row_grown HROW5.out hg6 (hne _ (Nat.lt_succ_self _))
               have u3 : w6.cell? ⟨c10, 2, none⟩ = some (.slice A1 pr.len c1') := hr6.cell (i := 2) rfl
               have f3 := hr6.free 2
               have HR6 := Lib.hid hr6
               have HRES6 := Lib.hid (row_grown HRES5.out hg6 (hne _ (by have := HG.out; omega)))
               have HRD6 := Lib.hid (show Rd w6 g A bc bs p5 from row_grown HRD5.out hg6 (hne _ (by have := HG.out; omega)))
               have HT6 := Lib.hid ht6
               have HON6 := Lib.hid (HON5.out.grown hg6 fun z hz => by have := HBOX.out z hz; have := HG.out; omega)
               clear hr6 ht6 hg6 hin6 hne hc61 hc62)
            | (refine step_call (f := 29) rfl (by kernel_rfl) HC.out ?_
               rintro e w5 ⟨o5, n5, k5, A5, c5, b5, p5, rfl, hi5, ht5, hs5, hrd5, hok5, hon5⟩
               refine ⟨_, rfl, ?_⟩
               have hon5' : Only g wr.heap.size wr w5 := ((Only.refl g wr.heap.size wr).drew).trans hon5
               have y3 : w5.cell? ⟨c10, 2, none⟩ = some (.slice A1 pr.len c1') := (hon5.cell (p := ⟨c10, 2, none⟩) hza (by have := HG.out; dsimp only; omega)).trans q3
               have bz := (Below.refl w5.heap.size w5).alloc (Nat.le_refl _) (Obj.cells #[.int .i64 o5, .int .i64 n5, .slice A5 k5.len c5] 36)
               have z3 : (w5.alloc (Obj.cells #[.int .i64 o5, .int .i64 n5, .slice A5 k5.len c5] 36)).cell? ⟨c10, 2, none⟩ = some (.slice A1 pr.len c1') := (bz.cell (p := ⟨c10, 2, none⟩) (Nat.lt_of_lt_of_le hza hon5.size)).trans y3
               have HT5 := Lib.hid (HT.out.keep fun z hz => hon5'.block z (HT.out.lt z hz).2 (by have := (HT.out.lt z hz).1; have := HG.out; omega))
               have HK5 := Lib.hid (ht5.lower (base' := c10 + 1) HWR.out)
               have HD5 := Lib.hid (show ∀ z, z ∈ bl → z ∈ b5 → False from fun z h1 h2 => by
                 have e1 := (HT.out.lt z h1).2
                 have e2 := (ht5.lt z h2).1
                 have e4 : wr.heap.size ≤ z := e2
                 omega)
               have HI5 := Lib.hid hi5
               have HS5 := Lib.hid hs5
               have HZ5 := Lib.hid (Nat.le_trans HWR.out hon5'.size)
               have HROW5 := Lib.hid (HROW.out.only hon5' HROW.out.size (by have := HG.out; omega))
               have HRES5 := Lib.hid (HRES.out.only hon5' HRES.out.size (by have := HG.out; omega))
               have HRD5 := Lib.hid (show Row w5 g 55 #[.slice A bs.length bc, .int .i64 (p5 : Int)] from hrd5)
               have HOK5 := Lib.hid hok5
               have HON5 := Lib.hid (HON.out.trans (hon5'.mono HON.out.size))
               clear ht5 hon5 hon5' bz hi5 hs5 hrd5 hok5))
        all_goals
          go_wp2_with fail
          go_roundw
          case rel =>
            have hr7 := HR6.out.put 2 (.slice A6 (pr.snoc o5 n5 k5).len c6)
            have ht7 : Tree (w6.setCell ⟨c10, 2, none⟩ (.slice A6 (pr.snoc o5 n5 k5).len c6)) (c10 + 1) (.slice A6 (pr.snoc o5 n5 k5).len c6) (pr.snoc o5 n5 k5) bs6 :=
              HT6.out.keep fun z hz => Below.heap_setCell w6 _ _ z (by have := (HT6.out.lt z hz).1; dsimp only; omega)
            refine ⟨j + 1, pr.snoc o5 n5 k5, A6, c6, bs6, p5, by omega, by go_num, by rw [Fo.snoc_len, HPL.out], hr7, ht7, ?_, HRD6.out.apart (by have := HG.out; dsimp only; omega) _, HOK5.out.mono (by rw [Int.natCast_add, Int.add_mul]; omega), HON6.out.set (.inr (by have := HG.out; dsimp only; omega)) _, HRES6.out.apart (by have := HG.out; dsimp only; omega) _, by have := HR6.out.size; simpa [World.setCell] using this⟩
            rw [snoc_size, Nat.succ_mul]
            have := HS5.out
            have := HPS.out
            omega
          case measure => simp [intOf]; omega
      · have HT := Lib.hid ht
        have HON := Lib.hid hon
        have HRD := Lib.hid hrd
        have HRS := Lib.hid hres
        have HOKF := Lib.hid (show Ok bs Q q (b + costD d) from hq.mono (by
          have h1 := HBL.out
          have h2 : (j : Int) * ((costD (d - 1) : Nat) : Int) ≤ 3 * ((costD (d - 1) : Nat) : Int) := Int.mul_le_mul_of_nonneg_right (by omega) (by omega)
          omega))
        have HSZF := Lib.hid (show pr.size + 1 ≤ nodesD d by
          have h1 := HND.out
          have h2 : j * nodesD (d - 1) ≤ 3 * nodesD (d - 1) := Nat.mul_le_mul_right _ hj
          omega)
        clear hrow ht hon hrd hres hq hps s0 s1 s2 f0 f1 f2 c0 c1 c2
        have r7 := ((HRS.out.put 0 (.int .i64 3)).put 1 (.int .i64 (f : Int))).put 2 (.slice A1 pr.len c1')
        have t0 := r7.cell (i := 0) rfl
        have t1 := r7.cell (i := 1) rfl
        have t2 := r7.cell (i := 2) rfl
        refine bodyPost_ret (v := .agg #[.int .i64 3, .int .i64 (f : Int), .slice A1 pr.len c1']) ?_ rfl ⟨3, (f : Int), pr, A1, c1', bl, q, rfl, ⟨HYI.out, HNI.out⟩, ((HT.out.keep fun z hz => ?_).lower (by have := HG.out; omega)), HSZF.out, ((HRD.out.apart (by have := HG.out; dsimp only; omega) _).apart (by have := HG.out; dsimp only; omega) _).apart (by have := HG.out; dsimp only; omega) _, HOKF.out, ((HON.out.set (.inr (Nat.le_refl _)) _).set (.inr (Nat.le_refl _)) _).set (.inr (Nat.le_refl _)) _⟩
        · simp [results, Tryz.f29, go_sem, t0, t1, t2]
        · have hz1 := (HT.out.lt z hz).1
          have hz2 : z ≠ w.heap.size := by have := HG.out; omega
          rw [Below.heap_setCell _ _ _ z hz2, Below.heap_setCell _ _ _ z hz2, Below.heap_setCell _ _ _ z hz2]
  · -- a let
    have hq1 := HOK8.out.pb hQ
    have HC8 := Lib.hid (pick_v g base A bc bs (q1 + 1) 4 W1 HRD1.out (liesY_only HY0.out HON1.out HG.out.1 hbg) hbg hl hq1 (by decide) (by decide))
    clear hq1
    go_wp2_with fail
    refine HC8.out.mono ?_
    rintro e W2 ⟨rfl, hr2, hon2⟩
    obtain ⟨x, hx⟩ : ∃ x, x = pkL bs (q1 + 1) 4 := ⟨_, rfl⟩
    have hx4 : x < 4 := by rw [hx]; exact pkL_lt bs _ (by decide)
    rw [← hx]
    obtain ⟨q2, hq2⟩ : ∃ q, q = q1 + 1 + 1 := ⟨_, rfl⟩
    obtain ⟨b0, hb0⟩ : ∃ z, z = b1 + 2 := ⟨_, rfl⟩
    have HBL := Lib.hid (show b0 + 3 * ((costD (d - 1) : Nat) : Int) ≤ b + costD d ∧ b + costD d ≤ 4000 by have := HC2.out; have := HC9.out; have := HB1.out; omega)
    have hok2 : Ok bs Q q2 b0 := by rw [hq2, hb0]; exact (HOK8.out.next hQ (by have := HBB.out; omega)).mono (by omega)
    have hrd2 : Rd W2 g A bc bs q2 := by rw [hq2]; exact hr2
    have hrow2 := HROW1.out.only hon2 HROW1.out.size (by have := HG.out; omega)
    have hres2 := HRES1.out.only hon2 HRES1.out.size (by have := HG.out; omega)
    have HON2' := HON1.out.trans (hon2.mono HON1.out.size)
    have fx1 := hrow2.free 1
    have cx1 := hrow2.cell (i := 1) rfl
    obtain ⟨W3, hW3⟩ : ∃ W3, W3 = W2.setCell ⟨c10, 1, none⟩ (.int .i64 (x : Int)) := ⟨_, rfl⟩
    have hrow3 : Row W3 c10 36 #[.int .i64 7, .int .i64 (x : Int), .slice none 0 0] := by rw [hW3]; exact hrow2.put 1 (.int .i64 (x : Int))
    have HROW3 := Lib.hid hrow3
    have HRES3 := Lib.hid (show Row W3 w.heap.size 36 #[.int .i64 0, .int .i64 0, .slice none 0 0] by rw [hW3]; exact hres2.apart (by have := HG.out; dsimp only; omega) _)
    have hrd3 : Rd W3 g A bc bs q2 := by rw [hW3]; exact Row.apart hrd2 (by have := HG.out; dsimp only; omega) _
    have HON3 := Lib.hid (show Only g w.heap.size w W3 by rw [hW3]; exact HON2'.set (.inr (by have := HG.out; dsimp only; omega)) _)
    have hd1 : IntKind.i64.wrap ((d : Int) - 1) = ((d - 1 : Nat) : Int) := by rw [IntKind.wrap_i64]; omega
    have HC3 := Lib.hid (ih g base A bc bs Q q2 b0 ZA Zc zs RA Rc ar W3 hrd3 (liesY_only HY0.out HON3.out HG.out.1 hbg) hbg hl hQ hok2 (by have := HBL.out; omega) (liesI_only HZ0.out HON3.out) (by omega) (liesI_only HRA0.out HON3.out) hrl hr3)
    clear HOK8 HRD1 HROW1 HON1 HRES1 hq2 hb0 hr2 hon2 HC8 hx hok2 hrd2 hrow2 hres2 HON2' hrow3 hrd3
    go_upto_region 19 with fail
    rw [← hW3]
    clear hW3 fx1 cx1
    go_wp2_with fail
    refine HC3.out.mono ?_
    rintro e w5 ⟨o5, n5, k5, A5, c5, b5, p5, rfl, hi5, ht5, hs5, hrd5, hok5, hon5⟩
    have hon35 := HON3.out.trans (hon5.mono HON3.out.size)
    obtain ⟨c13, hc13⟩ : ∃ c, c = w5.heap.size := ⟨_, rfl⟩
    obtain ⟨W6, hW6⟩ : ∃ W6, W6 = w5.alloc (Obj.cells #[.int .i64 o5, .int .i64 n5, .slice A5 k5.len c5] 36) := ⟨_, rfl⟩
    have hb6 : Below w5.heap.size w5 W6 := by rw [hW6]; exact (Below.refl _ _).alloc (Nat.le_refl _) _
    have HX13 := Lib.hid (show Row W6 c13 36 #[.int .i64 o5, .int .i64 n5, .slice A5 k5.len c5] by rw [hW6, hc13]; exact Row.fresh _ _ _)
    have hrow5 := HROW3.out.only hon5 HROW3.out.size (by have := HG.out; omega)
    have hres5 := HRES3.out.only hon5 HRES3.out.size (by have := HG.out; omega)
    have HROW6 := Lib.hid (hrow5.below hb6 hrow5.size)
    have HRES6 := Lib.hid (hres5.below hb6 hres5.size)
    have HRD6 := Lib.hid (show Rd W6 g A bc bs p5 from Row.below hrd5 hb6 (Row.size hrd5))
    have HON6 := Lib.hid (hon35.trans (.of_below (hb6.mono hon35.size)))
    have HT6 := Lib.hid ((ht5.over hb6).lower (base' := c10 + 1) HROW3.out.size)
    have HBLK6 := Lib.hid (show ∀ z, z ∈ b5 → c10 + 1 ≤ z ∧ z < c13 from fun z hz => ⟨Nat.le_trans HROW3.out.size (ht5.lt z hz).1, by rw [hc13]; exact (ht5.lt z hz).2⟩)
    have HI5 := Lib.hid hi5
    have HS5 := Lib.hid hs5
    have HOK5 := Lib.hid hok5
    have HZ6 := Lib.hid (show c10 < c13 ∧ c13 < W6.heap.size ∧ g < W6.heap.size ∧ g < c10 ∧ w.heap.size + 1 ≤ c10 from ⟨by rw [hc13]; exact hrow5.size, HX13.out.size, Row.size HRD6.out, by have := HG.out; omega, by have := HG.out; omega⟩)
    clear hb6 hrow5 hres5 hi5 ht5 hs5 hrd5 hok5 hon5 hon35 HROW3 HRES3 HON3 HC3
    go_upto_region 20 with fail
    rw [← hW6, ← hc13]
    clear hW6 hc13
    have HXI := Lib.hid (show I64 (x : Int) by unfold I64; omega)
    have HZI := Lib.hid (show ∀ z ∈ zs ++ [(x : Int)], I64 z from fun z hz => by
      rcases List.mem_append.1 hz with h | h
      · obtain ⟨i, hlt, hi⟩ := List.getElem_of_mem h
        obtain ⟨_, _, _, _, _, h4, _⟩ := HZ0.out i z (by rw [List.getElem?_eq_getElem hlt, hi])
        exact h4
      · rw [List.mem_singleton.1 h]; unfold I64; omega)
    have HLS := Lib.hid ((liesI_only HZ0.out HON6.out).mono_ (Nat.zero_le _) (Nat.le_refl _))
    have hS : ∀ w' : World, Below W6.heap.size W6 w' → w'.cell? ⟨c13, 0, none⟩ = some (Value.int .i64 o5) ∧ w'.cell? ⟨c13, 1, none⟩ = some (Value.int .i64 n5) ∧ w'.cell? ⟨c13, 2, none⟩ = some (Value.slice A5 k5.len c5) ∧ w'.cell? ⟨c10, 1, none⟩ = some (Value.int .i64 (x : Int)) := fun w' hb => by
      have h1 := HX13.out.below hb HX13.out.size
      have h2 := HROW6.out.below hb HROW6.out.size
      exact ⟨h1.cell (i := 0) rfl, h1.cell (i := 1) rfl, h1.cell (i := 2) rfl, h2.cell (i := 1) rfl⟩
    have HSS := Lib.hid hS
    have HSO := Lib.hid (show ∀ w2 w' : World, Below W6.heap.size W6 w2 → Only g w2.heap.size w2 w' → w'.cell? ⟨c13, 0, none⟩ = some (Value.int .i64 o5) ∧ w'.cell? ⟨c13, 1, none⟩ = some (Value.int .i64 n5) ∧ w'.cell? ⟨c13, 2, none⟩ = some (Value.slice A5 k5.len c5) ∧ w'.cell? ⟨c10, 1, none⟩ = some (Value.int .i64 (x : Int)) from fun w2 w' hb ho => by
      have ho' : Only g W6.heap.size W6 w' := (Only.of_below hb).trans (ho.mono hb.size)
      have h1 := HX13.out.only ho' HX13.out.size (by have := HZ6.out; omega)
      have h2 := HROW6.out.only ho' HROW6.out.size (by have := HZ6.out; omega)
      exact ⟨h1.cell (i := 0) rfl, h1.cell (i := 1) rfl, h1.cell (i := 2) rfl, h2.cell (i := 1) rfl⟩)
    have HSA := Lib.hid (show ∀ w' : World, (w'.cell? ⟨c13, 0, none⟩ = some (Value.int .i64 o5) ∧ w'.cell? ⟨c13, 1, none⟩ = some (Value.int .i64 n5) ∧ w'.cell? ⟨c13, 2, none⟩ = some (Value.slice A5 k5.len c5) ∧ w'.cell? ⟨c10, 1, none⟩ = some (Value.int .i64 (x : Int))) → ∀ o : Obj, (w'.alloc o).cell? ⟨c13, 0, none⟩ = some (Value.int .i64 o5) ∧ (w'.alloc o).cell? ⟨c13, 1, none⟩ = some (Value.int .i64 n5) ∧ (w'.alloc o).cell? ⟨c13, 2, none⟩ = some (Value.slice A5 k5.len c5) ∧ (w'.alloc o).cell? ⟨c10, 1, none⟩ = some (Value.int .i64 (x : Int)) from fun w' h o => by
      obtain ⟨h1, h2, h3, h4⟩ := h
      have hb := (Below.refl w'.heap.size w').alloc (Nat.le_refl _) o
      exact ⟨(hb.cell (World.block_lt_of_cell? _ _ h1)).trans h1, (hb.cell (World.block_lt_of_cell? _ _ h2)).trans h2, (hb.cell (World.block_lt_of_cell? _ _ h3)).trans h3, (hb.cell (World.block_lt_of_cell? _ _ h4)).trans h4⟩)
    have HST := Lib.hid (show ∀ (w' : World) (u : Value), (w'.cell? ⟨c13, 0, none⟩ = some (Value.int .i64 o5) ∧ w'.cell? ⟨c13, 1, none⟩ = some (Value.int .i64 n5) ∧ w'.cell? ⟨c13, 2, none⟩ = some (Value.slice A5 k5.len c5) ∧ w'.cell? ⟨c10, 1, none⟩ = some (Value.int .i64 (x : Int))) → (w'.setCell ⟨c10, 2, none⟩ u).cell? ⟨c13, 0, none⟩ = some (Value.int .i64 o5) ∧ (w'.setCell ⟨c10, 2, none⟩ u).cell? ⟨c13, 1, none⟩ = some (Value.int .i64 n5) ∧ (w'.setCell ⟨c10, 2, none⟩ u).cell? ⟨c13, 2, none⟩ = some (Value.slice A5 k5.len c5) ∧ (w'.setCell ⟨c10, 2, none⟩ u).cell? ⟨c10, 1, none⟩ = some (Value.int .i64 (x : Int)) from fun w' u h => by
      obtain ⟨h1, h2, h3, h4⟩ := h
      have hne : c10 ≠ c13 := by have := HZ6.out; omega
      exact ⟨(World.cell?_setCell_other w' _ _ u (by intro e; injection e with e1; exact hne e1)).trans h1, (World.cell?_setCell_other w' _ _ u (by intro e; injection e with e1; exact hne e1)).trans h2, (World.cell?_setCell_other w' _ _ u (by intro e; injection e with e1; exact hne e1)).trans h3, (World.cell?_setCell_other w' _ _ u (by intro e; injection e with _ e1; exact absurd e1 (by decide))).trans h4⟩)
    have HCALL := Lib.hid (fun (w2 : World) (hb : Below W6.heap.size W6 w2) (A9 : Option Addr) (c9 : Nat) (hI : LiesI w2 W6.heap.size w2.heap.size A9 (zs ++ [(x : Int)])) => ih g base A bc bs Q p5 (b0 + ((costD (d - 1) : Nat) : Int)) A9 c9 (zs ++ [(x : Int)]) RA Rc ar w2
      (show Rd w2 g A bc bs p5 from Row.below HRD6.out hb (Row.size HRD6.out)) ((liesY_only HY0.out HON6.out HG.out.1 hbg).below (hb.mono (by have := HG.out; have := HZ6.out; omega))) hbg hl hQ HOK5.out (by have := HBL.out; omega)
      (hI.mono_ (by have := HZ6.out; omega) (Nat.le_refl _)) (by rw [List.length_append]; simp only [List.length_cons, List.length_nil]; omega) (((liesI_only HRA0.out HON6.out).below hb).mono_ (Nat.le_refl _) hb.size) hrl hr3)
    have b0' : Below W6.heap.size W6 W6.drew := (Below.refl _ _).drew
    have s0 := HSS.out _ b0'
    have sE := HSS.out _ (show Below W6.heap.size W6 (W6.alloc (Obj.cells #[] 3)).drew from ((Below.refl _ _).alloc (Nat.le_refl _) _).drew)
    have sX := HSS.out _ (show Below W6.heap.size W6 (W6.alloc (Obj.cells #[.int .i64 (x : Int)] 3)).drew from ((Below.refl _ _).alloc (Nat.le_refl _) _).drew)
    have sEX := HSS.out _ (show Below W6.heap.size W6 ((W6.alloc (Obj.cells #[] 3)).alloc (Obj.cells #[.int .i64 (x : Int)] 3)).drew from (((Below.refl _ _).alloc (Nat.le_refl _) _).alloc (by simp) _).drew)
    have sXE := HSS.out _ (show Below W6.heap.size W6 ((W6.alloc (Obj.cells #[.int .i64 (x : Int)] 3)).alloc (Obj.cells #[] 3)).drew from (((Below.refl _ _).alloc (Nat.le_refl _) _).alloc (by simp) _).drew)
    clear hS b0'
    go_wp2_with fail
    go_region_held3 (fun w' => w'.cell? ⟨c13, 0, none⟩ = some (Value.int .i64 o5) ∧ w'.cell? ⟨c13, 1, none⟩ = some (Value.int .i64 n5) ∧ w'.cell? ⟨c13, 2, none⟩ = some (Value.slice A5 k5.len c5) ∧ w'.cell? ⟨c10, 1, none⟩ = some (Value.int .i64 (x : Int)))
      (first | with_reducible exact s0 | with_reducible exact sE | with_reducible exact sX | with_reducible exact sEX | with_reducible exact sXE | with_reducible exact s1 | with_reducible exact s1x | with_reducible exact s2 | with_reducible exact s9 | with_reducible exact s9a | with_reducible exact s10 | fail)
      (first
          | (refine step_call (f := 29) rfl (by kernel_rfl) HC2.out ?_
             rintro e w9 ⟨o9, n9, k9, A9', c9', b9, p9, rfl, hi9, ht9, hs9, hrd9, hok9, hon9⟩
             refine ⟨_, rfl, ?_⟩
             have s9 := HSO.out w2 w9 HB2.out hon9
             have s9a := HSA.out w9 s9 (Obj.cells #[.int .i64 o5, .int .i64 n5, .slice A5 k5.len c5, .int .i64 o9, .int .i64 n9, .slice A9' k9.len c9'] 36)
             have hon69 : Only g W6.heap.size W6 w9 := (Only.of_below HB2.out).trans (hon9.mono HB2.out.size)
             have HT9 := Lib.hid ht9
             have HI9 := Lib.hid hi9
             have HS9 := Lib.hid hs9
             have HRD9 := Lib.hid hrd9
             have HOK9 := Lib.hid hok9
             have HON9 := Lib.hid hon69
             have hro9 := (HROW6.out.only hon69 HROW6.out.size (by have := HG.out; omega)).below ((Below.refl w9.heap.size w9).alloc (Nat.le_refl _) (Obj.cells #[.int .i64 o5, .int .i64 n5, .slice A5 k5.len c5, .int .i64 o9, .int .i64 n9, .slice A9' k9.len c9'] 36)) (Nat.lt_of_lt_of_le HROW6.out.size hon69.size)
             have fx := hro9.free 2
             have cx2 := hro9.cell (i := 2) rfl
             have s10 := HST.out _ (.slice (some ⟨w9.heap.size, 0, none⟩) 2 2) s9a
             have HRO9 := Lib.hid hro9
             have HB29 := Lib.hid HB2.out.size
             clear ht9 hi9 hs9 hrd9 hok9 hon9 hon69 hro9)
          | (refine step_lies0 rfl (.tmp 108) (.tmp 111) rfl rfl W6.heap.size v1 zs.length (zs.map (Value.int .i64)) rfl [(x : Int)] rfl (by first | exact HO1.out.alloc _ | exact HO1.out) (by first | exact lies_one (Row.fresh _ _ _) HXI.out | exact lies_one HX1.out HXI.out) (by simp only [List.length_cons, List.length_nil]; omega) (by first | exact HB1.out.size | exact Nat.le_trans HB1.out.size (by simp)) ?_
             intro v2 w2 ho2 hg2 hk2
             have hb2 : Below W6.heap.size W6 w2 := by
               first
               | exact Below.grown HB1.out hg2 HB1.out.size (fun g' hg' => own_at_least HO1.out hg')
               | exact Below.grown (HB1.out.alloc HB1.out.size _) hg2 (Nat.le_trans HB1.out.size (by simp)) (fun g' hg' => own_at_least HO1.out hg')
             obtain ⟨A9, c9, rfl, hI9⟩ := own_ints (zs := zs ++ [(x : Int)]) (by rw [List.length_append, List.map_append]; exact ho2) HZI.out
             have s2 := HSS.out _ hb2
             have HC2 := Lib.hid (HCALL.out w2 hb2 A9 c9 hI9)
             have HB2 := Lib.hid hb2
             clear ho2 hg2 hk2 hb2 hI9)
          | (refine step_lies0 rfl (.tmp 106) (.tmp 107) rfl rfl W6.heap.size (.slice (some ⟨W6.heap.size, 0, none⟩) 0 0) 0 [] rfl zs rfl (by first | exact own_empty ((Row.fresh _ _ _).drew) (Nat.le_refl _) | exact own_empty (((Row.fresh _ _ _).alloc _).drew) (Nat.le_refl _)) (by first | exact HLS.out.up (((Below.refl _ _).alloc (Nat.le_refl _) _).drew) | exact HLS.out.up ((((Below.refl _ _).alloc (Nat.le_refl _) _).alloc (by simp) _).drew)) (by omega) (by first | exact Nat.le_refl _ | (simp; done) | (simp; omega)) ?_
             intro v1 w1 ho1 hg1 hk1
             rw [Nat.zero_add, List.nil_append] at ho1
             have HO1 := Lib.hid ho1
             have HB1 := Lib.hid (show Below W6.heap.size W6 w1 from by
               first
               | exact Below.grown (((Below.refl _ _).alloc (Nat.le_refl _) _).drew) hg1 (by simp) (fun g' hg' => by have h8 : some W6.heap.size = some g' := hg'; injection h8 with h8; omega)
               | exact Below.grown ((((Below.refl _ _).alloc (Nat.le_refl _) _).alloc (by simp) _).drew) hg1 (by simp; omega) (fun g' hg' => by have h8 : some W6.heap.size = some g' := hg'; injection h8 with h8; omega))
             have s1 := HSS.out _ HB1.out
             have s1x := HSS.out _ (HB1.out.alloc HB1.out.size (Obj.cells #[.int .i64 (x : Int)] 3))
             first
               | have HX1 := Lib.hid (row_grown' (g := W6.heap.size + 1) (by have h9 := (Row.fresh (W6.alloc (Obj.cells #[] 3)) 3 #[.int .i64 (x : Int)]).drew; rw [World.size_alloc] at h9; exact h9) hg1 (fun e => by have h8 : some (W6.heap.size + 1) = some W6.heap.size := e; injection h8 with h8; omega))
               | skip
             clear ho1 hg1 hk1)
          | (refine step_lies0 rfl (.tmp 106) (.tmp 107) rfl rfl W6.heap.size (.slice (some ⟨W6.heap.size + 1, 0, none⟩) 0 0) 0 [] rfl zs rfl (by have h9 := (Row.fresh (W6.alloc (Obj.cells #[.int .i64 (x : Int)] 3)) 3 #[]).drew; rw [World.size_alloc] at h9; exact own_empty h9 (Nat.le_succ _)) (HLS.out.up ((((Below.refl _ _).alloc (Nat.le_refl _) _).alloc (by simp) _).drew)) (by omega) (by first | (simp; done) | (simp; omega)) ?_
             intro v1 w1 ho1 hg1 hk1
             rw [Nat.zero_add, List.nil_append] at ho1
             have HO1 := Lib.hid ho1
             have HB1 := Lib.hid (show Below W6.heap.size W6 w1 from
               Below.grown ((((Below.refl _ _).alloc (Nat.le_refl _) _).alloc (by simp) _).drew) hg1 (by simp; omega) (fun g' hg' => by have h8 : some (W6.heap.size + 1) = some g' := hg'; injection h8 with h8; omega))
             have s1 := HSS.out _ HB1.out
             have HX1 := Lib.hid (row_grown' (g := W6.heap.size) (((Row.fresh W6 3 #[.int .i64 (x : Int)]).alloc _).drew) hg1 (fun e => by have h8 : some W6.heap.size = some (W6.heap.size + 1) := e; injection h8 with h8; omega))
             clear ho1 hg1 hk1)
          | fail)
    all_goals
      have ba := (Below.refl w9.heap.size w9).alloc (Nat.le_refl _) (Obj.cells #[.int .i64 o5, .int .i64 n5, .slice A5 k5.len c5, .int .i64 o9, .int .i64 n9, .slice A9' k9.len c9'] 36)
      have hrf := HRO9.out.put 2 (.slice (some ⟨w9.heap.size, 0, none⟩) 2 2)
      have s0 := hrf.cell (i := 0) rfl
      have s1 := hrf.cell (i := 1) rfl
      have s2 := hrf.cell (i := 2) rfl
      have hz9 := HON9.out.size
      have hres9 := ((HRES6.out.only HON9.out HRES6.out.size (by have := HG.out; omega)).below ba (Nat.lt_of_lt_of_le HRES6.out.size hz9)).apart (p := ⟨c10, 2, none⟩) (by have := HG.out; dsimp only; omega) (.slice (some ⟨w9.heap.size, 0, none⟩) 2 2)
      have HRSA := Lib.hid hres9
      have f0 := hres9.free 0
      have f1 := hres9.free 1
      have f2 := hres9.free 2
      have c0 := hres9.cell (i := 0) rfl
      have c1 := hres9.cell (i := 1) rfl
      have c2 := hres9.cell (i := 2) rfl
      have htA := tree_two (base := c10 + 1) (Row.fresh w9 36 #[.int .i64 o5, .int .i64 n5, .slice A5 k5.len c5, .int .i64 o9, .int .i64 n9, .slice A9' k9.len c9']) (by have := HZ6.out; omega)
        ((HT6.out.keep fun z hz => HON9.out.block z (by have := HBLK6.out z hz; have := HZ6.out; omega) (by have := HBLK6.out z hz; have := HZ6.out; omega)).below (B := w9.heap.size) (fun z hz => by have := HBLK6.out z hz; have := HZ6.out; omega) ba)
        ((HT9.out.over ba).lower (by have := HZ6.out; have := HB29.out; omega)) (fun z h1 h2 => by
          have e1 := HBLK6.out z h1
          have e2 := (HT9.out.lt z h2).1
          have e3 := HZ6.out
          have e4 := HB29.out
          omega)
        (fun h => by have e1 := HBLK6.out _ h; have e3 := HZ6.out; omega) (fun h => Nat.lt_irrefl _ (HT9.out.lt _ h).2) HI5.out HI9.out
      have HTA := Lib.hid htA
      have HRDA := Lib.hid (show Row ((w9.alloc (Obj.cells #[.int .i64 o5, .int .i64 n5, .slice A5 k5.len c5, .int .i64 o9, .int .i64 n9, .slice A9' k9.len c9'] 36)).setCell ⟨c10, 2, none⟩ (.slice (some ⟨w9.heap.size, 0, none⟩) 2 2)) g 55 #[.slice A bs.length bc, .int .i64 (p9 : Int)] from (Row.below HRD9.out ba (Row.size HRD9.out)).apart (by have := HG.out; dsimp only; omega) _)
      have HONA := Lib.hid ((HON6.out.trans ((HON9.out.trans (.of_below (ba.mono hz9))).mono HON6.out.size)).set (p := ⟨c10, 2, none⟩) (.inr (by have := HG.out; dsimp only; omega)) (.slice (some ⟨w9.heap.size, 0, none⟩) 2 2))
      have HOKA := Lib.hid (show Ok bs Q p9 (b + costD d) from HOK9.out.mono (by have := HBL.out; omega))
      have HSZA := Lib.hid (show (Fo.cons o5 n5 k5 (.cons o9 n9 k9 .nil)).size + 1 ≤ nodesD d by have := HND.out; have := nodesD_one (d - 1); have := HS5.out; have := HS9.out; simp only [Fo.size]; omega)
      clear ba hrf hz9 hres9 htA
      go_wp2_with fail
      have r7 := ((HRSA.out.put 0 (.int .i64 7)).put 1 (.int .i64 (x : Int))).put 2 (.slice (some ⟨w9.heap.size, 0, none⟩) 2 2)
      have t0 := r7.cell (i := 0) rfl
      have t1 := r7.cell (i := 1) rfl
      have t2 := r7.cell (i := 2) rfl
      obtain ⟨bsA, htA⟩ := HTA.out
      refine bodyPost_ret (v := .agg #[.int .i64 7, .int .i64 (x : Int), (.slice (some ⟨w9.heap.size, 0, none⟩) 2 2)]) ?_ rfl ⟨7, (x : Int), .cons o5 n5 k5 (.cons o9 n9 k9 .nil), some ⟨w9.heap.size, 0, none⟩, 2, bsA, p9, rfl, ⟨by unfold I64; omega, HXI.out⟩, ((htA.keep fun z hz => ?_).lower (by have := HG.out; omega)), HSZA.out, ((HRDA.out.apart (by have := HG.out; dsimp only; omega) _).apart (by have := HG.out; dsimp only; omega) _).apart (by have := HG.out; dsimp only; omega) _, HOKA.out, ((HONA.out.set (.inr (Nat.le_refl _)) _).set (.inr (Nat.le_refl _)) _).set (.inr (Nat.le_refl _)) _⟩
      · simp [results, Tryz.f29, go_sem, t0, t1, t2]
      · have hz1 := (htA.lt z hz).1
        have hz2 : z ≠ w.heap.size := by have := HG.out; omega
        have hz3 : z ≠ c10 := by omega
        rw [Below.heap_setCell _ _ _ z hz2, Below.heap_setCell _ _ _ z hz2, Below.heap_setCell _ _ _ z hz2, Below.heap_setCell _ _ _ z hz3]
  · -- a node with one, two or three Kids
    obtain ⟨q2, hq2⟩ : ∃ q, q = q1 + 1 := ⟨_, rfl⟩
    obtain ⟨b0, hb0⟩ : ∃ z, z = b1 + 1 := ⟨_, rfl⟩
    have HBL := Lib.hid (show b0 + 3 * ((costD (d - 1) : Nat) : Int) ≤ b + costD d ∧ b + costD d ≤ 4000 by have := HC2.out; have := HC9.out; have := HB1.out; omega)
    have HOK0 := Lib.hid (show Ok bs Q q2 b0 by rw [hq2, hb0]; exact HOK8.out)
    have HRD0 := Lib.hid (show Rd W1 g A bc bs q2 by rw [hq2]; exact HRD1.out)
    have HROW0 := HROW1
    have HON0 := HON1
    have HRES0 := HRES1
    clear HOK8 HRD1 HROW1 HON1 HRES1 hq2 hb0
    rcases (show y = 6 ∨ y = 9 ∨ (y ≠ 6 ∧ y ≠ 9) by omega) with rfl | rfl | ⟨h6, h9⟩
    · clear hy3 hy7
      go_wp2_with fail
      go_loopw [15] (fun i wr => ∃ (j : Nat) (pr : Fo) (A1 : Option Addr) (c1' : Nat) (bl : List Nat) (q : Nat), j ≤ 3 ∧ i = .int .i64 (j : Int) ∧ pr.len = j ∧ Row wr c10 36 #[.int .i64 6, .int .i64 0, .slice A1 pr.len c1'] ∧ Tree wr (c10 + 1) (.slice A1 pr.len c1') pr bl ∧
          pr.size ≤ j * nodesD (d - 1) ∧ Rd wr g A bc bs q ∧ Ok bs Q q (b0 + j * (costD (d - 1) : Nat)) ∧ Only g w.heap.size w wr ∧ Row wr w.heap.size 36 #[.int .i64 0, .int .i64 0, .slice none 0 0] ∧ c10 < wr.heap.size)
        (fun i _ => 3 - (intOf i).toNat)
      case atStart => exact ⟨0, .nil, none, 0, [], q2, by omega, rfl, rfl, HROW0.out, Tree.none _ _, by simp [Fo.size], HRD0.out, HOK0.out.mono (by omega), HON0.out, HRES0.out, HROW0.out.size⟩
      case round =>
        clear HROW0 HRD0 HOK0 HON0 HRES0
        obtain ⟨j, pr, A1, c1', bl, q, hj, rfl, hpl, hrow, ht, hps, hrd, hq, hon, hres, hwz⟩ := hrel
        have HPL := Lib.hid hpl
        have hpl2 : pr.len ≤ 1048576 := by omega
        clear hpl
        have s0 := hrow.cell (i := 0) rfl
        have s1 := hrow.cell (i := 1) rfl
        have s2 := hrow.cell (i := 2) rfl
        have f0 := hres.free 0
        have f1 := hres.free 1
        have f2 := hres.free 2
        have c0 := hres.cell (i := 0) rfl
        have c1 := hres.cell (i := 1) rfl
        have c2 := hres.cell (i := 2) rfl
        go_upto_region 30 with fail
        · -- one more
          have hj2 : j ≤ 2 := by omega
          clear s0 s1 s2 f0 f1 f2 c0 c1 c2
          have q3 : wr.drew.cell? ⟨c10, 2, none⟩ = some (.slice A1 pr.len c1') := hrow.cell (i := 2) rfl
          have hza : c10 < wr.drew.heap.size := hrow.size
          have hzr : w.heap.size ≤ wr.heap.size := hon.size
          have HC := Lib.hid (ih g base A bc bs Q q (b0 + j * (costD (d - 1) : Nat)) ZA Zc zs _ Rc ar wr.drew hrd (liesY_only HY0.out hon HG.out.1 hbg).drew hbg hl hQ hq (by
            have h1 := HBL.out
            have h2 : (j : Int) * ((costD (d - 1) : Nat) : Int) ≤ 2 * ((costD (d - 1) : Nat) : Int) := Int.mul_le_mul_of_nonneg_right (by omega) (by omega)
            omega) (liesI_only HZ0.out hon).drew (by omega) (liesI_only HRA0.out hon).drew hrl hr3)
          have hd1 : IntKind.i64.wrap ((d : Int) - 1) = ((d - 1 : Nat) : Int) := by rw [IntKind.wrap_i64]; omega
          have HT := Lib.hid ht
          have HON := Lib.hid hon
          have HROW := Lib.hid hrow
          have HRES := Lib.hid hres
          have HPS := Lib.hid hps
          have HWR := Lib.hid (show c10 + 1 ≤ wr.heap.size from hza)
          have hbox : ∀ z, (Value.slice A1 pr.len c1').ownBlock = some z → c10 + 1 ≤ z ∧ z < wr.heap.size := fun z hz => by
            obtain ⟨st, b1', k1', k2', rfl, _⟩ := ht
            exact blk_lt k1' (by unfold blkV; rw [hz]; simp)
          have HBOX := Lib.hid hbox
          clear hrow ht hon hres hrd hq hps hbox
          go_wp2_with fail
          go_region_law (first
              | (refine step_push rfl (.tmp 130) (.tmp 137) rfl (c10 + 1) (.slice A1 pr.len c1') pr bl b5 o5 n5 k5 A5 c5 rfl rfl HT5.out HK5.out HI5.out HD5.out hpl2 HZ5.out ?_
                 intro v6 w6 bs6 ht6 hg6 hin6
                 obtain ⟨A6, c6, rfl, hc61, hc62⟩ := ht6.slice
                 have hne : ∀ z, z < c10 + 1 → some z ≠ (Value.slice A1 pr.len c1').ownBlock := fun z hz e => by have := HBOX.out z e.symm; omega
                 have hr6 := row_grown HROW5.out hg6 (hne _ (Nat.lt_succ_self _))
                 have u3 : w6.cell? ⟨c10, 2, none⟩ = some (.slice A1 pr.len c1') := hr6.cell (i := 2) rfl
                 have f3 := hr6.free 2
                 have HR6 := Lib.hid hr6
                 have HRES6 := Lib.hid (row_grown HRES5.out hg6 (hne _ (by have := HG.out; omega)))
                 have HRD6 := Lib.hid (show Rd w6 g A bc bs p5 from row_grown HRD5.out hg6 (hne _ (by have := HG.out; omega)))
                 have HT6 := Lib.hid ht6
                 have HON6 := Lib.hid (HON5.out.grown hg6 fun z hz => by have := HBOX.out z hz; have := HG.out; omega)
                 clear hr6 ht6 hg6 hin6 hne hc61 hc62)
              | (refine step_call (f := 29) rfl (by kernel_rfl) HC.out ?_
                 rintro e w5 ⟨o5, n5, k5, A5, c5, b5, p5, rfl, hi5, ht5, hs5, hrd5, hok5, hon5⟩
                 refine ⟨_, rfl, ?_⟩
                 have hon5' : Only g wr.heap.size wr w5 := ((Only.refl g wr.heap.size wr).drew).trans hon5
                 have y3 : w5.cell? ⟨c10, 2, none⟩ = some (.slice A1 pr.len c1') := (hon5.cell (p := ⟨c10, 2, none⟩) hza (by have := HG.out; dsimp only; omega)).trans q3
                 have bz := (Below.refl w5.heap.size w5).alloc (Nat.le_refl _) (Obj.cells #[.int .i64 o5, .int .i64 n5, .slice A5 k5.len c5] 36)
                 have z3 : (w5.alloc (Obj.cells #[.int .i64 o5, .int .i64 n5, .slice A5 k5.len c5] 36)).cell? ⟨c10, 2, none⟩ = some (.slice A1 pr.len c1') := (bz.cell (p := ⟨c10, 2, none⟩) (Nat.lt_of_lt_of_le hza hon5.size)).trans y3
                 have HT5 := Lib.hid (HT.out.keep fun z hz => hon5'.block z (HT.out.lt z hz).2 (by have := (HT.out.lt z hz).1; have := HG.out; omega))
                 have HK5 := Lib.hid (ht5.lower (base' := c10 + 1) HWR.out)
                 have HD5 := Lib.hid (show ∀ z, z ∈ bl → z ∈ b5 → False from fun z h1 h2 => by
                   have e1 := (HT.out.lt z h1).2
                   have e2 := (ht5.lt z h2).1
                   have e4 : wr.heap.size ≤ z := e2
                   omega)
                 have HI5 := Lib.hid hi5
                 have HS5 := Lib.hid hs5
                 have HZ5 := Lib.hid (Nat.le_trans HWR.out hon5'.size)
                 have HROW5 := Lib.hid (HROW.out.only hon5' HROW.out.size (by have := HG.out; omega))
                 have HRES5 := Lib.hid (HRES.out.only hon5' HRES.out.size (by have := HG.out; omega))
                 have HRD5 := Lib.hid (show Row w5 g 55 #[.slice A bs.length bc, .int .i64 (p5 : Int)] from hrd5)
                 have HOK5 := Lib.hid hok5
                 have HON5 := Lib.hid (HON.out.trans (hon5'.mono HON.out.size))
                 clear ht5 hon5 hon5' bz hi5 hs5 hrd5 hok5))
          all_goals
            go_wp2_with fail
            go_roundw
            case rel =>
              have hr7 := HR6.out.put 2 (.slice A6 (pr.snoc o5 n5 k5).len c6)
              have ht7 : Tree (w6.setCell ⟨c10, 2, none⟩ (.slice A6 (pr.snoc o5 n5 k5).len c6)) (c10 + 1) (.slice A6 (pr.snoc o5 n5 k5).len c6) (pr.snoc o5 n5 k5) bs6 :=
                HT6.out.keep fun z hz => Below.heap_setCell w6 _ _ z (by have := (HT6.out.lt z hz).1; dsimp only; omega)
              refine ⟨j + 1, pr.snoc o5 n5 k5, A6, c6, bs6, p5, by omega, by go_num, by rw [Fo.snoc_len, HPL.out], hr7, ht7, ?_, HRD6.out.apart (by have := HG.out; dsimp only; omega) _, HOK5.out.mono (by rw [Int.natCast_add, Int.add_mul]; omega), HON6.out.set (.inr (by have := HG.out; dsimp only; omega)) _, HRES6.out.apart (by have := HG.out; dsimp only; omega) _, by have := HR6.out.size; simpa [World.setCell] using this⟩
              rw [snoc_size, Nat.succ_mul]
              have := HS5.out
              have := HPS.out
              omega
            case measure => simp [intOf]; omega
        · have HT := Lib.hid ht
          have HON := Lib.hid hon
          have HRD := Lib.hid hrd
          have HRS := Lib.hid hres
          have HOKF := Lib.hid (show Ok bs Q q (b + costD d) from hq.mono (by
            have h1 := HBL.out
            have h2 : (j : Int) * ((costD (d - 1) : Nat) : Int) ≤ 3 * ((costD (d - 1) : Nat) : Int) := Int.mul_le_mul_of_nonneg_right (by omega) (by omega)
            omega))
          have HSZF := Lib.hid (show pr.size + 1 ≤ nodesD d by
            have h1 := HND.out
            have h2 : j * nodesD (d - 1) ≤ 3 * nodesD (d - 1) := Nat.mul_le_mul_right _ hj
            omega)
          clear hrow ht hon hrd hres hq hps s0 s1 s2 f0 f1 f2 c0 c1 c2
          have r7 := ((HRS.out.put 0 (.int .i64 6)).put 1 (.int .i64 0)).put 2 (.slice A1 pr.len c1')
          have t0 := r7.cell (i := 0) rfl
          have t1 := r7.cell (i := 1) rfl
          have t2 := r7.cell (i := 2) rfl
          refine bodyPost_ret (v := .agg #[.int .i64 6, .int .i64 0, .slice A1 pr.len c1']) ?_ rfl ⟨6, 0, pr, A1, c1', bl, q, rfl, ⟨HYI.out, HNI.out⟩, ((HT.out.keep fun z hz => ?_).lower (by have := HG.out; omega)), HSZF.out, ((HRD.out.apart (by have := HG.out; dsimp only; omega) _).apart (by have := HG.out; dsimp only; omega) _).apart (by have := HG.out; dsimp only; omega) _, HOKF.out, ((HON.out.set (.inr (Nat.le_refl _)) _).set (.inr (Nat.le_refl _)) _).set (.inr (Nat.le_refl _)) _⟩
          · simp [results, Tryz.f29, go_sem, t0, t1, t2]
          · have hz1 := (HT.out.lt z hz).1
            have hz2 : z ≠ w.heap.size := by have := HG.out; omega
            rw [Below.heap_setCell _ _ _ z hz2, Below.heap_setCell _ _ _ z hz2, Below.heap_setCell _ _ _ z hz2]
    · clear hy3 hy7
      go_wp2_with fail
      go_loopw [15] (fun i wr => ∃ (j : Nat) (pr : Fo) (A1 : Option Addr) (c1' : Nat) (bl : List Nat) (q : Nat), j ≤ 3 ∧ i = .int .i64 (j : Int) ∧ pr.len = j ∧ Row wr c10 36 #[.int .i64 9, .int .i64 0, .slice A1 pr.len c1'] ∧ Tree wr (c10 + 1) (.slice A1 pr.len c1') pr bl ∧
          pr.size ≤ j * nodesD (d - 1) ∧ Rd wr g A bc bs q ∧ Ok bs Q q (b0 + j * (costD (d - 1) : Nat)) ∧ Only g w.heap.size w wr ∧ Row wr w.heap.size 36 #[.int .i64 0, .int .i64 0, .slice none 0 0] ∧ c10 < wr.heap.size)
        (fun i _ => 3 - (intOf i).toNat)
      case atStart => exact ⟨0, .nil, none, 0, [], q2, by omega, rfl, rfl, HROW0.out, Tree.none _ _, by simp [Fo.size], HRD0.out, HOK0.out.mono (by omega), HON0.out, HRES0.out, HROW0.out.size⟩
      case round =>
        clear HROW0 HRD0 HOK0 HON0 HRES0
        obtain ⟨j, pr, A1, c1', bl, q, hj, rfl, hpl, hrow, ht, hps, hrd, hq, hon, hres, hwz⟩ := hrel
        have HPL := Lib.hid hpl
        have hpl2 : pr.len ≤ 1048576 := by omega
        clear hpl
        have s0 := hrow.cell (i := 0) rfl
        have s1 := hrow.cell (i := 1) rfl
        have s2 := hrow.cell (i := 2) rfl
        have f0 := hres.free 0
        have f1 := hres.free 1
        have f2 := hres.free 2
        have c0 := hres.cell (i := 0) rfl
        have c1 := hres.cell (i := 1) rfl
        have c2 := hres.cell (i := 2) rfl
        go_upto_region 30 with fail
        · -- one more
          have hj2 : j ≤ 2 := by omega
          clear s0 s1 s2 f0 f1 f2 c0 c1 c2
          have q3 : wr.drew.cell? ⟨c10, 2, none⟩ = some (.slice A1 pr.len c1') := hrow.cell (i := 2) rfl
          have hza : c10 < wr.drew.heap.size := hrow.size
          have hzr : w.heap.size ≤ wr.heap.size := hon.size
          have HC := Lib.hid (ih g base A bc bs Q q (b0 + j * (costD (d - 1) : Nat)) ZA Zc zs _ Rc ar wr.drew hrd (liesY_only HY0.out hon HG.out.1 hbg).drew hbg hl hQ hq (by
            have h1 := HBL.out
            have h2 : (j : Int) * ((costD (d - 1) : Nat) : Int) ≤ 2 * ((costD (d - 1) : Nat) : Int) := Int.mul_le_mul_of_nonneg_right (by omega) (by omega)
            omega) (liesI_only HZ0.out hon).drew (by omega) (liesI_only HRA0.out hon).drew hrl hr3)
          have hd1 : IntKind.i64.wrap ((d : Int) - 1) = ((d - 1 : Nat) : Int) := by rw [IntKind.wrap_i64]; omega
          have HT := Lib.hid ht
          have HON := Lib.hid hon
          have HROW := Lib.hid hrow
          have HRES := Lib.hid hres
          have HPS := Lib.hid hps
          have HWR := Lib.hid (show c10 + 1 ≤ wr.heap.size from hza)
          have hbox : ∀ z, (Value.slice A1 pr.len c1').ownBlock = some z → c10 + 1 ≤ z ∧ z < wr.heap.size := fun z hz => by
            obtain ⟨st, b1', k1', k2', rfl, _⟩ := ht
            exact blk_lt k1' (by unfold blkV; rw [hz]; simp)
          have HBOX := Lib.hid hbox
          clear hrow ht hon hres hrd hq hps hbox
          go_wp2_with fail
          go_region_law (first
              | (refine step_push rfl (.tmp 130) (.tmp 137) rfl (c10 + 1) (.slice A1 pr.len c1') pr bl b5 o5 n5 k5 A5 c5 rfl rfl HT5.out HK5.out HI5.out HD5.out hpl2 HZ5.out ?_
                 intro v6 w6 bs6 ht6 hg6 hin6
                 obtain ⟨A6, c6, rfl, hc61, hc62⟩ := ht6.slice
                 have hne : ∀ z, z < c10 + 1 → some z ≠ (Value.slice A1 pr.len c1').ownBlock := fun z hz e => by have := HBOX.out z e.symm; omega
                 have hr6 := row_grown HROW5.out hg6 (hne _ (Nat.lt_succ_self _))
                 have u3 : w6.cell? ⟨c10, 2, none⟩ = some (.slice A1 pr.len c1') := hr6.cell (i := 2) rfl
                 have f3 := hr6.free 2
                 have HR6 := Lib.hid hr6
                 have HRES6 := Lib.hid (row_grown HRES5.out hg6 (hne _ (by have := HG.out; omega)))
                 have HRD6 := Lib.hid (show Rd w6 g A bc bs p5 from row_grown HRD5.out hg6 (hne _ (by have := HG.out; omega)))
                 have HT6 := Lib.hid ht6
                 have HON6 := Lib.hid (HON5.out.grown hg6 fun z hz => by have := HBOX.out z hz; have := HG.out; omega)
                 clear hr6 ht6 hg6 hin6 hne hc61 hc62)
              | (refine step_call (f := 29) rfl (by kernel_rfl) HC.out ?_
                 rintro e w5 ⟨o5, n5, k5, A5, c5, b5, p5, rfl, hi5, ht5, hs5, hrd5, hok5, hon5⟩
                 refine ⟨_, rfl, ?_⟩
                 have hon5' : Only g wr.heap.size wr w5 := ((Only.refl g wr.heap.size wr).drew).trans hon5
                 have y3 : w5.cell? ⟨c10, 2, none⟩ = some (.slice A1 pr.len c1') := (hon5.cell (p := ⟨c10, 2, none⟩) hza (by have := HG.out; dsimp only; omega)).trans q3
                 have bz := (Below.refl w5.heap.size w5).alloc (Nat.le_refl _) (Obj.cells #[.int .i64 o5, .int .i64 n5, .slice A5 k5.len c5] 36)
                 have z3 : (w5.alloc (Obj.cells #[.int .i64 o5, .int .i64 n5, .slice A5 k5.len c5] 36)).cell? ⟨c10, 2, none⟩ = some (.slice A1 pr.len c1') := (bz.cell (p := ⟨c10, 2, none⟩) (Nat.lt_of_lt_of_le hza hon5.size)).trans y3
                 have HT5 := Lib.hid (HT.out.keep fun z hz => hon5'.block z (HT.out.lt z hz).2 (by have := (HT.out.lt z hz).1; have := HG.out; omega))
                 have HK5 := Lib.hid (ht5.lower (base' := c10 + 1) HWR.out)
                 have HD5 := Lib.hid (show ∀ z, z ∈ bl → z ∈ b5 → False from fun z h1 h2 => by
                   have e1 := (HT.out.lt z h1).2
                   have e2 := (ht5.lt z h2).1
                   have e4 : wr.heap.size ≤ z := e2
                   omega)
                 have HI5 := Lib.hid hi5
                 have HS5 := Lib.hid hs5
                 have HZ5 := Lib.hid (Nat.le_trans HWR.out hon5'.size)
                 have HROW5 := Lib.hid (HROW.out.only hon5' HROW.out.size (by have := HG.out; omega))
                 have HRES5 := Lib.hid (HRES.out.only hon5' HRES.out.size (by have := HG.out; omega))
                 have HRD5 := Lib.hid (show Row w5 g 55 #[.slice A bs.length bc, .int .i64 (p5 : Int)] from hrd5)
                 have HOK5 := Lib.hid hok5
                 have HON5 := Lib.hid (HON.out.trans (hon5'.mono HON.out.size))
                 clear ht5 hon5 hon5' bz hi5 hs5 hrd5 hok5))
          all_goals
            go_wp2_with fail
            go_roundw
            case rel =>
              have hr7 := HR6.out.put 2 (.slice A6 (pr.snoc o5 n5 k5).len c6)
              have ht7 : Tree (w6.setCell ⟨c10, 2, none⟩ (.slice A6 (pr.snoc o5 n5 k5).len c6)) (c10 + 1) (.slice A6 (pr.snoc o5 n5 k5).len c6) (pr.snoc o5 n5 k5) bs6 :=
                HT6.out.keep fun z hz => Below.heap_setCell w6 _ _ z (by have := (HT6.out.lt z hz).1; dsimp only; omega)
              refine ⟨j + 1, pr.snoc o5 n5 k5, A6, c6, bs6, p5, by omega, by go_num, by rw [Fo.snoc_len, HPL.out], hr7, ht7, ?_, HRD6.out.apart (by have := HG.out; dsimp only; omega) _, HOK5.out.mono (by rw [Int.natCast_add, Int.add_mul]; omega), HON6.out.set (.inr (by have := HG.out; dsimp only; omega)) _, HRES6.out.apart (by have := HG.out; dsimp only; omega) _, by have := HR6.out.size; simpa [World.setCell] using this⟩
              rw [snoc_size, Nat.succ_mul]
              have := HS5.out
              have := HPS.out
              omega
            case measure => simp [intOf]; omega
        · have HT := Lib.hid ht
          have HON := Lib.hid hon
          have HRD := Lib.hid hrd
          have HRS := Lib.hid hres
          have HOKF := Lib.hid (show Ok bs Q q (b + costD d) from hq.mono (by
            have h1 := HBL.out
            have h2 : (j : Int) * ((costD (d - 1) : Nat) : Int) ≤ 3 * ((costD (d - 1) : Nat) : Int) := Int.mul_le_mul_of_nonneg_right (by omega) (by omega)
            omega))
          have HSZF := Lib.hid (show pr.size + 1 ≤ nodesD d by
            have h1 := HND.out
            have h2 : j * nodesD (d - 1) ≤ 3 * nodesD (d - 1) := Nat.mul_le_mul_right _ hj
            omega)
          clear hrow ht hon hrd hres hq hps s0 s1 s2 f0 f1 f2 c0 c1 c2
          have r7 := ((HRS.out.put 0 (.int .i64 9)).put 1 (.int .i64 0)).put 2 (.slice A1 pr.len c1')
          have t0 := r7.cell (i := 0) rfl
          have t1 := r7.cell (i := 1) rfl
          have t2 := r7.cell (i := 2) rfl
          refine bodyPost_ret (v := .agg #[.int .i64 9, .int .i64 0, .slice A1 pr.len c1']) ?_ rfl ⟨9, 0, pr, A1, c1', bl, q, rfl, ⟨HYI.out, HNI.out⟩, ((HT.out.keep fun z hz => ?_).lower (by have := HG.out; omega)), HSZF.out, ((HRD.out.apart (by have := HG.out; dsimp only; omega) _).apart (by have := HG.out; dsimp only; omega) _).apart (by have := HG.out; dsimp only; omega) _, HOKF.out, ((HON.out.set (.inr (Nat.le_refl _)) _).set (.inr (Nat.le_refl _)) _).set (.inr (Nat.le_refl _)) _⟩
          · simp [results, Tryz.f29, go_sem, t0, t1, t2]
          · have hz1 := (HT.out.lt z hz).1
            have hz2 : z ≠ w.heap.size := by have := HG.out; omega
            rw [Below.heap_setCell _ _ _ z hz2, Below.heap_setCell _ _ _ z hz2, Below.heap_setCell _ _ _ z hz2]
    · have h3 : (y == 3) = false := by simpa using hy3
      have h7 : (y == 7) = false := by simpa using hy7
      have h6 : (y == 6) = false := by simpa using h6
      have h9 : (y == 9) = false := by simpa using h9
      clear hy3 hy7
      go_wp2_with fail
      clear h3 h7 h6 h9
      go_loopw [15] (fun i wr => ∃ (j : Nat) (pr : Fo) (A1 : Option Addr) (c1' : Nat) (bl : List Nat) (q : Nat), j ≤ 3 ∧ i = .int .i64 (j : Int) ∧ pr.len = j ∧ Row wr c10 36 #[.int .i64 y, .int .i64 0, .slice A1 pr.len c1'] ∧ Tree wr (c10 + 1) (.slice A1 pr.len c1') pr bl ∧
          pr.size ≤ j * nodesD (d - 1) ∧ Rd wr g A bc bs q ∧ Ok bs Q q (b0 + j * (costD (d - 1) : Nat)) ∧ Only g w.heap.size w wr ∧ Row wr w.heap.size 36 #[.int .i64 0, .int .i64 0, .slice none 0 0] ∧ c10 < wr.heap.size)
        (fun i _ => 3 - (intOf i).toNat)
      case atStart => exact ⟨0, .nil, none, 0, [], q2, by omega, rfl, rfl, HROW0.out, Tree.none _ _, by simp [Fo.size], HRD0.out, HOK0.out.mono (by omega), HON0.out, HRES0.out, HROW0.out.size⟩
      case round =>
        clear HROW0 HRD0 HOK0 HON0 HRES0
        obtain ⟨j, pr, A1, c1', bl, q, hj, rfl, hpl, hrow, ht, hps, hrd, hq, hon, hres, hwz⟩ := hrel
        have HPL := Lib.hid hpl
        have hpl2 : pr.len ≤ 1048576 := by omega
        clear hpl
        have s0 := hrow.cell (i := 0) rfl
        have s1 := hrow.cell (i := 1) rfl
        have s2 := hrow.cell (i := 2) rfl
        have f0 := hres.free 0
        have f1 := hres.free 1
        have f2 := hres.free 2
        have c0 := hres.cell (i := 0) rfl
        have c1 := hres.cell (i := 1) rfl
        have c2 := hres.cell (i := 2) rfl
        go_upto_region 30 with fail
        · -- one more
          have hj2 : j ≤ 2 := by omega
          clear s0 s1 s2 f0 f1 f2 c0 c1 c2
          have q3 : wr.drew.cell? ⟨c10, 2, none⟩ = some (.slice A1 pr.len c1') := hrow.cell (i := 2) rfl
          have hza : c10 < wr.drew.heap.size := hrow.size
          have hzr : w.heap.size ≤ wr.heap.size := hon.size
          have HC := Lib.hid (ih g base A bc bs Q q (b0 + j * (costD (d - 1) : Nat)) ZA Zc zs _ Rc ar wr.drew hrd (liesY_only HY0.out hon HG.out.1 hbg).drew hbg hl hQ hq (by
            have h1 := HBL.out
            have h2 : (j : Int) * ((costD (d - 1) : Nat) : Int) ≤ 2 * ((costD (d - 1) : Nat) : Int) := Int.mul_le_mul_of_nonneg_right (by omega) (by omega)
            omega) (liesI_only HZ0.out hon).drew (by omega) (liesI_only HRA0.out hon).drew hrl hr3)
          have hd1 : IntKind.i64.wrap ((d : Int) - 1) = ((d - 1 : Nat) : Int) := by rw [IntKind.wrap_i64]; omega
          have HT := Lib.hid ht
          have HON := Lib.hid hon
          have HROW := Lib.hid hrow
          have HRES := Lib.hid hres
          have HPS := Lib.hid hps
          have HWR := Lib.hid (show c10 + 1 ≤ wr.heap.size from hza)
          have hbox : ∀ z, (Value.slice A1 pr.len c1').ownBlock = some z → c10 + 1 ≤ z ∧ z < wr.heap.size := fun z hz => by
            obtain ⟨st, b1', k1', k2', rfl, _⟩ := ht
            exact blk_lt k1' (by unfold blkV; rw [hz]; simp)
          have HBOX := Lib.hid hbox
          clear hrow ht hon hres hrd hq hps hbox
          go_wp2_with fail
          go_region_law (first
              | (refine step_push rfl (.tmp 130) (.tmp 137) rfl (c10 + 1) (.slice A1 pr.len c1') pr bl b5 o5 n5 k5 A5 c5 rfl rfl HT5.out HK5.out HI5.out HD5.out hpl2 HZ5.out ?_
                 intro v6 w6 bs6 ht6 hg6 hin6
                 obtain ⟨A6, c6, rfl, hc61, hc62⟩ := ht6.slice
                 have hne : ∀ z, z < c10 + 1 → some z ≠ (Value.slice A1 pr.len c1').ownBlock := fun z hz e => by have := HBOX.out z e.symm; omega
                 have hr6 := row_grown HROW5.out hg6 (hne _ (Nat.lt_succ_self _))
                 have u3 : w6.cell? ⟨c10, 2, none⟩ = some (.slice A1 pr.len c1') := hr6.cell (i := 2) rfl
                 have f3 := hr6.free 2
                 have HR6 := Lib.hid hr6
                 have HRES6 := Lib.hid (row_grown HRES5.out hg6 (hne _ (by have := HG.out; omega)))
                 have HRD6 := Lib.hid (show Rd w6 g A bc bs p5 from row_grown HRD5.out hg6 (hne _ (by have := HG.out; omega)))
                 have HT6 := Lib.hid ht6
                 have HON6 := Lib.hid (HON5.out.grown hg6 fun z hz => by have := HBOX.out z hz; have := HG.out; omega)
                 clear hr6 ht6 hg6 hin6 hne hc61 hc62)
              | (refine step_call (f := 29) rfl (by kernel_rfl) HC.out ?_
                 rintro e w5 ⟨o5, n5, k5, A5, c5, b5, p5, rfl, hi5, ht5, hs5, hrd5, hok5, hon5⟩
                 refine ⟨_, rfl, ?_⟩
                 have hon5' : Only g wr.heap.size wr w5 := ((Only.refl g wr.heap.size wr).drew).trans hon5
                 have y3 : w5.cell? ⟨c10, 2, none⟩ = some (.slice A1 pr.len c1') := (hon5.cell (p := ⟨c10, 2, none⟩) hza (by have := HG.out; dsimp only; omega)).trans q3
                 have bz := (Below.refl w5.heap.size w5).alloc (Nat.le_refl _) (Obj.cells #[.int .i64 o5, .int .i64 n5, .slice A5 k5.len c5] 36)
                 have z3 : (w5.alloc (Obj.cells #[.int .i64 o5, .int .i64 n5, .slice A5 k5.len c5] 36)).cell? ⟨c10, 2, none⟩ = some (.slice A1 pr.len c1') := (bz.cell (p := ⟨c10, 2, none⟩) (Nat.lt_of_lt_of_le hza hon5.size)).trans y3
                 have HT5 := Lib.hid (HT.out.keep fun z hz => hon5'.block z (HT.out.lt z hz).2 (by have := (HT.out.lt z hz).1; have := HG.out; omega))
                 have HK5 := Lib.hid (ht5.lower (base' := c10 + 1) HWR.out)
                 have HD5 := Lib.hid (show ∀ z, z ∈ bl → z ∈ b5 → False from fun z h1 h2 => by
                   have e1 := (HT.out.lt z h1).2
                   have e2 := (ht5.lt z h2).1
                   have e4 : wr.heap.size ≤ z := e2
                   omega)
                 have HI5 := Lib.hid hi5
                 have HS5 := Lib.hid hs5
                 have HZ5 := Lib.hid (Nat.le_trans HWR.out hon5'.size)
                 have HROW5 := Lib.hid (HROW.out.only hon5' HROW.out.size (by have := HG.out; omega))
                 have HRES5 := Lib.hid (HRES.out.only hon5' HRES.out.size (by have := HG.out; omega))
                 have HRD5 := Lib.hid (show Row w5 g 55 #[.slice A bs.length bc, .int .i64 (p5 : Int)] from hrd5)
                 have HOK5 := Lib.hid hok5
                 have HON5 := Lib.hid (HON.out.trans (hon5'.mono HON.out.size))
                 clear ht5 hon5 hon5' bz hi5 hs5 hrd5 hok5))
          all_goals
            go_wp2_with fail
            go_roundw
            case rel =>
              have hr7 := HR6.out.put 2 (.slice A6 (pr.snoc o5 n5 k5).len c6)
              have ht7 : Tree (w6.setCell ⟨c10, 2, none⟩ (.slice A6 (pr.snoc o5 n5 k5).len c6)) (c10 + 1) (.slice A6 (pr.snoc o5 n5 k5).len c6) (pr.snoc o5 n5 k5) bs6 :=
                HT6.out.keep fun z hz => Below.heap_setCell w6 _ _ z (by have := (HT6.out.lt z hz).1; dsimp only; omega)
              refine ⟨j + 1, pr.snoc o5 n5 k5, A6, c6, bs6, p5, by omega, by go_num, by rw [Fo.snoc_len, HPL.out], hr7, ht7, ?_, HRD6.out.apart (by have := HG.out; dsimp only; omega) _, HOK5.out.mono (by rw [Int.natCast_add, Int.add_mul]; omega), HON6.out.set (.inr (by have := HG.out; dsimp only; omega)) _, HRES6.out.apart (by have := HG.out; dsimp only; omega) _, by have := HR6.out.size; simpa [World.setCell] using this⟩
              rw [snoc_size, Nat.succ_mul]
              have := HS5.out
              have := HPS.out
              omega
            case measure => simp [intOf]; omega
        · have HT := Lib.hid ht
          have HON := Lib.hid hon
          have HRD := Lib.hid hrd
          have HRS := Lib.hid hres
          have HOKF := Lib.hid (show Ok bs Q q (b + costD d) from hq.mono (by
            have h1 := HBL.out
            have h2 : (j : Int) * ((costD (d - 1) : Nat) : Int) ≤ 3 * ((costD (d - 1) : Nat) : Int) := Int.mul_le_mul_of_nonneg_right (by omega) (by omega)
            omega))
          have HSZF := Lib.hid (show pr.size + 1 ≤ nodesD d by
            have h1 := HND.out
            have h2 : j * nodesD (d - 1) ≤ 3 * nodesD (d - 1) := Nat.mul_le_mul_right _ hj
            omega)
          clear hrow ht hon hrd hres hq hps s0 s1 s2 f0 f1 f2 c0 c1 c2
          have r7 := ((HRS.out.put 0 (.int .i64 y)).put 1 (.int .i64 0)).put 2 (.slice A1 pr.len c1')
          have t0 := r7.cell (i := 0) rfl
          have t1 := r7.cell (i := 1) rfl
          have t2 := r7.cell (i := 2) rfl
          refine bodyPost_ret (v := .agg #[.int .i64 y, .int .i64 0, .slice A1 pr.len c1']) ?_ rfl ⟨y, 0, pr, A1, c1', bl, q, rfl, ⟨HYI.out, HNI.out⟩, ((HT.out.keep fun z hz => ?_).lower (by have := HG.out; omega)), HSZF.out, ((HRD.out.apart (by have := HG.out; dsimp only; omega) _).apart (by have := HG.out; dsimp only; omega) _).apart (by have := HG.out; dsimp only; omega) _, HOKF.out, ((HON.out.set (.inr (Nat.le_refl _)) _).set (.inr (Nat.le_refl _)) _).set (.inr (Nat.le_refl _)) _⟩
          · simp [results, Tryz.f29, go_sem, t0, t1, t2]
          · have hz1 := (HT.out.lt z hz).1
            have hz2 : z ≠ w.heap.size := by have := HG.out; omega
            rw [Below.heap_setCell _ _ _ z hz2, Below.heap_setCell _ _ _ z hz2, Below.heap_setCell _ _ _ z hz2]

/-- The draw of an expression, down to any depth that is drawn. -/
theorem some_any : ∀ d, d ≤ 20 → SomeAt d
  | 0, _ => some_leaf 0 (by decide)
  | 1, _ => some_leaf 1 (by decide)
  | d + 2, h => some_node (d + 2) (by omega) h (some_any (d + 1) (by omega))
end Go.Proofs.YtpknegneogdmfaaGreat
