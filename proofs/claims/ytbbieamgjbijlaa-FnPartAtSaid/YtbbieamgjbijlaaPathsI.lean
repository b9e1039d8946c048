/-
  impl.pathsIn, impl.PathsOf.
-/
import Derived.Test.YtbbieamgjbijlaaPaths
namespace Go.Proofs.Ytbbieamgjbijlaa
open Go.RowKit Go.Shelf
set_option maxRecDepth 100000

/-- The list of the empty list. -/
theorem OwnSS.start {w : World} {base g h : Nat} (h1 : Row w g 3 #[]) (h2 : Row w h 32 #[.slice (some ⟨g, 0, none⟩) 0 0]) (hg : base ≤ g) (hh : base ≤ h) (hne : h ≠ g) : OwnSS w base (.slice (some ⟨h, 0, none⟩) 1 1) [[]] [h, g] :=
  ⟨[⟨some ⟨g, 0, none⟩, [], 0⟩], [g], rfl, ⟨rfl, .inr ⟨h, 1, _, rfl, hh, h2, Nat.le_refl _, by decide, rfl, rfl⟩⟩, ⟨[], ⟨rfl, .inr ⟨g, 0, _, rfl, hg, h1, Nat.le_refl _, by decide, rfl, rfl⟩⟩, by simp, rfl, rfl⟩, rfl, by simp [hne]⟩

set_option maxHeartbeats 2000000 in
theorem pathsIn_any (m : Nat) : ∀ (op n : Int) (k : Fo) (A : Option Addr) (c : Nat) (w : World), k.size = m → Lies w 0 w.heap.size A 0 k → k.size ≤ 500 →
    Calls Try.prog 23 #[.agg #[.int .i64 op, .int .i64 n, .slice A k.len c]] w (PathsPost (pathsP k) w) := by
  induction m using Nat.strongRecOn with
  | _ m ih =>
    intro op n k A c w hm hl hsz
    have hlen := Fo.len_le_size k
    obtain ⟨W, hW⟩ : ∃ W, W = ((w.alloc (Obj.cells #[.int .i64 op, .int .i64 n, .slice A k.len c] 25)).alloc (Obj.cells #[] 3)).alloc (Obj.cells #[Value.slice (some ⟨w.heap.size + 1, 0, none⟩) 0 0] 32) := ⟨_, rfl⟩
    have hr0 : Row W w.heap.size 25 #[.int .i64 op, .int .i64 n, .slice A k.len c] := by rw [hW]; exact ((Row.fresh w _ _).alloc _).alloc _
    have hr1 : Row W (w.heap.size + 1) 3 #[] := by
      rw [hW]
      have := Row.fresh (w.alloc (Obj.cells #[.int .i64 op, .int .i64 n, .slice A k.len c] 25)) 3 #[]
      rw [World.size_alloc] at this
      exact this.alloc _
    have hr2 : Row W (w.heap.size + 1 + 1) 32 #[Value.slice (some ⟨w.heap.size + 1, 0, none⟩) 0 0] := by
      rw [hW]
      have := Row.fresh ((w.alloc (Obj.cells #[.int .i64 op, .int .i64 n, .slice A k.len c] 25)).alloc (Obj.cells #[] 3)) 32 #[Value.slice (some ⟨w.heap.size + 1, 0, none⟩) 0 0]
      simp only [World.size_alloc] at this
      exact this
    have hbW : Below w.heap.size w W := by rw [hW]; exact (((Below.refl _ _).alloc (Nat.le_refl _) _).alloc (by simp) _).alloc (by simp; omega) _
    have HR0 := Lib.hid hr0
    have HO := Lib.hid (OwnSS.start (base := w.heap.size) hr1 hr2 (by omega) (by omega) (by omega))
    have HBW := Lib.hid hbW
    have q2 := hr0.cell (i := 2) rfl
    have hkm : k.len ≤ 9223372036854775807 := by omega
    clear hr0 hr1 hr2 hbW
    go_enter Try.func23, Try.ntmps23
    go_upto_region 2 with fail
    rw [← hW]
    clear hW
    go_wp2_with fail
    clear q2
    go_loopw [3, 11] (fun v i wr => ∃ (j : Nat) (acc : List (List Int)) (bs : List Nat), j ≤ k.len ∧ i = .int .i64 (j : Int) ∧ acc ++ pathsK (k.drop j) j = pathsP k ∧ OwnSS wr w.heap.size v acc bs ∧ Below w.heap.size w wr)
      (fun _ i _ => k.len - (intOf i).toNat)
    case atStart => exact ⟨0, [[]], _, Nat.zero_le _, rfl, by rw [Fo.drop_zero]; rfl, HO.out, HBW.out⟩
    case round =>
      clear HO HBW HR0
      obtain ⟨j, acc, bs, hj, rfl, hacc, ho, hb⟩ := hrel
      obtain ⟨Av, cv, rfl, _, _⟩ := ho.slice
      by_cases hlt : j < k.len
      · obtain ⟨o1, m1, k1, e1, e2, e3⟩ := Fo.drop_of_lt k j hlt
        have hj' := (hl.below hb).at_ j
        rw [Nat.zero_add, e1] at hj'
        obtain ⟨⟨b, o, A', c', hA, _, hbb, i1, i2, g1, g2, g3, h1, h2, h3⟩, _⟩ := hj'
        subst hA
        rw [pathsK_drop e1, ← List.append_assoc] at hacc
        have hal := congrArg List.length hacc
        rw [List.length_append, List.length_append, List.length_map, pathsP_len, pathsP_len] at hal
        obtain ⟨wa, hwa⟩ : ∃ wa, wa = wr.alloc (Obj.cells #[.int .i64 o1, .int .i64 m1, .slice A' k1.len c'] 25) := ⟨_, rfl⟩
        have hba : Below wr.heap.size wr wa := by rw [hwa]; exact (Below.refl _ _).alloc (Nat.le_refl _) _
        have hra : Row wa wr.heap.size 25 #[.int .i64 o1, .int .i64 m1, .slice A' k1.len c'] := by rw [hwa]; exact Row.fresh _ _ _
        have q0 := hra.cell (i := 0) rfl
        have q1 := hra.cell (i := 1) rfl
        have q2 := hra.cell (i := 2) rfl
        have hla : Lies wa 0 wa.heap.size A' 0 k1 := (h3.below (hba.mono hb.size)).mono_ (Nat.le_refl _) (Nat.le_trans hb.size hba.size)
        obtain ⟨p1, hp1⟩ : ∃ p1, p1 = pathsP k1 := ⟨_, rfl⟩
        have hp1l : p1.length = k1.size + 1 := by rw [hp1, pathsP_len]
        have hp1s : ∀ zs, zs ∈ p1 → zs.length ≤ 1000 := fun zs hz => by rw [hp1] at hz; exact Nat.le_trans (pathsP_short hz) (by omega)
        have hih := ih k1.size (by omega) o1 m1 k1 A' c' wa rfl hla (by omega)
        obtain ⟨nw, hnw⟩ : ∃ nw, nw = (pathsP k1).map (List.cons (j : Int)) := ⟨_, rfl⟩
        have hnl : nw.length = k1.size + 1 := by rw [hnw, List.length_map, pathsP_len]
        obtain ⟨tot, htot⟩ : ∃ tot, tot = acc ++ nw := ⟨_, rfl⟩
        have hal2 : acc.length ≤ 1000 := by omega
        rw [← hnw, ← htot] at hacc
        rw [← hp1] at hih hnw
        have HC := Lib.hid hih
        have HPL := Lib.hid hp1l
        have HPS := Lib.hid hp1s
        have HNW := Lib.hid hnw
        have HNL := Lib.hid hnl
        have HTOT := Lib.hid htot
        clear hih hp1 hp1l hp1s hnw hnl htot
        have HOA := Lib.hid (ho.over hba)
        have HLT := Lib.hid (show ∀ z, z ∈ bs → z < wa.heap.size from fun z hz => Nat.lt_of_lt_of_le (ho.lt z hz).2 hba.size)
        have HB := Lib.hid (hb.trans (hba.mono hb.size))
        have HACC := Lib.hid hacc
        have HLK := Lib.hid hl
        clear hacc ho hb hba hra hla h3 hl hal ih i1 i2 e1
        go_upto_region 5 with fail
        rw [← hwa]
        clear hwa g1 g2 g3
        go_wp2_with fail
        refine HC.out.mono ?_
        rintro e w5 ⟨A5, c5, bs5, rfl, ho5, hb5⟩
        have hc2 := behind_any (j : Int) p1 A5 c5 w5 (by unfold I64; omega) ho5.lies0 (by have := HPL.out; omega) HPS.out
        rw [← HNW.out] at hc2
        have HC2 := Lib.hid hc2
        clear hc2
        have HB5 := Lib.hid (HB.out.trans (hb5.mono HB.out.size))
        have HO5 := Lib.hid (HOA.out.over hb5)
        have HLT5 := Lib.hid (show ∀ z, z ∈ bs → z < w5.heap.size from fun z hz => Nat.lt_of_lt_of_le (HLT.out z hz) hb5.size)
        clear HC q0 q1 q2 ho5 hb5 HOA HB HLT
        go_wp2_with fail
        refine HC2.out.mono ?_
        rintro e w6 ⟨A6, c6, bs6, rfl, ho6, hb6⟩
        obtain ⟨A7, c7, w7, bs7, hrun, ho7, hg7, hin7, _⟩ := (HO5.out.over hb6).append_own (ho6.lower HB5.out.size) (fun z h1 h2 => by have := HLT5.out z h1; have := (ho6.lt z h2).1; omega) (by have := HNL.out; omega) (Nat.le_trans HB5.out.size hb6.size)
        rw [← HTOT.out] at hrun ho7
        have HRUN := Lib.hid (hrun 27)
        have HO7 := Lib.hid ho7
        have HB7 := Lib.hid (Below.grown (HB5.out.trans (hb6.mono HB5.out.size)) hg7 (Nat.le_trans HB5.out.size hb6.size) (fun z hz => (HO5.out.lt z (HO5.out.own z hz)).1))
        clear HC2 ho6 hb6 HO5 HB5 hrun ho7 hg7 hin7
        go_wp2_with (at_builtin; refine wpList_append_ran rfl _ _ 27 rfl _ _ _ rfl rfl HRUN.out ?_)
        go_roundw
        case rel => exact ⟨j + 1, _, bs7, hlt, by go_num, HACC.out, HO7.out, HB7.out⟩
        case measure => simp [intOf]; omega
      · have e9 : j = k.len := by omega
        rw [e9, Fo.drop_len] at hacc
        have hacc2 : acc = pathsP k := by rw [← hacc]; simp [pathsK]
        subst hacc2
        have HO := Lib.hid ho
        have HB := Lib.hid hb
        clear ho hb hacc
        go_wp2_with fail
        go_ret
        exact ⟨Av, cv, bs, rfl, HO.out, HB.out⟩

/-- What PathsOf returns. -/
def pathsB (p : Nd) : List (List Int) := if ndIs p then pathsP p.k else []
theorem nd_small {p : Nd} (h : ndIs p = true) : p.k.size ≤ 80 := by
  have h1 := ndIs_small h
  unfold smallOk at h1
  simp at h1
  omega
theorem pathsB_len (p : Nd) : (pathsB p).length ≤ 81 := by
  unfold pathsB
  split
  · rename_i h
    have := nd_small h
    rw [pathsP_len]; omega
  · simp

theorem flat_bound : ∀ (zss : List (List Int)) (b : Nat), (∀ zs, zs ∈ zss → zs.length ≤ b) → zss.flatten.length ≤ zss.length * b
  | [], b, _ => by simp
  | z :: r, b, h => by
    have h1 := flat_bound r b fun zs hz => h zs (List.mem_cons_of_mem _ hz)
    have h2 := h z (List.mem_cons_self ..)
    simp only [List.flatten_cons, List.length_append, List.length_cons, Nat.add_mul]
    omega
theorem pathsB_flat (p : Nd) : (pathsB p).flatten.length ≤ 1048576 := by
  have h := flat_bound (pathsB p) 80 fun zs hz => by
    unfold pathsB at hz
    split at hz
    · rename_i h
      exact Nat.le_trans (pathsP_short hz) (nd_small h)
    · cases hz
  have := pathsB_len p
  omega

set_option maxHeartbeats 1000000 in
theorem implPaths_any (op n : Int) (k : Fo) (A : Option Addr) (c : Nat) (w : World) (hl : Lies w 0 w.heap.size A 0 k) (hk : k.len ≤ maxLen) :
    Calls Try.prog 8 #[.agg #[.int .i64 op, .int .i64 n, .slice A k.len c]] w (PathsPost (pathsB ⟨op, n, k⟩) w) := by
  obtain ⟨hb, r1⟩ := one_box w 25 #[Value.int IntKind.i64 op, Value.int IntKind.i64 n, Value.slice A k.len c]
  obtain ⟨W, hW⟩ : ∃ W, W = w.alloc (Obj.cells #[Value.int IntKind.i64 op, Value.int IntKind.i64 n, Value.slice A k.len c] 25) := ⟨_, rfl⟩
  rw [← hW] at hb r1
  have HB := Lib.hid hb
  have HR1 := Lib.hid r1
  have HV := Lib.hid (validOpen_any op n k A c W (hl.up hb) hk)
  have HL := Lib.hid (hl.up hb)
  have q0 := r1.cell (i := 0) rfl
  have q1 := r1.cell (i := 1) rfl
  have q2 := r1.cell (i := 2) rfl
  clear hb r1 hl
  cases hv : nodeIs op n k (firstS 8) with
  | false =>
    have HZ := Lib.hid (show pathsB ⟨op, n, k⟩ = [] by unfold pathsB ndIs; simp [hv])
    rw [hv] at HV
    rw [HZ.out]
    go_enter Try.func8, Try.ntmps8
    go_upto_region 1 with fail
    rw [← hW]
    clear hW
    go_wp2_with fail
    refine HV.out.mono ?_
    rintro e w1 ⟨rfl, hb1⟩
    have HB1 := Lib.hid (HB.out.trans (hb1.mono HB.out.size))
    clear HV hb1 q0 q1 q2
    go_wp2_with fail
    go_ret
    exact ⟨none, 0, [], rfl, OwnSS.nil _ _, HB1.out⟩
  | true =>
    have HZ := Lib.hid (show pathsB ⟨op, n, k⟩ = pathsP k by unfold pathsB ndIs; simp [hv])
    have hsz := nd_small (p := ⟨op, n, k⟩) hv
    rw [hv] at HV
    rw [HZ.out]
    go_enter Try.func8, Try.ntmps8
    go_upto_region 1 with fail
    rw [← hW]
    clear hW
    go_wp2_with fail
    refine HV.out.mono ?_
    rintro e w1 ⟨rfl, hb1⟩
    have HB1 := Lib.hid (HB.out.trans (hb1.mono HB.out.size))
    have HC := Lib.hid (pathsIn_any k.size op n k A c w1 rfl (HL.out.up hb1) (by omega))
    have hr := HR1.out.below hb1 HR1.out.size
    clear HV q0 q1 q2 hb1
    have q0 := hr.cell (i := 0) rfl
    have q1 := hr.cell (i := 1) rfl
    have q2 := hr.cell (i := 2) rfl
    clear hr
    go_wp2_with fail
    refine HC.out.mono ?_
    rintro e w2 ⟨A2, c2, bs2, rfl, ho2, hb2⟩
    have HO2 := Lib.hid (ho2.lower HB1.out.size)
    have HB2 := Lib.hid (HB1.out.trans (hb2.mono HB1.out.size))
    clear HC ho2 hb2 q0 q1 q2
    go_wp2_with fail
    go_ret
    exact ⟨A2, c2, bs2, rfl, HO2.out, HB2.out⟩
end Go.Proofs.Ytbbieamgjbijlaa
