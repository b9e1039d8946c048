/-
  impl.PartAt.
-/
import Derived.Test.YtbbieamgjbijlaaPartS
import Derived.Test.YtbbieamgjbijlaaCopyI
namespace Go.Proofs.Ytbbieamgjbijlaa
open Go.RowKit Go.Shelf
set_option maxRecDepth 100000

theorem drop_dep : ∀ (f : Fo) (j : Nat) {o m : Int} {k r : Fo}, f.drop j = .cons o m k r → k.dep ≤ f.dep ∧ k.size ≤ f.size
  | .nil, j, _, _, _, _, e => by rw [Fo.drop_nil] at e; cases e
  | .cons _ _ _ _, 0, _, _, _, _, e => by rw [Fo.drop_zero] at e; cases e; simp only [Fo.dep, Fo.size]; omega
  | .cons _ _ _ r, j + 1, _, _, _, _, e => by
    have := drop_dep r j e
    simp only [Fo.dep, Fo.size]
    omega
theorem partN_small : ∀ (zs : List Int) (p : Nd) {q : Nd}, smallOk p.k 14 80 = true → partN p zs = some q → smallOk q.k 14 80 = true
  | [], p, q, h, e => by simp [partN] at e; rw [← e]; exact h
  | i :: r, p, q, h, e => by
    by_cases h0 : 0 ≤ i
    · by_cases h1 : i.toNat < p.k.len
      · obtain ⟨o, m, k, e1, e2, e3⟩ := Fo.drop_of_lt p.k i.toNat h1
        rw [partN_in h0 e1] at e
        refine partN_small r ⟨o, m, k⟩ ?_ e
        have hd := drop_dep p.k i.toNat e1
        unfold smallOk at h ⊢
        simp at h ⊢
        omega
      · rw [partN_out (by omega)] at e; cases e
    · rw [partN_neg (by omega)] at e; cases e

set_option maxHeartbeats 4000000 in
theorem implPart_o (op n : Int) (k : Fo) (A : Option Addr) (c : Nat) (zs : List Int) (A2 : Option Addr) (c2 L B : Nat) (w : World) (hl : Lies w L B A 0 k) (hB : B ≤ w.heap.size) (hal : smallOk k 14 80 = true ∨ AllRows w L B) (hk1 : k.len ≤ c) (hk2 : c ≤ maxLen) (hz : LiesI w 0 w.heap.size A2 zs) (hzl : zs.length ≤ 1048576) (hsz : k.size ≤ 1048576) (hi : I64 op ∧ I64 n) :
    Calls Try.prog 11 #[.agg #[.int .i64 op, .int .i64 n, .slice A k.len c], .slice A2 zs.length c2] w (GivesN ((partN ⟨op, n, k⟩ zs).getD nd0) (partN ⟨op, n, k⟩ zs).isSome w) := by
  obtain ⟨hb, r1, r2⟩ := two_boxes w 25 25 #[Value.int IntKind.i64 op, Value.int IntKind.i64 n, Value.slice A k.len c] #[Value.int IntKind.i64 0, Value.int IntKind.i64 0, Value.slice none 0 0]
  obtain ⟨W, hW⟩ : ∃ W, W = (w.alloc (Obj.cells #[Value.int IntKind.i64 op, Value.int IntKind.i64 n, Value.slice A k.len c] 25)).alloc (Obj.cells #[Value.int IntKind.i64 0, Value.int IntKind.i64 0, Value.slice none 0 0] 25) := ⟨_, rfl⟩
  rw [← hW] at hb r1 r2
  have hn : NodeIn W L B ⟨w.heap.size, 0, none⟩ ⟨op, n, k⟩ := ⟨rfl, hi, A, c, r1.cell (i := 0) rfl, r1.cell (i := 1) rfl, r1.cell (i := 2) rfl, hk1, hk2, hl.below (hb.mono hB)⟩
  have HP := Lib.hid (partOf_any ⟨w.heap.size, 0, none⟩ ⟨op, n, k⟩ zs A2 c2 L B W hn (hz.up hb) hzl)
  have HB := Lib.hid hb
  have HR2 := Lib.hid r2
  have HAL := Lib.hid (show smallOk k 14 80 = true ∨ AllRows W L B from hal.imp id fun h => h.below hb hB)
  have hBW : B ≤ W.heap.size := Nat.le_trans hB hb.size
  clear hb r1 r2 hn hal hl
  have hps : ∀ q, partN ⟨op, n, k⟩ zs = some q → q.k.size ≤ 1048576 := fun q h => Nat.le_trans (partN_size zs ⟨op, n, k⟩ h) hsz
  have HPS := Lib.hid hps
  clear hps
  obtain ⟨y, hy⟩ : ∃ y, y = partN ⟨op, n, k⟩ zs := ⟨_, rfl⟩
  rw [← hy]
  have HY := Lib.hid hy
  clear hy
  go_enter Try.func11, Try.ntmps11
  go_wp2_with fail
  rw [← hW]
  clear hW
  refine HP.out.mono ?_
  rintro e w1 ⟨rfl, ⟨b, q, rfl, hq, hn, _⟩ | ⟨rfl, hq⟩⟩
  · obtain ⟨hsp, hiq, A', c', t0, t1, t2, k1, k2, hlq⟩ := hn
    obtain ⟨bb, bo, bsp⟩ := b
    simp only at hsp t0 t1 t2
    subst hsp
    have hsq := HPS.out q hq
    have HE := Lib.hid (HY.out.trans hq)
    have HEN := Lib.hid (endless_r q.op q.n q.k A' c' L B W hlq hBW (HAL.out.elim (fun h => .small (partN_small zs ⟨op, n, k⟩ h hq)) (fun h => .of hlq h)) k1 k2 hsq)
    have HLQ := Lib.hid hlq
    have T0 := Lib.hid t0
    have T1 := Lib.hid t1
    have T2 := Lib.hid t2
    have hbs : bb < W.heap.size := World.block_lt_of_cell? _ _ t0
    clear HP HPS hlq hq
    go_wp2_with fail
    refine HEN.out.mono ?_
    rintro e w2 ⟨rfl, hb2⟩
    have HC := Lib.hid (copyOf_any q.k.size q.op q.n q.k A' c' w2 rfl ((HLQ.out.below (hb2.mono hBW)).mono_ (Nat.zero_le _) (Nat.le_trans hBW hb2.size)) hsq hiq)
    have s0 : w2.cell? ⟨bb, bo, none⟩ = some (.int .i64 q.op) := (hb2.cell (p := ⟨bb, bo, none⟩) hbs).trans T0.out
    have s1 : w2.cell? ⟨bb, bo + 1, none⟩ = some (.int .i64 q.n) := (hb2.cell (p := ⟨bb, bo + 1, none⟩) hbs).trans T1.out
    have s2 : w2.cell? ⟨bb, bo + 2, none⟩ = some (.slice A' q.k.len c') := (hb2.cell (p := ⟨bb, bo + 2, none⟩) hbs).trans T2.out
    have HB2 := Lib.hid (HB.out.trans (hb2.mono HB.out.size))
    have HR3 := Lib.hid (HR2.out.below hb2 HR2.out.size)
    clear t0 t1 t2 hb2 HEN
    go_wp2_with fail
    refine HC.out.mono ?_
    rintro e w5 ⟨A5, c5, bs5, rfl, ht5, hb5⟩
    have hb6 := HB2.out.trans (hb5.mono HB2.out.size)
    have hres5 := HR3.out.below hb5 HR3.out.size
    have hnb : w.heap.size + 1 ∉ bs5 := fun hz => by have := (ht5.lt _ hz).1; have := HR3.out.size; omega
    obtain ⟨⟨c0, c1, c2⟩, ⟨f0, f1, f2⟩, ⟨r0, r1, r2⟩, hbz, htz⟩ := box3 hres5 hb6 (Nat.le_succ w.heap.size) q.op q.n A5 q.k.len c5 (ht5.lower (base' := w.heap.size) HB2.out.size) hnb
    have HBZ := Lib.hid hbz
    have HTZ := Lib.hid htz
    clear HC s0 s1 s2 ht5 hb5 hb6 hres5 hnb hbz htz
    go_wp2_with fail
    refine bodyPost_ret (v := .tuple #[.agg #[.int .i64 q.op, .int .i64 q.n, .slice A5 q.k.len c5], .bool true]) ?_ rfl (by rw [HE.out]; exact ⟨A5, c5, bs5, rfl, HTZ.out, HBZ.out⟩)
    simp [results, Try.f11, go_sem, r0, r1, r2]
  · have HE := Lib.hid (HY.out.trans hq)
    have hres2 := HR2.out
    have d0 := hres2.cell (i := 0) rfl
    have d1 := hres2.cell (i := 1) rfl
    have d2 := hres2.cell (i := 2) rfl
    have f0 := hres2.free 0
    have f1 := hres2.free 1
    have f2 := hres2.free 2
    have HEND := Lib.hid (zero_end HB.out (Nat.le_succ w.heap.size))
    obtain ⟨r0, r1, r2⟩ := zero_cells HR2.out
    clear hres2 HP hq
    go_wp2_with fail
    refine bodyPost_ret (v := .tuple #[.agg #[.int .i64 0, .int .i64 0, .slice none 0 0], .bool false]) ?_ rfl (by rw [HE.out]; exact HEND.out)
    simp [results, Try.f11, go_sem, r0, r1, r2]

theorem implPart_any (op n : Int) (k : Fo) (A : Option Addr) (c : Nat) (zs : List Int) (A2 : Option Addr) (c2 L B : Nat) (w : World) (hl : Lies w L B A 0 k) (hB : B ≤ w.heap.size) (hal : AllRows w L B) (hk1 : k.len ≤ c) (hk2 : c ≤ maxLen) (hz : LiesI w 0 w.heap.size A2 zs) (hzl : zs.length ≤ 1048576) (hsz : k.size ≤ 1048576) (hi : I64 op ∧ I64 n) :
    Calls Try.prog 11 #[.agg #[.int .i64 op, .int .i64 n, .slice A k.len c], .slice A2 zs.length c2] w (GivesN ((partN ⟨op, n, k⟩ zs).getD nd0) (partN ⟨op, n, k⟩ zs).isSome w) :=
  implPart_o op n k A c zs A2 c2 L B w hl hB (.inr hal) hk1 hk2 hz hzl hsz hi
end Go.Proofs.Ytbbieamgjbijlaa
