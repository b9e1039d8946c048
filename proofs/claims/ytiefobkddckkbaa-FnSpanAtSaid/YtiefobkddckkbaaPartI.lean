/-
  impl.PartAt.
-/
import Derived.Test.YtiefobkddckkbaaPartS
import Derived.Test.YtiefobkddckkbaaCopyI
namespace Go.Proofs.Ytiefobkddckkbaa
open Go.RowKit Go.Shelf
set_option maxRecDepth 100000

theorem drop_dep : ∀ (f : Fo) (j : Nat) {o m : Int} {k r : Fo}, f.drop j = .cons o m k r → k.dep ≤ f.dep ∧ k.size ≤ f.size
  | .nil, j, _, _, _, _, e => by rw [Fo.drop_nil] at e; cases e
  | .cons _ _ _ _, 0, _, _, _, _, e => by rw [Fo.drop_zero] at e; cases e; simp only [Fo.dep, Fo.size]; omega
  | .cons _ _ _ r, j + 1, _, _, _, _, e => by
    have := drop_dep r j e
    simp only [Fo.dep, Fo.size]
    omega
theorem partN_small : ∀ (zs : List Int) (p : Nd) {q : Nd}, smallOk p.k 14 80 = true → partN p zs = some q → smallOk q.k 14 80 = true
  | [], p, q, h, e => by simp [partN] at e; rw [← e]; exact h
  | i :: r, p, q, h, e => by
    by_cases h0 : 0 ≤ i
    · by_cases h1 : i.toNat < p.k.len
      · obtain ⟨o, m, k, e1, e2, e3⟩ := Fo.drop_of_lt p.k i.toNat h1
        rw [partN_in h0 e1] at e
        refine partN_small r ⟨o, m, k⟩ ?_ e
        have hd := drop_dep p.k i.toNat e1
        unfold smallOk at h ⊢
        simp at h ⊢
        omega
      · rw [partN_out (by omega)] at e; cases e
    · rw [partN_neg (by omega)] at e; cases e

theorem plain_drop {w : World} {B : Nat} : ∀ (f : Fo) (j : Nat) {A : Option Addr} {i : Nat} {o m : Int} {k r : Fo}, PlainF w B A i f → f.drop j = .cons o m k r →
    ∃ b p A' c', A = some ⟨b, p, none⟩ ∧ w.cell? ⟨b, p + (i + j) * 3 + 2, none⟩ = some (.slice A' k.len c') ∧ PlainF w B A' 0 k
  | .nil, j, _, _, _, _, _, _, _, e => by cases j <;> simp [Fo.drop] at e
  | .cons _ _ _ _, 0, _, _, _, _, _, _, h, e => by
    simp only [Fo.drop, Fo.cons.injEq] at e
    obtain ⟨rfl, rfl, rfl, rfl⟩ := e
    obtain ⟨⟨b, p, A', c', hA, _, _, h3, h4⟩, _⟩ := h
    exact ⟨b, p, A', c', hA, h3, h4⟩
  | .cons _ _ _ s, j + 1, _, i, _, _, _, _, h, e => by
    obtain ⟨b, p, A', c', hA, h3, h4⟩ := plain_drop s j h.2 (by simpa only [Fo.drop] using e)
    rw [show i + 1 + j = i + (j + 1) by omega] at h3
    exact ⟨b, p, A', c', hA, h3, h4⟩
/-- The node at the end of a way stands in plain rows, if the first one's Kids do. -/
theorem plain_down {w : World} {B : Nat} : ∀ (zs : List Int) (p : Nd) (a b : Addr) (A : Option Addr) (c : Nat) {q : Nd}, w.cell? ⟨a.block, a.off + 2, none⟩ = some (.slice A p.k.len c) → PlainF w B A 0 p.k → Down w a zs b → partN p zs = some q →
    ∀ A' c', w.cell? ⟨b.block, b.off + 2, none⟩ = some (.slice A' q.k.len c') → PlainF w B A' 0 q.k
  | [], p, a, b, A, c, q, h, hp, hd, e, A', c', h' => by
    have hd : a = b := hd
    subst hd
    simp only [partN, Option.some.injEq] at e
    subst e
    have e2 := h.symm.trans h'
    injection e2 with e2
    injection e2 with e3
    rw [← e3]
    exact hp
  | i :: r, p, a, b, A, c, q, h, hp, ⟨g, o, l, c2, d1, d2, d3, d4⟩, e, A', c', h' => by
    have e2 := h.symm.trans d1
    injection e2 with e2
    injection e2 with e3 e4 _
    subst e3
    have hlt : i.toNat < p.k.len := by omega
    obtain ⟨o1, m1, k1, x1, _, _⟩ := Fo.drop_of_lt p.k i.toNat hlt
    rw [partN_in d2 x1] at e
    obtain ⟨b2, p2, A2, c3, hA, hc, hpl⟩ := plain_drop p.k i.toNat hp x1
    injection hA with hA
    injection hA with g1 g2
    subst g1
    subst g2
    rw [Nat.zero_add] at hc
    exact plain_down r ⟨o1, m1, k1⟩ ⟨g, o + i.toNat * 3, none⟩ b A2 c3 hc hpl d4 e A' c' h'

set_option maxHeartbeats 4000000 in
theorem implPart_r (op n : Int) (k : Fo) (A : Option Addr) (c : Nat) (zs : List Int) (A2 : Option Addr) (c2 L B : Nat) (w : World) (hl : Lies w L B A 0 k) (hB : B ≤ w.heap.size) (hal : RowsIf w B A k) (hk1 : k.len ≤ c) (hk2 : c ≤ maxLen) (hz : LiesI w 0 w.heap.size A2 zs) (hzl : zs.length ≤ 1048576) (hsz : k.size ≤ 1048576) (hi : I64 op ∧ I64 n) :
    Calls Try.prog 15 #[.agg #[.int .i64 op, .int .i64 n, .slice A k.len c], .slice A2 zs.length c2] w (GivesN ((partN ⟨op, n, k⟩ zs).getD nd0) (partN ⟨op, n, k⟩ zs).isSome w) := by
  obtain ⟨hb, r1, r2⟩ := two_boxes w 33 33 #[Value.int IntKind.i64 op, Value.int IntKind.i64 n, Value.slice A k.len c] #[Value.int IntKind.i64 0, Value.int IntKind.i64 0, Value.slice none 0 0]
  obtain ⟨W, hW⟩ : ∃ W, W = (w.alloc (Obj.cells #[Value.int IntKind.i64 op, Value.int IntKind.i64 n, Value.slice A k.len c] 33)).alloc (Obj.cells #[Value.int IntKind.i64 0, Value.int IntKind.i64 0, Value.slice none 0 0] 33) := ⟨_, rfl⟩
  rw [← hW] at hb r1 r2
  have hn : NodeIn W L B ⟨w.heap.size, 0, none⟩ ⟨op, n, k⟩ := ⟨rfl, hi, A, c, r1.cell (i := 0) rfl, r1.cell (i := 1) rfl, r1.cell (i := 2) rfl, hk1, hk2, hl.below (hb.mono hB)⟩
  have HP := Lib.hid (partOf_any ⟨w.heap.size, 0, none⟩ ⟨op, n, k⟩ zs A2 c2 L B W hn (hz.up hb) hzl)
  have HB := Lib.hid hb
  have HR2 := Lib.hid r2
  have HAL := Lib.hid (show RowsIf W B A k from hal.below hb hB)
  have HRT := Lib.hid (show W.cell? ⟨w.heap.size, 0 + 2, none⟩ = some (.slice A k.len c) from r1.cell (i := 2) rfl)
  have hBW : B ≤ W.heap.size := Nat.le_trans hB hb.size
  clear hb r1 r2 hn hal hl
  have hps : ∀ q, partN ⟨op, n, k⟩ zs = some q → q.k.size ≤ 1048576 := fun q h => Nat.le_trans (partN_size zs ⟨op, n, k⟩ h) hsz
  have HPS := Lib.hid hps
  clear hps
  obtain ⟨y, hy⟩ : ∃ y, y = partN ⟨op, n, k⟩ zs := ⟨_, rfl⟩
  rw [← hy]
  have HY := Lib.hid hy
  clear hy
  go_enter Try.func15, Try.ntmps15
  go_wp2_with fail
  rw [← hW]
  clear hW
  refine HP.out.mono ?_
  rintro e w1 ⟨rfl, ⟨b, q, rfl, hq, hn, hdn⟩ | ⟨rfl, hq⟩⟩
  · obtain ⟨hsp, hiq, A', c', t0, t1, t2, k1, k2, hlq⟩ := hn
    obtain ⟨bb, bo, bsp⟩ := b
    simp only at hsp t0 t1 t2
    subst hsp
    have hsq := HPS.out q hq
    have hrw : RowsIf W B A' q.k := by
      cases hsm : smallOk k 14 80 with
      | true => exact RowsIf.small (partN_small zs ⟨op, n, k⟩ hsm hq)
      | false => exact fun _ => plain_down zs ⟨op, n, k⟩ ⟨w.heap.size, 0, none⟩ ⟨bb, bo, none⟩ A c HRT.out (HAL.out hsm) hdn hq A' c' t2
    have HE := Lib.hid (HY.out.trans hq)
    have HEN := Lib.hid (endless_r q.op q.n q.k A' c' L B W hlq hBW hrw k1 k2 hsq)
    have HLQ := Lib.hid hlq
    have T0 := Lib.hid t0
    have T1 := Lib.hid t1
    have T2 := Lib.hid t2
    have hbs : bb < W.heap.size := World.block_lt_of_cell? _ _ t0
    clear HP HPS hlq hq hdn hrw
    go_wp2_with fail
    refine HEN.out.mono ?_
    rintro e w2 ⟨rfl, hb2⟩
    have HC := Lib.hid (copyOf_any q.k.size q.op q.n q.k A' c' w2 rfl ((HLQ.out.below (hb2.mono hBW)).mono_ (Nat.zero_le _) (Nat.le_trans hBW hb2.size)) hsq hiq)
    have s0 : w2.cell? ⟨bb, bo, none⟩ = some (.int .i64 q.op) := (hb2.cell (p := ⟨bb, bo, none⟩) hbs).trans T0.out
    have s1 : w2.cell? ⟨bb, bo + 1, none⟩ = some (.int .i64 q.n) := (hb2.cell (p := ⟨bb, bo + 1, none⟩) hbs).trans T1.out
    have s2 : w2.cell? ⟨bb, bo + 2, none⟩ = some (.slice A' q.k.len c') := (hb2.cell (p := ⟨bb, bo + 2, none⟩) hbs).trans T2.out
    have HB2 := Lib.hid (HB.out.trans (hb2.mono HB.out.size))
    have HR3 := Lib.hid (HR2.out.below hb2 HR2.out.size)
    clear t0 t1 t2 hb2 HEN
    go_wp2_with fail
    refine HC.out.mono ?_
    rintro e w5 ⟨A5, c5, bs5, rfl, ht5, hb5⟩
    have hb6 := HB2.out.trans (hb5.mono HB2.out.size)
    have hres5 := HR3.out.below hb5 HR3.out.size
    have hnb : w.heap.size + 1 ∉ bs5 := fun hz => by have := (ht5.lt _ hz).1; have := HR3.out.size; omega
    obtain ⟨⟨c0, c1, c2⟩, ⟨f0, f1, f2⟩, ⟨r0, r1, r2⟩, hbz, htz⟩ := box3 hres5 hb6 (Nat.le_succ w.heap.size) q.op q.n A5 q.k.len c5 (ht5.lower (base' := w.heap.size) HB2.out.size) hnb
    have HBZ := Lib.hid hbz
    have HTZ := Lib.hid htz
    clear HC s0 s1 s2 ht5 hb5 hb6 hres5 hnb hbz htz
    go_wp2_with fail
    refine bodyPost_ret (v := .tuple #[.agg #[.int .i64 q.op, .int .i64 q.n, .slice A5 q.k.len c5], .bool true]) ?_ rfl (by rw [HE.out]; exact ⟨A5, c5, bs5, rfl, HTZ.out, HBZ.out⟩)
    simp [results, Try.f15, go_sem, r0, r1, r2]
  · have HE := Lib.hid (HY.out.trans hq)
    have hres2 := HR2.out
    have d0 := hres2.cell (i := 0) rfl
    have d1 := hres2.cell (i := 1) rfl
    have d2 := hres2.cell (i := 2) rfl
    have f0 := hres2.free 0
    have f1 := hres2.free 1
    have f2 := hres2.free 2
    have HEND := Lib.hid (zero_end HB.out (Nat.le_succ w.heap.size))
    obtain ⟨r0, r1, r2⟩ := zero_cells HR2.out
    clear hres2 HP hq
    go_wp2_with fail
    refine bodyPost_ret (v := .tuple #[.agg #[.int .i64 0, .int .i64 0, .slice none 0 0], .bool false]) ?_ rfl (by rw [HE.out]; exact HEND.out)
    simp [results, Try.f15, go_sem, r0, r1, r2]

theorem implPart_o (op n : Int) (k : Fo) (A : Option Addr) (c : Nat) (zs : List Int) (A2 : Option Addr) (c2 L B : Nat) (w : World) (hl : Lies w L B A 0 k) (hB : B ≤ w.heap.size) (hal : smallOk k 14 80 = true ∨ AllRows w L B) (hk1 : k.len ≤ c) (hk2 : c ≤ maxLen) (hz : LiesI w 0 w.heap.size A2 zs) (hzl : zs.length ≤ 1048576) (hsz : k.size ≤ 1048576) (hi : I64 op ∧ I64 n) :
    Calls Try.prog 15 #[.agg #[.int .i64 op, .int .i64 n, .slice A k.len c], .slice A2 zs.length c2] w (GivesN ((partN ⟨op, n, k⟩ zs).getD nd0) (partN ⟨op, n, k⟩ zs).isSome w) :=
  implPart_r op n k A c zs A2 c2 L B w hl hB (hal.elim .small (.of hl)) hk1 hk2 hz hzl hsz hi
theorem implPart_any (op n : Int) (k : Fo) (A : Option Addr) (c : Nat) (zs : List Int) (A2 : Option Addr) (c2 L B : Nat) (w : World) (hl : Lies w L B A 0 k) (hB : B ≤ w.heap.size) (hal : AllRows w L B) (hk1 : k.len ≤ c) (hk2 : c ≤ maxLen) (hz : LiesI w 0 w.heap.size A2 zs) (hzl : zs.length ≤ 1048576) (hsz : k.size ≤ 1048576) (hi : I64 op ∧ I64 n) :
    Calls Try.prog 15 #[.agg #[.int .i64 op, .int .i64 n, .slice A k.len c], .slice A2 zs.length c2] w (GivesN ((partN ⟨op, n, k⟩ zs).getD nd0) (partN ⟨op, n, k⟩ zs).isSome w) :=
  implPart_o op n k A c zs A2 c2 L B w hl hB (.inr hal) hk1 hk2 hz hzl hsz hi
end Go.Proofs.Ytiefobkddckkbaa
