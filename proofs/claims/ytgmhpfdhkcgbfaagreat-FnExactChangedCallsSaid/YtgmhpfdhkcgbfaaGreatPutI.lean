/-
  slices.Index and slices.Contains at lists of numbers.
  slices.Grow of nil and slices.Concat of three lists of numbers.
  spec.l16OwnExpr: a copy that shares no memory.
  replacement.reaches and replacement.captures.
  replacement.in, one level of it.
  impl.replaceVar and impl.withBound; replacement.in whole.
-/
import Derived.Test.YtgmhpfdhkcgbfaaGreatFresh
import Derived.Lib.AppendZeros
import Derived.Lib.Walk
import Derived.Test.YtgmhpfdhkcgbfaaGreatCopyI
import Derived.Test.YtgmhpfdhkcgbfaaGreatTree
import Derived.Test.YtgmhpfdhkcgbfaaGreatPutD
import Derived.Test.YtgmhpfdhkcgbfaaGreatEndless
import Derived.Test.YtgmhpfdhkcgbfaaGreatCntVar
import Derived.Test.YtgmhpfdhkcgbfaaGreatFo
import Derived.Deep.RegionWith
import Derived.Test.YtgmhpfdhkcgbfaaGreatImplAll
import Derived.Test.YtgmhpfdhkcgbfaaGreatVars
namespace Go.Proofs.YtgmhpfdhkcgbfaaGreat
open Go.RowKit Go.Shelf
set_option maxRecDepth 100000

def IndexPost (zs : List Int) (n : Int) (w : World) (e : Ending) (w' : World) : Prop :=
  ∃ r : Int, e = .returned (.int .i64 r) ∧ (-1 ≤ r ∧ r ≤ 4194304) ∧ decide (0 ≤ r) = decide (n ∈ zs) ∧ Below w.heap.size w w'

set_option maxHeartbeats 1000000 in
theorem index_any (zs : List Int) (A : Option Addr) (c : Nat) (n : Int) (w : World) (hl : LiesI w 0 w.heap.size A zs) (hlen : zs.length ≤ 4194304) :
    Calls Tryz.prog 58 #[.slice A zs.length c, .int .i64 n] w (IndexPost zs n w) := by
  go_enter Tryz.func58, Tryz.ntmps58
  go_wp2_with fail
  go_loopw [8] (fun i wr => ∃ (j : Nat), j ≤ zs.length ∧ i = .int .i64 j ∧ decide (n ∈ zs.take j) = false ∧ Below w.heap.size w wr)
    (fun i _ => zs.length - (intOf i).toNat)
  case atStart => exact ⟨0, by omega, rfl, by simp, Below.refl _ _⟩
  case round =>
    obtain ⟨j, hj, rfl, hno, hb⟩ := hrel
    by_cases hlt : j < zs.length
    · have e1 := List.getElem?_eq_getElem hlt
      generalize zs[j] = x at e1
      obtain ⟨b, o, hA, _, hbb, ix, g1⟩ := (hl.below hb) j x e1
      have hk := has_take e1 n
      rw [hno, Bool.false_or] at hk
      have hm : x ∈ zs := List.mem_of_getElem? e1
      subst hA
      by_cases hx : n = x
      · have HY := Lib.hid (show decide (n ∈ zs) = true by rw [hx]; simpa using hm)
        have HJ := Lib.hid (show (j : Int) ≤ 4194304 by omega)
        clear hk hm hno e1
        go_wp2_with fail
        go_ret
        exact ⟨(j : Int), rfl, ⟨by omega, HJ.out⟩, by rw [HY.out]; simp, hb⟩
      · have HN := Lib.hid (show decide (n ∈ zs.take (j + 1)) = false by rw [hk]; simpa using fun h => hx h.symm)
        clear hk hm hno e1
        go_wp2_with fail
        go_roundw
        case rel => exact ⟨j + 1, hlt, by go_num, HN.out, hb⟩
        case measure => simp [intOf]; omega
    · have e9 : j = zs.length := by omega
      subst e9
      rw [List.take_length] at hno
      have HN := Lib.hid hno
      clear hno
      go_wp2_with fail
      go_ret
      exact ⟨-1, rfl, ⟨by omega, by omega⟩, by rw [HN.out]; rfl, hb⟩

set_option maxHeartbeats 1000000 in
theorem contains_any (zs : List Int) (A : Option Addr) (c : Nat) (n : Int) (w : World) (hl : LiesI w 0 w.heap.size A zs) (hlen : zs.length ≤ 4194304) :
    Calls Tryz.prog 36 #[.slice A zs.length c, .int .i64 n] w (Gives (.bool (decide (n ∈ zs))) w) := by
  have HC := Lib.hid (index_any zs A c n w hl hlen)
  clear hl
  go_enter Tryz.func36, Tryz.ntmps36
  go_wp2_with fail
  refine HC.out.mono ?_
  rintro e w1 ⟨r, rfl, hr, hd, hb⟩
  have HD := Lib.hid hd
  have HB := Lib.hid hb
  clear HC hd hb
  go_wp2_with fail
  go_ret
  exact ⟨ret_bool (by rw [← HD.out]), HB.out⟩
end Go.Proofs.YtgmhpfdhkcgbfaaGreat

namespace Go.Proofs.YtgmhpfdhkcgbfaaGreat
open Go.RowKit Go.Shelf
set_option maxRecDepth 100000

/-- Grow makes room in a new row. -/
def GrowPost (w : World) (e : Ending) (w' : World) : Prop := ∃ v, e = .returned v ∧ w'.ownsRow w.heap.size 3 1 v 0 [] ∧ Below w.heap.size w w'

theorem zeroCells_size (n : Nat) : (Builtin.zeroCells #[Value.int .i64 0] n).size = n := by
  simp [Builtin.zeroCells]

def sum3 (a b c : Nat) : Nat → Nat
  | 0 => 0
  | 1 => a
  | 2 => a + b
  | _ => a + b + c
def cat3 (a b c : List Int) : Nat → List Int
  | 0 => []
  | 1 => a
  | 2 => a ++ b
  | _ => a ++ b ++ c
theorem cat3_len (a b c : List Int) (j : Nat) : (cat3 a b c j).length = sum3 a.length b.length c.length j := by
  unfold cat3 sum3
  split <;> simp <;> omega
def nth3 {α : Type} (a b c : α) : Nat → α
  | 0 => a
  | 1 => b
  | _ => c
theorem cat3_step (a b c : List Int) {j : Nat} (h : j < 3) : cat3 a b c (j + 1) = cat3 a b c j ++ nth3 a b c j := by
  have : j = 0 ∨ j = 1 ∨ j = 2 := by omega
  rcases this with rfl | rfl | rfl <;> simp [cat3, nth3]
theorem sum3_le (a b c : Nat) {j : Nat} : sum3 a b c j ≤ a + b + c := by
  unfold sum3
  split <;> omega

end Go.Proofs.YtgmhpfdhkcgbfaaGreat

namespace Go.Proofs.YtgmhpfdhkcgbfaaGreat
open Go.RowKit Go.Shelf
set_option maxRecDepth 100000

/-- A tree stays where a block below it is written. -/
theorem Tree.put {w : World} {base : Nat} {v : Value} {f : Fo} {bs : List Nat} (h : Tree w base v f bs) {p : Addr} (hp : p.block < base) (u : Value) : Tree (w.setCell p u) base v f bs :=
  h.keep fun q hq => Below.heap_setCell w p u q (by have := (h.lt q hq).1; omega)

end Go.Proofs.YtgmhpfdhkcgbfaaGreat

namespace Go.Proofs.YtgmhpfdhkcgbfaaGreat
open Go.RowKit Go.Shelf
set_option maxRecDepth 100000

theorem small_size {k : Fo} (h : smallOk k 14 80 = true) : k.size ≤ 80 := by
  unfold smallOk at h
  simp only [Bool.and_eq_true, decide_eq_true_iff] at h
  omega
theorem bne_nat (m : Nat) : ((m : Int) != 0) = !decide (m = 0) := by
  by_cases h : m = 0
  · simp [h]
  · have : ¬ ((m : Int) = 0) := by omega
    simp [h]
/-- A replacement as a value. -/
def repV (v : Int) (x : Nd) (X F : Option Addr) (cx lf cf : Nat) : Value := .agg #[.int .i64 v, .int .i64 x.op, .int .i64 x.n, .slice X x.k.len cx, .slice F lf cf]

end Go.Proofs.YtgmhpfdhkcgbfaaGreat

namespace Go.Proofs.YtgmhpfdhkcgbfaaGreat
open Go.RowKit Go.Shelf
set_option maxRecDepth 100000

def PutPost (r : Option Nd) (w : World) (e : Ending) (w' : World) : Prop :=
  match r with
  | some y => ∃ A c bs, e = .returned (.tuple #[.agg #[.int .i64 y.op, .int .i64 y.n, .slice A y.k.len c], .bool true]) ∧ Tree w' w.heap.size (.slice A y.k.len c) y.k bs ∧ Below w.heap.size w w'
  | none => ∃ (o m : Int) (A : Option Addr) (l c : Nat), e = .returned (.tuple #[.agg #[.int .i64 o, .int .i64 m, .slice A l c], .bool false]) ∧ Below w.heap.size w w'

/-- What a replacement is asked to be given. -/
structure PutOk (f : Nat) (p : Nd) (A : Option Addr) (x : Nd) (X F : Option Addr) (v : Int) (w : World) : Prop where
  lp : Lies w 0 w.heap.size A 0 p.k
  lx : Lies w 0 w.heap.size X 0 x.k
  lf : LiesI w 0 w.heap.size F (freeP x)
  size : p.k.size < f
  small : smallOk p.k 14 80 = true
  fit : FitN p
  ip : I64 p.op ∧ I64 p.n
  xs : smallOk x.k 14 80 = true
  ix : I64 x.op ∧ I64 x.n
  iv : I64 v
theorem small_kids {o m : Int} {k r : Fo} (h : smallOk (.cons o m k r) 14 80 = true) : smallOk k 14 80 = true ∧ smallOk r 14 80 = true := by
  unfold smallOk at h ⊢
  simp only [Bool.and_eq_true, decide_eq_true_iff] at h ⊢
  obtain ⟨h1, h2⟩ := h
  have h3 : k.dep + 1 ≤ 13 := Nat.le_trans (Nat.le_max_left _ _) (Nat.le_of_succ_le_succ h1)
  have h4 : r.dep ≤ 13 := Nat.le_trans (Nat.le_max_right _ _) (Nat.le_of_succ_le_succ h1)
  have h5 : k.size + r.size + 1 + 1 ≤ 80 := h2
  omega
theorem fit_at : ∀ {k : Fo} (_ : FitF k) (j : Nat) {o m : Int} {k1 r : Fo}, k.drop j = .cons o m k1 r → FitN ⟨o, m, k1⟩ ∧ FitF r
  | .nil, _, j, _, _, _, _, e => by rw [Fo.drop_nil] at e; cases e
  | .cons _ _ _ _, h, 0, _, _, _, _, e => by rw [Fo.drop_zero] at e; cases e; exact fitP_cons.1 h
  | .cons _ _ _ r, h, j + 1, _, _, _, _, e => fit_at (fitP_cons.1 h).2 j e
theorem small_at : ∀ {k : Fo} (_ : smallOk k 14 80 = true) (j : Nat) {o m : Int} {k1 r : Fo}, k.drop j = .cons o m k1 r → smallOk k1 14 80 = true
  | .nil, _, j, _, _, _, _, e => by rw [Fo.drop_nil] at e; cases e
  | .cons _ _ _ _, h, 0, _, _, _, _, e => by rw [Fo.drop_zero] at e; cases e; exact (small_kids h).1
  | .cons _ _ _ r, h, j + 1, _, _, _, _, e => small_at (small_kids h).2 j e
theorem new_small {x b : Nd} {v : Int} (hv : I64 v) : ∀ y ∈ freeP x ++ varsP b ++ [v], I64 y := by
  intro y hy
  rcases List.mem_append.1 hy with hy | hy
  · rcases List.mem_append.1 hy with hy | hy
    · exact freeUpto_small _ _ _ 8 y (by decide) hy
    · exact numsUpto_small _ 8 y (by decide) hy
  · rw [List.mem_singleton.1 hy]; exact hv
theorem small_pair {oa ma ob mb : Int} {ka kb : Fo} {n : Int} {u : Nat} {q : Nd} (h : smallOk (.cons oa ma ka (.cons ob mb kb .nil)) 14 80 = true) (hr : RenP n u ⟨ob, mb, kb⟩ q) : smallOk (pair ⟨oa, ma, ka⟩ q) 14 80 = true := by
  have e1 := hr.size
  have e2 := hr.dep
  dsimp only at e1 e2
  unfold smallOk at h ⊢
  simp only [pair, Fo.dep, Fo.size, e1, e2] at h ⊢
  exact h
theorem fit_pair {a q : Nd} {u : Nat} (ha : FitN a) (hq : FitN q) (hu : u < 8) : FitN ⟨7, u, pair a q⟩ := by
  have hin : inVar (u : Int) = true := by unfold inVar; simp; omega
  refine ⟨⟨by simp [nameOk, hin, pair, Fo.len], by simp [letOk, pair, Fo.len]⟩, ?_⟩
  show FitF (pair a q)
  unfold pair
  rw [fitP_cons, fitP_cons]
  exact ⟨ha, hq, FitF.nil⟩
/-- A let that was renamed is gone into. -/
theorem capt_stays {R : Option Nd} {f : Nat} {v n : Int} {u : Nat} {x q : Nd} {oa ma ob mb : Int} {ka kb : Fo} (hR : R = (match kidsP (fun y => putN f y v x) false 0 (pair ⟨oa, ma, ka⟩ q) with | none => none | some t => some ⟨7, (u : Int), t⟩))
    (hc : capt ⟨7, n, .cons oa ma ka (.cons ob mb kb .nil)⟩ v x = true) (hr : RenP n u ⟨ob, mb, kb⟩ q) (huv : (u : Int) ≠ v) :
    R = (match kidsP (fun y => putN f y v x) (stays ⟨7, (u : Int), pair ⟨oa, ma, ka⟩ q⟩ v) 0 (pair ⟨oa, ma, ka⟩ q) with | none => none | some t => some ⟨7, (u : Int), t⟩) := by
  have hs : stays ⟨7, (u : Int), pair ⟨oa, ma, ka⟩ q⟩ v = false := by
    unfold capt reach at hc
    simp only [Bool.and_eq_true, Bool.not_eq_true', decide_eq_false_iff_not, decide_eq_true_iff] at hc
    obtain ⟨⟨h1, h2⟩, _⟩ := hc
    have h3 := hr.cnt v (fun e => h1 e.symm) huv.symm
    unfold stays reach
    have h4 : ¬ cntP v (kid2 (pair ⟨oa, ma, ka⟩ q)) = 0 := by
      show ¬ cntP v q = 0
      rw [h3]
      exact h2
    simp [h4, huv]
  rw [hs]
  exact hR
theorem three_boxes (w : World) (t1 t2 t3 : TypeId) (c1 c2 c3 : Array Value) : Below w.heap.size w (((w.alloc (.cells c1 t1)).alloc (.cells c2 t2)).alloc (.cells c3 t3)) ∧ Row (((w.alloc (.cells c1 t1)).alloc (.cells c2 t2)).alloc (.cells c3 t3)) w.heap.size t1 c1 ∧
    Row (((w.alloc (.cells c1 t1)).alloc (.cells c2 t2)).alloc (.cells c3 t3)) (w.heap.size + 1) t2 c2 ∧ Row (((w.alloc (.cells c1 t1)).alloc (.cells c2 t2)).alloc (.cells c3 t3)) (w.heap.size + 1 + 1) t3 c3 := by
  obtain ⟨hb, r1, r2⟩ := two_boxes w t1 t2 c1 c2
  have r3 := Row.fresh ((w.alloc (.cells c1 t1)).alloc (.cells c2 t2)) t3 c3
  have e : ((w.alloc (.cells c1 t1)).alloc (.cells c2 t2)).heap.size = w.heap.size + 1 + 1 := by simp
  rw [e] at r3
  exact ⟨hb.alloc hb.size _, r1.alloc _, r2.alloc _, r3⟩

end Go.Proofs.YtgmhpfdhkcgbfaaGreat

namespace Go.Proofs.YtgmhpfdhkcgbfaaGreat
open Go.RowKit Go.Shelf
set_option maxRecDepth 100000

theorem PutPost.opened {r : Option Nd} {w w' : World} {e : Ending} (h : PutPost r w e w') : ∃ (o m : Int) (A : Option Addr) (l c : Nat), e = .returned (.tuple #[.agg #[.int .i64 o, .int .i64 m, .slice A l c], .bool r.isSome]) ∧ Below w.heap.size w w' ∧
    (∀ y, r = some y → o = y.op ∧ m = y.n ∧ l = y.k.len ∧ ∃ bs, Tree w' w.heap.size (.slice A l c) y.k bs) := by
  cases r with
  | none =>
    obtain ⟨o, m, A, l, c, h1, h2⟩ := h
    exact ⟨o, m, A, l, c, h1, h2, fun y hy => by cases hy⟩
  | some y =>
    obtain ⟨A, c, bs, h1, h2, h3⟩ := h
    exact ⟨y.op, y.n, A, y.k.len, c, h1, h3, fun z hz => by cases hz; exact ⟨rfl, rfl, rfl, bs, h2⟩⟩
theorem PutPost.closed {r : Option Nd} {w w' : World} {o m : Int} {A : Option Addr} {l c : Nat} (hb : Below w.heap.size w w') (h : ∀ y, r = some y → o = y.op ∧ m = y.n ∧ l = y.k.len ∧ ∃ bs, Tree w' w.heap.size (.slice A l c) y.k bs) :
    PutPost r w (.returned (.tuple #[.agg #[.int .i64 o, .int .i64 m, .slice A l c], .bool r.isSome])) w' := by
  cases r with
  | none => exact ⟨o, m, A, l, c, rfl, hb⟩
  | some y =>
    obtain ⟨rfl, rfl, rfl, bs, ht⟩ := h y rfl
    exact ⟨A, c, bs, rfl, ht, hb⟩
theorem cell_apart (w : World) {p q : Addr} (h : p.block ≠ q.block) (v : Value) : (w.setCell p v).cell? q = w.cell? q := World.cell?_setCell_other w p q v (fun e => h (by rw [e]))

/-- A list of two nodes that a call has made. -/
theorem tree_pair {w : World} {base g : Nat} {a b : Nd} {Aa Ab : Option Addr} {ca cb : Nat} {ba bb : List Nat} (hr : Row w g 34 #[.int .i64 a.op, .int .i64 a.n, .slice Aa a.k.len ca, .int .i64 b.op, .int .i64 b.n, .slice Ab b.k.len cb]) (hg : base ≤ g)
    (ha : Tree w base (.slice Aa a.k.len ca) a.k ba) (hb : Tree w base (.slice Ab b.k.len cb) b.k bb) (hd : ∀ q, q ∈ ba → q ∈ bb → False) (hga : g ∉ ba) (hgb : g ∉ bb) (ia : I64 a.op ∧ I64 a.n) (ib : I64 b.op ∧ I64 b.n) :
    ∃ bs, Tree w base (.slice (some ⟨g, 0, none⟩) 2 2) (pair a b) bs := by
  obtain ⟨sa, b1, h1, h2, rfl, h4⟩ := ha
  obtain ⟨sb, b2, k1, k2, rfl, k4⟩ := hb
  rw [blkV_slice] at h4
  rw [blkV_slice] at k4
  rw [blkV_slice] at hga
  rw [blkV_slice] at hgb
  refine ⟨_, [⟨a.op, a.n, a.k, Aa, ca⟩, ⟨b.op, b.n, b.k, Ab, cb⟩], (blkOf Aa ++ b1) ++ ((blkOf Ab ++ b2) ++ []), ⟨rfl, .inr ⟨g, 2, _, rfl, hg, hr, Nat.le_refl _, by decide, rfl, rfl⟩⟩,
    ⟨Aa, ca, sa, b1, _, _, ia, h1, h2, rfl, ⟨Ab, cb, sb, b2, [], [], ib, k1, k2, rfl, ⟨rfl, rfl⟩, rfl⟩, rfl⟩, rfl, ?_⟩
  rw [blkV_slice, List.append_nil]
  refine List.nodup_append.2 ⟨by simp [blkOf], List.nodup_append.2 ⟨h4, k4, fun p hp q hq e => hd p (by rw [blkV_slice]; exact hp) (by rw [blkV_slice, e]; exact hq)⟩, ?_⟩
  intro p hp q hq e
  simp only [blkOf, List.mem_singleton] at hp
  subst hp
  subst e
  rcases List.mem_append.1 hq with h | h
  · exact hga h
  · exact hgb h

end Go.Proofs.YtgmhpfdhkcgbfaaGreat
