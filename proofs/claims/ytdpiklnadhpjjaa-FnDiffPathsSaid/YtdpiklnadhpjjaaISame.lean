/-
  impl.ExprSame: the list of pairs under way; two trees of nodes are the same.
-/
import Derived.Test.YtdpiklnadhpjjaaSameD
import Derived.Test.YtdpiklnadhpjjaaEndless
import Derived.BigRegion
import Derived.Deep.RegionLawGrows
import Derived.Deep.CutRange
namespace Go.Proofs.Ytdpiklnadhpjjaa
open Go.RowKit
set_option maxRecDepth 100000

/-- append to a row of the call's own, as one step of a region that draws. -/
theorem step_append_own {P : Program} {ops : Array Oper} {o : Oper} {a : Act} {w : World} {K : Act → World → Prop} {Q : Exit → Act → World → Prop} {E : Prop}
    (hg : o.guard = none) (s x : Operand) (t : TypeId) (hop : o.op = Op.call { callee := Callee.builtin Builtin.append, args := #[s, x], argTypes := #[t, t] })
    (base : Nat) (e : TypeId) (i : TypeInfo) (z : Value) (size bytes : Nat) (h1 : P.underlying t = some (.slice e)) (h2 : P.info? e = some i) (h3 : i.zero = some z) (h4 : i.size = size) (h5 : i.bytes = bytes) (h6 : z.cells.size = size) (h7 : 0 < size)
    (v : Value) (n : Nat) (xs : List Value) (hs : a.eval s = v) (hown : w.ownsRow base e size v n xs)
    (ad : Addr) (m c : Nat) (news : List Value) (hx : a.eval x = .slice (some ad) m c) (hn : news.length = m * size) (hc : ∀ j u, news[j]? = some u → w.cell? (ad.add j) = some u) (h1c : ∀ u ∈ news, u.oneCell' = true)
    (b1 : n + m ≤ maxLen) (b2 : (n + m) * bytes ≤ 140737488355328) (hbase : base ≤ w.heap.size)
    (hK : ∀ v' w', w'.ownsRow base e size v' (n + m) (xs ++ news) → w.grownBy w' v.ownBlock → K (a.put o.dst v') w') :
    if Region.wanted o (yielded ops a.tmps) = true then Oper.wp P o a w K Q else E := by
  have hw : Region.wanted o (yielded ops a.tmps) = true := by simp [Region.wanted, hg]
  rw [if_pos hw]
  obtain ⟨v', w', hrun, r1, r2, _⟩ := run_append_own (P := P) w base t o.type e i z size bytes h1 h2 h3 h4 h5 h6 h7 v n xs hown ad m c news hn hc h1c b1 b2 hbase
  unfold Oper.wp
  simp [execOp, hop, resolve, invoke, builtin, hs, hx, hrun, Result.andThen]
  exact hK v' w' r1 r2

theorem alloc_cells_at (w : World) (t : TypeId) (cs : Array Value) : ∀ (j : Nat) (u : Value), cs.toList[j]? = some u → (w.alloc (.cells cs t)).cell? ((⟨w.heap.size, 0, none⟩ : Addr).add j) = some u := by
  intro j u hj
  rw [plain_add, Nat.zero_add]
  exact (Row.fresh w t cs).cell (by rw [← Array.getElem?_toList]; exact hj)

theorem own_base {w : World} {base : Nat} {e : TypeId} {size : Nat} {v : Value} {n : Nat} {xs : List Value} {g : Nat} (h : w.ownsRow base e size v n xs) (hg : v.ownBlock = some g) : base ≤ g := by
  rcases h.2 with ⟨rfl, _⟩ | ⟨g2, _, _, rfl, h2, _⟩
  · simp [Value.ownBlock] at hg
  · have : g2 = g := by simpa [Value.ownBlock] using hg
    omega
theorem own_ne_row {w : World} {base : Nat} {e t : TypeId} {size : Nat} {v : Value} {n : Nat} {xs : List Value} {g : Nat} {cs : Array Value} (h : w.ownsRow base e size v n xs) (hr : Row w g t cs) (hne : t ≠ e) : some g ≠ v.ownBlock := by
  rcases h.2 with ⟨rfl, _⟩ | ⟨g2, cap, cur, rfl, _, hh, _⟩
  · simp [Value.ownBlock]
  · intro hg
    have h1 : g = g2 := by simpa [Value.ownBlock] using hg
    subst h1
    have h9 := Option.some.inj (Eq.trans (Eq.symm hr) hh)
    injection h9 with _ h10
    exact hne h10

theorem two_rows (w : World) (t : TypeId) (X Y : Array Value) : Row ((w.alloc (.cells X t)).alloc (.cells Y t)).drew w.heap.size t X ∧ Row ((w.alloc (.cells X t)).alloc (.cells Y t)).drew (w.heap.size + 1) t Y ∧ Below w.heap.size w ((w.alloc (.cells X t)).alloc (.cells Y t)).drew := by
  refine ⟨((Row.fresh w t X).alloc _).drew, ?_, (((Below.refl _ _).alloc (Nat.le_refl _) _).alloc (by simp) _).drew⟩
  have := (Row.fresh (w.alloc (.cells X t)) t Y).drew
  rw [World.size_alloc] at this
  exact this

structure Half where
  op : Int
  n : Int
  k : Fo
  A : Option Addr
  c : Nat
def Half.cells (h : Half) : List Value := [.int .i64 h.op, .int .i64 h.n, .slice h.A h.k.len h.c]
def Half.ok (w : World) (B : Nat) (h : Half) : Prop := Lies w 0 B h.A 0 h.k ∧ h.k.len ≤ h.c ∧ h.c ≤ maxLen
def cells6 : List (Half × Half) → List Value
  | [] => []
  | p :: r => p.1.cells ++ (p.2.cells ++ cells6 r)
def sameP (p : Half × Half) : Bool := sameN p.1.op p.1.n p.1.k p.2.op p.2.n p.2.k
def allSame : List (Half × Half) → Bool
  | [] => true
  | p :: r => sameP p && allSame r
def wgt : List (Half × Half) → Nat
  | [] => 0
  | p :: r => 1 + p.1.k.size + wgt r
theorem cells6_append : ∀ (a b : List (Half × Half)), cells6 (a ++ b) = cells6 a ++ cells6 b
  | [], _ => rfl
  | p :: r, b => by simp [cells6, cells6_append r b]
theorem length_cells6 : ∀ (a : List (Half × Half)), (cells6 a).length = a.length * 6
  | [] => rfl
  | p :: r => by simp [cells6, Half.cells, length_cells6 r]; omega
theorem allSame_append : ∀ (a b : List (Half × Half)), allSame (a ++ b) = (allSame a && allSame b)
  | [], _ => by simp [allSame]
  | p :: r, b => by simp [allSame, allSame_append r b, Bool.and_assoc]
theorem wgt_append : ∀ (a b : List (Half × Half)), wgt (a ++ b) = wgt a + wgt b
  | [], _ => by simp [wgt]
  | p :: r, b => by simp [wgt, wgt_append r b]; omega
theorem length_le_wgt : ∀ (a : List (Half × Half)), a.length ≤ wgt a
  | [] => Nat.le_refl _
  | p :: r => by have := length_le_wgt r; simp [wgt]; omega
theorem cells6_last (st : List (Half × Half)) (p : Half × Half) (d : Nat) (hd : d < 6) : (cells6 (st ++ [p]))[st.length * 6 + d]? = (p.1.cells ++ p.2.cells)[d]? := by
  rw [cells6_append, List.getElem?_append_right (by rw [length_cells6]; omega), length_cells6]
  simp only [cells6, List.append_nil]
  congr 1
  omega

theorem take_cells6 {l : List Value} {st : List (Half × Half)} {x : Half × Half} (h : l.take ((st.length + 1) * 6) = cells6 (st ++ [x])) : l.take (st.length * 6) = cells6 st := by
  have h1 : (l.take ((st.length + 1) * 6)).take (st.length * 6) = (cells6 (st ++ [x])).take (st.length * 6) := by rw [h]
  rw [List.take_take, Nat.min_eq_left (by omega), cells6_append, List.take_left' (length_cells6 st)] at h1
  exact h1

/-- The list of pairs under way. -/
structure Prs (w : World) (R : Bool) (st : List (Half × Half)) (v : Value) (wr : World) : Prop where
  own : wr.ownsRow w.heap.size 49 6 v st.length (cells6 st)
  below : Below w.heap.size w wr
  same : allSame st = R
  ok : ∀ p ∈ st, p.1.ok w w.heap.size ∧ p.2.ok w w.heap.size

set_option maxHeartbeats 1000000 in
theorem implSame_r (op n op' n' : Int) (k k' : Fo) (A A' : Option Addr) (c c' : Nat) (w : World) (hl : Lies w 0 w.heap.size A 0 k) (hl' : Lies w 0 w.heap.size A' 0 k') (L B : Nat) (hlL : Lies w L B A 0 k) (hB : B ≤ w.heap.size) (hal : RowsIf w B A k)
    (hk1 : k.len ≤ c) (hk2 : c ≤ maxLen) (hk1' : k'.len ≤ c') (hk2' : c' ≤ maxLen) (hsz : k.size ≤ 1048576) :
    Calls Try.prog 10 #[.agg #[.int .i64 op, .int .i64 n, .slice A k.len c], .agg #[.int .i64 op', .int .i64 n', .slice A' k'.len c']] w (Gives (.bool (sameN op n k op' n' k')) w) := by
  have hb0 : Below w.heap.size w ((w.alloc (Obj.cells #[Value.int IntKind.i64 op, Value.int IntKind.i64 n, Value.slice A k.len c] 25)).alloc (Obj.cells #[Value.int IntKind.i64 op', Value.int IntKind.i64 n', Value.slice A' k'.len c'] 25)) :=
    ((Below.refl _ _).alloc (Nat.le_refl _) _).alloc (by simp) _
  have hr0 : Row ((w.alloc (Obj.cells #[Value.int IntKind.i64 op, Value.int IntKind.i64 n, Value.slice A k.len c] 25)).alloc (Obj.cells #[Value.int IntKind.i64 op', Value.int IntKind.i64 n', Value.slice A' k'.len c'] 25)) w.heap.size 25 #[Value.int IntKind.i64 op, Value.int IntKind.i64 n, Value.slice A k.len c] :=
    (Row.fresh _ _ _).alloc _
  have hr1 : Row ((w.alloc (Obj.cells #[Value.int IntKind.i64 op, Value.int IntKind.i64 n, Value.slice A k.len c] 25)).alloc (Obj.cells #[Value.int IntKind.i64 op', Value.int IntKind.i64 n', Value.slice A' k'.len c'] 25)) (w.heap.size + 1) 25 #[Value.int IntKind.i64 op', Value.int IntKind.i64 n', Value.slice A' k'.len c'] := by
    have := Row.fresh (w.alloc (Obj.cells #[Value.int IntKind.i64 op, Value.int IntKind.i64 n, Value.slice A k.len c] 25)) 25 #[Value.int IntKind.i64 op', Value.int IntKind.i64 n', Value.slice A' k'.len c']
    rw [World.size_alloc] at this
    exact this
  have hs0 : w.heap.size + 2 ≤ ((w.alloc (Obj.cells #[Value.int IntKind.i64 op, Value.int IntKind.i64 n, Value.slice A k.len c] 25)).alloc (Obj.cells #[Value.int IntKind.i64 op', Value.int IntKind.i64 n', Value.slice A' k'.len c'] 25)).heap.size := by simp
  obtain ⟨z6, hz6⟩ : ∃ z, z = sameN op n k op' n' k' := ⟨_, rfl⟩
  rw [← hz6]
  go_enter Try.func10, Try.ntmps10
  go_wp2_with fail
  refine (endless_r op n k A c L B _ (hlL.below (hb0.mono hB)) (Nat.le_trans hB hb0.size) (hal.below hb0 hB) hk1 hk2 hsz).mono ?_
  rintro e w2 ⟨rfl, hb2'⟩
  have hb2 := hb0.trans (hb2'.mono hb0.size)
  have r0 := hr0.below hb2' (by omega)
  have r1 := hr1.below hb2' (by omega)
  have hs2 : w.heap.size + 2 ≤ w2.heap.size := Nat.le_trans hs0 hb2'.size
  have q0 := r0.cell (i := 0) rfl
  have q1 := r0.cell (i := 1) rfl
  have q2 := r0.cell (i := 2) rfl
  have q3 := r1.cell (i := 0) rfl
  have q4 := r1.cell (i := 1) rfl
  have q5 := r1.cell (i := 2) rfl
  clear hb0 hr0 hr1 hs0 hb2' r0 r1
  go_wp2_with fail
  have hb3 : Below w.heap.size w (w2.alloc (Obj.cells #[Value.int IntKind.i64 op, Value.int IntKind.i64 n, Value.slice A k.len c, Value.int IntKind.i64 op', Value.int IntKind.i64 n', Value.slice A' k'.len c'] 49)) := hb2.alloc hb2.size _
  have prs0 : Prs w z6 [(⟨op, n, k, A, c⟩, ⟨op', n', k', A', c'⟩)] (.slice (some ⟨w2.heap.size, 0, none⟩) 1 1) (w2.alloc (Obj.cells #[Value.int IntKind.i64 op, Value.int IntKind.i64 n, Value.slice A k.len c, Value.int IntKind.i64 op', Value.int IntKind.i64 n', Value.slice A' k'.len c'] 49)) := by
    refine ⟨⟨rfl, .inr ⟨w2.heap.size, 1, _, rfl, by omega, heap_alloc_new _ _, Nat.le_refl _, by decide, rfl, rfl⟩⟩, hb3, by rw [hz6]; simp [allSame, sameP], ?_⟩
    intro p hp
    rw [List.mem_singleton.1 hp]
    exact ⟨⟨hl, hk1, hk2⟩, ⟨hl', hk1', hk2'⟩⟩
  clear q0 q1 q2 q3 q4 q5
  generalize w2.alloc (Obj.cells #[Value.int IntKind.i64 op, Value.int IntKind.i64 n, Value.slice A k.len c, Value.int IntKind.i64 op', Value.int IntKind.i64 n', Value.slice A' k'.len c'] 49) = w3 at *
  go_loopg [5] (1 + k.size) (fun gk v wr => ∃ st, gk = wgt st ∧ gk ≤ 1048577 ∧ Prs w z6 st v wr)
  case atStart => exact ⟨_, by simp [wgt], by omega, prs0⟩
  case round =>
    clear prs0 hb3
    obtain ⟨st, hgk, hgm, hp⟩ := hrel
    rcases List.eq_nil_or_concat st with rfl | ⟨st', x, hst⟩
    · have hz : z6 = true := hp.same.symm
      have hbw := hp.below
      rcases hp.own.2 with ⟨rfl, _⟩ | ⟨g, cap, cur, rfl, _⟩
      all_goals
        clear hp hgk hz6
        go_wp2
        go_ret
        exact ⟨by rw [hz]; rfl, hbw⟩
    · rw [List.concat_eq_append] at hst
      subst hst
      obtain ⟨⟨op1, n1, k1, A1, c1⟩, ⟨op2, n2, k2, A2, c2⟩⟩ := x
      rcases hp.own.2 with ⟨_, h0⟩ | ⟨g, cap, cur, hv, hgg, hgh, hgn, hgc, hgs, hgt⟩
      · simp at h0
      have hsame := hp.same
      have hoks := hp.ok
      have hbw := hp.below
      clear hp
      rw [List.length_append] at hv hgn hgt
      simp only [List.length_singleton] at hv hgn hgt
      subst hv
      rw [wgt_append] at hgk
      rw [allSame_append] at hsame
      have hlen := length_le_wgt st'
      obtain ⟨hx1, hx2⟩ := hoks _ (List.mem_append_right _ (List.mem_singleton.2 rfl))
      have hoks' : ∀ p ∈ st', p.1.ok w w.heap.size ∧ p.2.ok w w.heap.size := fun p hp => hoks p (List.mem_append_left _ hp)
      obtain ⟨hx1, hx1a, hx1b⟩ := hx1
      obtain ⟨hx2, hx2a, hx2b⟩ := hx2
      simp only at hx1 hx1a hx1b hx2 hx2a hx2b
      have hcell : ∀ d < 6, wr.cell? ⟨g, st'.length * 6 + d, none⟩ = (Half.cells ⟨op1, n1, k1, A1, c1⟩ ++ Half.cells ⟨op2, n2, k2, A2, c2⟩)[d]? := by
        intro d hd
        refine (cell_of_row wr g (st'.length * 6 + d) cur _ _ hgh).trans ?_
        have h1 : (cur.toList.take ((st'.length + 1) * 6))[st'.length * 6 + d]? = (cells6 (st' ++ [(⟨op1, n1, k1, A1, c1⟩, ⟨op2, n2, k2, A2, c2⟩)]))[st'.length * 6 + d]? := by rw [hgt]
        rw [List.getElem?_take_of_lt (by omega), Array.getElem?_toList, cells6_last _ _ _ hd] at h1
        exact h1
      have g0 := hcell 0 (by omega)
      have g1 := hcell 1 (by omega)
      have g2 := hcell 2 (by omega)
      have g3 := hcell 3 (by omega)
      have g4 := hcell 4 (by omega)
      have g5 := hcell 5 (by omega)
      simp [Half.cells] at g0 g1 g2 g3 g4 g5
      have g4b : wr.cell? ⟨g, st'.length * 6 + 3 + 1, none⟩ = some (.int .i64 n2) := g4
      have g5b : wr.cell? ⟨g, st'.length * 6 + 3 + 2, none⟩ = some (.slice A2 k2.len c2) := g5
      have hgz : g < wr.heap.size := (Array.getElem?_eq_some_iff.1 hgh).1
      have hw64 : wrap64 ((st'.length : Nat) : Int) = ((st'.length : Nat) : Int) := by unfold wrap64; omega
      have HT := Lib.hid hgt
      have HH := Lib.hid hgh
      have HS := Lib.hid hgs
      have HGK := Lib.hid hgk
      have HSAME := Lib.hid hsame
      have HCAP := Lib.hid hgc
      clear hgt hgh hgs hgk hcell hsame hgc hoks
      have HW64 := Lib.hid hw64
      clear hw64
      go_upto_region 6 with fail
      rw [HW64.out]
      go_cut [5, 6, 7, 8] from 16 to 76 (fun s5 s6 s7 s8 wx => s5 = .slice (some ⟨g, 0, none⟩) (st'.length + 1) cap ∧ s6 = .int .i64 st'.length ∧ ∃ b7 b8, s7 = .pointer (some ⟨b7, 0, none⟩) ∧ s8 = .pointer (some ⟨b8, 0, none⟩) ∧
        Row wx b7 25 #[Value.int IntKind.i64 op1, Value.int IntKind.i64 n1, Value.slice A1 k1.len c1] ∧ Row wx b8 25 #[Value.int IntKind.i64 op2, Value.int IntKind.i64 n2, Value.slice A2 k2.len c2] ∧
        wr.heap.size ≤ b7 ∧ wr.heap.size ≤ b8 ∧ Below wr.heap.size wr wx)
      case first =>
        clear hoks' hx1 hx2 hl hl' hlL hal hz6 hbw
        go_region
        all_goals
          try go_wp2_with fail
          go_meet
          first
            | exact ⟨rfl, rfl, _, _, rfl, rfl, (two_rows wr 25 _ _).1, (two_rows wr 25 _ _).2.1, Nat.le_refl _, Nat.le_succ _, (two_rows wr 25 _ _).2.2⟩
            | exact ⟨rfl, rfl, _, _, rfl, rfl, (two_rows wr 25 _ _).2.1, (two_rows wr 25 _ _).1, Nat.le_succ _, Nat.le_refl _, (two_rows wr 25 _ _).2.2⟩
      case rest =>
        obtain ⟨rfl, rfl, b7, b8, rfl, rfl, r7, r8, hg7, hg8, hbc⟩ := hcut
        have hbx : Below w.heap.size w wc := hbw.trans (hbc.mono hbw.size)
        have hrowg : wc.heap[g]? = some (.cells cur 49 (0, 0)) := (hbc.block g hgz).trans HH.out
        clear g0 g1 g2 g3 g4 g5 g4b g5b hbw hbc HH
        have x0 := r7.cell (i := 0) rfl
        have x1 := r7.cell (i := 1) rfl
        have x2 := r7.cell (i := 2) rfl
        have y0 := r8.cell (i := 0) rfl
        have y1 := r8.cell (i := 1) rfl
        have y2 := r8.cell (i := 2) rfl
        have h63 : (0 : Int) ≤ ((st'.length : Nat) : Int) := Int.natCast_nonneg _
        have hsc : ((st'.length : Nat) : Int) ≤ ((cap : Nat) : Int) := Int.ofNat_le.2 (Nat.le_trans (Nat.le_succ _) hgn)
        have hsc2 : st'.length ≤ cap := Nat.le_trans (Nat.le_succ _) hgn
        by_cases ho : op1 = op2
        · by_cases hn : n1 = n2
          · by_cases hk : k1.len = k2.len
            · subst ho hn
              have HK := Lib.hid hk
              rw [hk] at r7 x2 hx1a
              clear hk
              have HBX := Lib.hid hbx
              have HRG := Lib.hid hrowg
              clear hbx hrowg
              have hkm : k2.len ≤ 9223372036854775807 := by
                have h8 := hx2b
                unfold maxLen at h8
                exact Nat.le_trans hx2a (Nat.le_trans h8 (by decide))
              have HX1 := Lib.hid hx1
              have HX2 := Lib.hid hx2
              have HO := Lib.hid hoks'
              clear hx1 hx2 hoks' hl hl' hlL hal hx1a hx1b hx2a hx2b hz6
              go_wp2_with fail
              have hh0 : st'.length * 6 = (cells6 st').length := (length_cells6 st').symm
              have own0 : wc.ownsRow w.heap.size 49 6 (.slice (some ⟨g, 0, none⟩) st'.length cap) (st' ++ []).length (cells6 (st' ++ [])) := by
                rw [List.append_nil]
                exact ⟨length_cells6 st', .inr ⟨g, cap, cur, rfl, hgg, HRG.out, hsc2, HCAP.out, HS.out, take_cells6 HT.out⟩⟩
              have same0 : (allSame (st' ++ []) && sameFo (k1.drop 0) (k2.drop 0)) = z6 := by
                rw [List.append_nil, Fo.drop_zero, Fo.drop_zero, ← HSAME.out]
                simp [allSame, sameP, sameN]
              have wgt0 : wgt (st' ++ []) + (k1.drop 0).size = wgt st' + k1.size := by rw [List.append_nil, Fo.drop_zero]
              have ok0 : ∀ p ∈ st' ++ [], p.1.ok w w.heap.size ∧ p.2.ok w w.heap.size := by rw [List.append_nil]; exact HO.out
              have S0 := Lib.hid same0
              have W0 := Lib.hid wgt0
              have O0 := Lib.hid ok0
              have N0 := Lib.hid own0
              have R7 := Lib.hid r7
              have R8 := Lib.hid r8
              clear same0 wgt0 ok0 own0 r7 r8 hh0
              go_loopw [5, 59] (fun v i wi => ∃ (j : Nat) (ks : List (Half × Half)), j ≤ k2.len ∧ i = .int .i64 j ∧ ks.length = j ∧
                  Row wi b7 25 #[Value.int IntKind.i64 op1, Value.int IntKind.i64 n1, Value.slice A1 k2.len c1] ∧ Row wi b8 25 #[Value.int IntKind.i64 op1, Value.int IntKind.i64 n1, Value.slice A2 k2.len c2] ∧
                  wi.ownsRow w.heap.size 49 6 v (st' ++ ks).length (cells6 (st' ++ ks)) ∧ Below w.heap.size w wi ∧
                  (allSame (st' ++ ks) && sameFo (k1.drop j) (k2.drop j)) = z6 ∧ wgt (st' ++ ks) + (k1.drop j).size = wgt st' + k1.size ∧ (∀ p ∈ st' ++ ks, p.1.ok w w.heap.size ∧ p.2.ok w w.heap.size))
                (fun _ i _ => k2.len - (intOf i).toNat)
              case atStart => exact ⟨0, [], Nat.zero_le _, rfl, rfl, R7.out, R8.out, N0.out, HBX.out, S0.out, W0.out, O0.out⟩
              case round =>
                clear S0 W0 O0 N0 R7 R8 x0 x1 x2 y0 y1 y2
                obtain ⟨j, ks, hj, rfl, hks, q7, q8, hown, hb, hsm, hwt, hok⟩ := hrel
                have HSM := Lib.hid hsm
                have HWT := Lib.hid hwt
                have HOK := Lib.hid hok
                have HOWN := Lib.hid hown
                have HB := Lib.hid hb
                clear hsm hwt hok hown hb
                by_cases hlt : j < k2.len
                · have x2 := q7.cell (i := 2) rfl
                  have y2 := q8.cell (i := 2) rfl
                  obtain ⟨op3, n3, k3, e1, e2, e3⟩ := Fo.drop_of_lt k1 j (by rw [HK.out]; exact hlt)
                  obtain ⟨op4, n4, k4, e1', e2', e3'⟩ := Fo.drop_of_lt k2 j hlt
                  have hj1 := HX1.out.at_ j
                  have hj2 := HX2.out.at_ j
                  rw [Nat.zero_add, e1] at hj1
                  rw [Nat.zero_add, e1'] at hj2
                  obtain ⟨⟨b, o, A3, c3, hA, _, hbb, i1, i2, g1, g2, g3, h1, h2, h3⟩, _⟩ := hj1
                  obtain ⟨⟨b', o', A4, c4, hA', _, hbb', _, _, g1', g2', g3', h1', h2', h3'⟩, _⟩ := hj2
                  subst hA hA'
                  have hsc4 := sameFo_cons e1 e1'
                  have HSC := Lib.hid hsc4
                  have P3 : Half.ok w w.heap.size ⟨op3, n3, k3, A3, c3⟩ := ⟨h3, h1, h2⟩
                  have P4 : Half.ok w w.heap.size ⟨op4, n4, k4, A4, c4⟩ := ⟨h3', h1', h2'⟩
                  have HP := Lib.hid (And.intro P3 P4)
                  replace g1 := (HB.out.cell (p := ⟨b, _, none⟩) hbb).trans g1
                  replace g2 := (HB.out.cell (p := ⟨b, _, none⟩) hbb).trans g2
                  replace g3 := (HB.out.cell (p := ⟨b, _, none⟩) hbb).trans g3
                  replace g1' := (HB.out.cell (p := ⟨b', _, none⟩) hbb').trans g1'
                  replace g2' := (HB.out.cell (p := ⟨b', _, none⟩) hbb').trans g2'
                  replace g3' := (HB.out.cell (p := ⟨b', _, none⟩) hbb').trans g3'
                  clear e1 e1' hsc4 h3 h3' P3 P4 h1 h2 h1' h2' i1 i2
                  obtain ⟨iT, hiT, hiz0, hiz1, hiz2⟩ := info_parts (show (Try.prog.info? 49).map (fun i => (i.zero, i.size, i.bytes)) = some (some (.agg #[.int .i64 0, .int .i64 0, .slice Option.none 0 0, .int .i64 0, .int .i64 0, .slice Option.none 0 0]), 6, 80) by kernel_rfl)
                  have hl5 : (st' ++ ks).length ≤ 1048577 := by
                    have h5 := HGK.out
                    have h6 := HWT.out
                    have h7 := length_le_wgt (st' ++ ks)
                    simp only [wgt] at h5
                    omega
                  have hw5 : w.heap.size ≤ wr.heap.size := HB.out.size
                  have C1 := Lib.hid (alloc_cells_at wr 49 #[Value.int IntKind.i64 op3, Value.int IntKind.i64 n3, Value.slice A3 k3.len c3, Value.int IntKind.i64 op4, Value.int IntKind.i64 n4, Value.slice A4 k4.len c4])
                  have C2 : ∀ u ∈ [Value.int IntKind.i64 op3, Value.int IntKind.i64 n3, Value.slice A3 k3.len c3, Value.int IntKind.i64 op4, Value.int IntKind.i64 n4, Value.slice A4 k4.len c4], u.oneCell' = true := by
                    intro u hu
                    simp at hu
                    rcases hu with rfl | rfl | rfl | rfl | rfl | rfl <;> rfl
                  have C3 : (st' ++ ks).length + 1 ≤ maxLen := by unfold maxLen; omega
                  have C4 : ((st' ++ ks).length + 1) * 80 ≤ 140737488355328 := by omega
                  have C5 : w.heap.size ≤ (wr.alloc (.cells #[Value.int IntKind.i64 op3, Value.int IntKind.i64 n3, Value.slice A3 k3.len c3, Value.int IntKind.i64 op4, Value.int IntKind.i64 n4, Value.slice A4 k4.len c4] 49)).heap.size := by rw [World.size_alloc]; omega
                  have HOWA := Lib.hid (HOWN.out.alloc (.cells #[Value.int IntKind.i64 op3, Value.int IntKind.i64 n3, Value.slice A3 k3.len c3, Value.int IntKind.i64 op4, Value.int IntKind.i64 n4, Value.slice A4 k4.len c4] 49))
                  have HC2 := Lib.hid C2
                  have HC3 := Lib.hid C3
                  have HC4 := Lib.hid C4
                  have HC5 := Lib.hid C5
                  have Q7 := Lib.hid q7
                  have Q8 := Lib.hid q8
                  clear C2 C3 C4 C5 q7 q8
                  go_upto_region 13 with fail
                  go_region_law (refine step_append_own rfl (.tmp 62) (.tmp 74) 50 rfl w.heap.size 49 iT _ 6 80 Try.underlying50 hiT hiz0 hiz1 hiz2 rfl (by decide) u5 _ _ rfl HOWA.out ⟨wr.heap.size, 0, none⟩ 1 1 [Value.int IntKind.i64 op3, Value.int IntKind.i64 n3, Value.slice A3 k3.len c3, Value.int IntKind.i64 op4, Value.int IntKind.i64 n4, Value.slice A4 k4.len c4] rfl rfl C1.out HC2.out HC3.out HC4.out HC5.out ?_; intro v' w' hown5 hgrow5)
                  all_goals
                    have hb5 : Below w.heap.size w w' := by
                      refine Below.grown (HB.out.alloc hw5 (.cells #[Value.int IntKind.i64 op3, Value.int IntKind.i64 n3, Value.slice A3 k3.len c3, Value.int IntKind.i64 op4, Value.int IntKind.i64 n4, Value.slice A4 k4.len c4] 49)).drew hgrow5 HC5.out fun g' hg' => ?_
                      exact own_base HOWN.out hg'
                    have hr7 := (hgrow5.block b7 (Q7.out.alloc _).size (own_ne_row HOWN.out Q7.out (by decide))).trans (Q7.out.alloc _)
                    have hr8 := (hgrow5.block b8 (Q8.out.alloc _).size (own_ne_row HOWN.out Q8.out (by decide))).trans (Q8.out.alloc _)
                    have H5 := Lib.hid hown5
                    have H7 := Lib.hid hr7
                    have H8 := Lib.hid hr8
                    clear g1 g2 g3 g1' g2' g3' hown5 hr7 hr8 x2 y2 hgrow5 hiT hiz0 hiz1 hiz2
                    go_wp2_with fail
                    go_roundw
                    case rel =>
                      refine ⟨j + 1, ks ++ [(⟨op3, n3, k3, A3, c3⟩, ⟨op4, n4, k4, A4, c4⟩)], hlt, by go_num, by rw [List.length_append, hks]; rfl, H7.out, H8.out, ?_, hb5, ?_, ?_, ?_⟩
                      · rw [← List.append_assoc, List.length_append, cells6_append]
                        exact H5.out
                      · rw [← List.append_assoc, allSame_append, ← HSM.out, HSC.out]
                        simp [allSame, sameP, Bool.and_assoc]
                      · have h5 := HWT.out
                        rw [← List.append_assoc, wgt_append]
                        simp only [wgt]
                        omega
                      · intro p hp
                        rw [← List.append_assoc] at hp
                        rcases List.mem_append.1 hp with hp | hp
                        · exact HOK.out p hp
                        · rw [List.mem_singleton.1 hp]
                          exact HP.out
                    case measure => simp [intOf]; omega
                · have e9 : j = k2.len := by omega
                  have hz := HSM.out
                  have hw := HWT.out
                  rw [e9, Fo.drop_len, ← HK.out, Fo.drop_len] at hz
                  rw [e9, ← HK.out, Fo.drop_len] at hw
                  simp only [sameFo, Bool.and_true] at hz
                  simp only [Fo.size, Nat.add_zero] at hw
                  have HZ := Lib.hid hz
                  have HW := Lib.hid hw
                  clear hz hw HSM HWT
                  go_wp2_with fail
                  go_roundg (wgt (st' ++ ks))
                  case measure =>
                    have h5 := HGK.out
                    have h6 := HW.out
                    simp only [wgt] at h5
                    omega
                  case rel =>
                    have h5 := HGK.out
                    have h6 := HW.out
                    simp only [wgt] at h5
                    exact ⟨_, rfl, by omega, HOWN.out, HB.out, HZ.out, HOK.out⟩
            · have hz : z6 = false := by rw [← HSAME.out]; simp [allSame, sameP, sameN, sameFo_ne hk]
              have HZ := Lib.hid hz
              subst ho hn
              have hkz : ¬ ((k1.len : Nat) : Int) = ((k2.len : Nat) : Int) := fun e => hk (Int.ofNat.inj e)
              have HBX := Lib.hid hbx
              clear hz HT hz6 hbx hrowg hoks' hx1 hx2 hl hl' hlL hal
              go_wp2_with fail
              go_ret
              exact ⟨by rw [HZ.out]; rfl, HBX.out⟩
          · have hz : z6 = false := by rw [← HSAME.out]; simp [allSame, sameP, sameN, hn]
            have HZ := Lib.hid hz
            subst ho
            have HBX := Lib.hid hbx
            clear hz HT hz6 hbx hrowg hoks' hx1 hx2 hl hl' hlL hal
            go_wp2_with fail
            go_ret
            exact ⟨by rw [HZ.out]; rfl, HBX.out⟩
        · have hz : z6 = false := by rw [← HSAME.out]; simp [allSame, sameP, sameN, ho]
          have HZ := Lib.hid hz
          have HBX := Lib.hid hbx
          clear hz HT hz6 hbx hrowg hoks' hx1 hx2 hl hl' hlL hal
          go_wp2_with fail
          go_ret
          exact ⟨by rw [HZ.out]; rfl, HBX.out⟩
theorem implSame_any (op n op' n' : Int) (k k' : Fo) (A A' : Option Addr) (c c' : Nat) (w : World) (hl : Lies w 0 w.heap.size A 0 k) (hl' : Lies w 0 w.heap.size A' 0 k') (L B : Nat) (hlL : Lies w L B A 0 k) (hB : B ≤ w.heap.size) (hal : AllRows w L B)
    (hk1 : k.len ≤ c) (hk2 : c ≤ maxLen) (hk1' : k'.len ≤ c') (hk2' : c' ≤ maxLen) (hsz : k.size ≤ 1048576) :
    Calls Try.prog 10 #[.agg #[.int .i64 op, .int .i64 n, .slice A k.len c], .agg #[.int .i64 op', .int .i64 n', .slice A' k'.len c']] w (Gives (.bool (sameN op n k op' n' k')) w) :=
  implSame_r op n op' n' k k' A A' c c' w hl hl' L B hlL hB (.of hlL hal) hk1 hk2 hk1' hk2' hsz
end Go.Proofs.Ytdpiklnadhpjjaa
