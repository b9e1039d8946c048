/-
  The part of a node at a path, as data; a node in memory, and the way down to a part.
  impl.partOf: the address of the part.
-/
import Derived.Test.YtiefobkddckkbaaTree
import Derived.Test.YtiefobkddckkbaaEndless
import Derived.Test.YtiefobkddckkbaaNodeM
namespace Go.Proofs.Ytiefobkddckkbaa
open Go.RowKit Go.Shelf
set_option maxRecDepth 100000

/-- The part at a path. -/
def partN : Nd → List Int → Option Nd
  | p, [] => some p
  | p, i :: r => if 0 ≤ i then (match p.k.drop i.toNat with | .cons o m k _ => partN ⟨o, m, k⟩ r | .nil => none) else none
theorem partN_in {p : Nd} {i : Int} {r : List Int} {o m : Int} {k s : Fo} (h : 0 ≤ i) (e : p.k.drop i.toNat = .cons o m k s) : partN p (i :: r) = partN ⟨o, m, k⟩ r := by simp [partN, h, e]
theorem partN_neg {p : Nd} {i : Int} {r : List Int} (h : i < 0) : partN p (i :: r) = none := by simp [partN]; omega
theorem Fo.drop_ge : ∀ (f : Fo) (i : Nat), f.len ≤ i → f.drop i = .nil
  | .nil, i, _ => Fo.drop_nil i
  | .cons _ _ _ r, 0, h => by simp [Fo.len] at h
  | .cons _ _ _ r, i + 1, h => by simp only [Fo.drop]; exact Fo.drop_ge r i (by simp only [Fo.len] at h; omega)
theorem partN_out {p : Nd} {i : Int} {r : List Int} (h : p.k.len ≤ i.toNat) : partN p (i :: r) = none := by
  simp only [partN, Fo.drop_ge p.k i.toNat h]
  split <;> rfl
theorem partN_size : ∀ (zs : List Int) (p : Nd) {q : Nd}, partN p zs = some q → q.k.size ≤ p.k.size
  | [], p, q, h => by simp [partN] at h; rw [h]; exact Nat.le_refl _
  | i :: r, p, q, h => by
    by_cases h0 : 0 ≤ i
    · by_cases h1 : i.toNat < p.k.len
      · obtain ⟨o, m, k, e1, e2, e3⟩ := Fo.drop_of_lt p.k i.toNat h1
        rw [partN_in h0 e1] at h
        have := partN_size r ⟨o, m, k⟩ h
        dsimp only at this
        omega
      · rw [partN_out (by omega)] at h; cases h
    · rw [partN_neg (by omega)] at h; cases h
theorem partN_le (zs : List Int) (p : Nd) (hz : p.k.size ≤ 1048576) : ((partN p zs).getD nd0).k.size ≤ 1048576 := by
  cases h : partN p zs with
  | none => decide
  | some q => have := partN_size zs p h; simp only [Option.getD_some]; omega

/-- The node p stands at the address a; its Kids lie in blocks from L on and below B. -/
def NodeIn (w : World) (L B : Nat) (a : Addr) (p : Nd) : Prop :=
  a.spot = none ∧ (I64 p.op ∧ I64 p.n) ∧ ∃ A c, w.cell? ⟨a.block, a.off, none⟩ = some (.int .i64 p.op) ∧ w.cell? ⟨a.block, a.off + 1, none⟩ = some (.int .i64 p.n) ∧ w.cell? ⟨a.block, a.off + 2, none⟩ = some (.slice A p.k.len c) ∧ p.k.len ≤ c ∧ c ≤ maxLen ∧ Lies w L B A 0 p.k

/-- From the node at a, the way down along a path leads to b. -/
def Down (w : World) : Addr → List Int → Addr → Prop
  | a, [], b => a = b
  | a, i :: r, b => ∃ g o l c, w.cell? ⟨a.block, a.off + 2, none⟩ = some (.slice (some ⟨g, o, none⟩) l c) ∧ 0 ≤ i ∧ i.toNat < l ∧ Down w ⟨g, o + i.toNat * 3, none⟩ r b
theorem Down.snoc {w : World} {i : Int} {g o l c : Nat} : ∀ {zs : List Int} {a b : Addr}, Down w a zs b → w.cell? ⟨b.block, b.off + 2, none⟩ = some (.slice (some ⟨g, o, none⟩) l c) → 0 ≤ i → i.toNat < l → Down w a (zs ++ [i]) ⟨g, o + i.toNat * 3, none⟩
  | [], a, b, h, h1, h2, h3 => by
    have h : a = b := h
    subst h
    exact ⟨g, o, l, c, h1, h2, h3, rfl⟩
  | x :: r, a, b, ⟨g', o', l', c', e1, e2, e3, e4⟩, h1, h2, h3 => ⟨g', o', l', c', e1, e2, e3, Down.snoc e4 h1 h2 h3⟩

/-- The post of partOf. -/
def PartPost (w : World) (L B : Nat) (a : Addr) (p : Nd) (zs : List Int) (e : Ending) (w' : World) : Prop :=
  w = w' ∧ ((∃ b q, e = .returned (.tuple #[.pointer (some b), .bool true]) ∧ partN p zs = some q ∧ NodeIn w L B b q ∧ Down w a zs b) ∨ (e = .returned (.tuple #[.pointer none, .bool false]) ∧ partN p zs = none))

theorem drop_cons {zs : List Int} {j : Nat} {x : Int} (h : zs[j]? = some x) : zs.drop j = x :: zs.drop (j + 1) := by
  obtain ⟨hj, e⟩ := List.getElem?_eq_some_iff.1 h
  rw [← e]
  exact (List.getElem_cons_drop hj).symm
theorem take_snoc {zs : List Int} {j : Nat} {x : Int} (h : zs[j]? = some x) : zs.take (j + 1) = zs.take j ++ [x] := by
  rw [List.take_add_one, h]
  rfl

set_option maxHeartbeats 1000000 in
theorem partOf_any (a : Addr) (p : Nd) (zs : List Int) (A2 : Option Addr) (c2 L B : Nat) (w : World) (hn : NodeIn w L B a p) (hz : LiesI w 0 w.heap.size A2 zs) (hzl : zs.length ≤ 1048576) :
    Calls Try.prog 22 #[.pointer (some a), .slice A2 zs.length c2] w (PartPost w L B a p zs) := by
  go_enter Try.func22, Try.ntmps22
  go_wp2_with fail
  go_loopw [0, 10] (fun v i wr => ∃ (j : Nat) (b : Addr) (q : Nd), j ≤ zs.length ∧ i = .int .i64 j ∧ v = .pointer (some b) ∧ NodeIn w L B b q ∧ partN p zs = partN q (zs.drop j) ∧ Down w a (zs.take j) b ∧ wr = w)
    (fun _ i _ => zs.length - (intOf i).toNat)
  case atStart => exact ⟨0, a, p, Nat.zero_le _, rfl, rfl, hn, by rw [List.drop_zero], by rw [List.take_zero]; rfl, rfl⟩
  case round =>
    obtain ⟨j, b, q, hj, rfl, rfl, hnb, hpn, hdn, rfl⟩ := hrel
    clear hn
    by_cases hlt : j < zs.length
    · have e1 := List.getElem?_eq_getElem hlt
      generalize zs[j] = x at e1
      obtain ⟨bz, oz, hA, _, hbb, ix, g1⟩ := hz j x e1
      subst hA
      rw [drop_cons e1] at hpn
      obtain ⟨hsp, hi, Ab, cb, t0, t1, t2, hk1, hk2, hlk⟩ := hnb
      obtain ⟨bb, bo, bsp⟩ := b
      simp only at hsp t0 t1 t2
      subst hsp
      have hkm : q.k.len ≤ 9223372036854775807 := by unfold maxLen at hk2; omega
      have E1 := Lib.hid e1
      have HPN := Lib.hid hpn
      have HDN := Lib.hid hdn
      have HLK := Lib.hid hlk
      clear e1 hpn hdn hlk
      by_cases hx : x < 0
      · go_wp2
        refine bodyPost_ret (v := .tuple #[.pointer none, .bool false]) ?_ rfl ⟨rfl, .inr ⟨rfl, HPN.out.trans (partN_neg hx)⟩⟩
        simp [results, Try.f22, go_sem]
      by_cases hxl : x.toNat < q.k.len
      · obtain ⟨o, m, k, f1, f2, f3⟩ := Fo.drop_of_lt q.k x.toNat hxl
        have hl1 := HLK.out.at_ x.toNat
        rw [Nat.zero_add, f1] at hl1
        obtain ⟨⟨kb, ko, A', c', hA, hlo, hhi, i1, i2, s0, s1, s2, k1, k2, hl2⟩, _⟩ := hl1
        subst hA
        obtain ⟨y, rfl⟩ : ∃ y : Nat, x = (y : Int) := ⟨x.toNat, by omega⟩
        rw [Int.toNat_natCast] at f1 s0 s1 s2 hxl
        have F1 := Lib.hid f1
        have HN := Lib.hid (show NodeIn wr L B ⟨kb, ko + y * 3, none⟩ ⟨o, m, k⟩ from ⟨rfl, ⟨i1, i2⟩, A', c', s0, s1, s2, k1, k2, hl2⟩)
        clear f1 f2 f3 s0 s1 s2 hl2
        have T2 := Lib.hid t2
        go_wp2
        go_roundw
        case rel =>
          refine ⟨j + 1, _, _, hlt, by go_num, rfl, HN.out, ?_, ?_, trivial⟩
          · rw [HPN.out]
            exact partN_in (by omega) (by rw [Int.toNat_natCast]; exact F1.out)
          · rw [take_snoc E1.out]
            exact HDN.out.snoc T2.out (by omega) (by rw [Int.toNat_natCast]; exact hxl)
        case measure => simp [intOf]; omega
      · have hxg : (q.k.len : Int) ≤ x := by omega
        go_wp2
        refine bodyPost_ret (v := .tuple #[.pointer none, .bool false]) ?_ rfl ⟨rfl, .inr ⟨rfl, HPN.out.trans (partN_out (by omega))⟩⟩
        simp [results, Try.f22, go_sem]
    · have e9 : j = zs.length := by omega
      subst e9
      rw [List.drop_length] at hpn
      rw [List.take_length] at hdn
      have HPN := Lib.hid hpn
      have HDN := Lib.hid hdn
      have HNB := Lib.hid hnb
      clear hpn hdn hnb
      go_wp2
      refine bodyPost_ret (v := .tuple #[.pointer (some b), .bool true]) ?_ rfl ⟨rfl, .inl ⟨b, q, rfl, HPN.out, HNB.out, HDN.out⟩⟩
      simp [results, Try.f22, go_sem]
end Go.Proofs.Ytiefobkddckkbaa
