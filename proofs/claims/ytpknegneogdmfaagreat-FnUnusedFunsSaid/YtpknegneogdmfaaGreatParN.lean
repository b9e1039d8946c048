/-
  Reading at an offset: spec.l1Number; what a reading function returns.
-/
import Derived.Test.YtpknegneogdmfaaGreatTxtS
import Derived.Test.YtpknegneogdmfaaGreatTree
namespace Go.Proofs.YtpknegneogdmfaaGreat
open Go.RowKit
set_option maxRecDepth 100000

/-- What is read and where the reading ends: q is -1 if nothing can be read. -/
def Res (r : Option (Nd × Nat)) (y : Nd) (q : Int) : Prop :=
  match r with
  | some (y', p) => y = y' ∧ q = (p : Int)
  | none => q = -1
def ParPost (r : Option (Nd × Nat)) (w : World) (e : Ending) (w' : World) : Prop :=
  ∃ (y : Nd) (A : Option Addr) (c : Nat) (bs : List Nat) (q : Int), e = .returned (.tuple #[.agg #[.int .i64 y.op, .int .i64 y.n, .slice A y.k.len c], .int .i64 q]) ∧ (I64 y.op ∧ I64 y.n) ∧ Tree w' w.heap.size (.slice A y.k.len c) y.k bs ∧ Below w.heap.size w w' ∧ Res r y q
theorem Res.none_ {y : Nd} : Res Option.none y (-1) := rfl
theorem Res.some_ {y : Nd} {p : Nat} : Res (some (y, p)) y (p : Int) := ⟨rfl, rfl⟩
theorem idx_of {s : List UInt8} {e : Nat} {c : UInt8} (h : s[e]? = some c) : ∀ hs : e < (ByteArray.mk s.toArray).size, (ByteArray.mk s.toArray)[e]'hs = c := by
  intro hs
  obtain ⟨h1, h2⟩ := List.getElem?_eq_some_iff.1 h
  exact h2

def nb : Nat → Int
  | 3 => 0
  | 2 => 9
  | 1 => 99
  | _ => 999
theorem nb_step {m : Nat} (h : m + 1 ≤ 3) : nb (m + 1) * 10 + 9 ≤ nb m := by
  match m, h with
  | 0, _ => decide
  | 1, _ => decide
  | 2, _ => decide
theorem nb_le (m : Nat) (h : m ≤ 3) : nb m ≤ 999 := by
  match m, h with
  | 0, _ => decide
  | 1, _ => decide
  | 2, _ => decide
  | 3, _ => decide

set_option maxHeartbeats 2000000 in
theorem l1Number_any (s : List UInt8) (hs : s.length ≤ 1000000000000) (i : Nat) (hi : i ≤ s.length + 3) (w : World) :
    Calls Tryz.prog 74 #[txt s, .int .i64 (i : Int)] w (ParPost (some (⟨1, (numAt s 3 i 0).1, .nil⟩, (numAt s 3 i 0).2)) w) := by
  obtain ⟨W, hW⟩ : ∃ W, W = w.alloc (Obj.cells #[.int .i64 0, .int .i64 0, .slice none 0 0] 36) := ⟨_, rfl⟩
  have HB := Lib.hid (show Below w.heap.size w W by rw [hW]; exact (Below.refl _ _).alloc (Nat.le_refl _) _)
  have HR := Lib.hid (show Row W w.heap.size 36 #[.int .i64 0, .int .i64 0, .slice none 0 0] by rw [hW]; exact Row.fresh _ _ _)
  obtain ⟨N, hN⟩ : ∃ N, N = numAt s 3 i 0 := ⟨_, rfl⟩
  rw [← hN]
  have HN := Lib.hid hN.symm
  clear hN
  unfold txt
  go_enter Tryz.func74, Tryz.ntmps74
  go_upto_region 1 with fail
  rw [← hW]
  clear hW
  go_wp2_with fail
  go_loopw [6, 7] (fun v u wr => ∃ (m e : Nat) (n : Int), v = .int .i64 n ∧ u = .int .i64 (e : Int) ∧ m ≤ 3 ∧ e + m = i + 3 ∧ 0 ≤ n ∧ n ≤ nb m ∧ numAt s m e n = N ∧ wr = W) (fun _ u _ => i + 3 - (intOf u).toNat)
  case atStart => exact ⟨3, i, 0, rfl, rfl, by omega, rfl, by omega, by decide, HN.out, rfl⟩
  case round =>
    obtain ⟨m, e, n, rfl, rfl, hm, he, h0, h1, hnum, rfl⟩ := hrel
    have h99 := nb_le m hm
    have fin : ∀ x : N = (n, e), ParPost (some (⟨1, N.1, .nil⟩, N.2)) w (.returned (.tuple #[.agg #[.int .i64 1, .int .i64 n, .slice none 0 0], .int .i64 (e : Int)])) (((wr.setCell ⟨w.heap.size, 0, none⟩ (.int .i64 1)).setCell ⟨w.heap.size, 1, none⟩ (.int .i64 n)).setCell ⟨w.heap.size, 2, none⟩ (.slice none 0 0)) := by
      intro x
      rw [x]
      exact ⟨⟨1, n, .nil⟩, none, 0, [], _, rfl, ⟨show I64 1 by unfold I64; omega, show I64 n by unfold I64; omega⟩, Tree.none _ _, ((HB.out.setCell (Nat.le_refl _) _).setCell (Nat.le_refl _) _).setCell (Nat.le_refl _) _, rfl, rfl⟩
    have HF := Lib.hid fin
    have r3 := ((HR.out.put 0 (.int .i64 1)).put 1 (.int .i64 n)).put 2 (.slice none 0 0)
    have t0 := r3.cell (i := 0) rfl
    have t1 := r3.cell (i := 1) rfl
    have t2 := r3.cell (i := 2) rfl
    have f0 := HR.out.free 0
    have f1 := HR.out.free 1
    have f2 := HR.out.free 2
    have d0 := HR.out.cell (i := 0) rfl
    have d1 := HR.out.cell (i := 1) rfl
    have d2 := HR.out.cell (i := 2) rfl
    have ew : IntKind.i64.wrap ((i : Int) + 3) = (i : Int) + 3 := by rw [IntKind.wrap_i64]; omega
    clear fin r3 HN HB
    cases hc : s[e]? with
    | none =>
      have hge : s.length ≤ e := by rw [List.getElem?_eq_none_iff] at hc; exact hc
      have HX := Lib.hid (show N = (n, e) by rw [← hnum]; cases m with | zero => rfl | succ m => simp only [numAt, hc])
      have hge2 : ¬ (e : Int) < (s.length : Int) := by omega
      clear hc hnum
      go_wp2_with fail
      refine bodyPost_ret (v := .tuple #[.agg #[.int .i64 1, .int .i64 n, .slice none 0 0], .int .i64 (e : Int)]) ?_ rfl (HF.out HX.out)
      simp [results, Tryz.f74, go_sem, t0, t1, t2]
    | some c =>
      have hlt := (List.getElem?_eq_some_iff.1 hc).1
      have hlt2 : (e : Int) < (s.length : Int) := by omega
      have hix := idx_of hc
      cases m with
      | zero =>
        have HX := Lib.hid (show N = (n, e) by rw [← hnum]; rfl)
        have hge2 : ¬ (e : Int) < (i : Int) + 3 := by omega
        clear hc hnum
        go_wp2_with fail
        refine bodyPost_ret (v := .tuple #[.agg #[.int .i64 1, .int .i64 n, .slice none 0 0], .int .i64 (e : Int)]) ?_ rfl (HF.out HX.out)
        simp [results, Tryz.f74, go_sem, t0, t1, t2]
      | succ m =>
        have hl3 : (e : Int) < (i : Int) + 3 := by omega
        by_cases hd : 48 ≤ c.toNat ∧ c.toNat ≤ 57
        · have hnum2 : numAt s m (e + 1) (n * 10 + ((c.toNat : Int) - 48)) = N := by rw [← hnum]; simp only [numAt, hc]; rw [if_pos hd]
          have hnb := nb_step hm
          have g1 : (48 : Int) ≤ (c.toNat : Int) := by omega
          have g2 : (c.toNat : Int) ≤ 57 := by omega
          have e1 : IntKind.i64.wrap (n * 10) = n * 10 := by rw [IntKind.wrap_i64]; omega
          have e2 : IntKind.u8.wrap ((c.toNat : Int) - 48) = (c.toNat : Int) - 48 := by rw [IntKind.wrap_u8]; omega
          have e3 : IntKind.i64.wrap ((c.toNat : Int) - 48) = (c.toNat : Int) - 48 := by rw [IntKind.wrap_i64]; omega
          have e4 : IntKind.i64.wrap (n * 10 + ((c.toNat : Int) - 48)) = n * 10 + ((c.toNat : Int) - 48) := by rw [IntKind.wrap_i64]; omega
          have e5 : IntKind.i64.wrap ((e : Int) + 1) = (e : Int) + 1 := by rw [IntKind.wrap_i64]; omega
          have HG := Lib.hid (show m ≤ 3 ∧ e + 1 + m = i + 3 ∧ 0 ≤ n * 10 + ((c.toNat : Int) - 48) ∧ n * 10 + ((c.toNat : Int) - 48) ≤ nb m by omega)
          have HN2 := Lib.hid hnum2
          clear hc hnum hnum2 hnb h1 h0 h99 hd he hm HF t0 t1 t2 f0 f1 f2 d0 d1 d2
          go_wp2_with fail
          go_roundw
          case rel =>
            obtain ⟨x1, x2, x3, x4⟩ := HG.out
            exact ⟨m, e + 1, n * 10 + ((c.toNat : Int) - 48), rfl, by go_num, x1, x2, x3, x4, HN2.out, trivial⟩
          case measure =>
            have hg := HG.out
            simp [intOf]; omega
        · have HX := Lib.hid (show N = (n, e) by rw [← hnum]; simp only [numAt, hc]; rw [if_neg hd])
          by_cases h48 : 48 ≤ c.toNat
          · have g1 : (48 : Int) ≤ (c.toNat : Int) := by omega
            have g2 : ¬ (c.toNat : Int) ≤ 57 := by omega
            clear hc hnum hd
            go_wp2_with fail
            refine bodyPost_ret (v := .tuple #[.agg #[.int .i64 1, .int .i64 n, .slice none 0 0], .int .i64 (e : Int)]) ?_ rfl (HF.out HX.out)
            simp [results, Tryz.f74, go_sem, t0, t1, t2]
          · have g1 : ¬ (48 : Int) ≤ (c.toNat : Int) := by omega
            clear hc hnum hd
            go_wp2_with fail
            refine bodyPost_ret (v := .tuple #[.agg #[.int .i64 1, .int .i64 n, .slice none 0 0], .int .i64 (e : Int)]) ?_ rfl (HF.out HX.out)
            simp [results, Tryz.f74, go_sem, t0, t1, t2]

/-- The three cells of a box, written. -/
def put3 (V : World) (g : Nat) (o m : Int) (x : Value) : World := ((V.setCell ⟨g, 0, none⟩ (.int .i64 o)).setCell ⟨g, 1, none⟩ (.int .i64 m)).setCell ⟨g, 2, none⟩ x
theorem put3_cells {V : World} {g : Nat} {z0 z1 z2 : Value} (hr : Row V g 36 #[z0, z1, z2]) (o m : Int) (x : Value) :
    (put3 V g o m x).cell? ⟨g, 0, none⟩ = some (.int .i64 o) ∧ (put3 V g o m x).cell? ⟨g, 1, none⟩ = some (.int .i64 m) ∧ (put3 V g o m x).cell? ⟨g, 2, none⟩ = some x := by
  have r3 := ((hr.put 0 (.int .i64 o)).put 1 (.int .i64 m)).put 2 x
  exact ⟨r3.cell (i := 0) rfl, r3.cell (i := 1) rfl, r3.cell (i := 2) rfl⟩
theorem par_none {w V : World} {g : Nat} (hb : Below w.heap.size w V) (hg : w.heap.size ≤ g) (y : Nd) {A : Option Addr} {c : Nat} {bs : List Nat} (hi : I64 y.op ∧ I64 y.n) (ht : Tree V w.heap.size (.slice A y.k.len c) y.k bs) (hap : g ∉ bs) :
    ParPost none w (.returned (.tuple #[.agg #[.int .i64 y.op, .int .i64 y.n, .slice A y.k.len c], .int .i64 (-1)])) (put3 V g y.op y.n (.slice A y.k.len c)) :=
  ⟨y, A, c, bs, _, rfl, hi, ht.keep fun b hb2 => by
    have hne : b ≠ g := fun e => hap (e ▸ hb2)
    unfold put3
    rw [Below.heap_setCell _ _ _ b hne, Below.heap_setCell _ _ _ b hne, Below.heap_setCell _ _ _ b hne], ((hb.setCell hg _).setCell hg _).setCell hg _, rfl⟩
theorem par_some {w V : World} {g : Nat} (hb : Below w.heap.size w V) (hg : w.heap.size ≤ g) (y : Nd) (p : Nat) {A : Option Addr} {c : Nat} {bs : List Nat} (hi : I64 y.op ∧ I64 y.n) (ht : Tree V w.heap.size (.slice A y.k.len c) y.k bs) (hap : g ∉ bs) :
    ParPost (some (y, p)) w (.returned (.tuple #[.agg #[.int .i64 y.op, .int .i64 y.n, .slice A y.k.len c], .int .i64 (p : Int)])) (put3 V g y.op y.n (.slice A y.k.len c)) :=
  ⟨y, A, c, bs, _, rfl, hi, ht.keep fun b hb2 => by
    have hne : b ≠ g := fun e => hap (e ▸ hb2)
    unfold put3
    rw [Below.heap_setCell _ _ _ b hne, Below.heap_setCell _ _ _ b hne, Below.heap_setCell _ _ _ b hne], ((hb.setCell hg _).setCell hg _).setCell hg _, rfl, rfl⟩
def zeroNd : Nd := ⟨0, 0, .nil⟩
theorem zero_i64 : I64 zeroNd.op ∧ I64 zeroNd.n := ⟨by show I64 0; unfold I64; omega, by show I64 0; unfold I64; omega⟩

/-- A list of one node just laid down. -/
theorem tree_1 {w : World} {base g : Nat} {a : Nd} {A : Option Addr} {c : Nat} {bl : List Nat} (hr : Row w g 36 #[.int .i64 a.op, .int .i64 a.n, .slice A a.k.len c]) (hg : base ≤ g) (ht : Tree w base (.slice A a.k.len c) a.k bl) (hd : g ∉ bl) (hi : I64 a.op ∧ I64 a.n) :
    Tree w base (.slice (some ⟨g, 0, none⟩) 1 1) (.cons a.op a.n a.k .nil) (g :: bl) := by
  obtain ⟨stk, b3, k1, k2, rfl, k4⟩ := ht
  rw [blkV_slice] at hd k4 ⊢
  refine ⟨[⟨a.op, a.n, a.k, A, c⟩], blkOf A ++ b3, ⟨rfl, .inr ⟨g, 1, _, rfl, hg, hr, Nat.le_refl _, by decide, rfl, rfl⟩⟩, ⟨A, c, stk, b3, [], [], hi, k1, k2, rfl, ⟨rfl, rfl⟩, by simp⟩, rfl, ?_⟩
  exact List.nodup_cons.2 ⟨hd, k4⟩
/-- A list of two nodes just laid down. -/
theorem tree_2 {w : World} {base g : Nat} {a b : Nd} {Aa Ab : Option Addr} {ca cb : Nat} {ba bb : List Nat} (hr : Row w g 36 #[.int .i64 a.op, .int .i64 a.n, .slice Aa a.k.len ca, .int .i64 b.op, .int .i64 b.n, .slice Ab b.k.len cb]) (hg : base ≤ g)
    (ha : Tree w base (.slice Aa a.k.len ca) a.k ba) (hb : Tree w base (.slice Ab b.k.len cb) b.k bb) (hd : ∀ q, q ∈ ba → q ∈ bb → False) (hga : g ∉ ba) (hgb : g ∉ bb) (ia : I64 a.op ∧ I64 a.n) (ib : I64 b.op ∧ I64 b.n) :
    Tree w base (.slice (some ⟨g, 0, none⟩) 2 2) (.cons a.op a.n a.k (.cons b.op b.n b.k .nil)) (g :: (ba ++ bb)) := by
  obtain ⟨sa, b1, h1, h2, rfl, h4⟩ := ha
  obtain ⟨sb, b2, k1, k2, rfl, k4⟩ := hb
  rw [blkV_slice] at h4 k4 hga hgb ⊢
  rw [blkV_slice]
  refine ⟨[⟨a.op, a.n, a.k, Aa, ca⟩, ⟨b.op, b.n, b.k, Ab, cb⟩], (blkOf Aa ++ b1) ++ ((blkOf Ab ++ b2) ++ []), ⟨rfl, .inr ⟨g, 2, _, rfl, hg, hr, Nat.le_refl _, by decide, rfl, rfl⟩⟩,
    ⟨Aa, ca, sa, b1, _, _, ia, h1, h2, rfl, ⟨Ab, cb, sb, b2, [], [], ib, k1, k2, rfl, ⟨rfl, rfl⟩, rfl⟩, rfl⟩, by simp [blkV, Value.ownBlock], ?_⟩
  refine List.nodup_cons.2 ⟨?_, List.nodup_append.2 ⟨h4, k4, fun p hp q hq e => hd p (by rw [blkV_slice]; exact hp) (by rw [blkV_slice, e]; exact hq)⟩⟩
  rw [List.mem_append]
  exact fun h => h.elim hga hgb

/-- The contract of the reading at the depth d. -/
def ParC (s : List UInt8) (d : Nat) : Prop := ∀ (i : Nat) (w : World), i ≤ s.length + 3 → Calls Tryz.prog 60 #[.string ⟨s.toArray⟩, .int .i64 (i : Int), .int .i64 (d : Int)] w (ParPost (parseAt s d i) w)
end Go.Proofs.YtpknegneogdmfaaGreat
