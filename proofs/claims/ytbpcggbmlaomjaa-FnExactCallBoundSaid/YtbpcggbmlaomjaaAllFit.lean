/-
  impl.allCallsFit: each call is one of a function of the map, with as many arguments as it has.
-/
import Derived.Test.YtbpcggbmlaomjaaNodesI
import Derived.Test.YtbpcggbmlaomjaaHide
import Derived.Test.YtbpcggbmlaomjaaDefsBy
namespace Go.Proofs.Ytbpcggbmlaomjaa
open Go.RowKit Go.Shelf
set_option maxRecDepth 100000

attribute [local go_sem] Oper.semAt_some

/-- What the map knows of the numbers of arguments. -/
def Knows (ari : Int → Option Int) (es : IEnts) : Prop :=
  ∀ x, (ari x = none → ilook es x = none) ∧ ∀ a, ari x = some a → ∃ nm old op n A l c, ilook es x = some (.agg #[.int .i64 nm, .int .i64 a, .bool old, .int .i64 op, .int .i64 n, .slice A l c])
theorem EntOk.knows {w : World} {L B : Nat} {ds : List De} {es : IEnts} (h : EntOk w L B ds es) : Knows (ariI ds) es := by
  intro x
  unfold ariI ariS
  cases hv : inVar x with
  | false => exact ⟨fun _ => h.2 x (.inl hv), fun a ha => by simp at ha⟩
  | true =>
    cases hf : fnd x ds with
    | none => exact ⟨fun _ => h.2 x (.inr hf), fun a ha => by simp at ha⟩
    | some d =>
      obtain ⟨A, c, h1, _⟩ := h.1 x d hv hf
      refine ⟨fun hn => by simp at hn, fun a ha => ?_⟩
      simp at ha
      subst ha
      exact ⟨d.nm, d.old, d.op, d.n, A, d.k.len, c, h1⟩

def allOk (ari : Int → Option Int) (l : List Nx) : Bool := (l.map Nx.nd).all (okQ ari)
theorem allOk_snoc (ari : Int → Option Int) (l : List Nx) (y : Nx) : allOk ari (l ++ [y]) = (allOk ari l && okQ ari y.nd) := by simp [allOk]

set_option maxRecDepth 100000 in
set_option maxHeartbeats 4000000 in
theorem allCallsFit_any (ari : Int → Option Int) (r : Nat) (es : IEnts) (op m : Int) (k : Fo) (A : Option Addr) (c L B : Nat) (w : World) (hm : IM w r es) (hkn : Knows ari es)
    (hl : Lies w L B A 0 k) (hB : B ≤ w.heap.size) (hal : AllRows w L B) (hk1 : k.len ≤ c) (hk2 : c ≤ maxLen) (hsz : k.size ≤ 1048576) :
    Calls Try.prog 67 #[.map (some r), .agg #[.int .i64 op, .int .i64 m, .slice A k.len c]] w (Gives (.bool (fitN ari op m k)) w) := by
  refine (callsIn_wide (n := 9)).1 ?_
  refine callsIn_of_wp_marks Try.func67 rfl trivial ?_ rfl
  simp only [Try.ntmps67, List.size_toArray, List.length_cons, List.length_nil, Nat.reduceAdd, Nat.reduceSub, Array.replicate_succ, Array.replicate_zero, List.push_toArray, List.append_toArray, List.nil_append, List.cons_append]
  gi_wp2_with fail
  refine ⟨trivial, (callsIn_wide.2 (nodesOf_any op m k A c 80 #[] _)).mono ?_⟩
  rintro e w1 ⟨rfl, rfl⟩
  gi_wp2_with fail
  obtain ⟨W0, hW0⟩ : ∃ W0, W0 = ((((w.alloc (Obj.cells #[Value.map (some r)] 73)).alloc (Obj.cells #[Value.int .i64 op, Value.int .i64 m, Value.slice A k.len c] 40)).alloc (Obj.cells #[Value.bool false] 4)).alloc (Obj.cells #[Value.int .i64 op, Value.int .i64 m, Value.slice A k.len c] 40)).alloc (Obj.cells #[Value.func (.func 80) #[] #[]] 97) := ⟨_, rfl⟩
  rw [← hW0]
  have hz0 : W0.heap.size = w.heap.size + 1 + 1 + 1 + 1 + 1 := by rw [hW0]; simp
  have hb0 : Below w.heap.size w W0 := by
    rw [hW0]
    exact (((((Below.refl _ _).alloc (Nat.le_refl _) _).alloc (by simp) _).alloc (by simp; omega) _).alloc (by simp; omega) _).alloc (by simp; omega) _
  have rm : Row W0 w.heap.size 73 #[Value.map (some r)] := by
    rw [hW0]
    exact ((((Row.fresh w 73 #[Value.map (some r)]).alloc _).alloc _).alloc _).alloc _
  have rr : Row W0 (w.heap.size + 1 + 1) 4 #[Value.bool false] := by
    rw [hW0]
    have := Row.fresh ((w.alloc (Obj.cells #[Value.map (some r)] 73)).alloc (Obj.cells #[Value.int .i64 op, Value.int .i64 m, Value.slice A k.len c] 40)) 4 #[Value.bool false]
    simp only [World.size_alloc] at this
    exact (this.alloc _).alloc _
  have r1 : Row W0 (w.heap.size + 1 + 1 + 1) 40 #[Value.int .i64 op, Value.int .i64 m, Value.slice A k.len c] := by
    rw [hW0]
    have := Row.fresh (((w.alloc (Obj.cells #[Value.map (some r)] 73)).alloc (Obj.cells #[Value.int .i64 op, Value.int .i64 m, Value.slice A k.len c] 40)).alloc (Obj.cells #[Value.bool false] 4)) 40 #[Value.int .i64 op, Value.int .i64 m, Value.slice A k.len c]
    simp only [World.size_alloc] at this
    exact this.alloc _
  have r2 : Row W0 (w.heap.size + 1 + 1 + 1 + 1) 97 #[Value.func (.func 80) #[] #[]] := by
    rw [hW0]
    have := Row.fresh ((((w.alloc (Obj.cells #[Value.map (some r)] 73)).alloc (Obj.cells #[Value.int .i64 op, Value.int .i64 m, Value.slice A k.len c] 40)).alloc (Obj.cells #[Value.bool false] 4)).alloc (Obj.cells #[Value.int .i64 op, Value.int .i64 m, Value.slice A k.len c] 40)) 97 #[Value.func (.func 80) #[] #[]]
    simp only [World.size_alloc] at this
    exact this
  clear hW0
  have hrw := hm.lt
  refine range_own (X := fun g => g = w.heap.size + 1 + 1) rfl (by omega) (gf := 93) (lb := #[.pointer (some ⟨w.heap.size + 1 + 1 + 1, 0, none⟩), .pointer (some ⟨w.heap.size + 1 + 1 + 1 + 1, 0, none⟩)]) rfl trivial (enters_of Try.func93 (by kernel_rfl) rfl)
    (nodes_seq 8 (fun _ _ => false) op m k A c L B (w.heap.size + 1 + 1 + 1) (w.heap.size + 1 + 1 + 1 + 1) 80 #[] (fun g => g = w.heap.size + 1 + 1) W0 (fun g hg => by omega) (by omega) (by omega) (fun g _ h2 => by omega) r1 (r2.cell (i := 0) rfl)
      (hl.below (hb0.mono hB)) (Nat.le_trans hB hb0.size) (hal.below hb0 hB) hk1 hk2 hsz (enters_of Try.func80 (by kernel_rfl) rfl) (fun x i V _ => hideNone_any x.op x.n _ i V))
    (Below.refl _ _) (fun _ => rfl)
    (fun pre W => (Row W (w.heap.size + 1 + 1) 4 #[Value.bool false] ∧ Row W w.heap.size 73 #[Value.map (some r)] ∧ allOk ari pre = true) ∧ Below w.heap.size w W)
    (fun c' pre W => (c' = .ret ∧ allOk ari pre = false ∧ Row W (w.heap.size + 1 + 1) 4 #[Value.bool false]) ∧ Below w.heap.size w W)
    (fun s V V' ⟨⟨x1, x3, x4⟩, x2⟩ hb => ⟨⟨x1.below hb (by omega), x3.below hb (by omega), x4⟩, x2.trans (hb.mono (by omega))⟩)
    (fun _ s V V' ⟨⟨x1, x3, x4⟩, x2⟩ hb => ⟨⟨x1, x3, x4.below hb (by omega)⟩, x2.trans (hb.mono (by omega))⟩) ⟨⟨rr, rm, rfl⟩, hb0⟩
    (fun y a' V => ∃ Bx, W0.heap.size ≤ Bx ∧ Row V Bx 40 #[Value.int .i64 y.op, Value.int .i64 y.n, Value.slice y.A y.k.len y.c] ∧ a' = { tmps := #[.map (some r), .agg #[.int .i64 op, .int .i64 m, .slice A k.len c], .pointer (some ⟨w.heap.size, 0, none⟩), .pointer (some ⟨w.heap.size + 1, 0, none⟩), .pointer (some ⟨w.heap.size + 1 + 1, 0, none⟩),
      .pointer (some ⟨Bx, 0, none⟩), undef, undef, .agg #[.int .i64 op, .int .i64 m, .slice A k.len c],
      .func (.func 93) #[] #[.pointer (some ⟨w.heap.size + 1 + 1 + 1, 0, none⟩), .pointer (some ⟨w.heap.size + 1 + 1 + 1 + 1, 0, none⟩)], y.val, undef, undef, undef, undef, undef, undef, undef, undef, undef, undef, undef, undef, undef, undef, undef, undef, undef, undef, undef, undef], defers := [] })
    (fun y a' V V' ⟨Bx, h1, h2, h3⟩ hk => ⟨Bx, h1, hk.row h2 (by omega), h3⟩) ?assign ?body ?done ?stop
  case assign =>
    intro l pre y W K hsW hi hK
    unfold Nx.val
    gi_wp2
    exact hK _ _ ((Below.refl _ _).alloc (Nat.le_refl _) _) ⟨W.heap.size, by omega, Row.fresh _ _ _, rfl⟩
  case body =>
    rintro l pre y a' W _ ⟨⟨hr, hrm, hall⟩, hb⟩ ⟨Bx, hBx, hrx, rfl⟩ hlen
    clear hz0
    have y0 := hrx.cell (i := 0) rfl
    have hsn : allOk ari (pre ++ [y]) = okQ ari y.nd := by
      rw [allOk_snoc, hall, Bool.true_and]
    have HSN := Lib.hid hsn
    clear hsn hall
    by_cases h3 : y.op = 3
    · have y1 := hrx.cell (i := 1) rfl
      have y2 := hrx.cell (i := 2) rfl
      have m0 := hrm.cell (i := 0) rfl
      have f0 := hr.free 0
      have v0 := hr.cell (i := 0) rfl
      have hz := World.block_lt_of_cell? _ _ y0
      have hlk := im_lookup (P := Try.prog) (a := y.n) Try.underlying73 Try.underlying3 (show (zeroValue 56).run Try.prog W = .ok (.agg #[.int .i64 0, .int .i64 0, .bool false, .int .i64 0, .int .i64 0, .slice none 0 0]) W by kernel_rfl) (hm.below hb hrw)
      have H3 := Lib.hid h3
      have hok : okQ ari y.nd = decide (ari y.n = some (y.k.len : Int)) := by simp [okQ, okCall, Nx.nd, h3]
      have HOK := Lib.hid (HSN.out.trans hok)
      clear hok HSN
      cases ha : ari y.n with
      | none =>
        have HF := Lib.hid (show allOk ari (pre ++ [y]) = false by rw [HOK.out, ha]; rfl)
        rw [(hkn y.n).1 ha] at hlk
        simp only [Option.getD_none, Option.isSome_none] at hlk
        have ba := (Below.refl W.heap.size W).alloc (Nat.le_refl _) (Obj.cells #[Value.int .i64 0, Value.int .i64 0, Value.bool false, Value.int .i64 0, Value.int .i64 0, Value.slice none 0 0] 56)
        have hrA := Lib.hid (hr.alloc (Obj.cells #[Value.int .i64 0, Value.int .i64 0, Value.bool false, Value.int .i64 0, Value.int .i64 0, Value.slice none 0 0] 56))
        have v1 := hrA.out.cell (i := 0) rfl
        have f1 := hrA.out.free 0
        have HB := Lib.hid (hb.trans (ba.mono hb.size))
        have HK := Lib.hid (KeepsFrom.of_below (B := W0.heap.size) ba (Nat.le_refl _))
        clear ha HOK hb ba hr hrm
        gi_wp2_with fail
        exact ⟨HK.out.trans ((KeepsOthers.setCell _ _ _).from _), ⟨rfl, HF.out, hrA.out.put 0 (.bool false)⟩, HB.out.setCell (by simp; omega) _⟩
      | some x =>
        obtain ⟨nm, old, op', n', A', l', c', hi⟩ := (hkn y.n).2 x ha
        rw [hi] at hlk
        simp only [Option.getD_some, Option.isSome_some] at hlk
        have ba := (Below.refl W.heap.size W).alloc (Nat.le_refl _) (Obj.cells #[Value.int .i64 nm, Value.int .i64 x, Value.bool old, Value.int .i64 op', Value.int .i64 n', Value.slice A' l' c'] 56)
        have hxA := hrx.alloc (Obj.cells #[Value.int .i64 nm, Value.int .i64 x, Value.bool old, Value.int .i64 op', Value.int .i64 n', Value.slice A' l' c'] 56)
        have z2 := hxA.cell (i := 2) rfl
        have hrA := Lib.hid (hr.alloc (Obj.cells #[Value.int .i64 nm, Value.int .i64 x, Value.bool old, Value.int .i64 op', Value.int .i64 n', Value.slice A' l' c'] 56))
        have hmA := Lib.hid (hrm.alloc (Obj.cells #[Value.int .i64 nm, Value.int .i64 x, Value.bool old, Value.int .i64 op', Value.int .i64 n', Value.slice A' l' c'] 56))
        have v1 := hrA.out.cell (i := 0) rfl
        have f1 := hrA.out.free 0
        have HB := Lib.hid (hb.trans (ba.mono hb.size))
        have HK := Lib.hid (KeepsFrom.of_below (B := W0.heap.size) ba (Nat.le_refl _))
        have HKC := Lib.hid (KC.of_below (X := fun g => g = w.heap.size + 1 + 1) ba)
        by_cases hx : x = (y.k.len : Int)
        · have HT := Lib.hid (show allOk ari (pre ++ [y]) = true by rw [HOK.out, ha, hx]; simp)
          have t2 : (x != (y.k.len : Int)) = false := by simp [hx]
          clear ha HOK hb ba hr hrm hxA hi hx
          gi_wp2_with fail
          exact ⟨HK.out, HKC.out, ⟨hrA.out, hmA.out, HT.out⟩, HB.out⟩
        · have HF := Lib.hid (show allOk ari (pre ++ [y]) = false by rw [HOK.out, ha]; simp [hx])
          have t2 : (x != (y.k.len : Int)) = true := by simpa using hx
          clear ha HOK hb ba hr hrm hxA hi
          gi_wp2_with fail
          exact ⟨HK.out.trans ((KeepsOthers.setCell _ _ _).from _), ⟨rfl, HF.out, hrA.out.put 0 (.bool false)⟩, HB.out.setCell (by simp; omega) _⟩
    · have HT := Lib.hid (show allOk ari (pre ++ [y]) = true by rw [HSN.out]; simp [okQ, okCall, Nx.nd, h3])
      have h4 : (y.op != 3) = true := by simpa using h3
      clear HSN
      gi_wp2_with fail
      exact ⟨KeepsFrom.refl _ _, KC.refl _ _, ⟨hr, hrm, HT.out⟩, hb⟩
  case done =>
    rintro D ys W hD hS ⟨⟨hr, _, hall⟩, hb⟩ hK
    have HF := Lib.hid (show fitN ari op m k = true by rw [← hall]; unfold allOk; rw [hS, all_ordN])
    have v0 := hr.cell (i := 0) rfl
    have f0 := hr.free 0
    clear hall hS
    gi_wp2
    have hK' := (KeepsOthers.setCell W ⟨w.heap.size + 1 + 1, 0, none⟩ (.bool true)).same D _ hK rfl
    refine ⟨by simp, .inl ⟨_, _, rfl, run_takeDeferred hK', ?_⟩⟩
    have hc5 := cell_kept (World.cell?_setCell_same' W ⟨w.heap.size + 1 + 1, 0, none⟩ (.bool true) (by rw [v0]; rfl)) (grownBy_putObj' _ D (.deferred none)) (fun r e => by cases e; exact ⟨_, hK', rfl⟩)
    refine ⟨.bool true, ?_, by rw [HF.out], (hb.setCell (p := ⟨w.heap.size + 1 + 1, 0, none⟩) (by simp; omega) _).trans (below_put _ hK' (by omega))⟩
    simp [results, Try.f67, go_sem, hc5]
  case stop =>
    rintro D c' pre W hD hpre ⟨⟨rfl, hall, hr⟩, hb⟩ hK
    obtain ⟨rest, hrest⟩ := hpre
    have HF := Lib.hid (show fitN ari op m k = false by rw [← all_ordN ari ⟨op, m, k⟩, ← hrest, List.all_append]; unfold allOk at hall; rw [hall]; rfl)
    gi_wp2
    refine ⟨by simp, .inl ⟨_, _, rfl, run_takeDeferred hK, ?_⟩⟩
    have hc5 := cell_kept (hr.cell (i := 0) rfl) (grownBy_putObj' _ D (.deferred none)) (fun r e => by cases e; exact ⟨_, hK, rfl⟩)
    refine ⟨.bool false, ?_, by rw [HF.out], hb.trans (below_put _ hK (by omega))⟩
    simp [results, Try.f67, go_sem, hc5]
end Go.Proofs.Ytbpcggbmlaomjaa
