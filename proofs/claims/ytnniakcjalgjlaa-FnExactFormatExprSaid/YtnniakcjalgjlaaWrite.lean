/-
  impl.writeExpr: the text of a valid tree is written behind what a builder holds.
-/
import Derived.Test.YtnniakcjalgjlaaBld
import Derived.Test.YtnniakcjalgjlaaMrk
import Derived.Test.YtnniakcjalgjlaaShape
import Derived.Test.YtnniakcjalgjlaaVp
namespace Go.Proofs.Ytnniakcjalgjlaa
open Go.RowKit Go.Shelf
set_option maxRecDepth 100000

theorem strc_list (l : List UInt8) : Lib.strCells ⟨l.toArray⟩ = Lib.byteCells l := rfl
theorem size_list (l : List UInt8) : (⟨l.toArray⟩ : ByteArray).size = l.length := rfl
/-- The name of the method mark, off the program's own table of types. -/
noncomputable def markName : String := ((match Try.prog.underlying 51 with | some (.interface ms) => ms | _ => #[]).getD 1 (String.ofList [], 0)).1
theorem mark_num (s : String) (hs : s = markName) (w : World) : (method 207 63 (.agg #[]) s).run Try.prog w = .ok (52, .agg #[]) w := by subst hs; kernel_rfl
theorem mark_var (s : String) (hs : s = markName) (w : World) : (method 207 64 (.agg #[]) s).run Try.prog w = .ok (68, .agg #[]) w := by subst hs; kernel_rfl
theorem mark_call (s : String) (hs : s = markName) (w : World) : (method 207 65 (.agg #[]) s).run Try.prog w = .ok (71, .agg #[]) w := by subst hs; kernel_rfl
theorem mark_let (s : String) (hs : s = markName) (w : World) : (method 207 68 (.agg #[]) s).run Try.prog w = .ok (76, .agg #[]) w := by subst hs; kernel_rfl
theorem mark_plain (s : String) (hs : s = markName) (a : Option Addr) (l c : Nat) (w : World) : (method 207 67 (.slice a l c) s).run Try.prog w = .ok (74, .slice a l c) w := by subst hs; kernel_rfl

/-- A node's own fields are those of its kind. -/
def mokOwn (op n : Int) (l : Nat) : Bool := kidsOk op l && (if op = 1 then decide (0 ≤ n) && decide (n ≤ 99) else if op = 2 ∨ op = 3 ∨ op = 7 then inVar n else true)
def mokF : Fo → Bool
  | .nil => true
  | .cons op n k r => (mokOwn op n k.len && mokF k) && mokF r
def mokN (op n : Int) (k : Fo) : Bool := mokOwn op n k.len && mokF k
theorem mokF_cons {f : Fo} {op n : Int} {k r : Fo} (e : f = .cons op n k r) : mokF f = (mokN op n k && mokF r) := by subst e; rfl
theorem mok_own {op n : Int} {l : Nat} {S : Nat → Bool} (hk : kidsOk op l = true) (ho : ownOk op n S = true) : mokOwn op n l = true := by
  unfold mokOwn
  rw [hk, Bool.true_and]
  unfold ownOk at ho
  by_cases h1 : op = 1
  · rw [if_pos h1] at ho ⊢; exact ho
  · rw [if_neg h1] at ho ⊢
    by_cases h2 : op = 2
    · rw [if_pos h2, Bool.and_eq_true] at ho
      rw [if_pos (by omega)]; exact ho.1
    · rw [if_neg h2] at ho
      by_cases h3 : op = 7 ∨ op = 3
      · rw [if_pos h3] at ho
        rw [if_pos (by omega)]; exact ho
      · rw [if_neg (by omega)]
theorem mok_shape : ∀ (f : Fo) (op n : Int) (i : Nat) (S : Nat → Bool) (d : Nat), shapeF op n i S d f = true → mokF f = true
  | .nil, _, _, _, _, _, _ => rfl
  | .cons o m k r, op, n, i, S, d, h => by
    simp only [shapeF, Bool.and_eq_true] at h
    obtain ⟨⟨⟨⟨_, h2⟩, h3⟩, h4⟩, h5⟩ := h
    rw [mokF_cons rfl, mok_shape r op n (i + 1) S d h5, Bool.and_true]
    unfold mokN
    rw [mok_own h2 h3, mok_shape k o m 0 _ _ h4]; rfl
theorem mok_is {op n : Int} {k : Fo} {S : Nat → Bool} (h : nodeIs op n k S = true) : mokN op n k = true := by
  unfold nodeIs nodeShape at h
  simp only [Bool.and_eq_true] at h
  obtain ⟨⟨⟨⟨_, h2⟩, h3⟩, h4⟩, _⟩ := h
  unfold mokN
  rw [mok_own h2 h3, mok_shape k op n 0 S _ h4]; rfl
theorem mok_kid : ∀ {k : Fo} {j : Nat} {o m : Int} {k' r : Fo}, mokF k = true → k.drop j = .cons o m k' r → mokN o m k' = true
  | .nil, j, _, _, _, _, _, h => by rw [Fo.drop_nil] at h; cases h
  | .cons o' m' k2 r2, 0, o, m, k', r, hs, h => by
    simp only [Fo.drop, Fo.cons.injEq] at h
    obtain ⟨rfl, rfl, rfl, rfl⟩ := h
    rw [mokF_cons rfl, Bool.and_eq_true] at hs
    exact hs.1
  | .cons o' m' k2 r2, j + 1, o, m, k', r, hs, h => by
    rw [mokF_cons rfl, Bool.and_eq_true] at hs
    exact mok_kid hs.2 (by simpa [Fo.drop] using h)
theorem mok_txt : ∀ (k : Fo), mokF k = true → okF k = true
  | .nil, _ => rfl
  | .cons op n k r, h => by
    rw [mokF_cons rfl] at h
    unfold mokN at h
    simp only [Bool.and_eq_true] at h
    rw [okF_cons rfl, mok_txt r h.2, Bool.and_true]
    unfold okT
    rw [mok_txt k h.1.2, Bool.and_true]
    exact mok_ownT h.1.1
where
  mok_ownT {op n : Int} {l : Nat} (h : mokOwn op n l = true) : ownTxt op n l = true := by
    unfold mokOwn at h
    rw [Bool.and_eq_true] at h
    obtain ⟨h1, h2⟩ := h
    have h9 : op = 1 ∨ op = 2 ∨ op = 3 ∨ op = 4 ∨ op = 5 ∨ op = 6 ∨ op = 7 ∨ op = 8 ∨ op = 9 := by unfold kidsOk at h1; grind
    rcases h9 with e | e | e | e | e | e | e | e | e <;> subst e <;> simp [kidsOk, inVar] at h1 h2 <;> simp [ownTxt] <;> omega

/-- What is written in front of the operand j, with the operands before it. -/
def pre (op n : Int) (ts : List (List UInt8)) : Nat → List UInt8
  | 0 => []
  | j + 1 => pre op n ts j ++ (markL op n ts.length j ++ ts.getD j [])
theorem pre_inter (op n : Int) (ts : List (List UInt8)) : ∀ j, j ≤ ts.length → inter op n ts.length 0 ts = pre op n ts j ++ inter op n ts.length j (ts.drop j)
  | 0, _ => by simp [pre]
  | j + 1, h => by
    rw [pre_inter op n ts j (by omega)]
    rw [show ts.drop j = ts.getD j [] :: ts.drop (j + 1) by rw [List.drop_eq_getElem_cons (by omega)]; simp [List.getD, List.getElem?_eq_getElem (show j < ts.length by omega)]]
    simp only [inter, pre, List.append_assoc]

/-- What formOf has answered with, at a node of n with len operands: its method mark. -/
def FormIs (op n : Int) (len : Nat) (T : TypeId) (x : Value) (f : Nat) (w' : World) : Prop :=
  (∀ s, s = markName → ∀ V, (method 207 T x s).run Try.prog V = .ok (f, x) V) ∧ (∀ args V, (callFunc f args).run Try.prog V = .ok (.enter f args) V) ∧
  ∀ V, KeepsR w' V → ∀ (i : Nat) (A : Option Addr) (c : Nat), i ≤ len → Calls Try.prog f #[x, .agg #[.int .i64 op, .int .i64 n, .slice A len c], .int .i64 (i : Int)] V (Gives (txt (markL op n len i)) V)

theorem form_any (op n : Int) (len : Nat) (h : mokOwn op n len = true) (w : World) :
    Calls Try.prog 22 #[.int .i64 op] w (fun e w' => ∃ T x f, e = .returned (.tuple #[.iface T x, .bool true]) ∧ Below w.heap.size w w' ∧ FormIs op n len T x f w') := by
  unfold mokOwn at h
  rw [Bool.and_eq_true] at h
  obtain ⟨h1, h2⟩ := h
  have h9 : op = 1 ∨ op = 2 ∨ op = 3 ∨ op = 7 ∨ isPlain op := by unfold kidsOk at h1; unfold isPlain; grind
  rcases h9 with e | e | e | e | e
  · subst e
    refine (formOf_1 w).mono ?_
    rintro e w' ⟨rfl, hb⟩
    simp only [if_pos, Bool.and_eq_true, decide_eq_true_eq] at h2
    exact ⟨_, _, _, rfl, hb, fun s hs V => mark_num s hs V, enters_of Try.func52 (by kernel_rfl) rfl, fun V _ i A c _ => numMark_any 1 n A len c i h2.1 h2.2 V⟩
  · subst e
    refine (formOf_2 w).mono ?_
    rintro e w' ⟨rfl, hb⟩
    have hv : inVar n = true := by simpa using h2
    exact ⟨_, _, _, rfl, hb, fun s hs V => mark_var s hs V, enters_of Try.func68 (by kernel_rfl) rfl, fun V _ i A c _ => varMark_any 2 n A len c i hv V⟩
  · subst e
    refine (formOf_3 w).mono ?_
    rintro e w' ⟨rfl, hb⟩
    have hv : inVar n = true := by simpa using h2
    have hl : len ≤ 3 := by simpa [kidsOk] using h1
    exact ⟨_, _, _, rfl, hb, fun s hs V => mark_call s hs V, enters_of Try.func71 (by kernel_rfl) rfl, fun V _ i A c hi => callMark_any 3 n A len c i hv hi (by unfold maxLen; omega) V⟩
  · subst e
    refine (formOf_7 w).mono ?_
    rintro e w' ⟨rfl, hb⟩
    have hv : inVar n = true := by simpa using h2
    have hl : len = 2 := by simpa [kidsOk] using h1
    exact ⟨_, _, _, rfl, hb, fun s hs V => mark_let s hs V, enters_of Try.func76 (by kernel_rfl) rfl, fun V _ i A c hi => letMark_any 7 n A len c i hv (by omega) V⟩
  · have hpl : len + 1 = (plainM op).length := by
      rcases e with e | e | e | e | e <;> subst e <;> simp [kidsOk] at h1 <;> simp [plainM, h1]
    have hm : ∀ i, markL op n len i = (plainM op).getD i [] := fun i => by
      rcases e with e | e | e | e | e <;> subst e <;> simp [markL]
    have key : ∀ w', Row w' w.heap.size 9 (strsOf (plainM op)) → FormIs op n len 67 (.slice (some ⟨w.heap.size, 0, none⟩) (plainM op).length (plainM op).length) 74 w' := fun w' hr =>
      ⟨fun s hs V => mark_plain s hs _ _ _ V, enters_of Try.func74 (by kernel_rfl) rfl, fun V hV i A c hi => by
        rw [hm]
        exact plainMark_any op n A len c w.heap.size (plainM op) i (by omega) V (hV.2 _ _ _ (by decide) (by decide) hr)⟩
    have hr0 := Row.fresh w 9 (strsOf (plainM op))
    have hb0 := (Below.refl w.heap.size w).alloc (Nat.le_refl _) (Obj.cells (strsOf (plainM op)) 9)
    have KEY := Lib.hid (key _ hr0)
    have HB := Lib.hid hb0
    clear key hr0 hb0 hm hpl h1 h2
    rcases e with e | e | e | e | e <;> subst e
    all_goals
      go_enter Try.func22, Try.ntmps22
      go_wp2
      go_ret2
      exact ⟨_, _, _, rfl, HB.out, KEY.out⟩

theorem txt_pre {op n : Int} {k : Fo} (h : mokOwn op n k.len = true) : txtN op n k = pre op n (txtF k) k.len ++ markL op n k.len k.len := by
  have hl := txtF_len k
  have hk : kidsOk op k.len = true := by unfold mokOwn at h; rw [Bool.and_eq_true] at h; exact h.1
  have h1 := inter_is (n := n) (txtF k) (by rw [hl]; exact hk)
  have h2 := pre_inter op n (txtF k) (txtF k).length (Nat.le_refl _)
  unfold txtN
  rw [← h1, h2, List.drop_length, hl]
  rfl
theorem txt_step {op n : Int} {k : Fo} (j : Nat) {o m : Int} {k' : Fo} (e : k.drop j = .cons o m k' (k.drop (j + 1))) : pre op n (txtF k) (j + 1) = pre op n (txtF k) j ++ (markL op n k.len j ++ txtN o m k') := by
  rw [pre, txtF_len, txtF_at e]
theorem txt_fits {op n : Int} {k : Fo} (h : mokOwn op n k.len = true) {j : Nat} (hj : j ≤ k.len) : (pre op n (txtF k) j).length ≤ (txtN op n k).length := by
  have hl := txtF_len k
  have hk : kidsOk op k.len = true := by unfold mokOwn at h; rw [Bool.and_eq_true] at h; exact h.1
  have h1 := inter_is (n := n) (txtF k) (by rw [hl]; exact hk)
  have h2 := pre_inter op n (txtF k) j (by omega)
  unfold txtN
  rw [← h1, h2, List.length_append]
  omega

def WrPost (B b : Nat) (bs : List UInt8) (w : World) (e : Ending) (w' : World) : Prop :=
  e = .returned (.tuple #[]) ∧ BldAt B b (.pointer (some ⟨b, 0, none⟩)) (Lib.byteCells bs) w' ∧ Below B w w' ∧ KeepsR w w'
def WrAt (B b s : Nat) : Prop := ∀ (op n : Int) (k : Fo) (A : Option Addr) (c : Nat) (bs : List UInt8) (w : World), k.size < s → mokN op n k = true → Lies w 0 B A 0 k → IsBld B b (Lib.byteCells bs) w → bs.length + (txtN op n k).length ≤ 100000000 →
  Calls Try.prog 14 #[.pointer (some ⟨b, 0, none⟩), .agg #[.int .i64 op, .int .i64 n, .slice A k.len c]] w (WrPost B b (bs ++ txtN op n k) w)

theorem IsBld.lt {B b : Nat} {bs : List Value} {w : World} (h : IsBld B b bs w) : b < w.heap.size ∧ B ≤ b := by
  rcases h with h | h
  · exact ⟨Lib.BuilderAt.lt h, h.1⟩
  · exact ⟨Lib.BuilderAt.lt h, h.1⟩
theorem isBld_below {B b : Nat} {bs : List Value} {w w' : World} (h : IsBld B b bs w) (hb : Below w.heap.size w w') : IsBld B b bs w' := by
  rcases h with h | h
  · exact .inl (bld_below h hb)
  · exact .inr (bld_below h hb)

set_option maxHeartbeats 4000000 in
theorem wr_any (B b : Nat) : ∀ s, WrAt B b s := by
  intro s
  induction s with
  | zero => intro op n k A c bs w hs; omega
  | succ s ih =>
  intro op n k A c bs w hs hok hl hbd hlen
  have hm : mokOwn op n k.len = true ∧ mokF k = true := by unfold mokN at hok; rwa [Bool.and_eq_true] at hok
  obtain ⟨hown, hkids⟩ := hm
  have hl3 : k.len ≤ 3 := by
    unfold mokOwn kidsOk at hown
    rw [Bool.and_eq_true] at hown
    have := hown.1
    grind
  obtain ⟨hbs, hBb⟩ := IsBld.lt hbd
  obtain ⟨W1, hW1⟩ : ∃ W, W = w.alloc (Obj.cells #[.int .i64 op, .int .i64 n, .slice A k.len c] 29) := ⟨_, rfl⟩
  have hb1 : Below w.heap.size w W1 := by rw [hW1]; exact (Below.refl _ _).alloc (Nat.le_refl _) _
  have hx1 : Row W1 w.heap.size 29 #[.int .i64 op, .int .i64 n, .slice A k.len c] := by rw [hW1]; exact Row.fresh _ _ _
  have HIS1 := Lib.hid (isBld_below hbd hb1)
  have HF := Lib.hid (form_any op n k.len hown W1)
  have HX1 := Lib.hid hx1
  have HB1 := Lib.hid (hb1.mono (show B ≤ w.heap.size by omega))
  have HK1 := Lib.hid (KeepsR.of_below hb1)
  have HL := Lib.hid hl
  have HOWN := Lib.hid hown
  have HKIDS := Lib.hid hkids
  have HLEN := Lib.hid hlen
  have IH := Lib.hid ih
  have HEND := Lib.hid (txt_pre hown)
  have HFIT := Lib.hid (fun j (hj : j ≤ k.len) => txt_fits hown hj)
  obtain ⟨q0, q1, q2⟩ := (show W1.cell? ⟨w.heap.size, 0, none⟩ = some (.int .i64 op) ∧ W1.cell? ⟨w.heap.size, 1, none⟩ = some (.int .i64 n) ∧ W1.cell? ⟨w.heap.size, 2, none⟩ = some (.slice A k.len c) from ⟨hx1.cell rfl, hx1.cell rfl, hx1.cell rfl⟩)
  clear hb1 hx1 hl hown hkids hlen ih hbd hok
  go_enter Try.func14, Try.ntmps14
  go_upto_region 1 with fail
  rw [← hW1]
  clear hW1
  go_wp2_with fail
  refine HF.out.mono ?_
  rintro e W2 ⟨T, x, f, rfl, hb2, hform⟩
  have HM := Lib.hid hform.1
  have HEN := Lib.hid hform.2.1
  have HMK := Lib.hid hform.2.2
  have HX2 := Lib.hid (HX1.out.below hb2 HX1.out.size)
  have HIS2 := Lib.hid (isBld_below HIS1.out hb2)
  have HB2 := Lib.hid (HB1.out.trans (hb2.mono (by have := HX1.out.size; omega)))
  have HK2 := Lib.hid (HK1.out.trans (KeepsR.of_below hb2))
  clear hb2 hform q0 q1 q2 HF HX1 HIS1 HB1 HK1
  have HQ := Lib.hid (show ∀ V, KeepsR W2 V → V.cell? ⟨w.heap.size, 0, none⟩ = some (.int .i64 op) ∧ V.cell? ⟨w.heap.size, 1, none⟩ = some (.int .i64 n) ∧ V.cell? ⟨w.heap.size, 2, none⟩ = some (.slice A k.len c) from fun V hV => by
    have h := hV.2 _ _ _ (by decide) (by decide) HX2.out
    exact ⟨h.cell rfl, h.cell rfl, h.cell rfl⟩)
  obtain ⟨q0, q1, q2⟩ := HQ.out W2 (KeepsR.refl _)
  go_wp2_with fail
  clear q0 q1 q2
  go_loopw [19] (fun i wr => ∃ (j : Nat), j ≤ k.len ∧ i = .int .i64 j ∧ IsBld B b (Lib.byteCells (bs ++ pre op n (txtF k) j)) wr ∧ KeepsR W2 wr ∧ Below B w wr)
    (fun i _ => k.len - (intOf i).toNat)
  case atStart => exact ⟨0, Nat.zero_le _, rfl, by simpa [pre] using HIS2.out, KeepsR.refl _, HB2.out⟩
  case round =>
    clear HIS2 HB2
    obtain ⟨j, hj, rfl, his, hk, hb⟩ := hrel
    have HIS := Lib.hid his
    have HK := Lib.hid hk
    have HB := Lib.hid hb
    by_cases hlt : j < k.len
    · obtain ⟨op', n', k', e1, e2, e3⟩ := Fo.drop_of_lt k j hlt
      have hj' := (HL.out.below hb).at_ j
      rw [Nat.zero_add, e1] at hj'
      obtain ⟨⟨b2, o, A', c', hA, _, hb2, i1, i2, g1, g2, g3, h1, h2, h3⟩, _⟩ := hj'
      subst hA
      have HST := Lib.hid (txt_step (op := op) (n := n) j e1)
      have HFJ := Lib.hid (HFIT.out (j + 1) hlt)
      have HMO := Lib.hid (mok_kid HKIDS.out e1)
      have HL3 := Lib.hid h3
      obtain ⟨V1, hV1⟩ : ∃ V, V = wr.alloc (Obj.cells #[.int .i64 op', .int .i64 n', .slice A' k'.len c'] 29) := ⟨_, rfl⟩
      have hv1 : Below wr.heap.size wr V1 := by rw [hV1]; exact (Below.refl _ _).alloc (Nat.le_refl _) _
      have hx1 : Row V1 wr.heap.size 29 #[.int .i64 op', .int .i64 n', .slice A' k'.len c'] := by rw [hV1]; exact Row.fresh _ _ _
      obtain ⟨hlb, hlB⟩ := IsBld.lt his
      have HX1 := Lib.hid hx1
      have HIS1 := Lib.hid (isBld_below his hv1)
      have HK1 := Lib.hid (hk.trans (KeepsR.of_below hv1))
      have HB1 := Lib.hid (hb.trans (hv1.mono (by omega)))
      have HR1 := Lib.hid (hv1.mono (show B ≤ wr.heap.size by omega))
      clear his hk hb hv1 hx1 e1 h3 HIS HK HB
      go_upto_region 6 with fail
      rw [← hV1]
      clear hV1 g1 g2 g3
      obtain ⟨q0, q1, q2⟩ := HQ.out V1 HK1.out
      go_wp2_with fail
      rw [HM.out]
      case a => kernel_rfl
      go_wp2_with fail
      rw [HEN.out]
      go_wp2_with fail
      refine (HMK.out V1 HK1.out j _ c hj).mono ?_
      rintro e w4 ⟨rfl, hb4⟩
      have HIS4 := Lib.hid (isBld_below HIS1.out hb4)
      have HX4 := Lib.hid (HX1.out.below hb4 HX1.out.size)
      have HK4 := Lib.hid (HK1.out.trans (KeepsR.of_below hb4))
      have HB4 := Lib.hid (HB1.out.trans (hb4.mono (by have := (IsBld.lt HIS1.out); omega)))
      have HR4 := Lib.hid (HR1.out.trans (hb4.mono (by have := (IsBld.lt HIS1.out); omega)))
      have hWR := write_any B b (Lib.byteCells (bs ++ pre op n (txtF k) j)) ⟨(markL op n k.len j).toArray⟩ w4 HIS4.out
        (by
          have h1 := HFJ.out
          have h2 := HLEN.out
          rw [HST.out, List.length_append, List.length_append] at h1
          rw [Lib.byteCells_length, List.length_append, size_list]
          omega)
        (by have := (IsBld.lt HIS4.out); omega)
      rw [strc_list, ← Lib.byteCells_append] at hWR
      have HWR := Lib.hid hWR
      clear hb4 hWR q0 q1 q2 HIS1 HX1 HK1 HB1
      unfold txt
      go_wp2_with fail
      refine HWR.out.mono ?_
      rintro e w5 ⟨rfl, hbd5, hb5, hk5⟩
      have hx5 := hk5.2 _ _ _ (by decide) (by decide) HX4.out
      have HK5 := Lib.hid (HK4.out.trans hk5)
      have HB5 := Lib.hid (HB4.out.trans hb5)
      have hIH := IH.out op' n' k' A' c' (bs ++ pre op n (txtF k) j ++ markL op n k.len j) w5 (by omega) HMO.out (HL3.out.below (HR4.out.trans hb5)) (by rw [List.append_assoc] at hbd5 ⊢; exact .inr hbd5)
        (by
          have h1 := HFJ.out
          have h2 := HLEN.out
          rw [HST.out, List.length_append, List.length_append] at h1
          rw [List.length_append, List.length_append]
          omega)
      rw [show bs ++ pre op n (txtF k) j ++ markL op n k.len j ++ txtN op' n' k' = bs ++ pre op n (txtF k) (j + 1) by rw [HST.out]; simp only [List.append_assoc]] at hIH
      have HIH := Lib.hid hIH
      obtain ⟨q0, q1, q2⟩ := (show w5.cell? ⟨wr.heap.size, 0, none⟩ = some (.int .i64 op') ∧ w5.cell? ⟨wr.heap.size, 1, none⟩ = some (.int .i64 n') ∧ w5.cell? ⟨wr.heap.size, 2, none⟩ = some (.slice A' k'.len c') from ⟨hx5.cell rfl, hx5.cell rfl, hx5.cell rfl⟩)
      clear hIH hbd5 hb5 hk5 hx5 HWR HIS4 HX4 HK4 HB4 HR1 HR4
      go_wp2_with fail
      refine HIH.out.mono ?_
      rintro e w6 ⟨rfl, hbd6, hb6, hk6⟩
      have HK6 := Lib.hid (HK5.out.trans hk6)
      have HB6 := Lib.hid (HB5.out.trans hb6)
      have HBD6 := Lib.hid hbd6
      clear hbd6 hb6 hk6 q0 q1 q2 HIH HK5 HB5
      go_wp2
      go_roundw
      case rel => exact ⟨j + 1, hlt, by go_num, .inr HBD6.out, HK6.out, HB6.out⟩
      case measure => simp [intOf]; omega
    · have e9 : j = k.len := by omega
      subst e9
      obtain ⟨q0, q1, q2⟩ := HQ.out wr HK.out
      have HL1 := Lib.hid (IsBld.lt his)
      clear his hk hb
      go_wp2_with fail
      rw [HM.out]
      case a => kernel_rfl
      go_wp2_with fail
      rw [HEN.out]
      go_wp2_with fail
      refine (HMK.out wr HK.out k.len _ c (Nat.le_refl _)).mono ?_
      rintro e w4 ⟨rfl, hb4⟩
      have HIS4 := Lib.hid (isBld_below HIS.out hb4)
      have HK4 := Lib.hid (HK.out.trans (KeepsR.of_below hb4))
      have HB4 := Lib.hid (HB.out.trans (hb4.mono (by have := HL1.out; omega)))
      have hWR := write_any B b (Lib.byteCells (bs ++ pre op n (txtF k) k.len)) ⟨(markL op n k.len k.len).toArray⟩ w4 HIS4.out
        (by
          have h1 := congrArg List.length HEND.out
          have h2 := HLEN.out
          rw [List.length_append] at h1
          rw [Lib.byteCells_length, List.length_append, size_list]
          omega)
        (by have := (IsBld.lt HIS4.out); omega)
      rw [strc_list, ← Lib.byteCells_append, show bs ++ pre op n (txtF k) k.len ++ markL op n k.len k.len = bs ++ txtN op n k by rw [HEND.out, List.append_assoc]] at hWR
      have HWR := Lib.hid hWR
      clear hb4 hWR q0 q1 q2
      unfold txt
      go_wp2_with fail
      refine HWR.out.mono ?_
      rintro e w5 ⟨rfl, hbd5, hb5, hk5⟩
      have HE := Lib.hid (And.intro hbd5 (And.intro (HB4.out.trans hb5) (HK2.out.trans (HK4.out.trans hk5))))
      clear hbd5 hb5 hk5
      go_wp2
      go_end0
      exact ⟨rfl, HE.out.1, HE.out.2.1, HE.out.2.2⟩
end Go.Proofs.Ytnniakcjalgjlaa
