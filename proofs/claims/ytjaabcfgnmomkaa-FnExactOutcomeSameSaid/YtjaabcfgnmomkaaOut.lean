/-
  OutcomeSeen and OutcomeSame: the model and the program.
-/
import Derived.Test.YtjaabcfgnmomkaaSameL
import Derived.Test.YtjaabcfgnmomkaaOu
import Derived.Test.YtjaabcfgnmomkaaBoxes
namespace Go.Proofs.Ytjaabcfgnmomkaa
open Go.RowKit
set_option maxRecDepth 100000

/-- Do two outcomes look the same? -/
def seenB (a b : Ou) : Bool := decide (a.code = b.code) && (decide (a.val = b.val) && eqI a.out b.out)
def sameB (a b : Ou) : Bool := seenB a b && eqI a.calls b.calls
theorem seenB_code {a b : Ou} (h : a.code ≠ b.code) : seenB a b = false := by unfold seenB; rw [decide_eq_false h]; rfl
theorem seenB_val {a b : Ou} (h : a.val ≠ b.val) : seenB a b = false := by unfold seenB; rw [decide_eq_false h, Bool.false_and, Bool.and_false]
theorem seenB_out {a b : Ou} (h : a.code = b.code) (h2 : a.val = b.val) : seenB a b = eqI a.out b.out := by unfold seenB; rw [decide_eq_true h, decide_eq_true h2, Bool.true_and, Bool.true_and]
theorem sameB_no {a b : Ou} (h : seenB a b = false) : sameB a b = false := by unfold sameB; rw [h]; rfl
theorem sameB_yes {a b : Ou} (h : seenB a b = true) : sameB a b = eqI a.calls b.calls := by unfold sameB; rw [h]; rfl

set_option maxHeartbeats 400000 in
theorem specSeen_any (a b : Ou) (A A2 B B2 : Option Addr) (c c2 d d2 : Nat) (w : World) (hl : LiesI w 0 w.heap.size A a.out) (hm : LiesI w 0 w.heap.size B b.out) (hsz : a.out.length ≤ 1048576) (hsz2 : b.out.length ≤ 1048576) :
    Calls Try.prog 10 #[.agg #[.int .i64 a.code, .int .i64 a.val, .slice A a.out.length c, .slice A2 a.calls.length c2], .agg #[.int .i64 b.code, .int .i64 b.val, .slice B b.out.length d, .slice B2 b.calls.length d2]] w (Gives (.bool (seenB a b)) w) := by
  obtain ⟨hb1, r1, r2⟩ := two_boxes w 27 27 #[Value.int IntKind.i64 a.code, Value.int IntKind.i64 a.val, Value.slice A a.out.length c, Value.slice A2 a.calls.length c2] #[Value.int IntKind.i64 b.code, Value.int IntKind.i64 b.val, Value.slice B b.out.length d, Value.slice B2 b.calls.length d2]
  have HB := Lib.hid hb1
  have H1 := Lib.hid (hl.up hb1)
  have H2 := Lib.hid (hm.up hb1)
  clear hb1 r1 r2 hl hm
  by_cases h1 : a.code = b.code
  · by_cases h2 : a.val = b.val
    · have HF := Lib.hid (seenB_out h1 h2)
      obtain ⟨code, val, out, calls⟩ := a
      obtain ⟨code', val', out', calls'⟩ := b
      dsimp only at *
      subst h1 h2
      go_enter Try.func10, Try.ntmps10
      go_wp2_with fail
      refine (l3Same_any out out' A B c d _ H1.out H2.out hsz hsz2).mono ?_
      rintro e w2 ⟨rfl, hb2⟩
      rw [← HF.out]
      have hb3 := HB.out.trans (hb2.mono HB.out.size)
      clear HB H1 H2 hb2
      go_wp2
      go_ret
      exact ⟨rfl, hb3⟩
    · have HF := Lib.hid (seenB_val h2)
      obtain ⟨code, val, out, calls⟩ := a
      obtain ⟨code', val', out', calls'⟩ := b
      dsimp only at *
      subst h1
      clear H1 H2
      go_enter Try.func10, Try.ntmps10
      go_wp2
      go_ret
      exact ⟨by rw [HF.out]; rfl, HB.out⟩
  · have HF := Lib.hid (seenB_code h1)
    obtain ⟨code, val, out, calls⟩ := a
    obtain ⟨code', val', out', calls'⟩ := b
    dsimp only at *
    clear H1 H2
    go_enter Try.func10, Try.ntmps10
    go_wp2
    go_ret
    exact ⟨by rw [HF.out]; rfl, HB.out⟩

set_option maxHeartbeats 400000 in
theorem implSeen_any (a b : Ou) (A A2 B B2 : Option Addr) (c c2 d d2 : Nat) (w : World) (hl : LiesI w 0 w.heap.size A a.out) (hm : LiesI w 0 w.heap.size B b.out) (hsz : a.out.length ≤ 1048576) (hsz2 : b.out.length ≤ 1048576) :
    Calls Try.prog 11 #[.agg #[.int .i64 a.code, .int .i64 a.val, .slice A a.out.length c, .slice A2 a.calls.length c2], .agg #[.int .i64 b.code, .int .i64 b.val, .slice B b.out.length d, .slice B2 b.calls.length d2]] w (Gives (.bool (seenB a b)) w) := by
  obtain ⟨hb1, r1, r2⟩ := two_boxes w 27 27 #[Value.int IntKind.i64 a.code, Value.int IntKind.i64 a.val, Value.slice A a.out.length c, Value.slice A2 a.calls.length c2] #[Value.int IntKind.i64 b.code, Value.int IntKind.i64 b.val, Value.slice B b.out.length d, Value.slice B2 b.calls.length d2]
  have HB := Lib.hid hb1
  have H1 := Lib.hid (hl.up hb1)
  have H2 := Lib.hid (hm.up hb1)
  clear hb1 r1 r2 hl hm
  by_cases h1 : a.code = b.code
  · by_cases h2 : a.val = b.val
    · have HF := Lib.hid (seenB_out h1 h2)
      obtain ⟨code, val, out, calls⟩ := a
      obtain ⟨code', val', out', calls'⟩ := b
      dsimp only at *
      subst h1 h2
      go_enter Try.func11, Try.ntmps11
      go_wp2_with fail
      refine (slEqual_any out out' A B c d _ H1.out H2.out hsz hsz2).mono ?_
      rintro e w2 ⟨rfl, hb2⟩
      rw [← HF.out]
      have hb3 := HB.out.trans (hb2.mono HB.out.size)
      clear HB H1 H2 hb2
      go_wp2
      go_ret
      exact ⟨rfl, hb3⟩
    · have HF := Lib.hid (seenB_val h2)
      obtain ⟨code, val, out, calls⟩ := a
      obtain ⟨code', val', out', calls'⟩ := b
      dsimp only at *
      subst h1
      clear H1 H2
      go_enter Try.func11, Try.ntmps11
      go_wp2
      go_ret
      exact ⟨by rw [HF.out]; rfl, HB.out⟩
  · have HF := Lib.hid (seenB_code h1)
    obtain ⟨code, val, out, calls⟩ := a
    obtain ⟨code', val', out', calls'⟩ := b
    dsimp only at *
    clear H1 H2
    go_enter Try.func11, Try.ntmps11
    go_wp2
    go_ret
    exact ⟨by rw [HF.out]; rfl, HB.out⟩

set_option maxHeartbeats 400000 in
theorem specSameO_any (a b : Ou) (A A2 B B2 : Option Addr) (c c2 d d2 : Nat) (w : World) (hl : LiesI w 0 w.heap.size A a.out) (hm : LiesI w 0 w.heap.size B b.out) (hl2 : LiesI w 0 w.heap.size A2 a.calls) (hm2 : LiesI w 0 w.heap.size B2 b.calls)
    (hsz : a.out.length ≤ 1048576) (hsz2 : b.out.length ≤ 1048576) (hsz3 : a.calls.length ≤ 1048576) (hsz4 : b.calls.length ≤ 1048576) :
    Calls Try.prog 6 #[.agg #[.int .i64 a.code, .int .i64 a.val, .slice A a.out.length c, .slice A2 a.calls.length c2], .agg #[.int .i64 b.code, .int .i64 b.val, .slice B b.out.length d, .slice B2 b.calls.length d2]] w (Gives (.bool (sameB a b)) w) := by
  obtain ⟨hb1, r1, r2⟩ := two_boxes w 27 27 #[Value.int IntKind.i64 a.code, Value.int IntKind.i64 a.val, Value.slice A a.out.length c, Value.slice A2 a.calls.length c2] #[Value.int IntKind.i64 b.code, Value.int IntKind.i64 b.val, Value.slice B b.out.length d, Value.slice B2 b.calls.length d2]
  have HB := Lib.hid hb1
  have H1 := Lib.hid (hl.up hb1)
  have H2 := Lib.hid (hm.up hb1)
  have H3 := Lib.hid (hl2.up hb1)
  have H4 := Lib.hid (hm2.up hb1)
  have HR1 := Lib.hid r1
  have HR2 := Lib.hid r2
  clear hb1 r1 r2 hl hm hl2 hm2
  generalize hs : seenB a b = s
  have HSE := Lib.hid hs
  cases s with
  | false =>
    have HF := Lib.hid (sameB_no hs)
    clear hs
    go_enter Try.func6, Try.ntmps6
    go_wp2_with fail
    refine (specSeen_any a b A A2 B B2 c c2 d d2 _ H1.out H2.out hsz hsz2).mono ?_
    rintro e w2 ⟨rfl, hb2⟩
    rw [HSE.out]
    have hb3 := HB.out.trans (hb2.mono HB.out.size)
    clear HB H1 H2 H3 H4 HR1 HR2 hb2
    go_wp2
    go_ret
    exact ⟨by rw [HF.out]; rfl, hb3⟩
  | true =>
    have HF := Lib.hid (sameB_yes hs)
    clear hs
    go_enter Try.func6, Try.ntmps6
    go_wp2_with fail
    refine (specSeen_any a b A A2 B B2 c c2 d d2 _ H1.out H2.out hsz hsz2).mono ?_
    rintro e w2 ⟨rfl, hb2⟩
    rw [HSE.out]
    have hb3 := HB.out.trans (hb2.mono HB.out.size)
    have q3 := (HR1.out.below hb2 HR1.out.size).cell (i := 3) rfl
    have p3 := (HR2.out.below hb2 HR2.out.size).cell (i := 3) rfl
    have H5 := Lib.hid (H3.out.up hb2)
    have H6 := Lib.hid (H4.out.up hb2)
    clear HB H1 H2 H3 H4 HR1 HR2 hb2
    go_wp2_with fail
    refine (l3Same_any a.calls b.calls A2 B2 c2 d2 w2 H5.out H6.out hsz3 hsz4).mono ?_
    rintro e w3 ⟨rfl, hb4⟩
    rw [← HF.out]
    have hb5 := hb3.trans (hb4.mono hb3.size)
    clear H5 H6 hb3 hb4 q3 p3
    go_wp2
    go_ret
    exact ⟨rfl, hb5⟩

set_option maxHeartbeats 400000 in
theorem implSameO_any (a b : Ou) (A A2 B B2 : Option Addr) (c c2 d d2 : Nat) (w : World) (hl : LiesI w 0 w.heap.size A a.out) (hm : LiesI w 0 w.heap.size B b.out) (hl2 : LiesI w 0 w.heap.size A2 a.calls) (hm2 : LiesI w 0 w.heap.size B2 b.calls)
    (hsz : a.out.length ≤ 1048576) (hsz2 : b.out.length ≤ 1048576) (hsz3 : a.calls.length ≤ 1048576) (hsz4 : b.calls.length ≤ 1048576) :
    Calls Try.prog 8 #[.agg #[.int .i64 a.code, .int .i64 a.val, .slice A a.out.length c, .slice A2 a.calls.length c2], .agg #[.int .i64 b.code, .int .i64 b.val, .slice B b.out.length d, .slice B2 b.calls.length d2]] w (Gives (.bool (sameB a b)) w) := by
  obtain ⟨hb1, r1, r2⟩ := two_boxes w 27 27 #[Value.int IntKind.i64 a.code, Value.int IntKind.i64 a.val, Value.slice A a.out.length c, Value.slice A2 a.calls.length c2] #[Value.int IntKind.i64 b.code, Value.int IntKind.i64 b.val, Value.slice B b.out.length d, Value.slice B2 b.calls.length d2]
  have HB := Lib.hid hb1
  have H1 := Lib.hid (hl.up hb1)
  have H2 := Lib.hid (hm.up hb1)
  have H3 := Lib.hid (hl2.up hb1)
  have H4 := Lib.hid (hm2.up hb1)
  have HR1 := Lib.hid r1
  have HR2 := Lib.hid r2
  clear hb1 r1 r2 hl hm hl2 hm2
  generalize hs : seenB a b = s
  have HSE := Lib.hid hs
  cases s with
  | false =>
    have HF := Lib.hid (sameB_no hs)
    clear hs
    go_enter Try.func8, Try.ntmps8
    go_wp2_with fail
    refine (implSeen_any a b A A2 B B2 c c2 d d2 _ H1.out H2.out hsz hsz2).mono ?_
    rintro e w2 ⟨rfl, hb2⟩
    rw [HSE.out]
    have hb3 := HB.out.trans (hb2.mono HB.out.size)
    clear HB H1 H2 H3 H4 HR1 HR2 hb2
    go_wp2
    go_ret
    exact ⟨by rw [HF.out]; rfl, hb3⟩
  | true =>
    have HF := Lib.hid (sameB_yes hs)
    clear hs
    go_enter Try.func8, Try.ntmps8
    go_wp2_with fail
    refine (implSeen_any a b A A2 B B2 c c2 d d2 _ H1.out H2.out hsz hsz2).mono ?_
    rintro e w2 ⟨rfl, hb2⟩
    rw [HSE.out]
    have hb3 := HB.out.trans (hb2.mono HB.out.size)
    have q3 := (HR1.out.below hb2 HR1.out.size).cell (i := 3) rfl
    have p3 := (HR2.out.below hb2 HR2.out.size).cell (i := 3) rfl
    have H5 := Lib.hid (H3.out.up hb2)
    have H6 := Lib.hid (H4.out.up hb2)
    clear HB H1 H2 H3 H4 HR1 HR2 hb2
    go_wp2_with fail
    refine (slEqual_any a.calls b.calls A2 B2 c2 d2 w2 H5.out H6.out hsz3 hsz4).mono ?_
    rintro e w3 ⟨rfl, hb4⟩
    rw [← HF.out]
    have hb5 := hb3.trans (hb4.mono hb3.size)
    clear H5 H6 hb3 hb4 q3 p3
    go_wp2
    go_ret
    exact ⟨rfl, hb5⟩

end Go.Proofs.Ytjaabcfgnmomkaa
