/-
  The marks of a node's text: what the methods mark answer, as data and in the program.
-/
import Derived.Test.YtnniakcjalgjlaaLayStr
import Derived.Test.YtnniakcjalgjlaaLetter
import Derived.Test.YtnniakcjalgjlaaTxtD
import Derived.Test.YtnniakcjalgjlaaShape
import Derived.Deep.RegionHeld3
namespace Go.Proofs.Ytnniakcjalgjlaa
open Go.RowKit Go.Shelf
set_option maxRecDepth 100000

/-- The marks of the kinds that have no N. -/
def plainM (op : Int) : List (List UInt8) :=
  if op = 4 then [[40], [43], [41]] else if op = 5 then [[40], [60], [41]] else if op = 6 then [[91], [63], [58], [93]] else if op = 8 then [[123], [59], [125]] else [[33], []]
/-- The text in front of the operand i, or behind all of them. -/
def markL (op n : Int) (len i : Nat) : List UInt8 :=
  if op = 1 then decL n else if op = 2 then letL 97 n
  else if op = 3 then (if i = 0 then letL 65 n ++ [40] else if i < len then [44] else []) ++ (if i = len then [41] else [])
  else if op = 7 then (if i = 0 then [123] ++ letL 97 n ++ [61] else [[123], [59], [125]].getD i [])
  else (plainM op).getD i []
/-- Marks and texts in turn, from the operand i on. -/
def inter (op n : Int) (len : Nat) : Nat → List (List UInt8) → List UInt8
  | i, [] => markL op n len i
  | i, t :: r => markL op n len i ++ t ++ inter op n len (i + 1) r
theorem inter_is {op n : Int} (ts : List (List UInt8)) (h : kidsOk op ts.length = true) : inter op n ts.length 0 ts = txtOf op n ts := by
  have h9 : op = 1 ∨ op = 2 ∨ op = 3 ∨ op = 4 ∨ op = 5 ∨ op = 6 ∨ op = 7 ∨ op = 8 ∨ op = 9 := by unfold kidsOk at h; grind
  match ts, h with
  | [], h => rcases h9 with e | e | e | e | e | e | e | e | e <;> subst e <;> simp [kidsOk] at h <;> simp [inter, markL, txtOf, commas]
  | [a], h => rcases h9 with e | e | e | e | e | e | e | e | e <;> subst e <;> simp [kidsOk] at h <;> simp [inter, markL, txtOf, commas, plainM]
  | [a, b], h => rcases h9 with e | e | e | e | e | e | e | e | e <;> subst e <;> simp [kidsOk] at h <;> simp [inter, markL, txtOf, commas, plainM]
  | [a, b, c], h => rcases h9 with e | e | e | e | e | e | e | e | e <;> subst e <;> simp [kidsOk] at h <;> simp [inter, markL, txtOf, commas, plainM]
  | a :: b :: c :: d :: r, h => rcases h9 with e | e | e | e | e | e | e | e | e <;> subst e <;> simp [kidsOk] at h <;> omega

/-- The builder's text of a form: the value that formOf answers with, and what its method answers. -/
theorem dec_is {n : Int} (h0 : 0 ≤ n) (h9 : n ≤ 99) : Lib.decDigits n.toNat = decL n := by
  unfold decL
  by_cases h : n ≤ 9
  · rw [if_pos h, Lib.decDigits, dif_pos (by omega)]
  · rw [if_neg h, Lib.decDigits, dif_neg (by omega), Lib.decDigits, dif_pos (by omega)]; rfl
theorem eight_n {n : Int} (h : inVar n = true) : n = 0 ∨ n = 1 ∨ n = 2 ∨ n = 3 ∨ n = 4 ∨ n = 5 ∨ n = 6 ∨ n = 7 := by
  unfold inVar at h
  simp at h
  omega
theorem var_ext {n : Int} (h : inVar n = true) : (ByteArray.mk #[97, 98, 99, 100, 101, 102, 103, 104]).extract n.toNat (n + 1).toNat = ⟨(letL 97 n).toArray⟩ := by
  rcases eight_n h with h | h | h | h | h | h | h | h <;> subst h <;> rfl
theorem fun_ext {n : Int} (h : inVar n = true) : (ByteArray.mk #[65, 66, 67, 68, 69, 70, 71, 72]).extract n.toNat (n + 1).toNat = ⟨(letL 65 n).toArray⟩ := by
  rcases eight_n h with h | h | h | h | h | h | h | h <;> subst h <;> rfl

set_option maxHeartbeats 1000000 in
theorem numMark_any (op n : Int) (A : Option Addr) (l c : Nat) (i : Int) (h0 : 0 ≤ n) (h9 : n ≤ 99) (w : World) :
    Calls Try.prog 52 #[.agg #[], .agg #[.int .i64 op, .int .i64 n, .slice A l c], .int .i64 i] w (Gives (txt (decL n)) w) := by
  obtain ⟨u, rfl⟩ := Int.eq_ofNat_of_zero_le h0
  have HI := Lib.hid (fun W => Try.strconv_Itoa_small u (by omega) W)
  rw [show Lib.decDigits u = decL (u : Int) from dec_is h0 h9] at HI
  unfold txt
  generalize decL (u : Int) = dl at *
  have HB := Lib.hid (((Below.refl w.heap.size w).alloc (Nat.le_refl _) (Obj.cells #[] 63)).alloc (by simp) (Obj.cells #[.int .i64 op, .int .i64 (u : Int), .slice A l c] 29))
  clear h0 h9
  go_enter Try.func52, Try.ntmps52
  go_wp2_with fail
  refine (HI.out _).mono ?_
  rintro e w2 ⟨rfl, rfl⟩
  go_wp2
  go_ret
  exact ⟨rfl, HB.out⟩

set_option maxHeartbeats 1000000 in
theorem varMark_any (op n : Int) (A : Option Addr) (l c : Nat) (i : Int) (h : inVar n = true) (w : World) :
    Calls Try.prog 68 #[.agg #[], .agg #[.int .i64 op, .int .i64 n, .slice A l c], .int .i64 i] w (Gives (txt (letL 97 n)) w) := by
  have HE := Lib.hid (var_ext h)
  obtain ⟨n0, n1⟩ := inVar_true h
  have nw : IntKind.i64.wrap (n + 1) = n + 1 := by rw [IntKind.wrap_i64]; omega
  have HB := Lib.hid (((Below.refl w.heap.size w).alloc (Nat.le_refl _) (Obj.cells #[] 64)).alloc (by simp) (Obj.cells #[.int .i64 op, .int .i64 n, .slice A l c] 29))
  unfold txt
  generalize letL 97 n = tx at *
  go_enter Try.func68, Try.ntmps68
  go_wp2_with fail
  go_ret
  exact ⟨congrArg (fun s => Ending.returned (Value.string s)) HE.out, HB.out⟩

theorem cat_txt (a b : List UInt8) : (ByteArray.mk a.toArray ++ ByteArray.mk b.toArray) = ⟨(a ++ b).toArray⟩ := ByteArray.mk_append_mk a b

set_option maxHeartbeats 1000000 in
theorem callMark_any (op n : Int) (A : Option Addr) (l c i : Nat) (h : inVar n = true) (hi : i ≤ l) (hl : l ≤ maxLen) (w : World) :
    Calls Try.prog 71 #[.agg #[], .agg #[.int .i64 op, .int .i64 n, .slice A l c], .int .i64 (i : Int)] w (Gives (txt ((if i = 0 then letL 65 n ++ [40] else if i < l then [44] else []) ++ (if i = l then [41] else []))) w) := by
  have HE := Lib.hid (fun_ext h)
  obtain ⟨n0, n1⟩ := inVar_true h
  have nw : IntKind.i64.wrap (n + 1) = n + 1 := by rw [IntKind.wrap_i64]; omega
  have HB := Lib.hid (((Below.refl w.heap.size w).alloc (Nat.le_refl _) (Obj.cells #[] 65)).alloc (by simp) (Obj.cells #[.int .i64 op, .int .i64 n, .slice A l c] 29))
  unfold txt
  generalize letL 65 n = tx at *
  by_cases hi0 : i = 0
  · subst hi0
    by_cases hl0 : 0 = l
    · subst hl0
      go_enter Try.func71, Try.ntmps71
      go_wp2_with fail
      go_ret
      exact ⟨congrArg (fun s => Ending.returned (Value.string s)) (by rw [HE.out]; exact ((congrArg (· ++ ByteArray.mk [41].toArray) (ByteArray.mk_append_mk tx [40])).trans (ByteArray.mk_append_mk (tx ++ [40]) [41])).trans (by simp)), HB.out⟩
    · have g1 : ((0 : Int) == (l : Int)) = false := by simp; omega
      rw [if_neg hl0]
      go_enter Try.func71, Try.ntmps71
      go_wp2_with fail
      go_ret
      exact ⟨congrArg (fun s => Ending.returned (Value.string s)) (by rw [HE.out]; exact ((ByteArray.mk_append_mk tx [40]).trans (by simp))), HB.out⟩
  · have g0 : ((i : Int) == 0) = false := by simp; omega
    rw [if_neg hi0]
    by_cases hl0 : i = l
    · subst hl0
      have g1 : decide ((i : Int) < (i : Int)) = false := by simp
      rw [if_neg (Nat.lt_irrefl i), if_pos rfl]
      go_enter Try.func71, Try.ntmps71
      go_wp2_with fail
      go_ret
      exact ⟨rfl, HB.out⟩
    · have g1 : decide ((i : Int) < (l : Int)) = true := by simp; omega
      have g3 : (i : Int) < (l : Int) := by omega
      have g2 : ((i : Int) == (l : Int)) = false := by simp; omega
      rw [if_neg hl0, if_pos (by omega)]
      go_enter Try.func71, Try.ntmps71
      go_wp2_with fail
      go_ret
      exact ⟨rfl, HB.out⟩

/-- A row of marks: strings. -/
def strsOf (ms : List (List UInt8)) : Array Value := (ms.map txt).toArray
set_option maxHeartbeats 1000000 in
theorem plainMark_any (op n : Int) (A : Option Addr) (l c : Nat) (b : Nat) (ms : List (List UInt8)) (i : Nat) (hi : i < ms.length) (w : World) (hr : Row w b 9 (strsOf ms)) :
    Calls Try.prog 74 #[.slice (some ⟨b, 0, none⟩) ms.length ms.length, .agg #[.int .i64 op, .int .i64 n, .slice A l c], .int .i64 (i : Int)] w (Gives (txt (ms.getD i [])) w) := by
  have HB := Lib.hid ((Below.refl w.heap.size w).alloc (Nat.le_refl _) (Obj.cells #[.int .i64 op, .int .i64 n, .slice A l c] 29))
  have hr1 := hr.alloc (Obj.cells #[.int .i64 op, .int .i64 n, .slice A l c] 29)
  have q0 : (w.alloc (Obj.cells #[.int .i64 op, .int .i64 n, .slice A l c] 29)).cell? ⟨b, i, none⟩ = some (txt (ms.getD i [])) := hr1.cell (by simp [strsOf, List.getD, List.getElem?_eq_getElem hi])
  generalize txt (ms.getD i []) = tx at *
  clear hr hr1
  go_enter Try.func74, Try.ntmps74
  go_wp2_with fail
  go_ret
  exact ⟨rfl, HB.out⟩

set_option maxHeartbeats 1000000 in
theorem letMark_any (op n : Int) (A : Option Addr) (l c i : Nat) (h : inVar n = true) (hi : i ≤ 2) (w : World) :
    Calls Try.prog 76 #[.agg #[], .agg #[.int .i64 op, .int .i64 n, .slice A l c], .int .i64 (i : Int)] w (Gives (txt (if i = 0 then [123] ++ letL 97 n ++ [61] else [[123], [59], [125]].getD i [])) w) := by
  have HE := Lib.hid (var_ext h)
  obtain ⟨n0, n1⟩ := inVar_true h
  have nw : IntKind.i64.wrap (n + 1) = n + 1 := by rw [IntKind.wrap_i64]; omega
  have hb0 := ((Below.refl w.heap.size w).alloc (Nat.le_refl _) (Obj.cells #[] 68)).alloc (by simp) (Obj.cells #[.int .i64 op, .int .i64 n, .slice A l c] 29)
  have HB := Lib.hid hb0
  by_cases hi0 : i = 0
  · subst hi0
    unfold txt
    rw [if_pos rfl]
    generalize letL 97 n = tx at *
    go_enter Try.func76, Try.ntmps76
    go_wp2_with fail
    go_ret
    exact ⟨congrArg (fun s => Ending.returned (Value.string s)) (by rw [HE.out]; exact ((congrArg (· ++ ByteArray.mk [61].toArray) (ByteArray.mk_append_mk [123] tx)).trans (ByteArray.mk_append_mk ([123] ++ tx) [61]))), HB.out⟩
  · have g0 : ((i : Int) == 0) = false := by simp; omega
    rw [if_neg hi0]
    have hr := Row.fresh ((w.alloc (Obj.cells #[] 68)).alloc (Obj.cells #[.int .i64 op, .int .i64 n, .slice A l c] 29)) 9 (strsOf [[123], [59], [125]])
    rw [World.size_alloc, World.size_alloc] at hr
    have HB2 := Lib.hid (hb0.alloc (by simp; omega) (Obj.cells (strsOf [[123], [59], [125]]) 9))
    have HC := Lib.hid (plainMark_any op n A l c (w.heap.size + 1 + 1) [[123], [59], [125]] i (by simp; omega) _ hr)
    obtain ⟨tx, htx⟩ : ∃ tx : List UInt8, tx = [[123], [59], [125]].getD i [] := ⟨_, rfl⟩
    rw [← htx] at HC ⊢
    clear htx hr hb0
    go_enter Try.func76, Try.ntmps76
    go_wp2_with fail
    refine HC.out.mono ?_
    rintro e w2 ⟨rfl, hb2⟩
    have HB3 := Lib.hid (HB2.out.trans (hb2.mono HB2.out.size))
    clear hb2
    unfold txt
    go_wp2
    go_ret
    exact ⟨rfl, HB3.out⟩
end Go.Proofs.Ytnniakcjalgjlaa
