/-
  Contracts of the library laid at this program: the string of a builder; small numbers as texts (made by lay-plain.mjs).
  A strings.Builder that the call has made: what a write does, and that it leaves all other rows as they were.
  The marks of a node's text: what the methods mark answer, as data and in the program.
  impl.writeExpr: the text of a valid tree is written behind what a builder holds.
  FormatExpr: the text of an expression; the program's side.
-/
import Derived.Shelf.Strings.Builder1
import Derived.Shelf.Strconv.Itoa0
import Derived.Shelf.Strconv.Itoa1
import Derived.Shelf.LaysM
import Derived.Shelf.Strconv.Itoa2
import Derived.Shelf.Strconv.Itoa3
import Derived.Below
import Derived.Test.YtiefobkddckkbaaProg
import Derived.Test.YtiefobkddckkbaaFo
import Derived.Lib.AppendStr
import Derived.Lib.Builder
import Derived.Lib.UnsafeStr
import Derived.WalkKit
import Derived.Laws.Externs
import Derived.Deep.RegionHeld3
import Derived.Deep.CutRange
import Derived.StillTailTactics
import Derived.Test.YtiefobkddckkbaaLetter
import Derived.Test.YtiefobkddckkbaaTxtD
import Derived.Test.YtiefobkddckkbaaShape
import Derived.Test.YtiefobkddckkbaaVp
import Derived.Test.YtiefobkddckkbaaOpen
namespace Go.Proofs
open Go.Shelf Go.RowKit
set_option maxRecDepth 100000
def Try.lays169_ren : Go.Shelf.Ren := ⟨fun | 169 => 30 | n => n, fun | 70 => 57 | 9 => 9 | 0 => 0 | 72 => 59 | 37 => 40 | 127 => 85 | 3 => 3 | 5 => 5 | n => n, fun | n => n⟩
theorem Try.lays169 : Go.Proofs.Lays.n169 Try.prog Try.lays169_ren := {
  mixed := by kernel_rfl
  f169 := Try.func30.trans (congrArg some (by kernel_rfl))
  t0 := Try.underlying0
  a0 := Try.isAgg0
  z0 := Try.sizeOf0
  v0 := Try.zeroValue0
  t3 := Try.underlying3
  a3 := Try.isAgg3
  z3 := Try.sizeOf3
  v3 := Try.zeroValue3
  t9 := Try.underlying9
  a9 := Try.isAgg9
  z9 := Try.sizeOf9
  v9 := Try.zeroValue9
  t37 := Try.underlying40
  a37 := Try.isAgg40
  z37 := Try.sizeOf40
  v37 := Try.zeroValue40
  t70 := Try.underlying57
  a70 := Try.isAgg57
  z70 := Try.sizeOf57
  v70 := Try.zeroValue57
  t72 := Try.underlying59
  a72 := Try.isAgg59
  z72 := Try.sizeOf59
  v72 := Try.zeroValue59
  t127 := Try.underlying85
  a127 := Try.isAgg85
  z127 := Try.sizeOf85
  v127 := Try.zeroValue85 }
theorem Try.Builder_Extra_169 : Builder.Extra Try.prog Try.lays169_ren := {
  sizeBuilder := by kernel_rfl
  liesBuilder := by kernel_rfl
  t5 := Try.underlying5
  a5 := Try.isAgg5
  z5 := Try.sizeOf5
  v5 := Try.zeroValue5
  infoByte := by kernel_rfl
  cellsByte := by kernel_rfl
  sizeByte := by kernel_rfl
  neB5 := by decide }

theorem Try.Builder_String_any (B b : Nat) (l : List UInt8) (w : World) (h : Lib.IsBuilder 59 5 B b (Lib.byteCells l) w) (hBw : B ≤ w.heap.size) :
    Calls Try.prog 30 #[.pointer (some ⟨b, 0, none⟩)] w fun e w' => e = .returned (.string ⟨l.toArray⟩) ∧ Below B w w' := Any.Builder_String_any Try.lays169 Try.Builder_Extra_169 B b l w h hBw
def Try.lays171_ren : Go.Shelf.Ren := ⟨fun | 171 => 80 | 243 => 81 | 246 => 82 | 283 => 83 | 284 => 84 | 285 => 85 | 286 => 86 | 129 => 88 | 317 => 87 | 318 => 89 | 319 => 90 | 320 => 91 | 337 => 92 | 338 => 93 | n => n, fun | 3 => 3 | 9 => 9 | 2 => 2 | 4 => 4 | 171 => 125 | 0 => 0 | 53 => 126 | 37 => 40 | 5 => 5 | 173 => 129 | 212 => 132 | 51 => 115 | 20 => 20 | 213 => 133 | 46 => 135 | 232 => 138 | 233 => 139 | n => n, fun | 17 => 0 | 18 => 1 | 19 => 2 | n => n⟩
theorem Try.lays171 : Go.Proofs.Lays.n171 Try.prog Try.lays171_ren := {
  mixed := by kernel_rfl
  f129 := Try.func88.trans (congrArg some (by kernel_rfl))
  f171 := Try.func80.trans (congrArg some (by kernel_rfl))
  f243 := Try.func81.trans (congrArg some (by kernel_rfl))
  f246 := Try.func82.trans (congrArg some (by kernel_rfl))
  f283 := Try.func83.trans (congrArg some (by kernel_rfl))
  f284 := Try.func84.trans (congrArg some (by kernel_rfl))
  f285 := Try.func85.trans (congrArg some (by kernel_rfl))
  f286 := Try.func86.trans (congrArg some (by kernel_rfl))
  f317 := Try.func87.trans (congrArg some (by kernel_rfl))
  f318 := Try.func89.trans (congrArg some (by kernel_rfl))
  f319 := Try.func90.trans (congrArg some (by kernel_rfl))
  f320 := Try.func91.trans (congrArg some (by kernel_rfl))
  f337 := Try.func92.trans (congrArg some (by kernel_rfl))
  f338 := Try.func93.trans (congrArg some (by kernel_rfl))
  t0 := Try.underlying0
  a0 := Try.isAgg0
  z0 := Try.sizeOf0
  v0 := Try.zeroValue0
  t2 := Try.underlying2
  a2 := Try.isAgg2
  z2 := Try.sizeOf2
  v2 := Try.zeroValue2
  t3 := Try.underlying3
  a3 := Try.isAgg3
  z3 := Try.sizeOf3
  v3 := Try.zeroValue3
  t4 := Try.underlying4
  a4 := Try.isAgg4
  z4 := Try.sizeOf4
  v4 := Try.zeroValue4
  t5 := Try.underlying5
  a5 := Try.isAgg5
  z5 := Try.sizeOf5
  v5 := Try.zeroValue5
  t9 := Try.underlying9
  a9 := Try.isAgg9
  z9 := Try.sizeOf9
  v9 := Try.zeroValue9
  t20 := Try.underlying20
  a20 := Try.isAgg20
  z20 := Try.sizeOf20
  v20 := Try.zeroValue20
  t37 := Try.underlying40
  a37 := Try.isAgg40
  z37 := Try.sizeOf40
  v37 := Try.zeroValue40
  t46 := Try.underlying135
  a46 := Try.isAgg135
  z46 := Try.sizeOf135
  v46 := Try.zeroValue135
  t51 := Try.underlying115
  a51 := Try.isAgg115
  z51 := Try.sizeOf115
  v51 := Try.zeroValue115
  t53 := Try.underlying126
  a53 := Try.isAgg126
  z53 := Try.sizeOf126
  v53 := Try.zeroValue126
  t171 := Try.underlying125
  a171 := Try.isAgg125
  z171 := Try.sizeOf125
  v171 := Try.zeroValue125
  t173 := Try.underlying129
  a173 := Try.isAgg129
  z173 := Try.sizeOf129
  v173 := Try.zeroValue129
  t212 := Try.underlying132
  a212 := Try.isAgg132
  z212 := Try.sizeOf132
  v212 := Try.zeroValue132
  t213 := Try.underlying133
  a213 := Try.isAgg133
  z213 := Try.sizeOf133
  t232 := Try.underlying138
  a232 := Try.isAgg138
  z232 := Try.sizeOf138
  v232 := Try.zeroValue138
  t233 := Try.underlying139
  a233 := Try.isAgg139
  z233 := Try.sizeOf139
  v233 := Try.zeroValue139
  g17 := by kernel_rfl
  g18 := by kernel_rfl
  g19 := by kernel_rfl }

theorem Try.strconv_Itoa_small (i : Nat) (hi : i < 100) (w : World) :
    Calls Try.prog 80 #[.int .i64 i] w fun e w' => e = .returned (.string ⟨(Lib.decDigits i).toArray⟩) ∧ w' = w := Any.strconv_Itoa_small Try.lays171 i hi w
end Go.Proofs

namespace Go.Proofs.Ytiefobkddckkbaa
open Go.RowKit Go.Shelf
set_option maxRecDepth 100000

/-- What a write keeps: no block goes away, and a row that is neither a builder nor bytes stays as it was. -/
def KeepsR (w w' : World) : Prop := w.heap.size ≤ w'.heap.size ∧ ∀ (z : Nat) (t : TypeId) (cs : Array Value), t ≠ 59 → t ≠ 5 → Row w z t cs → Row w' z t cs
theorem KeepsR.refl (w : World) : KeepsR w w := ⟨Nat.le_refl _, fun _ _ _ _ _ h => h⟩
theorem KeepsR.trans {a b c : World} (h : KeepsR a b) (k : KeepsR b c) : KeepsR a c := ⟨Nat.le_trans h.1 k.1, fun z t cs h1 h2 hr => k.2 z t cs h1 h2 (h.2 z t cs h1 h2 hr)⟩
theorem KeepsR.of_below {a b : World} (h : Below a.heap.size a b) : KeepsR a b := ⟨h.size, fun _ _ _ _ _ hr => hr.below h hr.size⟩

abbrev BldAt (B b : Nat) (p : Value) (bs : List Value) (w : World) : Prop := Lib.BuilderAt 59 5 B b p bs w
abbrev IsBld (B b : Nat) (bs : List Value) (w : World) : Prop := Lib.IsBuilder 59 5 B b bs w

theorem bld_below {B b : Nat} {p : Value} {bs : List Value} {w w' : World} (h : BldAt B b p bs w) (hb : Below w.heap.size w w') : BldAt B b p bs w' := by
  have hlt := h.lt
  obtain ⟨hB, v, hv, hown, hne⟩ := h
  refine ⟨hB, v, (hb.block b hlt).trans hv, ⟨hown.1, ?_⟩, hne⟩
  rcases hown.2 with h1 | ⟨g, cap, cur, e1, e2, e3, e4⟩
  · exact .inl h1
  · have hg : g < w.heap.size := by
      rcases Nat.lt_or_ge g w.heap.size with h' | h'
      · exact h'
      · simp [Array.getElem?_eq_none h'] at e3
    exact .inr ⟨g, cap, cur, e1, e2, (hb.block g hg).trans e3, e4⟩

set_option maxRecDepth 100000 in
set_option maxHeartbeats 2000000 in
theorem copyCheck_any (B b : Nat) (bs : List Value) (w : World) (h : IsBld B b bs w) :
    Calls Try.prog 55 #[.pointer (some ⟨b, 0, none⟩)] w fun e w' => e = .returned (.tuple #[]) ∧ BldAt B b (.pointer (some ⟨b, 0, none⟩)) bs w' ∧ Below B w w' ∧ KeepsR w w' := by
  have hX : (Try.prog.info? 59).map (·.size) = some 2 := by kernel_rfl
  have hLI : liesAt Try.prog Try.prog.depth 59 (2 / Try.prog.cellsOf 59) 0 59 1 = true := by kernel_rfl
  obtain ⟨j, hj, hjs⟩ := Option.map_eq_some_iff.1 hX
  have hjz : j.size ≠ 0 := by rw [hjs]; decide
  clear hX hjs
  rcases h with h | h
  · have h0 := h.cell0
    have hsh := h.shape
    have hfz := h.frozen0
    have HU := Lib.hid (h.used (.pointer (some ⟨b, 0, none⟩)))
    have HB := Lib.hid ((Below.refl B w).setCell (p := ⟨b, 0, none⟩) h.1 (.pointer (some ⟨b, 0, none⟩)))
    have HK := Lib.hid (show KeepsR w (w.setCell ⟨b, 0, none⟩ (.pointer (some ⟨b, 0, none⟩))) by
      obtain ⟨_, v, hv, _⟩ := h
      refine ⟨by simp, fun z t cs h1 _ hr => hr.apart (fun e => ?_) _⟩
      have e' : z = b := e
      subst e'
      have h2 := hr.symm.trans hv
      simp only [Option.some.injEq, Obj.cells.injEq] at h2
      exact h1 h2.2.1)
    clear h
    go_enter Try.func55, Try.ntmps55
    go_wp2
    rw [Lib.run_to_unsafe w ⟨b, 0, none⟩ Try.underlying57 Try.underlying107 hj hjz hsh (Nat.zero_lt_succ 1)]
    simp only [Result.andThen]
    rw [Oper.upon_value]
    go_wp2
    rw [run_callFunc_extern Try.func60 (by kernel_rfl) (by kernel_rfl) (by kernel_rfl) (e := Extern.AbiNoEscape.same) (by kernel_rfl)]
    rw [Lib.run_noEscape]
    simp only [Result.andThen]
    rw [Oper.upon_value]
    go_wp2
    rw [Lib.run_from_unsafe w ⟨b, 0, none⟩ Try.underlying107 Try.underlying57 hj hsh hLI]
    simp only [Result.andThen]
    rw [Oper.upon_value]
    go_wp2
    go_end0
    exact ⟨rfl, HU.out, HB.out, HK.out⟩
  · have h0 := h.cell0
    have HU := Lib.hid h
    clear h
    go_enter Try.func55, Try.ntmps55
    go_wp2
    rw [Lib.run_neq_ptr_same w _ Try.underlying57 hj]
    go_wp2
    go_end0
    exact ⟨rfl, HU.out, Below.refl _ _, KeepsR.refl _⟩

set_option maxRecDepth 100000 in
set_option maxHeartbeats 2000000 in
/-- A write: behind it the builder holds what it held and the text. -/
theorem write_any (B b : Nat) (bs : List Value) (s : ByteArray) (w : World) (h : IsBld B b bs w) (hlen : bs.length + s.size ≤ 140737488355328) (hBw : B ≤ w.heap.size) :
    Calls Try.prog 44 #[.pointer (some ⟨b, 0, none⟩), .string s] w fun e w' => e = .returned (.tuple #[.int .i64 s.size, .nilIface]) ∧ BldAt B b (.pointer (some ⟨b, 0, none⟩)) (bs ++ Lib.strCells s) w' ∧ Below B w w' ∧ KeepsR w w' := by
  have HCC := Lib.hid (copyCheck_any B b bs w h)
  obtain ⟨i0, hi, hz0, hz1, hz2⟩ := info_parts (P := Try.prog) (e := 5) (z := .int .u8 0) (size := 1) (bytes := 1) (by kernel_rfl)
  clear h
  go_enter Try.func44, Try.ntmps44
  go_wp2_with fail
  refine HCC.out.mono ?_
  rintro e w1 ⟨rfl, h1, hb1, hk1⟩
  have HL1 := Lib.hid h1.lt
  obtain ⟨hB, v, hbk, hown, hne⟩ := h1
  have HBK := Lib.hid hbk
  have HOWN := Lib.hid hown
  have HNE := Lib.hid hne
  have HB1 := Lib.hid hb1
  have HK1 := Lib.hid hk1
  have hlt : b < w1.heap.size := HL1.out
  have hw1 : B ≤ w1.heap.size := Nat.le_trans hBw hb1.size
  have c0 : w1.cell? ⟨b, 0, none⟩ = some (.pointer (some ⟨b, 0, none⟩)) := by rw [Lib.cell_of_heap hbk]; rfl
  have c1 : w1.cell? ⟨b, 1, none⟩ = some v := by rw [Lib.cell_of_heap hbk]; rfl
  clear hb1 hk1 hbk hown hne HCC
  go_wp2_with (at_builtin; refine Lib.wpList_append_own_string _ rfl _ _ 40 9 rfl B 5 i0 Try.underlying40 Try.underlying9 hi hz0 hz1 hz2 _ _ _ rfl HOWN.out s rfl ?c3 ?c4 ?c5 ?_)
  case c3 => unfold maxLen; omega
  case c4 => omega
  case c5 => omega
  intro v' w2 hown' hgrow _
  have hb2 : w2.heap[b]? = some (.cells #[.pointer (some ⟨b, 0, none⟩), v] 59 (0, 0)) := by
    rw [hgrow.block b hlt (fun e => HNE.out e.symm)]
    exact HBK.out
  have d0 : w2.cell? ⟨b, 0, none⟩ = some (.pointer (some ⟨b, 0, none⟩)) := by rw [Lib.cell_of_heap hb2]; rfl
  have d1 : w2.cell? ⟨b, 1, none⟩ = some v := by rw [Lib.cell_of_heap hb2]; rfl
  have f1 : w2.frozen? ⟨b, 1, none⟩ = false := Lib.frozen_of_heap hb2 1
  have HP := Lib.hid (show BldAt B b (.pointer (some ⟨b, 0, none⟩)) (bs ++ Lib.strCells s) (w2.setCell ⟨b, 1, none⟩ v') from Lib.BuilderAt.put hB hb2 (bs' := bs ++ Lib.strCells s) (by simpa [Lib.strCells_length] using hown') (by decide))
  have HBB := Lib.hid ((HB1.out.grown hgrow (by omega) (fun k hk => (HOWN.out.lt k hk).1)).setCell (p := ⟨b, 1, none⟩) hB v')
  have HKK := Lib.hid (show KeepsR w (w2.setCell ⟨b, 1, none⟩ v') by
    refine HK1.out.trans ⟨by rw [World.size_setCell]; exact hgrow.size, fun z t cs ht hu hr => ?_⟩
    have hzb : z ≠ b := fun e => by
      subst e
      have h2 := hr.symm.trans HBK.out
      simp only [Option.some.injEq, Obj.cells.injEq] at h2
      exact ht h2.2.1
    refine Row.apart ((hgrow.block z hr.size fun e => ?_).trans hr) (p := ⟨b, 1, none⟩) hzb v'
    rcases HOWN.out.2 with ⟨h1, _⟩ | ⟨g, cap, cur, h1, _, h3, _⟩
    · rw [h1] at e; simp [Value.ownBlock] at e
    · rw [h1] at e
      simp only [Value.ownBlock, Option.some.injEq] at e
      subst e
      have h2 := hr.symm.trans h3
      simp only [Option.some.injEq, Obj.cells.injEq] at h2
      exact hu h2.2.1)
  obtain ⟨ao, n', cap, rfl⟩ : ∃ ao n' cap, v' = .slice ao n' cap := by
    rcases hown'.2 with ⟨hv, _⟩ | ⟨g, cap, cur, hv, _⟩
    · exact ⟨_, _, _, hv⟩
    · exact ⟨_, _, _, hv⟩
  clear hown' hgrow hb2
  go_wp2
  go_ret2
  exact ⟨rfl, HP.out, HBB.out, HKK.out⟩
end Go.Proofs.Ytiefobkddckkbaa

namespace Go.Proofs.Ytiefobkddckkbaa
open Go.RowKit Go.Shelf
set_option maxRecDepth 100000

/-- The marks of the kinds that have no N. -/
def plainM (op : Int) : List (List UInt8) :=
  if op = 4 then [[40], [43], [41]] else if op = 5 then [[40], [60], [41]] else if op = 6 then [[91], [63], [58], [93]] else if op = 8 then [[123], [59], [125]] else [[33], []]
/-- The text in front of the operand i, or behind all of them. -/
def markL (op n : Int) (len i : Nat) : List UInt8 :=
  if op = 1 then decL n else if op = 2 then letL 97 n
  else if op = 3 then (if i = 0 then letL 65 n ++ [40] else if i < len then [44] else []) ++ (if i = len then [41] else [])
  else if op = 7 then (if i = 0 then [123] ++ letL 97 n ++ [61] else [[123], [59], [125]].getD i [])
  else (plainM op).getD i []
/-- Marks and texts in turn, from the operand i on. -/
def inter (op n : Int) (len : Nat) : Nat → List (List UInt8) → List UInt8
  | i, [] => markL op n len i
  | i, t :: r => markL op n len i ++ t ++ inter op n len (i + 1) r
theorem inter_is {op n : Int} (ts : List (List UInt8)) (h : kidsOk op ts.length = true) : inter op n ts.length 0 ts = txtOf op n ts := by
  have h9 : op = 1 ∨ op = 2 ∨ op = 3 ∨ op = 4 ∨ op = 5 ∨ op = 6 ∨ op = 7 ∨ op = 8 ∨ op = 9 := by unfold kidsOk at h; grind
  match ts, h with
  | [], h => rcases h9 with e | e | e | e | e | e | e | e | e <;> subst e <;> simp [kidsOk] at h <;> simp [inter, markL, txtOf, commas]
  | [a], h => rcases h9 with e | e | e | e | e | e | e | e | e <;> subst e <;> simp [kidsOk] at h <;> simp [inter, markL, txtOf, commas, plainM]
  | [a, b], h => rcases h9 with e | e | e | e | e | e | e | e | e <;> subst e <;> simp [kidsOk] at h <;> simp [inter, markL, txtOf, commas, plainM]
  | [a, b, c], h => rcases h9 with e | e | e | e | e | e | e | e | e <;> subst e <;> simp [kidsOk] at h <;> simp [inter, markL, txtOf, commas, plainM]
  | a :: b :: c :: d :: r, h => rcases h9 with e | e | e | e | e | e | e | e | e <;> subst e <;> simp [kidsOk] at h <;> omega

/-- The builder's text of a form: the value that formOf answers with, and what its method answers. -/
theorem dec_is {n : Int} (h0 : 0 ≤ n) (h9 : n ≤ 99) : Lib.decDigits n.toNat = decL n := by
  unfold decL
  by_cases h : n ≤ 9
  · rw [if_pos h, Lib.decDigits, dif_pos (by omega)]
  · rw [if_neg h, Lib.decDigits, dif_neg (by omega), Lib.decDigits, dif_pos (by omega)]; rfl
theorem eight_n {n : Int} (h : inVar n = true) : n = 0 ∨ n = 1 ∨ n = 2 ∨ n = 3 ∨ n = 4 ∨ n = 5 ∨ n = 6 ∨ n = 7 := by
  unfold inVar at h
  simp at h
  omega
theorem var_ext {n : Int} (h : inVar n = true) : (ByteArray.mk #[97, 98, 99, 100, 101, 102, 103, 104]).extract n.toNat (n + 1).toNat = ⟨(letL 97 n).toArray⟩ := by
  rcases eight_n h with h | h | h | h | h | h | h | h <;> subst h <;> rfl
theorem fun_ext {n : Int} (h : inVar n = true) : (ByteArray.mk #[65, 66, 67, 68, 69, 70, 71, 72]).extract n.toNat (n + 1).toNat = ⟨(letL 65 n).toArray⟩ := by
  rcases eight_n h with h | h | h | h | h | h | h | h <;> subst h <;> rfl

set_option maxHeartbeats 1000000 in
theorem numMark_any (op n : Int) (A : Option Addr) (l c : Nat) (i : Int) (h0 : 0 ≤ n) (h9 : n ≤ 99) (w : World) :
    Calls Try.prog 79 #[.agg #[], .agg #[.int .i64 op, .int .i64 n, .slice A l c], .int .i64 i] w (Gives (txt (decL n)) w) := by
  obtain ⟨u, rfl⟩ := Int.eq_ofNat_of_zero_le h0
  have HI := Lib.hid (fun W => Try.strconv_Itoa_small u (by omega) W)
  rw [show Lib.decDigits u = decL (u : Int) from dec_is h0 h9] at HI
  unfold txt
  generalize decL (u : Int) = dl at *
  have HB := Lib.hid (((Below.refl w.heap.size w).alloc (Nat.le_refl _) (Obj.cells #[] 90)).alloc (by simp) (Obj.cells #[.int .i64 op, .int .i64 (u : Int), .slice A l c] 33))
  clear h0 h9
  go_enter Try.func79, Try.ntmps79
  go_wp2_with fail
  refine (HI.out _).mono ?_
  rintro e w2 ⟨rfl, rfl⟩
  go_wp2
  go_ret
  exact ⟨rfl, HB.out⟩

set_option maxHeartbeats 1000000 in
theorem varMark_any (op n : Int) (A : Option Addr) (l c : Nat) (i : Int) (h : inVar n = true) (w : World) :
    Calls Try.prog 95 #[.agg #[], .agg #[.int .i64 op, .int .i64 n, .slice A l c], .int .i64 i] w (Gives (txt (letL 97 n)) w) := by
  have HE := Lib.hid (var_ext h)
  obtain ⟨n0, n1⟩ := inVar_true h
  have nw : IntKind.i64.wrap (n + 1) = n + 1 := by rw [IntKind.wrap_i64]; omega
  have HB := Lib.hid (((Below.refl w.heap.size w).alloc (Nat.le_refl _) (Obj.cells #[] 91)).alloc (by simp) (Obj.cells #[.int .i64 op, .int .i64 n, .slice A l c] 33))
  unfold txt
  generalize letL 97 n = tx at *
  go_enter Try.func95, Try.ntmps95
  go_wp2_with fail
  go_ret
  exact ⟨congrArg (fun s => Ending.returned (Value.string s)) HE.out, HB.out⟩

theorem cat_txt (a b : List UInt8) : (ByteArray.mk a.toArray ++ ByteArray.mk b.toArray) = ⟨(a ++ b).toArray⟩ := ByteArray.mk_append_mk a b

set_option maxHeartbeats 1000000 in
theorem callMark_any (op n : Int) (A : Option Addr) (l c i : Nat) (h : inVar n = true) (hi : i ≤ l) (hl : l ≤ maxLen) (w : World) :
    Calls Try.prog 98 #[.agg #[], .agg #[.int .i64 op, .int .i64 n, .slice A l c], .int .i64 (i : Int)] w (Gives (txt ((if i = 0 then letL 65 n ++ [40] else if i < l then [44] else []) ++ (if i = l then [41] else []))) w) := by
  have HE := Lib.hid (fun_ext h)
  obtain ⟨n0, n1⟩ := inVar_true h
  have nw : IntKind.i64.wrap (n + 1) = n + 1 := by rw [IntKind.wrap_i64]; omega
  have HB := Lib.hid (((Below.refl w.heap.size w).alloc (Nat.le_refl _) (Obj.cells #[] 92)).alloc (by simp) (Obj.cells #[.int .i64 op, .int .i64 n, .slice A l c] 33))
  unfold txt
  generalize letL 65 n = tx at *
  by_cases hi0 : i = 0
  · subst hi0
    by_cases hl0 : 0 = l
    · subst hl0
      go_enter Try.func98, Try.ntmps98
      go_wp2_with fail
      go_ret
      exact ⟨congrArg (fun s => Ending.returned (Value.string s)) (by rw [HE.out]; exact ((congrArg (· ++ ByteArray.mk [41].toArray) (ByteArray.mk_append_mk tx [40])).trans (ByteArray.mk_append_mk (tx ++ [40]) [41])).trans (by simp)), HB.out⟩
    · have g1 : ((0 : Int) == (l : Int)) = false := by simp; omega
      rw [if_neg hl0]
      go_enter Try.func98, Try.ntmps98
      go_wp2_with fail
      go_ret
      exact ⟨congrArg (fun s => Ending.returned (Value.string s)) (by rw [HE.out]; exact ((ByteArray.mk_append_mk tx [40]).trans (by simp))), HB.out⟩
  · have g0 : ((i : Int) == 0) = false := by simp; omega
    rw [if_neg hi0]
    by_cases hl0 : i = l
    · subst hl0
      have g1 : decide ((i : Int) < (i : Int)) = false := by simp
      rw [if_neg (Nat.lt_irrefl i), if_pos rfl]
      go_enter Try.func98, Try.ntmps98
      go_wp2_with fail
      go_ret
      exact ⟨rfl, HB.out⟩
    · have g1 : decide ((i : Int) < (l : Int)) = true := by simp; omega
      have g3 : (i : Int) < (l : Int) := by omega
      have g2 : ((i : Int) == (l : Int)) = false := by simp; omega
      rw [if_neg hl0, if_pos (by omega)]
      go_enter Try.func98, Try.ntmps98
      go_wp2_with fail
      go_ret
      exact ⟨rfl, HB.out⟩

/-- A row of marks: strings. -/
def strsOf (ms : List (List UInt8)) : Array Value := (ms.map txt).toArray
set_option maxHeartbeats 1000000 in
theorem plainMark_any (op n : Int) (A : Option Addr) (l c : Nat) (b : Nat) (ms : List (List UInt8)) (i : Nat) (hi : i < ms.length) (w : World) (hr : Row w b 9 (strsOf ms)) :
    Calls Try.prog 101 #[.slice (some ⟨b, 0, none⟩) ms.length ms.length, .agg #[.int .i64 op, .int .i64 n, .slice A l c], .int .i64 (i : Int)] w (Gives (txt (ms.getD i [])) w) := by
  have HB := Lib.hid ((Below.refl w.heap.size w).alloc (Nat.le_refl _) (Obj.cells #[.int .i64 op, .int .i64 n, .slice A l c] 33))
  have hr1 := hr.alloc (Obj.cells #[.int .i64 op, .int .i64 n, .slice A l c] 33)
  have q0 : (w.alloc (Obj.cells #[.int .i64 op, .int .i64 n, .slice A l c] 33)).cell? ⟨b, i, none⟩ = some (txt (ms.getD i [])) := hr1.cell (by simp [strsOf, List.getD, List.getElem?_eq_getElem hi])
  generalize txt (ms.getD i []) = tx at *
  clear hr hr1
  go_enter Try.func101, Try.ntmps101
  go_wp2_with fail
  go_ret
  exact ⟨rfl, HB.out⟩

set_option maxHeartbeats 1000000 in
theorem letMark_any (op n : Int) (A : Option Addr) (l c i : Nat) (h : inVar n = true) (hi : i ≤ 2) (w : World) :
    Calls Try.prog 103 #[.agg #[], .agg #[.int .i64 op, .int .i64 n, .slice A l c], .int .i64 (i : Int)] w (Gives (txt (if i = 0 then [123] ++ letL 97 n ++ [61] else [[123], [59], [125]].getD i [])) w) := by
  have HE := Lib.hid (var_ext h)
  obtain ⟨n0, n1⟩ := inVar_true h
  have nw : IntKind.i64.wrap (n + 1) = n + 1 := by rw [IntKind.wrap_i64]; omega
  have hb0 := ((Below.refl w.heap.size w).alloc (Nat.le_refl _) (Obj.cells #[] 95)).alloc (by simp) (Obj.cells #[.int .i64 op, .int .i64 n, .slice A l c] 33)
  have HB := Lib.hid hb0
  by_cases hi0 : i = 0
  · subst hi0
    unfold txt
    rw [if_pos rfl]
    generalize letL 97 n = tx at *
    go_enter Try.func103, Try.ntmps103
    go_wp2_with fail
    go_ret
    exact ⟨congrArg (fun s => Ending.returned (Value.string s)) (by rw [HE.out]; exact ((congrArg (· ++ ByteArray.mk [61].toArray) (ByteArray.mk_append_mk [123] tx)).trans (ByteArray.mk_append_mk ([123] ++ tx) [61]))), HB.out⟩
  · have g0 : ((i : Int) == 0) = false := by simp; omega
    rw [if_neg hi0]
    have hr := Row.fresh ((w.alloc (Obj.cells #[] 95)).alloc (Obj.cells #[.int .i64 op, .int .i64 n, .slice A l c] 33)) 9 (strsOf [[123], [59], [125]])
    rw [World.size_alloc, World.size_alloc] at hr
    have HB2 := Lib.hid (hb0.alloc (by simp; omega) (Obj.cells (strsOf [[123], [59], [125]]) 9))
    have HC := Lib.hid (plainMark_any op n A l c (w.heap.size + 1 + 1) [[123], [59], [125]] i (by simp; omega) _ hr)
    obtain ⟨tx, htx⟩ : ∃ tx : List UInt8, tx = [[123], [59], [125]].getD i [] := ⟨_, rfl⟩
    rw [← htx] at HC ⊢
    clear htx hr hb0
    go_enter Try.func103, Try.ntmps103
    go_wp2_with fail
    refine HC.out.mono ?_
    rintro e w2 ⟨rfl, hb2⟩
    have HB3 := Lib.hid (HB2.out.trans (hb2.mono HB2.out.size))
    clear hb2
    unfold txt
    go_wp2
    go_ret
    exact ⟨rfl, HB3.out⟩
end Go.Proofs.Ytiefobkddckkbaa

namespace Go.Proofs.Ytiefobkddckkbaa
open Go.RowKit Go.Shelf
set_option maxRecDepth 100000

theorem strc_list (l : List UInt8) : Lib.strCells ⟨l.toArray⟩ = Lib.byteCells l := rfl
theorem size_list (l : List UInt8) : (⟨l.toArray⟩ : ByteArray).size = l.length := rfl
/-- The name of the method mark, off the program's own table of types. -/
noncomputable def markName : String := ((match Try.prog.underlying 68 with | some (.interface ms) => ms | _ => #[]).getD 1 (String.ofList [], 0)).1
theorem mark_num (s : String) (hs : s = markName) (w : World) : (method 240 90 (.agg #[]) s).run Try.prog w = .ok (79, .agg #[]) w := by subst hs; kernel_rfl
theorem mark_var (s : String) (hs : s = markName) (w : World) : (method 240 91 (.agg #[]) s).run Try.prog w = .ok (95, .agg #[]) w := by subst hs; kernel_rfl
theorem mark_call (s : String) (hs : s = markName) (w : World) : (method 240 92 (.agg #[]) s).run Try.prog w = .ok (98, .agg #[]) w := by subst hs; kernel_rfl
theorem mark_let (s : String) (hs : s = markName) (w : World) : (method 240 95 (.agg #[]) s).run Try.prog w = .ok (103, .agg #[]) w := by subst hs; kernel_rfl
theorem mark_plain (s : String) (hs : s = markName) (a : Option Addr) (l c : Nat) (w : World) : (method 240 94 (.slice a l c) s).run Try.prog w = .ok (101, .slice a l c) w := by subst hs; kernel_rfl

/-- A node's own fields are those of its kind. -/
def mokOwn (op n : Int) (l : Nat) : Bool := kidsOk op l && (if op = 1 then decide (0 ≤ n) && decide (n ≤ 99) else if op = 2 ∨ op = 3 ∨ op = 7 then inVar n else true)
def mokF : Fo → Bool
  | .nil => true
  | .cons op n k r => (mokOwn op n k.len && mokF k) && mokF r
def mokN (op n : Int) (k : Fo) : Bool := mokOwn op n k.len && mokF k
theorem mokF_cons {f : Fo} {op n : Int} {k r : Fo} (e : f = .cons op n k r) : mokF f = (mokN op n k && mokF r) := by subst e; rfl
theorem mok_own {op n : Int} {l : Nat} {S : Nat → Bool} (hk : kidsOk op l = true) (ho : ownOk op n S = true) : mokOwn op n l = true := by
  unfold mokOwn
  rw [hk, Bool.true_and]
  unfold ownOk at ho
  by_cases h1 : op = 1
  · rw [if_pos h1] at ho ⊢; exact ho
  · rw [if_neg h1] at ho ⊢
    by_cases h2 : op = 2
    · rw [if_pos h2, Bool.and_eq_true] at ho
      rw [if_pos (by omega)]; exact ho.1
    · rw [if_neg h2] at ho
      by_cases h3 : op = 7 ∨ op = 3
      · rw [if_pos h3] at ho
        rw [if_pos (by omega)]; exact ho
      · rw [if_neg (by omega)]
theorem mok_shape : ∀ (f : Fo) (op n : Int) (i : Nat) (S : Nat → Bool) (d : Nat), shapeF op n i S d f = true → mokF f = true
  | .nil, _, _, _, _, _, _ => rfl
  | .cons o m k r, op, n, i, S, d, h => by
    simp only [shapeF, Bool.and_eq_true] at h
    obtain ⟨⟨⟨⟨_, h2⟩, h3⟩, h4⟩, h5⟩ := h
    rw [mokF_cons rfl, mok_shape r op n (i + 1) S d h5, Bool.and_true]
    unfold mokN
    rw [mok_own h2 h3, mok_shape k o m 0 _ _ h4]; rfl
theorem mok_is {op n : Int} {k : Fo} {S : Nat → Bool} (h : nodeIs op n k S = true) : mokN op n k = true := by
  unfold nodeIs nodeShape at h
  simp only [Bool.and_eq_true] at h
  obtain ⟨⟨⟨⟨_, h2⟩, h3⟩, h4⟩, _⟩ := h
  unfold mokN
  rw [mok_own h2 h3, mok_shape k op n 0 S _ h4]; rfl
theorem mok_kid : ∀ {k : Fo} {j : Nat} {o m : Int} {k' r : Fo}, mokF k = true → k.drop j = .cons o m k' r → mokN o m k' = true
  | .nil, j, _, _, _, _, _, h => by rw [Fo.drop_nil] at h; cases h
  | .cons o' m' k2 r2, 0, o, m, k', r, hs, h => by
    simp only [Fo.drop, Fo.cons.injEq] at h
    obtain ⟨rfl, rfl, rfl, rfl⟩ := h
    rw [mokF_cons rfl, Bool.and_eq_true] at hs
    exact hs.1
  | .cons o' m' k2 r2, j + 1, o, m, k', r, hs, h => by
    rw [mokF_cons rfl, Bool.and_eq_true] at hs
    exact mok_kid hs.2 (by simpa [Fo.drop] using h)
theorem mok_txt : ∀ (k : Fo), mokF k = true → okF k = true
  | .nil, _ => rfl
  | .cons op n k r, h => by
    rw [mokF_cons rfl] at h
    unfold mokN at h
    simp only [Bool.and_eq_true] at h
    rw [okF_cons rfl, mok_txt r h.2, Bool.and_true]
    unfold okT
    rw [mok_txt k h.1.2, Bool.and_true]
    exact mok_ownT h.1.1
where
  mok_ownT {op n : Int} {l : Nat} (h : mokOwn op n l = true) : ownTxt op n l = true := by
    unfold mokOwn at h
    rw [Bool.and_eq_true] at h
    obtain ⟨h1, h2⟩ := h
    have h9 : op = 1 ∨ op = 2 ∨ op = 3 ∨ op = 4 ∨ op = 5 ∨ op = 6 ∨ op = 7 ∨ op = 8 ∨ op = 9 := by unfold kidsOk at h1; grind
    rcases h9 with e | e | e | e | e | e | e | e | e <;> subst e <;> simp [kidsOk, inVar] at h1 h2 <;> simp [ownTxt] <;> omega

/-- What is written in front of the operand j, with the operands before it. -/
def pre (op n : Int) (ts : List (List UInt8)) : Nat → List UInt8
  | 0 => []
  | j + 1 => pre op n ts j ++ (markL op n ts.length j ++ ts.getD j [])
theorem pre_inter (op n : Int) (ts : List (List UInt8)) : ∀ j, j ≤ ts.length → inter op n ts.length 0 ts = pre op n ts j ++ inter op n ts.length j (ts.drop j)
  | 0, _ => by simp [pre]
  | j + 1, h => by
    rw [pre_inter op n ts j (by omega)]
    rw [show ts.drop j = ts.getD j [] :: ts.drop (j + 1) by rw [List.drop_eq_getElem_cons (by omega)]; simp [List.getD, List.getElem?_eq_getElem (show j < ts.length by omega)]]
    simp only [inter, pre, List.append_assoc]

/-- What formOf has answered with, at a node of n with len operands: its method mark. -/
def FormIs (op n : Int) (len : Nat) (T : TypeId) (x : Value) (f : Nat) (w' : World) : Prop :=
  (∀ s, s = markName → ∀ V, (method 240 T x s).run Try.prog V = .ok (f, x) V) ∧ (∀ args V, (callFunc f args).run Try.prog V = .ok (.enter f args) V) ∧
  ∀ V, KeepsR w' V → ∀ (i : Nat) (A : Option Addr) (c : Nat), i ≤ len → Calls Try.prog f #[x, .agg #[.int .i64 op, .int .i64 n, .slice A len c], .int .i64 (i : Int)] V (Gives (txt (markL op n len i)) V)

theorem form_any (op n : Int) (len : Nat) (h : mokOwn op n len = true) (w : World) :
    Calls Try.prog 37 #[.int .i64 op] w (fun e w' => ∃ T x f, e = .returned (.tuple #[.iface T x, .bool true]) ∧ Below w.heap.size w w' ∧ FormIs op n len T x f w') := by
  unfold mokOwn at h
  rw [Bool.and_eq_true] at h
  obtain ⟨h1, h2⟩ := h
  have h9 : op = 1 ∨ op = 2 ∨ op = 3 ∨ op = 7 ∨ isPlain op := by unfold kidsOk at h1; unfold isPlain; grind
  rcases h9 with e | e | e | e | e
  · subst e
    refine (formOf_1 w).mono ?_
    rintro e w' ⟨rfl, hb⟩
    simp only [if_pos, Bool.and_eq_true, decide_eq_true_eq] at h2
    exact ⟨_, _, _, rfl, hb, fun s hs V => mark_num s hs V, enters_of Try.func79 (by kernel_rfl) rfl, fun V _ i A c _ => numMark_any 1 n A len c i h2.1 h2.2 V⟩
  · subst e
    refine (formOf_2 w).mono ?_
    rintro e w' ⟨rfl, hb⟩
    have hv : inVar n = true := by simpa using h2
    exact ⟨_, _, _, rfl, hb, fun s hs V => mark_var s hs V, enters_of Try.func95 (by kernel_rfl) rfl, fun V _ i A c _ => varMark_any 2 n A len c i hv V⟩
  · subst e
    refine (formOf_3 w).mono ?_
    rintro e w' ⟨rfl, hb⟩
    have hv : inVar n = true := by simpa using h2
    have hl : len ≤ 3 := by simpa [kidsOk] using h1
    exact ⟨_, _, _, rfl, hb, fun s hs V => mark_call s hs V, enters_of Try.func98 (by kernel_rfl) rfl, fun V _ i A c hi => callMark_any 3 n A len c i hv hi (by unfold maxLen; omega) V⟩
  · subst e
    refine (formOf_7 w).mono ?_
    rintro e w' ⟨rfl, hb⟩
    have hv : inVar n = true := by simpa using h2
    have hl : len = 2 := by simpa [kidsOk] using h1
    exact ⟨_, _, _, rfl, hb, fun s hs V => mark_let s hs V, enters_of Try.func103 (by kernel_rfl) rfl, fun V _ i A c hi => letMark_any 7 n A len c i hv (by omega) V⟩
  · have hpl : len + 1 = (plainM op).length := by
      rcases e with e | e | e | e | e <;> subst e <;> simp [kidsOk] at h1 <;> simp [plainM, h1]
    have hm : ∀ i, markL op n len i = (plainM op).getD i [] := fun i => by
      rcases e with e | e | e | e | e <;> subst e <;> simp [markL]
    have key : ∀ w', Row w' w.heap.size 9 (strsOf (plainM op)) → FormIs op n len 94 (.slice (some ⟨w.heap.size, 0, none⟩) (plainM op).length (plainM op).length) 101 w' := fun w' hr =>
      ⟨fun s hs V => mark_plain s hs _ _ _ V, enters_of Try.func101 (by kernel_rfl) rfl, fun V hV i A c hi => by
        rw [hm]
        exact plainMark_any op n A len c w.heap.size (plainM op) i (by omega) V (hV.2 _ _ _ (by decide) (by decide) hr)⟩
    have hr0 := Row.fresh w 9 (strsOf (plainM op))
    have hb0 := (Below.refl w.heap.size w).alloc (Nat.le_refl _) (Obj.cells (strsOf (plainM op)) 9)
    have KEY := Lib.hid (key _ hr0)
    have HB := Lib.hid hb0
    clear key hr0 hb0 hm hpl h1 h2
    rcases e with e | e | e | e | e <;> subst e
    all_goals
      go_enter Try.func37, Try.ntmps37
      go_wp2
      go_ret2
      exact ⟨_, _, _, rfl, HB.out, KEY.out⟩

theorem txt_pre {op n : Int} {k : Fo} (h : mokOwn op n k.len = true) : txtN op n k = pre op n (txtF k) k.len ++ markL op n k.len k.len := by
  have hl := txtF_len k
  have hk : kidsOk op k.len = true := by unfold mokOwn at h; rw [Bool.and_eq_true] at h; exact h.1
  have h1 := inter_is (n := n) (txtF k) (by rw [hl]; exact hk)
  have h2 := pre_inter op n (txtF k) (txtF k).length (Nat.le_refl _)
  unfold txtN
  rw [← h1, h2, List.drop_length, hl]
  rfl
theorem txt_step {op n : Int} {k : Fo} (j : Nat) {o m : Int} {k' : Fo} (e : k.drop j = .cons o m k' (k.drop (j + 1))) : pre op n (txtF k) (j + 1) = pre op n (txtF k) j ++ (markL op n k.len j ++ txtN o m k') := by
  rw [pre, txtF_len, txtF_at e]
theorem txt_fits {op n : Int} {k : Fo} (h : mokOwn op n k.len = true) {j : Nat} (hj : j ≤ k.len) : (pre op n (txtF k) j).length ≤ (txtN op n k).length := by
  have hl := txtF_len k
  have hk : kidsOk op k.len = true := by unfold mokOwn at h; rw [Bool.and_eq_true] at h; exact h.1
  have h1 := inter_is (n := n) (txtF k) (by rw [hl]; exact hk)
  have h2 := pre_inter op n (txtF k) j (by omega)
  unfold txtN
  rw [← h1, h2, List.length_append]
  omega

def WrPost (B b : Nat) (bs : List UInt8) (w : World) (e : Ending) (w' : World) : Prop :=
  e = .returned (.tuple #[]) ∧ BldAt B b (.pointer (some ⟨b, 0, none⟩)) (Lib.byteCells bs) w' ∧ Below B w w' ∧ KeepsR w w'
def WrAt (B b s : Nat) : Prop := ∀ (op n : Int) (k : Fo) (A : Option Addr) (c : Nat) (bs : List UInt8) (w : World), k.size < s → mokN op n k = true → Lies w 0 B A 0 k → IsBld B b (Lib.byteCells bs) w → bs.length + (txtN op n k).length ≤ 100000000 →
  Calls Try.prog 29 #[.pointer (some ⟨b, 0, none⟩), .agg #[.int .i64 op, .int .i64 n, .slice A k.len c]] w (WrPost B b (bs ++ txtN op n k) w)

theorem IsBld.lt {B b : Nat} {bs : List Value} {w : World} (h : IsBld B b bs w) : b < w.heap.size ∧ B ≤ b := by
  rcases h with h | h
  · exact ⟨Lib.BuilderAt.lt h, h.1⟩
  · exact ⟨Lib.BuilderAt.lt h, h.1⟩
theorem isBld_below {B b : Nat} {bs : List Value} {w w' : World} (h : IsBld B b bs w) (hb : Below w.heap.size w w') : IsBld B b bs w' := by
  rcases h with h | h
  · exact .inl (bld_below h hb)
  · exact .inr (bld_below h hb)

set_option maxHeartbeats 4000000 in
theorem wr_any (B b : Nat) : ∀ s, WrAt B b s := by
  intro s
  induction s with
  | zero => intro op n k A c bs w hs; omega
  | succ s ih =>
  intro op n k A c bs w hs hok hl hbd hlen
  have hm : mokOwn op n k.len = true ∧ mokF k = true := by unfold mokN at hok; rwa [Bool.and_eq_true] at hok
  obtain ⟨hown, hkids⟩ := hm
  have hl3 : k.len ≤ 3 := by
    unfold mokOwn kidsOk at hown
    rw [Bool.and_eq_true] at hown
    have := hown.1
    grind
  obtain ⟨hbs, hBb⟩ := IsBld.lt hbd
  obtain ⟨W1, hW1⟩ : ∃ W, W = w.alloc (Obj.cells #[.int .i64 op, .int .i64 n, .slice A k.len c] 33) := ⟨_, rfl⟩
  have hb1 : Below w.heap.size w W1 := by rw [hW1]; exact (Below.refl _ _).alloc (Nat.le_refl _) _
  have hx1 : Row W1 w.heap.size 33 #[.int .i64 op, .int .i64 n, .slice A k.len c] := by rw [hW1]; exact Row.fresh _ _ _
  have HIS1 := Lib.hid (isBld_below hbd hb1)
  have HF := Lib.hid (form_any op n k.len hown W1)
  have HX1 := Lib.hid hx1
  have HB1 := Lib.hid (hb1.mono (show B ≤ w.heap.size by omega))
  have HK1 := Lib.hid (KeepsR.of_below hb1)
  have HL := Lib.hid hl
  have HOWN := Lib.hid hown
  have HKIDS := Lib.hid hkids
  have HLEN := Lib.hid hlen
  have IH := Lib.hid ih
  have HEND := Lib.hid (txt_pre hown)
  have HFIT := Lib.hid (fun j (hj : j ≤ k.len) => txt_fits hown hj)
  obtain ⟨q0, q1, q2⟩ := (show W1.cell? ⟨w.heap.size, 0, none⟩ = some (.int .i64 op) ∧ W1.cell? ⟨w.heap.size, 1, none⟩ = some (.int .i64 n) ∧ W1.cell? ⟨w.heap.size, 2, none⟩ = some (.slice A k.len c) from ⟨hx1.cell rfl, hx1.cell rfl, hx1.cell rfl⟩)
  clear hb1 hx1 hl hown hkids hlen ih hbd hok
  go_enter Try.func29, Try.ntmps29
  go_upto_region 1 with fail
  rw [← hW1]
  clear hW1
  go_wp2_with fail
  refine HF.out.mono ?_
  rintro e W2 ⟨T, x, f, rfl, hb2, hform⟩
  have HM := Lib.hid hform.1
  have HEN := Lib.hid hform.2.1
  have HMK := Lib.hid hform.2.2
  have HX2 := Lib.hid (HX1.out.below hb2 HX1.out.size)
  have HIS2 := Lib.hid (isBld_below HIS1.out hb2)
  have HB2 := Lib.hid (HB1.out.trans (hb2.mono (by have := HX1.out.size; omega)))
  have HK2 := Lib.hid (HK1.out.trans (KeepsR.of_below hb2))
  clear hb2 hform q0 q1 q2 HF HX1 HIS1 HB1 HK1
  have HQ := Lib.hid (show ∀ V, KeepsR W2 V → V.cell? ⟨w.heap.size, 0, none⟩ = some (.int .i64 op) ∧ V.cell? ⟨w.heap.size, 1, none⟩ = some (.int .i64 n) ∧ V.cell? ⟨w.heap.size, 2, none⟩ = some (.slice A k.len c) from fun V hV => by
    have h := hV.2 _ _ _ (by decide) (by decide) HX2.out
    exact ⟨h.cell rfl, h.cell rfl, h.cell rfl⟩)
  obtain ⟨q0, q1, q2⟩ := HQ.out W2 (KeepsR.refl _)
  go_wp2_with fail
  clear q0 q1 q2
  go_loopw [19] (fun i wr => ∃ (j : Nat), j ≤ k.len ∧ i = .int .i64 j ∧ IsBld B b (Lib.byteCells (bs ++ pre op n (txtF k) j)) wr ∧ KeepsR W2 wr ∧ Below B w wr)
    (fun i _ => k.len - (intOf i).toNat)
  case atStart => exact ⟨0, Nat.zero_le _, rfl, by simpa [pre] using HIS2.out, KeepsR.refl _, HB2.out⟩
  case round =>
    clear HIS2 HB2
    obtain ⟨j, hj, rfl, his, hk, hb⟩ := hrel
    have HIS := Lib.hid his
    have HK := Lib.hid hk
    have HB := Lib.hid hb
    by_cases hlt : j < k.len
    · obtain ⟨op', n', k', e1, e2, e3⟩ := Fo.drop_of_lt k j hlt
      have hj' := (HL.out.below hb).at_ j
      rw [Nat.zero_add, e1] at hj'
      obtain ⟨⟨b2, o, A', c', hA, _, hb2, i1, i2, g1, g2, g3, h1, h2, h3⟩, _⟩ := hj'
      subst hA
      have HST := Lib.hid (txt_step (op := op) (n := n) j e1)
      have HFJ := Lib.hid (HFIT.out (j + 1) hlt)
      have HMO := Lib.hid (mok_kid HKIDS.out e1)
      have HL3 := Lib.hid h3
      obtain ⟨V1, hV1⟩ : ∃ V, V = wr.alloc (Obj.cells #[.int .i64 op', .int .i64 n', .slice A' k'.len c'] 33) := ⟨_, rfl⟩
      have hv1 : Below wr.heap.size wr V1 := by rw [hV1]; exact (Below.refl _ _).alloc (Nat.le_refl _) _
      have hx1 : Row V1 wr.heap.size 33 #[.int .i64 op', .int .i64 n', .slice A' k'.len c'] := by rw [hV1]; exact Row.fresh _ _ _
      obtain ⟨hlb, hlB⟩ := IsBld.lt his
      have HX1 := Lib.hid hx1
      have HIS1 := Lib.hid (isBld_below his hv1)
      have HK1 := Lib.hid (hk.trans (KeepsR.of_below hv1))
      have HB1 := Lib.hid (hb.trans (hv1.mono (by omega)))
      have HR1 := Lib.hid (hv1.mono (show B ≤ wr.heap.size by omega))
      clear his hk hb hv1 hx1 e1 h3 HIS HK HB
      go_upto_region 6 with fail
      rw [← hV1]
      clear hV1 g1 g2 g3
      obtain ⟨q0, q1, q2⟩ := HQ.out V1 HK1.out
      go_wp2_with fail
      rw [HM.out]
      case a => kernel_rfl
      go_wp2_with fail
      rw [HEN.out]
      go_wp2_with fail
      refine (HMK.out V1 HK1.out j _ c hj).mono ?_
      rintro e w4 ⟨rfl, hb4⟩
      have HIS4 := Lib.hid (isBld_below HIS1.out hb4)
      have HX4 := Lib.hid (HX1.out.below hb4 HX1.out.size)
      have HK4 := Lib.hid (HK1.out.trans (KeepsR.of_below hb4))
      have HB4 := Lib.hid (HB1.out.trans (hb4.mono (by have := (IsBld.lt HIS1.out); omega)))
      have HR4 := Lib.hid (HR1.out.trans (hb4.mono (by have := (IsBld.lt HIS1.out); omega)))
      have hWR := write_any B b (Lib.byteCells (bs ++ pre op n (txtF k) j)) ⟨(markL op n k.len j).toArray⟩ w4 HIS4.out
        (by
          have h1 := HFJ.out
          have h2 := HLEN.out
          rw [HST.out, List.length_append, List.length_append] at h1
          rw [Lib.byteCells_length, List.length_append, size_list]
          omega)
        (by have := (IsBld.lt HIS4.out); omega)
      rw [strc_list, ← Lib.byteCells_append] at hWR
      have HWR := Lib.hid hWR
      clear hb4 hWR q0 q1 q2 HIS1 HX1 HK1 HB1
      unfold txt
      go_wp2_with fail
      refine HWR.out.mono ?_
      rintro e w5 ⟨rfl, hbd5, hb5, hk5⟩
      have hx5 := hk5.2 _ _ _ (by decide) (by decide) HX4.out
      have HK5 := Lib.hid (HK4.out.trans hk5)
      have HB5 := Lib.hid (HB4.out.trans hb5)
      have hIH := IH.out op' n' k' A' c' (bs ++ pre op n (txtF k) j ++ markL op n k.len j) w5 (by omega) HMO.out (HL3.out.below (HR4.out.trans hb5)) (by rw [List.append_assoc] at hbd5 ⊢; exact .inr hbd5)
        (by
          have h1 := HFJ.out
          have h2 := HLEN.out
          rw [HST.out, List.length_append, List.length_append] at h1
          rw [List.length_append, List.length_append]
          omega)
      rw [show bs ++ pre op n (txtF k) j ++ markL op n k.len j ++ txtN op' n' k' = bs ++ pre op n (txtF k) (j + 1) by rw [HST.out]; simp only [List.append_assoc]] at hIH
      have HIH := Lib.hid hIH
      obtain ⟨q0, q1, q2⟩ := (show w5.cell? ⟨wr.heap.size, 0, none⟩ = some (.int .i64 op') ∧ w5.cell? ⟨wr.heap.size, 1, none⟩ = some (.int .i64 n') ∧ w5.cell? ⟨wr.heap.size, 2, none⟩ = some (.slice A' k'.len c') from ⟨hx5.cell rfl, hx5.cell rfl, hx5.cell rfl⟩)
      clear hIH hbd5 hb5 hk5 hx5 HWR HIS4 HX4 HK4 HB4 HR1 HR4
      go_wp2_with fail
      refine HIH.out.mono ?_
      rintro e w6 ⟨rfl, hbd6, hb6, hk6⟩
      have HK6 := Lib.hid (HK5.out.trans hk6)
      have HB6 := Lib.hid (HB5.out.trans hb6)
      have HBD6 := Lib.hid hbd6
      clear hbd6 hb6 hk6 q0 q1 q2 HIH HK5 HB5
      go_wp2
      go_roundw
      case rel => exact ⟨j + 1, hlt, by go_num, .inr HBD6.out, HK6.out, HB6.out⟩
      case measure => simp [intOf]; omega
    · have e9 : j = k.len := by omega
      subst e9
      obtain ⟨q0, q1, q2⟩ := HQ.out wr HK.out
      have HL1 := Lib.hid (IsBld.lt his)
      clear his hk hb
      go_wp2_with fail
      rw [HM.out]
      case a => kernel_rfl
      go_wp2_with fail
      rw [HEN.out]
      go_wp2_with fail
      refine (HMK.out wr HK.out k.len _ c (Nat.le_refl _)).mono ?_
      rintro e w4 ⟨rfl, hb4⟩
      have HIS4 := Lib.hid (isBld_below HIS.out hb4)
      have HK4 := Lib.hid (HK.out.trans (KeepsR.of_below hb4))
      have HB4 := Lib.hid (HB.out.trans (hb4.mono (by have := HL1.out; omega)))
      have hWR := write_any B b (Lib.byteCells (bs ++ pre op n (txtF k) k.len)) ⟨(markL op n k.len k.len).toArray⟩ w4 HIS4.out
        (by
          have h1 := congrArg List.length HEND.out
          have h2 := HLEN.out
          rw [List.length_append] at h1
          rw [Lib.byteCells_length, List.length_append, size_list]
          omega)
        (by have := (IsBld.lt HIS4.out); omega)
      rw [strc_list, ← Lib.byteCells_append, show bs ++ pre op n (txtF k) k.len ++ markL op n k.len k.len = bs ++ txtN op n k by rw [HEND.out, List.append_assoc]] at hWR
      have HWR := Lib.hid hWR
      clear hb4 hWR q0 q1 q2
      unfold txt
      go_wp2_with fail
      refine HWR.out.mono ?_
      rintro e w5 ⟨rfl, hbd5, hb5, hk5⟩
      have HE := Lib.hid (And.intro hbd5 (And.intro (HB4.out.trans hb5) (HK2.out.trans (HK4.out.trans hk5))))
      clear hbd5 hb5 hk5
      go_wp2
      go_end0
      exact ⟨rfl, HE.out.1, HE.out.2.1, HE.out.2.2⟩
end Go.Proofs.Ytiefobkddckkbaa

namespace Go.Proofs.Ytiefobkddckkbaa
open Go.RowKit Go.Shelf
set_option maxRecDepth 100000

def fmtL (op n : Int) (k : Fo) : List UInt8 := if nodeIs op n k (firstS 8) = true then txtN op n k else []
theorem node_size {op n : Int} {k : Fo} {S : Nat → Bool} (h : nodeIs op n k S = true) : k.size ≤ 79 := by
  unfold nodeIs at h
  rw [Bool.and_eq_true, decide_eq_true_eq] at h
  omega
theorem txtN_ne (op n : Int) (k : Fo) : txtN op n k ≠ [] := by
  unfold txtN txtOf decL letL
  repeat' split
  all_goals simp
theorem fmtL_nil (op n : Int) (k : Fo) : (fmtL op n k = []) ↔ nodeIs op n k (firstS 8) = false := by
  unfold fmtL
  split
  · rename_i h
    rw [h]
    simp [txtN_ne]
  · rename_i h
    simpa using h
/-- A text is empty, or it is not: as the walk asks. -/
theorem fmt_empty (op n : Int) (k : Fo) : ∃ s : ByteArray, (⟨(fmtL op n k).toArray⟩ : ByteArray) = s ∧ (nodeIs op n k (firstS 8) = false → s = ⟨#[]⟩) ∧ (nodeIs op n k (firstS 8) = true → ¬ s.toList = []) := by
  refine ⟨_, rfl, fun h => ?_, fun h h2 => ?_⟩
  · rw [(fmtL_nil op n k).2 h]
  · rw [ByteArray.toList_mk, fmtL_nil, h] at h2
    cases h2
theorem fmtL_len (op n : Int) (k : Fo) : (fmtL op n k).length ≤ 500 := by
  unfold fmtL
  split
  · rename_i h
    have := node_size h
    have := txtN_len op n k
    omega
  · simp

set_option maxHeartbeats 2000000 in
theorem implFmt_any (op n : Int) (k : Fo) (A : Option Addr) (c : Nat) (w : World) (hl : Lies w 0 w.heap.size A 0 k) (hlen : k.len ≤ maxLen) :
    Calls Try.prog 16 #[.agg #[.int .i64 op, .int .i64 n, .slice A k.len c]] w (Gives (txt (fmtL op n k)) w) := by
  obtain ⟨hb1, hr1⟩ := one_box w 33 #[Value.int IntKind.i64 op, Value.int IntKind.i64 n, Value.slice A k.len c]
  have HA := Lib.hid (validOpen_any op n k A c _ (hl.up hb1) hlen)
  have q0 := hr1.cell (i := 0) rfl
  have q1 := hr1.cell (i := 1) rfl
  have q2 := hr1.cell (i := 2) rfl
  have HB1 := Lib.hid hb1
  have HR1 := Lib.hid hr1
  have HL := Lib.hid hl
  clear hb1 hr1 hl
  unfold fmtL
  cases hv : nodeIs op n k (firstS 8) with
  | false =>
    rw [hv] at HA
    rw [if_neg (by simp)]
    clear hv
    go_enter Try.func16, Try.ntmps16
    go_wp2_with fail
    refine HA.out.mono ?_
    rintro e w2 ⟨rfl, hb2⟩
    have HB2 := Lib.hid (HB1.out.trans (hb2.mono HB1.out.size))
    clear hb2 HA HB1 HR1 q0 q1 q2
    unfold txt
    go_wp2
    go_ret
    exact ⟨rfl, HB2.out⟩
  | true =>
    rw [hv] at HA
    rw [if_pos rfl]
    have HMK := Lib.hid (mok_is hv)
    have HSZ := Lib.hid (show ([] : List UInt8).length + (txtN op n k).length ≤ 100000000 by
      have := node_size hv
      have := txtN_len op n k
      simp only [List.length_nil]
      omega)
    clear hv
    go_enter Try.func16, Try.ntmps16
    go_wp2_with fail
    refine HA.out.mono ?_
    rintro e w2 ⟨rfl, hb2⟩
    have HR2 := Lib.hid (HR1.out.below hb2 HR1.out.size)
    have HB2 := Lib.hid (HB1.out.trans (hb2.mono HB1.out.size))
    obtain ⟨V, hV⟩ : ∃ V, V = w2.alloc (Obj.cells #[.pointer none, .slice none 0 0] 59) := ⟨_, rfl⟩
    have hbv : Below w2.heap.size w2 V := by rw [hV]; exact (Below.refl _ _).alloc (Nat.le_refl _) _
    have his : IsBld w2.heap.size w2.heap.size (Lib.byteCells []) V := by rw [hV]; exact Lib.fresh_isBuilder 59 5 w2
    have hwr := wr_any w2.heap.size w2.heap.size (k.size + 1) op n k A c [] V (by omega) HMK.out ((HL.out.below (HB2.out.trans (hbv.mono HB2.out.size))).mono_ (Nat.le_refl _) HB2.out.size) his HSZ.out
    have HWR := Lib.hid hwr
    have HR3 := Lib.hid (HR2.out.below hbv HR2.out.size)
    have HBV := Lib.hid hbv
    clear hb2 HA HB1 HR1 q0 q1 q2 hbv his hwr
    go_upto_region 4 with fail
    rw [← hV]
    clear hV
    have z0 := HR3.out.cell (i := 0) rfl
    have z1 := HR3.out.cell (i := 1) rfl
    have z2 := HR3.out.cell (i := 2) rfl
    go_wp2_with fail
    refine HWR.out.mono ?_
    rintro e w3 ⟨rfl, hbd, hb3, hk3⟩
    have HS := Lib.hid (Try.Builder_String_any w2.heap.size w2.heap.size ([] ++ txtN op n k) w3 (.inr hbd) (Nat.le_of_lt (Lib.BuilderAt.lt hbd)))
    have HB3 := Lib.hid (HB2.out.trans ((HBV.out.trans hb3).mono HB2.out.size))
    clear hbd hb3 hk3 z0 z1 z2 HWR
    rw [List.nil_append] at HS
    go_wp2_with fail
    refine HS.out.mono ?_
    rintro e w4 ⟨rfl, hb4⟩
    have HB4 := Lib.hid (HB3.out.trans (hb4.mono HB2.out.size))
    clear hb4
    unfold txt
    go_wp2
    go_ret
    exact ⟨rfl, HB4.out⟩

theorem implFmt_t (op n : Int) (k : Fo) (A : Option Addr) (c : Nat) (w : World) (hl : Lies w 0 w.heap.size A 0 k) (hlen : k.len ≤ maxLen) :
    Calls Try.prog 16 #[.agg #[.int .i64 op, .int .i64 n, .slice A k.len c]] w (Gives (.string ⟨(fmtL op n k).toArray⟩) w) := implFmt_any op n k A c w hl hlen
end Go.Proofs.Ytiefobkddckkbaa
