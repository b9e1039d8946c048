/-
  impl.defsByName: the first function with each name, in a map.
-/
import Derived.Test.YtbpcggbmlaomjaaFit
import Derived.Test.YtbpcggbmlaomjaaImap
import Derived.Test.YtbpcggbmlaomjaaVars
namespace Go.Proofs.Ytbpcggbmlaomjaa
open Go.RowKit
set_option maxRecDepth 100000

def valD (d : De) (A : Option Addr) (c : Nat) : Value := .agg #[.int .i64 d.nm, .int .i64 d.ar, .bool d.old, .int .i64 d.op, .int .i64 d.n, .slice A d.k.len c]

/-- The entries are the first functions with their names. -/
def EntOk (w : World) (L B : Nat) (ds : List De) (es : IEnts) : Prop :=
  (∀ x d, inVar x = true → fnd x ds = some d → ∃ A c, ilook es x = some (valD d A c) ∧ Lies w L B A 0 d.k ∧ d.k.len ≤ c ∧ c ≤ maxLen) ∧
  (∀ x, inVar x = false ∨ fnd x ds = none → ilook es x = none)
theorem EntOk.below {w w' : World} {L B : Nat} {ds : List De} {es : IEnts} (h : EntOk w L B ds es) (hb : Below B w w') : EntOk w' L B ds es :=
  ⟨fun x d h1 h2 => let ⟨A, c, a, b, e⟩ := h.1 x d h1 h2; ⟨A, c, a, b.below hb, e⟩, h.2⟩
theorem EntOk.nil (w : World) (L B : Nat) (ds : List De) : EntOk w L B (ds.take 0) [] := ⟨fun x d _ h => by simp [fnd] at h, fun _ _ => rfl⟩
/-- A name that is there already, or that is no function. -/
theorem EntOk.skip {w : World} {L B j : Nat} {ds : List De} {d : De} {es : IEnts} (h : EntOk w L B (ds.take j) es) (hd : ds[j]? = some d) (hk : ilook es d.nm ≠ none ∨ inVar d.nm = false) : EntOk w L B (ds.take (j + 1)) es := by
  have hf := fun x => fnd_take (x := x) hd
  refine ⟨fun x e h1 h2 => ?_, fun x hx => ?_⟩
  · rw [hf x] at h2
    cases h3 : fnd x (ds.take j) with
    | some e' =>
      rw [h3] at h2
      simp at h2
      subst h2
      exact h.1 x e' h1 h3
    | none =>
      rw [h3] at h2
      by_cases hn : d.nm = x
      · rcases hk with hk | hk
        · exact absurd (h.2 d.nm (.inr (by rw [hn]; exact h3))) hk
        · rw [hn, h1] at hk; cases hk
      · simp [hn] at h2
  · rcases hx with hx | hx
    · exact h.2 x (.inl hx)
    · rw [hf x] at hx
      cases h3 : fnd x (ds.take j) with
      | some e' => rw [h3] at hx; simp at hx
      | none => exact h.2 x (.inr h3)
/-- A new name. -/
theorem EntOk.add {w : World} {L B j : Nat} {ds : List De} {d : De} {es : IEnts} {A : Option Addr} {c : Nat} (h : EntOk w L B (ds.take j) es) (hd : ds[j]? = some d) (hk : ilook es d.nm = none) (hv : inVar d.nm = true)
    (hl : Lies w L B A 0 d.k) (h1 : d.k.len ≤ c) (h2 : c ≤ maxLen) : EntOk w L B (ds.take (j + 1)) (es ++ [(d.nm, valD d A c)]) := by
  have hf := fun x => fnd_take (x := x) hd
  have hno : fnd d.nm (ds.take j) = none := by
    cases h3 : fnd d.nm (ds.take j) with
    | none => rfl
    | some e =>
      obtain ⟨A', c', h4, _⟩ := h.1 d.nm e hv h3
      rw [hk] at h4
      cases h4
  refine ⟨fun x e g1 g2 => ?_, fun x hx => ?_⟩
  · rw [hf x] at g2
    rw [ilook_snoc]
    by_cases hn : d.nm = x
    · subst hn
      rw [hno] at g2
      simp at g2
      subst g2
      exact ⟨A, c, by simp [hk], hl, h1, h2⟩
    · rw [if_neg hn] at g2
      simp at g2
      obtain ⟨A', c', h4, h5⟩ := h.1 x e g1 g2
      exact ⟨A', c', by rw [h4]; rfl, h5⟩
  · rw [ilook_snoc]
    by_cases hn : d.nm = x
    · subst hn
      rcases hx with hx | hx
      · rw [hv] at hx; cases hx
      · rw [hf, hno] at hx
        simp at hx
    · rw [if_neg hn]
      have : ilook es x = none := by
        refine h.2 x ?_
        rcases hx with hx | hx
        · exact .inl hx
        · rw [hf x, if_neg hn] at hx
          exact .inr (by simpa using hx)
      rw [this]; rfl

theorem makeMap8_run (W : World) : (Instr.makeMap 73 (some (.int .i64 8))).run Try.prog W = .ok (.map (some W.heap.size)) (W.alloc (.map #[] 0)) := by kernel_rfl

/-- The post of defsByName: a new map. -/
def DefsPost (ds : List De) (L B : Nat) (w : World) (e : Ending) (w' : World) : Prop :=
  ∃ es, e = .returned (.map (some w.heap.size)) ∧ IM w' w.heap.size es ∧ EntOk w' L B ds es ∧ Below w.heap.size w w' ∧ w.heap.size < w'.heap.size

set_option maxHeartbeats 2000000 in
theorem defsByName_any (ds : List De) (A : Option Addr) (c : Nat) (w : World) (L B : Nat) (hl : LiesD w L B A ds) (hB : B ≤ w.heap.size) (hsz : ds.length ≤ 1048576) :
    Calls Try.prog 55 #[.slice A ds.length c] w (DefsPost ds L B w) := by
  have hmm := makeMap8_run
  have hm0 : IM (w.alloc (Obj.map #[] 0)) w.heap.size [] := ⟨#[], 0, heap_alloc_new _ _, rfl⟩
  have hb0 : Below w.heap.size w (w.alloc (Obj.map #[] 0)) := (Below.refl _ _).alloc (Nat.le_refl _) _
  go_enter Try.func55, Try.ntmps55
  go_wp2_with fail
  clear hmm
  go_loopw [11] (fun i wr => ∃ (j : Nat) (es : IEnts), j ≤ ds.length ∧ i = .int .i64 j ∧ IM wr w.heap.size es ∧ EntOk wr L B (ds.take j) es ∧ Below w.heap.size w wr ∧ w.heap.size < wr.heap.size)
    (fun i _ => ds.length - (intOf i).toNat)
  case atStart => exact ⟨0, [], by omega, rfl, hm0, EntOk.nil _ _ _ _, hb0, by simp⟩
  case round =>
    clear hm0 hb0
    obtain ⟨j, es, hj, rfl, hm, hent, hb, hlt0⟩ := hrel
    by_cases hlt : j < ds.length
    · have e1 := List.getElem?_eq_getElem hlt
      generalize ds[j] = d at e1
      obtain ⟨b, o, A', c', hA, hLb, hbB, hf, g1, g2, g3, g4, g5, g6, h7, h8, h9⟩ := hl.below (hb.mono hB) j d e1
      subst hA
      have hx := Below.refl wr.heap.size wr |>.alloc (Nat.le_refl _) (Obj.cells #[Value.int IntKind.i64 d.nm, Value.int IntKind.i64 d.ar, Value.bool d.old, Value.int IntKind.i64 d.op, Value.int IntKind.i64 d.n, Value.slice A' d.k.len c'] 56)
      have hm1 := hm.below hx hlt0
      have hlk := im_lookup (P := Try.prog) (a := d.nm) Try.underlying73 Try.underlying3 (show (zeroValue 56).run Try.prog (wr.alloc (Obj.cells #[Value.int IntKind.i64 d.nm, Value.int IntKind.i64 d.ar, Value.bool d.old, Value.int IntKind.i64 d.op, Value.int IntKind.i64 d.n, Value.slice A' d.k.len c'] 56)) = .ok (.agg #[.int .i64 0, .int .i64 0, .bool false, .int .i64 0, .int .i64 0, .slice none 0 0]) (wr.alloc (Obj.cells #[Value.int IntKind.i64 d.nm, Value.int IntKind.i64 d.ar, Value.bool d.old, Value.int IntKind.i64 d.op, Value.int IntKind.i64 d.n, Value.slice A' d.k.len c'] 56)) by kernel_rfl) hm1
      have E1 := Lib.hid e1
      have HENT := Lib.hid hent
      have HM := Lib.hid hm
      clear e1 hent hm hm1 hx
      cases hi : ilook es d.nm with
      | some v =>
        rw [hi] at hlk
        simp only [Option.getD_some, Option.isSome_some] at hlk
        have hsk := HENT.out.skip E1.out (.inl (by rw [hi]; simp))
        obtain ⟨d0, A0, c0, rfl⟩ : ∃ d0 A0 c0, v = valD d0 A0 c0 := by
          cases hv0 : inVar d.nm with
          | false => rw [HENT.out.2 d.nm (.inl hv0)] at hi; cases hi
          | true =>
            cases hf0 : fnd d.nm (ds.take j) with
            | none => rw [HENT.out.2 d.nm (.inr hf0)] at hi; cases hi
            | some d0 =>
              obtain ⟨A0, c0, h4, _⟩ := HENT.out.1 d.nm d0 hv0 hf0
              rw [hi] at h4
              exact ⟨d0, A0, c0, Option.some.inj h4⟩
        unfold valD at hlk
        have hb2 : Below wr.heap.size wr ((wr.alloc (Obj.cells #[Value.int IntKind.i64 d.nm, Value.int IntKind.i64 d.ar, Value.bool d.old, Value.int IntKind.i64 d.op, Value.int IntKind.i64 d.n, Value.slice A' d.k.len c'] 56)).alloc (Obj.cells #[Value.int IntKind.i64 d0.nm, Value.int IntKind.i64 d0.ar, Value.bool d0.old, Value.int IntKind.i64 d0.op, Value.int IntKind.i64 d0.n, Value.slice A0 d0.k.len c0] 56)) :=
          ((Below.refl _ _).alloc (Nat.le_refl _) _).alloc (by simp) _
        have HSK := Lib.hid (hsk.below (hb2.mono (Nat.le_trans hB hb.size)))
        have HB := Lib.hid (hb.trans (hb2.mono hb.size))
        have HMM := Lib.hid (HM.out.below hb2 hlt0)
        have HLT := Lib.hid (Nat.lt_of_lt_of_le hlt0 hb2.size)
        clear hi hsk hb2 hb h9 hl
        go_wp2_with fail
        go_roundw
        case rel => exact ⟨j + 1, es, hlt, by go_num, HMM.out, HSK.out, HB.out, HLT.out⟩
        case measure => simp [intOf]; omega
      | none =>
        rw [hi] at hlk
        simp only [Option.getD_none, Option.isSome_none] at hlk
        have HI := Lib.hid hi
        clear hi
        have hr5 := (Row.fresh wr 56 #[Value.int IntKind.i64 d.nm, Value.int IntKind.i64 d.ar, Value.bool d.old, Value.int IntKind.i64 d.op, Value.int IntKind.i64 d.n, Value.slice A' d.k.len c']).alloc (Obj.cells #[Value.int IntKind.i64 0, Value.int IntKind.i64 0, Value.bool false, Value.int IntKind.i64 0, Value.int IntKind.i64 0, Value.slice none 0 0] 56)
        have hb2 : Below wr.heap.size wr ((wr.alloc (Obj.cells #[Value.int IntKind.i64 d.nm, Value.int IntKind.i64 d.ar, Value.bool d.old, Value.int IntKind.i64 d.op, Value.int IntKind.i64 d.n, Value.slice A' d.k.len c'] 56)).alloc (Obj.cells #[Value.int IntKind.i64 0, Value.int IntKind.i64 0, Value.bool false, Value.int IntKind.i64 0, Value.int IntKind.i64 0, Value.slice none 0 0] 56)) :=
          ((Below.refl _ _).alloc (Nat.le_refl _) _).alloc (by simp) _
        have HR5 := Lib.hid hr5
        have HB2 := Lib.hid hb2
        have HB := Lib.hid hb
        clear hr5 hb2 hb
        go_wp2_with fail
        refine (isFun_any d.nm _).mono ?_
        rintro e w5 ⟨rfl, hb5⟩
        have hb6 := HB2.out.trans (hb5.mono HB2.out.size)
        have hr6 := HR5.out.below hb5 HR5.out.size
        have hm6 := HM.out.below hb6 hlt0
        have hent6 := HENT.out.below (hb6.mono (Nat.le_trans hB HB.out.size))
        have h96 := Lib.hid (h9.below (hb6.mono (Nat.le_trans hB HB.out.size)))
        have HB6 := Lib.hid (HB.out.trans (hb6.mono HB.out.size))
        have HLT := Lib.hid (Nat.lt_of_lt_of_le hlt0 hb6.size)
        clear hb5 hb6 HB2 HR5 HENT HM hlk g1 g2 g3 g4 g5 g6 hl h9 HB
        cases hv : inVar d.nm with
        | false =>
          have HSK := Lib.hid (hent6.skip E1.out (.inr hv))
          have HM6 := Lib.hid hm6
          clear hv hent6 hm6 hr6
          go_wp2_with fail
          go_roundw
          case rel => exact ⟨j + 1, es, hlt, by go_num, HM6.out, HSK.out, HB6.out, HLT.out⟩
          case measure => simp [intOf]; omega
        | true =>
          have hadd := hent6.add E1.out HI.out hv h96.out h7 h8
          obtain ⟨w6, hrun, him, hbel⟩ := im_update (P := Try.prog) (a := d.nm) Try.underlying73 Try.underlying3 hm6 HI.out (valD d A' c')
          have HAD := Lib.hid (hadd.below (hbel B hB))
          have HB7 := Lib.hid (HB6.out.trans (hbel w.heap.size (Nat.le_refl _)))
          have HLT7 := Lib.hid (Nat.lt_of_lt_of_le HLT.out (hbel w.heap.size (Nat.le_refl _)).size)
          have HIM := Lib.hid him
          unfold valD at hrun
          have y0 := hr6.cell (i := 0) rfl
          have y1 := hr6.cell (i := 1) rfl
          have y2 := hr6.cell (i := 2) rfl
          have y3 := hr6.cell (i := 3) rfl
          have y4 := hr6.cell (i := 4) rfl
          have y5 := hr6.cell (i := 5) rfl
          clear hv hent6 hm6 hr6 hadd hbel him
          go_wp2_with fail
          go_roundw
          case rel => exact ⟨j + 1, _, hlt, by go_num, HIM.out, HAD.out, HB7.out, HLT7.out⟩
          case measure => simp [intOf]; omega
    · have e9 : ds.length = j := by omega
      rw [← e9, List.take_length] at hent
      go_wp2
      go_ret
      exact ⟨es, rfl, hm, hent, hb, hlt0⟩
end Go.Proofs.Ytbpcggbmlaomjaa
