/-
  The model's ExprValid: l1Scope, l1Is, ExprValid.
-/
import Derived.Test.YtahjekhngaileaaShape
import Derived.Test.YtahjekhngaileaaFo
namespace Go.Proofs.Ytahjekhngaileaa
open Go.RowKit
set_option maxRecDepth 100000

def ScopePost (zs : List Int) (w : World) (e : Ending) (w' : World) : Prop :=
  ∃ A c, e = .returned (.tuple #[.slice A 8 c, .bool (allVars zs)]) ∧ (allVars zs = true → LiesB w' w.heap.size w'.heap.size A (scopeOf zs)) ∧ Below w.heap.size w w'

def madeB : Array Value := #[.bool false, .bool false, .bool false, .bool false, .bool false, .bool false, .bool false, .bool false]
theorem madeB_run (w : World) : (Instr.makeSlice 50 (.int .i64 8) (.int .i64 8)).run Try.prog w = .ok (.slice (some ⟨w.heap.size, 0, Option.none⟩) 8 8) (w.alloc (.cells madeB 4)) := by kernel_rfl

set_option maxHeartbeats 400000 in
theorem l1Scope_any (zs : List Int) (A : Option Addr) (c : Nat) (w : World) (hl : LiesI w 0 w.heap.size A zs) (hsz : zs.length ≤ 1048576) :
    Calls Try.prog 36 #[.slice A zs.length c] w (ScopePost zs w) := by
  have hmk := madeB_run w
  go_enter Try.func36, Try.ntmps36
  go_wp2
  clear hmk
  go_loopw [5] (fun i wr => ∃ (j : Nat) (cs : Array Value), j ≤ zs.length ∧ i = .int .i64 j ∧ Row wr w.heap.size 4 cs ∧ cs.size = 8 ∧ (∀ i, i < 8 → cs[i]? = some (.bool (scopeOf (zs.take j) i))) ∧ (∀ x ∈ zs.take j, inVar x = true) ∧ Below w.heap.size w wr)
    (fun i _ => zs.length - (intOf i).toNat)
  case atStart =>
    refine ⟨0, _, by omega, rfl, Row.fresh _ _ _, rfl, ?_, by simp, (Below.refl _ _).alloc (Nat.le_refl _) _⟩
    intro i hi
    have e : scopeOf (zs.take 0) i = false := by simp [scopeOf]
    rw [e]
    match i, hi with
    | 0, _ | 1, _ | 2, _ | 3, _ | 4, _ | 5, _ | 6, _ | 7, _ => rfl
  case round =>
    obtain ⟨j, cs, hj, rfl, hrow, hcs, hall, hok, hb⟩ := hrel
    have HA := Lib.hid hall
    have HK := Lib.hid hok
    have HC := Lib.hid hcs
    clear hall hok hcs
    by_cases hlt : j < zs.length
    · have e1 := List.getElem?_eq_getElem hlt
      generalize zs[j] = x at e1
      obtain ⟨b, o, hA, _, hbb, ix, g1⟩ := hl.below hb j x e1
      subst hA
      have E1 := Lib.hid e1
      clear e1
      cases hv : inVar x
      · have hx := inVar_false hv
        have HV := Lib.hid (allVars_of_not E1.out hv)
        clear hv
        by_cases h0 : x < 0
        all_goals
          go_wp2
          go_ret2
          exact ⟨_, _, by rw [HV.out]; rfl, fun h => by rw [HV.out] at h; exact absurd h (by decide), hb⟩
      · obtain ⟨h0, h8⟩ := inVar_true hv
        have HV := Lib.hid hv
        clear hv
        obtain ⟨v, rfl⟩ := Int.eq_ofNat_of_zero_le h0
        have hz := hrow.size
        have q0 := hrow.cell (HA.out v (by omega))
        have f0 := hrow.free v
        generalize scopeOf (zs.take j) v = y at q0
        go_wp2
        have htk : zs.take (j + 1) = zs.take j ++ [(v : Int)] := by rw [List.take_add_one, E1.out]; rfl
        refine ⟨⟨j + 1, _, by omega, by go_num, hrow.put v _, by rw [Array.size_setIfInBounds]; exact HC.out, ?_, ?_, hb.setCell (Nat.le_refl _) _⟩, by simp [intOf]; omega⟩
        · intro i hi
          rw [htk]
          by_cases hiv : i = v
          · subst hiv
            rw [Array.getElem?_setIfInBounds_self_of_lt (by rw [HC.out]; omega)]
            simp [scopeOf]
          · rw [Array.getElem?_setIfInBounds_ne (by omega), HA.out i hi]
            have : ¬ ((i : Int) = v) := by omega
            simp [scopeOf, this]
        · intro x hx
          rw [htk, List.mem_append] at hx
          rcases hx with hx | hx
          · exact HK.out x hx
          · rw [List.mem_singleton.1 hx]; exact HV.out
    · have e9 : zs.take j = zs := List.take_of_length_le (by omega)
      have HE := Lib.hid e9
      clear e9
      go_wp2
      go_ret2
      have h1 := HK.out
      have h2 := HA.out
      rw [HE.out] at h1 h2
      have h3 : allVars zs = true := by unfold allVars; rw [List.all_eq_true]; exact h1
      exact ⟨_, _, by rw [h3]; rfl, fun _ => ⟨_, 0, rfl, Nat.le_refl _, hrow.size, fun i hi => by rw [Nat.zero_add]; exact hrow.cell (h2 i hi)⟩, hb⟩

theorem specExprValid_any (op n : Int) (k : Fo) (A : Option Addr) (c : Nat) (zs : List Int) (ZA : Option Addr) (Zc : Nat) (w : World) (hl : Lies w 0 w.heap.size A 0 k) (hlen : k.len ≤ maxLen)
    (hz : LiesI w 0 w.heap.size ZA zs) (hzl : zs.length ≤ 1048576) :
    Calls Try.prog 13 #[.agg #[.int .i64 op, .int .i64 n, .slice A k.len c], .slice ZA zs.length Zc] w (Gives (.bool (validOf op n k zs)) w) := by
  have hb0 : Below w.heap.size w (w.alloc (Obj.cells #[Value.int IntKind.i64 op, Value.int IntKind.i64 n, Value.slice A k.len c] 25)) := (Below.refl _ _).alloc (Nat.le_refl _) _
  have hr0 := Row.fresh w 25 #[Value.int IntKind.i64 op, Value.int IntKind.i64 n, Value.slice A k.len c]
  have hs0 : w.heap.size + 1 ≤ (w.alloc (Obj.cells #[Value.int IntKind.i64 op, Value.int IntKind.i64 n, Value.slice A k.len c] 25)).heap.size := by simp
  have C1 := Lib.hid (fun w2 h1 => l1Scope_any zs ZA Zc w2 h1 hzl)
  cases hN : allVars zs
  all_goals
    have HN := Lib.hid hN
    clear hN
    go_enter Try.func13, Try.ntmps13
    go_wp2_with fail
    refine (C1.out _ ((hz.below hb0).mono_ (Nat.le_refl _) hb0.size)).mono ?_
    rintro e w2 ⟨SA, Sc, rfl, hS, hb2⟩
    rw [HN.out] at hS ⊢
    have hb3 := hb0.trans (hb2.mono hb0.size)
  · clear hb0 hb2 hS
    go_wp2
    go_ret
    exact ⟨ret_bool (by simp [validOf, HN.out]), hb3⟩
  · have hr2 := hr0.below hb2 hs0
    have q0 := hr2.cell (i := 0) rfl
    have q1 := hr2.cell (i := 1) rfl
    have q2 := hr2.cell (i := 2) rfl
    have z2 : w.heap.size ≤ w2.heap.size := hb3.size
    have hS' := hS rfl
    clear hb0 hb2 hr0 hs0 hS
    go_wp2_with fail
    refine (l1Is_any op n k A c (scopeOf zs) SA Sc w2 ((hl.below hb3).mono_ (Nat.le_refl _) z2) hlen (hS'.mono_ (Nat.zero_le _) (Nat.le_refl _))).mono ?_
    rintro e w3 ⟨rfl, hb4⟩
    have hb5 := hb3.trans (hb4.mono z2)
    clear hb3 hb4 q0 q1 q2 hr2 z2 hS'
    go_wp2
    go_ret
    exact ⟨ret_bool (by simp [validOf, HN.out]), hb5⟩
end Go.Proofs.Ytahjekhngaileaa
