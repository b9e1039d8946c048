/-
  FnExactFoldExpr is proved: at every argument the law returns true, and its arguments read as they did. No condition beyond the row's own.
-/
import Derived.Test.YtemphmncdmbndaaDoorLawFoldExpr
import Derived.Test.YtemphmncdmbndaaDoorRead
import Derived.Test.YtemphmncdmbndaaDoorTie
import Derived.Test.YtemphmncdmbndaaDoorCards
import Derived.LaidMore
import Derived.OpenShut
import Derived.Stop.Joined
import Derived.Stop.LaidErr
import Derived.SevenTiedAt
import Derived.ProofKit
namespace Go.Proofs.YtemphmncdmbndaaDoor
open Go.ChangeShapes Go.WideShapes Go.ChangeAt Go.RowKit
set_option maxRecDepth 100000

theorem own : ownKnob Tryd.prog.godebug = none := by kernel_rfl
theorem laidOut : laidOutB Tryd.prog = true := by kernel_rfl

abbrev laid2 : List (String × DataW Unit) := [("loop.example/apimigrator/impl.errFuel", Rows.laid_loop_example_apimigrator_impl_errFuel), ("loop.example/apimigrator/impl.errNest", Rows.laid_loop_example_apimigrator_impl_errNest)]
/-- The door's own heap meets the condition. -/
theorem door_met (os : Os) (args : Array Value) : laidMetH Tryd.prog laid2 ((World.doorLaid Tryd.prog 47 os).forCall (fun _ _ => 0) ⟨#[], args, []⟩).memory :=
  laidMetH_of_parts3 (fuel := 8) (laidMet_of_run' 8 (by kernel_rfl) (by kernel_rfl)) (by kernel_rfl) (by kernel_rfl)
theorem var_keep {W W' : World} {n : String} {cs : Array Value} (h : W.var? Tryd.prog n = some cs) (hb : Below W.heap.size W W') : W'.var? Tryd.prog n = some cs := by
  unfold World.var? at h ⊢
  cases hg : Tryd.prog.globalNamed n with
  | none => rw [hg] at h; cases h
  | some g =>
    rw [hg] at h
    simp only [Option.bind_some] at h ⊢
    have hlt : g < W.heap.size := by
      rcases Nat.lt_or_ge g W.heap.size with h' | h'
      · exact h'
      · rw [Array.getElem?_eq_none h'] at h; cases h
    rw [hb.block g hlt]
    exact h
set_option maxRecDepth 100000
theorem FoldExpr_lifted (os : Os) (started : os.Started) (H : Type) (enc : TypeId × Value → H) :
    ReturnsInHanded {} Tryd.checked os 3 .any (fun w args => (Rows.fnExactFoldExprSpec.pre enc Tryd.prog Tryd.f3 [] false w args ∧ laidMetH Tryd.prog laid2 w) ∧ sizedMet enc Tryd.prog Tryd.f3 (OpenSpec.ofChange Rows.fnExactFoldExprSpec) false w args) (Rows.fnExactFoldExprSpec.post enc Tryd.prog Tryd.f3 false true false false) := by
  refine returnsInHanded_of_change_and (C := Tryd.checked) (X := fun w _ => laidMetH Tryd.prog laid2 w) (fun _ _ _ hh h => h.of_heap hh) own started (by kernel_rfl) Tryd.func3
    (ChangeSpec.witness_shaped (enc := enc) (C := Tryd.checked) (os := os) (X := fun w _ => laidMetH Tryd.prog laid2 w) false (World.doorLaid Tryd.prog 47 os) #[.agg #[.int .i64 0, .int .i64 0, .slice none 0 0]] 8 rfl (World.shaped_of_RefB (by kernel_rfl) (by kernel_rfl)) (by kernel_rfl) (by kernel_rfl) (by kernel_rfl) (door_met os _)) ?_
  intro W base args ds gs before hval0 hW _ _ hL _
  have hval : ∀ (j : Nat) t v, Tryd.f3.params[j]? = some t → args[j]? = some v → Value.okWide Tryd.prog W .any base t v := hval0
  have hW' := hW
  obtain ⟨p, q, hA0, hV, rfl, hfz, hnd⟩ := hW
  have hA : DataW.TrodAll enc Tryd.prog W 0 (fun _ => true) true Tryd.f3.params.toList args.toList ds p := hA0
  rw [Tryd.params3] at hA hval
  obtain ⟨v0, d0, rfl, rfl, h0⟩ := trodAll_one hA
  have hV2 : DataW.TrodVars enc Tryd.prog W (fun _ => true) ["loop.example/apimigrator/impl.errFuel", "loop.example/apimigrator/impl.errNest"] gs q := hV
  obtain ⟨g0, t0, cs0, f0, y0, q0, g1, t1, cs1, f1, y1, q1, rfl, hg0, ht0, hv0, hd0, hg1, ht1, hv1, hd1, rfl⟩ := trodVars_two hV2
  obtain rfl := Option.some.inj ((show (Tryd.prog.globals[g0]?).map (·.type) = some 66 by
    obtain rfl := Option.some.inj ((show Tryd.prog.globalNamed "loop.example/apimigrator/impl.errFuel" = some 0 by kernel_rfl).symm.trans hg0); kernel_rfl).symm.trans ht0)
  obtain rfl := Option.some.inj ((show (Tryd.prog.globals[g1]?).map (·.type) = some 66 by
    obtain rfl := Option.some.inj ((show Tryd.prog.globalNamed "loop.example/apimigrator/impl.errNest" = some 1 by kernel_rfl).symm.trans hg1); kernel_rfl).symm.trans ht1)
  obtain ⟨z0, rfl, hz0, rfl, rfl, _⟩ := token_of hg0 Tryd.underlying66 hv0 hd0
  obtain ⟨z1, rfl, hz1, rfl, rfl, _⟩ := token_of hg1 Tryd.underlying66 hv1 hd1
  have vars : ∀ (W' : World) (sp : Nat → Bool), Below W.heap.size W W' → DataW.TrodVars enc Tryd.prog W' sp ["loop.example/apimigrator/impl.errFuel", "loop.example/apimigrator/impl.errNest"] [tok enc z0, tok enc z1] _ :=
    fun W' sp hb => vars_read2 enc hg0 ht0 Tryd.underlying66 (var_keep hv0 hb) hz0 hg1 ht1 Tryd.underlying66 (var_keep hv1 hb) hz1 sp
  obtain ⟨cs1, ha1, _⟩ := okWide_struct Tryd.underlying24 (hval 0 24 v0 rfl rfl)
  obtain ⟨op1, n1, A1, c1, k1, e1, _, _, hk1, hc1, hl1⟩ := read_expr h0 ⟨cs1, ha1⟩
  clear ha1
  clear hA0 hval0
  have hlt0 : ∀ x ∈ p, x.block < W.heap.size := fun x hx => hW'.lt x (by simp [hx])
  have hargs : ∀ W' : World, Below W.heap.size W W' → DataW.TrodAll enc Tryd.prog W' 0 (fun b => decide (b < W.heap.size)) true [24] [v0] [d0] (p) :=
    fun W' hn => trodAll_mk1 (Below.trod laidOut (by kernel_rfl) (of_decide_eq_true (by kernel_rfl)) h0 hn hlt0)
  have hcall := law_FoldExpr op1 n1 k1 A1 c1 W hl1 (by omega)
  rw [← e1] at hcall
  refine hcall.mono fun e W' hp => ?_
  obtain ⟨rfl, hbelow⟩ := hp
  refine ⟨_, rfl, _, _, _, [], _, _, hW', trodAll_mk1 (shut_bool Tryd.underlying4 true), hargs W' hbelow, vars W' _ hbelow, hbelow.frame _, fun h => by cases h⟩

theorem FoldExpr_holds : Rows.FnExactFoldExprSaid :=
  OpenClaim.holds_of_wide 3 Tryd.f3 rfl rfl rfl rfl rfl rfl rfl ⟨rfl, rfl, rfl, rfl, rfl⟩ rfl rfl rfl rfl rfl (by kernel_rfl) Tryd.func3 (by kernel_rfl)
    (of_decide_eq_true (by kernel_rfl)) (by unfold Func.isWrapper; rw [if_neg (of_decide_eq_false (by kernel_rfl))]; exact ⟨rfl, rfl⟩)
    (fun os started H enc _ => FoldExpr_lifted os started H enc)
theorem FoldExprCard_holds : Rows.FnExactFoldExprCardSaid :=
  Claim7.holds_tied_plain_at .later [] [.sentinel, .sentinel] true _ true
    FoldExpr_holds (fun _ h => by cases h) (by kernel_rfl) (fun _ h => by cases h) fnExactFoldExpr_row_tie rfl ⟨rfl, rfl⟩ (by kernel_rfl) rfl
    (fun f fn hf hfn => by
      obtain rfl : f = 3 := Option.some.inj ((show Tryd.prog.funcNamed "loop.example/apimigrator/laws.FnExactFoldExpr" = some 3 by kernel_rfl).symm.trans hf) |>.symm
      obtain rfl : fn = Tryd.f3 := (Option.some.inj (Tryd.func3.symm.trans hfn)).symm
      exact ⟨by kernel_rfl, fun j t ht => by
        rw [Tryd.params3] at ht
        have hm : t ∈ [24] := by simpa using Array.mem_of_getElem? ht
        have hall : ([24].all fun u => !Tryd.prog.wantsStandIn u) = true := by kernel_rfl
        exact (show Tryd.prog.wantsStandIn t = false by simpa using List.all_eq_true.1 hall t hm)⟩)
    (by kernel_rfl)
#print axioms FoldExprCard_holds
end Go.Proofs.YtemphmncdmbndaaDoor
