/-
  FnExactTidyExpr is proved: at every argument the law returns true, and its arguments read as they did. No condition beyond the row's own.
-/
import Derived.Test.YtmnhoeliofojnaaGreatDoorLawM
import Derived.Test.YtmnhoeliofojnaaGreatDoorRead
import Derived.Test.YtmnhoeliofojnaaGreatDoorTie
import Derived.Test.YtmnhoeliofojnaaGreatDoorCards
import Derived.LaidMore
import Derived.OpenShut
import Derived.Stop.Joined
import Derived.Stop.LaidErr
import Derived.SevenTiedAt
namespace Go.Proofs.YtmnhoeliofojnaaGreatDoor
open Go.ChangeShapes Go.WideShapes Go.ChangeAt Go.RowKit
open Go.Lib (hid)
set_option maxRecDepth 100000
theorem own : ownKnob Tryz.prog.godebug = none := by kernel_rfl
theorem laidOut : laidOutB Tryz.prog = true := by kernel_rfl
abbrev laid2 : List (String × DataW Unit) := [("loop.example/apimigrator/impl.errFuel", Rows.laid_loop_example_apimigrator_impl_errFuel), ("loop.example/apimigrator/impl.errNest", Rows.laid_loop_example_apimigrator_impl_errNest)]
theorem door_met (os : Os) (args : Array Value) : laidMetH Tryz.prog laid2 ((World.doorLaid Tryz.prog 47 os).forCall (fun _ _ => 0) ⟨#[], args, []⟩).memory :=
 laidMetH_of_parts3 (fuel := 8) (laidMet_of_run' 8 (by kernel_rfl) (by kernel_rfl)) (by kernel_rfl) (by kernel_rfl)
theorem var_keep {W W' : World} {n : String} {cs : Array Value} (h : W.var? Tryz.prog n = some cs) (hb : Below W.heap.size W W') : W'.var? Tryz.prog n = some cs := by
 unfold World.var? at h ⊢
 cases hg : Tryz.prog.globalNamed n with
 | none => rw [hg] at h; cases h
 | some g =>
  rw [hg] at h
  simp only [Option.bind_some] at h ⊢
  have hlt : g < W.heap.size := by
   rcases Nat.lt_or_ge g W.heap.size with h' | h'
   ·exact h'
   ·rw [Array.getElem?_eq_none h'] at h; cases h
  rw [hb.block g hlt]
  exact h
set_option maxRecDepth 100000
theorem TidyExpr_lifted (os : Os) (started : os.Started) (H : Type) (enc : TypeId × Value -> H) :
  ReturnsInHanded {} Tryz.checked os 3 .any (fun w args => (Rows.fnExactTidyExprSpec.pre enc Tryz.prog Tryz.f3 [] false w args /\ laidMetH Tryz.prog laid2 w) /\ sizedMet enc Tryz.prog Tryz.f3 (OpenSpec.ofChange Rows.fnExactTidyExprSpec) false w args) (Rows.fnExactTidyExprSpec.post enc Tryz.prog Tryz.f3 false true false false) := by
 refine returnsInHanded_of_change_and (C := Tryz.checked) (X := fun w _ => laidMetH Tryz.prog laid2 w) (fun _ _ _ hh h => h.of_heap hh) own started (by kernel_rfl) Tryz.func3
  (ChangeSpec.witness_shaped (enc := enc) (C := Tryz.checked) (os := os) (X := fun w _ => laidMetH Tryz.prog laid2 w) false (World.doorLaid Tryz.prog 47 os) #[.slice none 0 0, .agg #[.int .i64 0, .int .i64 0, .slice none 0 0]] 8 rfl (World.shaped_of_RefB (by kernel_rfl) (by kernel_rfl)) (by kernel_rfl) (by kernel_rfl) (by kernel_rfl) (door_met os _)) ?_
 intro W base args ds gs before hval0 hW _ _ hL _
 have hval : ∀ (j : Nat) t v, Tryz.f3.params[j]? = some t -> args[j]? = some v -> Value.okWide Tryz.prog W .any base t v := hval0
 have hW' := hW
 obtain ⟨p, q, hA0, hV, rfl, hfz, hnd⟩ := hW
 have hA : DataW.TrodAll enc Tryz.prog W 0 (fun _ => true) true Tryz.f3.params.toList args.toList ds p := hA0
 rw [Tryz.params3] at hA hval
 obtain ⟨v0, v1, d0, d1, p0, p1, rfl, rfl, rfl, h0, h1⟩ := trodAll_two hA
 have hV2 : DataW.TrodVars enc Tryz.prog W (fun _ => true) ["loop.example/apimigrator/impl.errFuel", "loop.example/apimigrator/impl.errNest"] gs q := hV
 obtain ⟨g0, t0, cs0, f0, y0, q0, g1, t1, cs1, f1, y1, q1, rfl, hg0, ht0, hv0, hd0, hg1, ht1, hv1, hd1, rfl⟩ := trodVars_two hV2
 obtain rfl := Option.some.inj ((show (Tryz.prog.globals[g0]?).map (·.type) = some 111 by
  obtain rfl := Option.some.inj ((show Tryz.prog.globalNamed "loop.example/apimigrator/impl.errFuel" = some 0 by kernel_rfl).symm.trans hg0); kernel_rfl).symm.trans ht0)
 obtain rfl := Option.some.inj ((show (Tryz.prog.globals[g1]?).map (·.type) = some 111 by
  obtain rfl := Option.some.inj ((show Tryz.prog.globalNamed "loop.example/apimigrator/impl.errNest" = some 1 by kernel_rfl).symm.trans hg1); kernel_rfl).symm.trans ht1)
 obtain ⟨z0, rfl, hz0, rfl, rfl, _⟩ := token_of hg0 Tryz.underlying111 hv0 hd0
 obtain ⟨z1, rfl, hz1, rfl, rfl, _⟩ := token_of hg1 Tryz.underlying111 hv1 hd1
 have vars : ∀ (W' : World) (sp : Nat -> Bool), Below W.heap.size W W' -> DataW.TrodVars enc Tryz.prog W' sp ["loop.example/apimigrator/impl.errFuel", "loop.example/apimigrator/impl.errNest"] [tok enc z0, tok enc z1] _ :=
  fun W' sp hb => vars_read2 enc hg0 ht0 Tryz.underlying111 (var_keep hv0 hb) hz0 hg1 ht1 Tryz.underlying111 (var_keep hv1 hb) hz1 sp
 obtain ⟨B1, len1, cap1, ha1⟩ := okWide_slice Tryz.underlying22 (hval 0 22 v0 rfl rfl)
 subst ha1
 obtain ⟨A1, c1, ds1, e1, hn1, hl1⟩ := read_defs h0
 obtain ⟨cs2, ha2, _⟩ := okWide_struct Tryz.underlying25 (hval 1 25 v1 rfl rfl)
 obtain ⟨op2, n2, A2, c2, k2, e2, _, _, hk2, hc2, hl2⟩ := read_expr h1 ⟨cs2, ha2⟩
 clear ha2
 clear hA0 hval0
 have hlt0 : ∀ x ∈ p0, x.block < W.heap.size := fun x hx => hW'.lt x (by simp [hx])
 have hlt1 : ∀ x ∈ p1, x.block < W.heap.size := fun x hx => hW'.lt x (by simp [hx])
 have hargs : ∀ W' : World, Below W.heap.size W W' -> DataW.TrodAll enc Tryz.prog W' 0 (fun b => decide (b < W.heap.size)) true [22, 25] [.slice B1 len1 cap1, v1] [d0, d1] (p0 ++ p1) :=
  fun W' hn => trodAll_mk2 (Below.trod laidOut (by kernel_rfl) (of_decide_eq_true (by kernel_rfl)) h0 hn hlt0) (Below.trod laidOut (by kernel_rfl) (of_decide_eq_true (by kernel_rfl)) h1 hn hlt1)
 have hcall := law_TidyExpr ds1 A1 c1 op2 n2 k2 A2 c2 W hl1 hn1 hl2 (by omega)
 rw [<- e1, <- e2] at hcall
 refine hcall.mono fun e W' hp => ?_
 obtain ⟨rfl, hbelow⟩ := hp
 refine ⟨_, rfl, _, _, _, [], _, _, hW', trodAll_mk1 (shut_bool Tryz.underlying4 true), hargs W' hbelow, vars W' _ hbelow, hbelow.frame _, fun h => by cases h⟩
theorem TidyExpr_holds : Rows.FnExactTidyExprSaid :=
 OpenClaim.holds_of_wide 3 Tryz.f3 rfl rfl rfl rfl rfl rfl rfl ⟨rfl, rfl, rfl, rfl, rfl⟩ rfl rfl rfl rfl rfl (by kernel_rfl) Tryz.func3 (by kernel_rfl)
  (of_decide_eq_true (by kernel_rfl)) (by unfold Func.isWrapper; rw [if_neg (of_decide_eq_false (by kernel_rfl))]; exact ⟨rfl, rfl⟩)
  (fun os started H enc _ => TidyExpr_lifted os started H enc)
theorem TidyExprCard_holds : Rows.FnExactTidyExprCardSaid :=
 Claim7.holds_tied_plain_at .later [] [.sentinel, .sentinel] true _ true
  TidyExpr_holds (fun _ h => by cases h) (by kernel_rfl) (fun _ h => by cases h) fnExactTidyExpr_row_tie rfl ⟨rfl, rfl⟩ (by kernel_rfl) rfl
  (fun f fn hf hfn => by
   obtain rfl : f = 3 := Option.some.inj ((show Tryz.prog.funcNamed "loop.example/apimigrator/laws.FnExactTidyExpr" = some 3 by kernel_rfl).symm.trans hf) |>.symm
   obtain rfl : fn = Tryz.f3 := (Option.some.inj (Tryz.func3.symm.trans hfn)).symm
   exact ⟨by kernel_rfl, fun j t ht => by
    rw [Tryz.params3] at ht
    have hm : t ∈ [22, 25] := by simpa using Array.mem_of_getElem? ht
    have hall : ([22, 25].all fun u => !Tryz.prog.wantsStandIn u) = true := by kernel_rfl
    exact (show Tryz.prog.wantsStandIn t = false by simpa using List.all_eq_true.1 hall t hm)⟩)
  (by kernel_rfl)
#print axioms TidyExprCard_holds
end Go.Proofs.YtmnhoeliofojnaaGreatDoor
