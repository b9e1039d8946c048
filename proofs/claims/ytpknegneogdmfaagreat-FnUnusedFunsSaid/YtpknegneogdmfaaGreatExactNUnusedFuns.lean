/-
  FnUnusedFuns is proved: at every argument the law returns true, and its arguments read as they did. No condition beyond the row's own.
-/
import Derived.Test.YtpknegneogdmfaaGreatLawNUnusedFuns
import Derived.Test.YtpknegneogdmfaaGreatReadY
import Derived.ProofKit
namespace Go.Proofs.YtpknegneogdmfaaGreat
open Go.ChangeShapes Go.WideShapes Go.ChangeAt Go.RowKit
set_option maxRecDepth 100000

theorem own : ownKnob Tryz.prog.godebug = none := by kernel_rfl
theorem laidOut : laidOutB Tryz.prog = true := by kernel_rfl

theorem NUnusedFuns_lifted (os : Os) (started : os.Started) (H : Type) (enc : TypeId × Value → H) :
    ReturnsInHanded {} Tryz.checked os 3 .any (Rows.fnUnusedFunsSpec.pre6 enc Tryz.prog Tryz.f3 Rows.fnUnusedFunsRow.domain false) (Rows.fnUnusedFunsSpec.post enc Tryz.prog Tryz.f3 false true false false) := by
  refine returnsInHanded_of_change (C := Tryz.checked) own started (by kernel_rfl) Tryz.func3
    (ChangeSpec.witness6 (enc := enc) (C := Tryz.checked) false ⟨#[], #[.slice none 0 0], []⟩ 8 (by kernel_rfl) (by kernel_rfl) (by kernel_rfl) (by kernel_rfl)) ?_
  intro W base args ds gs before hval0 hW hcnd _
  have hval : ∀ (j : Nat) t v, Tryz.f3.params[j]? = some t → args[j]? = some v → Value.okWide Tryz.prog W .any base t v := hval0
  have hW' := hW
  obtain ⟨p, q, hA0, hV, rfl, hfz, hnd⟩ := hW
  have hA : DataW.TrodAll enc Tryz.prog W 0 (fun _ => true) true Tryz.f3.params.toList args.toList ds p := hA0
  rw [Tryz.params3] at hA hval
  obtain ⟨v0, d0, rfl, rfl, h0⟩ := trodAll_one hA
  obtain ⟨rfl, rfl⟩ := trodVars_none hV
  obtain ⟨B1, len1, cap1, ha1⟩ := okWide_slice Tryz.underlying22 (hval 0 22 v0 rfl rfl)
  subst ha1
  obtain ⟨A1, c1, zs1, e1, hn1, hm1, hl1⟩ := read_bytes h0
  clear hA0 hval0
  simp only [List.append_nil] at hW'
  have hlt0 : ∀ x ∈ p, x.block < W.heap.size := fun x hx => hW'.lt x (by simp [hx])
  have hargs : ∀ W' : World, Below W.heap.size W W' → DataW.TrodAll enc Tryz.prog W' 0 (fun b => decide (b < W.heap.size)) true [22] [.slice B1 len1 cap1] [d0] (p) :=
    fun W' hn => trodAll_mk1 (Below.trod laidOut (by kernel_rfl) (of_decide_eq_true (by kernel_rfl)) h0 hn hlt0)
  have hcall := law_NUnusedFuns zs1 A1 c1 W hl1 hn1 hm1
  rw [← e1] at hcall
  refine hcall.mono fun e W' hp => ?_
  obtain ⟨rfl, hbelow⟩ := hp
  refine ⟨_, rfl, _, _, _, [], _, [], hW', trodAll_mk1 (shut_bool Tryz.underlying4 true), hargs W' hbelow, rfl, hbelow.frame _, fun h => by cases h⟩

theorem NUnusedFuns_holds : Rows.FnUnusedFunsSaid :=
  OpenClaim.holds_of_wide 3 Tryz.f3 rfl rfl rfl rfl rfl rfl rfl ⟨rfl, rfl, rfl, rfl, rfl⟩ rfl rfl rfl rfl rfl (by kernel_rfl) Tryz.func3 (by kernel_rfl)
    (of_decide_eq_true (by kernel_rfl)) (by unfold Func.isWrapper; rw [if_neg (of_decide_eq_false (by kernel_rfl))]; exact ⟨rfl, rfl⟩)
    (fun os started H enc _ => NUnusedFuns_lifted os started H enc)
#print axioms NUnusedFuns_holds
end Go.Proofs.YtpknegneogdmfaaGreat
