/-
  FnExactOutcomeSame is proved: at every argument the law returns true, and its arguments read as they did. No condition beyond the row's own.
-/
import Derived.Test.YtjaabcfgnmomkaaLawOutSame
import Derived.Test.YtjaabcfgnmomkaaReadO
import Derived.ProofKit
namespace Go.Proofs.Ytjaabcfgnmomkaa
open Go.ChangeShapes Go.WideShapes Go.ChangeAt Go.RowKit
set_option maxRecDepth 100000

theorem own : ownKnob Try.prog.godebug = none := by kernel_rfl
theorem laidOut : laidOutB Try.prog = true := by kernel_rfl

theorem OutSame_lifted (os : Os) (started : os.Started) (H : Type) (enc : TypeId × Value → H) :
    ReturnsInHanded {} Try.checked os 3 .any (Rows.fnExactOutcomeSameSpec.pre6 enc Try.prog Try.f3 Rows.fnExactOutcomeSameRow.domain false) (Rows.fnExactOutcomeSameSpec.post enc Try.prog Try.f3 false true false false) := by
  refine returnsInHanded_of_change (C := Try.checked) own started (by kernel_rfl) Try.func3
    (ChangeSpec.witness6 (enc := enc) (C := Try.checked) false ⟨#[], #[.agg #[.int .i64 0, .int .i64 0, .slice none 0 0, .slice none 0 0], .agg #[.int .i64 0, .int .i64 0, .slice none 0 0, .slice none 0 0]], []⟩ 8 (by kernel_rfl) (by kernel_rfl) (by kernel_rfl) (by kernel_rfl)) ?_
  intro W base args ds gs before hval0 hW hcnd _
  have hval : ∀ (j : Nat) t v, Try.f3.params[j]? = some t → args[j]? = some v → Value.okWide Try.prog W .any base t v := hval0
  have hW' := hW
  obtain ⟨p, q, hA0, hV, rfl, hfz, hnd⟩ := hW
  have hA : DataW.TrodAll enc Try.prog W 0 (fun _ => true) true Try.f3.params.toList args.toList ds p := hA0
  rw [Try.params3] at hA hval
  obtain ⟨v0, v1, d0, d1, p0, p1, rfl, rfl, rfl, h0, h1⟩ := trodAll_two hA
  obtain ⟨rfl, rfl⟩ := trodVars_none hV
  obtain ⟨cs1, ha1, _⟩ := okWide_struct Try.underlying24 (hval 0 24 v0 rfl rfl)
  obtain ⟨o1, Aa1, Ab1, ca1, cb1, e1, hk1, hkb1, hla1, hlb1⟩ := read_outcome h0 ⟨cs1, ha1⟩
  clear ha1
  obtain ⟨cs2, ha2, _⟩ := okWide_struct Try.underlying24 (hval 1 24 v1 rfl rfl)
  obtain ⟨o2, Aa2, Ab2, ca2, cb2, e2, hk2, hkb2, hla2, hlb2⟩ := read_outcome h1 ⟨cs2, ha2⟩
  clear ha2
  clear hA0 hval0
  simp only [List.append_nil] at hW'
  have hlt0 : ∀ x ∈ p0, x.block < W.heap.size := fun x hx => hW'.lt x (by simp [hx])
  have hlt1 : ∀ x ∈ p1, x.block < W.heap.size := fun x hx => hW'.lt x (by simp [hx])
  have hargs : ∀ W' : World, Below W.heap.size W W' → DataW.TrodAll enc Try.prog W' 0 (fun b => decide (b < W.heap.size)) true [24, 24] [v0, v1] [d0, d1] (p0 ++ p1) :=
    fun W' hn => trodAll_mk2 (Below.trod laidOut (by kernel_rfl) (of_decide_eq_true (by kernel_rfl)) h0 hn hlt0) (Below.trod laidOut (by kernel_rfl) (of_decide_eq_true (by kernel_rfl)) h1 hn hlt1)
  have hcall := law_OutSame o1 Aa1 Ab1 ca1 cb1 o2 Aa2 Ab2 ca2 cb2 W hla1 hlb1 hk1 hkb1 hla2 hlb2 hk2 hkb2
  rw [← e1, ← e2] at hcall
  refine hcall.mono fun e W' hp => ?_
  obtain ⟨rfl, hbelow⟩ := hp
  refine ⟨_, rfl, _, _, _, [], _, [], hW', trodAll_mk1 (shut_bool Try.underlying4 true), hargs W' hbelow, rfl, hbelow.frame _, fun h => by cases h⟩

theorem OutSame_holds : Rows.FnExactOutcomeSameSaid :=
  OpenClaim.holds_of_wide 3 Try.f3 rfl rfl rfl rfl rfl rfl rfl ⟨rfl, rfl, rfl, rfl, rfl⟩ rfl rfl rfl rfl rfl (by kernel_rfl) Try.func3 (by kernel_rfl)
    (of_decide_eq_true (by kernel_rfl)) (by unfold Func.isWrapper; rw [if_neg (of_decide_eq_false (by kernel_rfl))]; exact ⟨rfl, rfl⟩)
    (fun os started H enc _ => OutSame_lifted os started H enc)
#print axioms OutSame_holds
end Go.Proofs.Ytjaabcfgnmomkaa
