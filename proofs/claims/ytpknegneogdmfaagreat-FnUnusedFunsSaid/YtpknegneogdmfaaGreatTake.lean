/-
  A region that draws its order, walked by hand: an operation taken first.
-/
import Derived.Deep.RegionHeld3
import Derived.Test.YtpknegneogdmfaaGreatFo
namespace Go.Proofs.YtpknegneogdmfaaGreat
open Go.RowKit
set_option maxRecDepth 100000

/-- An operation of a region that draws its order, taken first: it is wanted and reads; or it stands under a guard that is off. -/
theorem takeW {P : Program} {ops : Array Oper} {Q : Exit → Act → World → Prop} {md : Region.Mode} {S : World → Prop} (i : Nat) {oi : Oper} {v : Value} {fuel : Nat} {listed : Array Bool} {a : Act} {w : World} (h1 : ops[i]? = some oi) (h2 : (Region.noSelect ops && (Region.free md ops listed i && (Region.ready md ops listed).contains i)) = true)
    (hq : ∀ (c : List PanicEntry) (a : Act) (w : World), Q (Exit.panic c) (a.put oi.dst v) w → Q (Exit.panic c) a w) (hw : Region.wanted oi (yielded ops a.tmps) = true) (hs : S w) (hy : ∀ w', S w' → (execOp a.eval oi).run P w' = Result.ok (Next.value v) w') (hr : wpAnyH P md ops Q S fuel (listed.setIfInBounds i true) (a.put oi.dst v) w) : wpAnyH P md ops Q S (fuel + 1) listed a w := by
  rw [Bool.and_eq_true, Bool.and_eq_true] at h2
  exact wpAnyH_take h1 h2.1 h2.2.1 h2.2.2 hq (.inl ⟨hw, hy⟩) hs hr
theorem takeN {P : Program} {ops : Array Oper} {Q : Exit → Act → World → Prop} {md : Region.Mode} {S : World → Prop} (i : Nat) {oi : Oper} {fuel : Nat} {listed : Array Bool} {a : Act} {w : World} (h1 : ops[i]? = some oi) (h2 : (Region.noSelect ops && (Region.free md ops listed i && (Region.ready md ops listed).contains i)) = true)
    (hq : ∀ (c : List PanicEntry) (a : Act) (w : World), Q (Exit.panic c) (a.put oi.dst undef) w → Q (Exit.panic c) a w) (hw : Region.wanted oi (yielded ops a.tmps) = false) (hs : S w) (hr : wpAnyH P md ops Q S fuel (listed.setIfInBounds i true) (a.put oi.dst undef) w) : wpAnyH P md ops Q S (fuel + 1) listed a w := by
  rw [Bool.and_eq_true, Bool.and_eq_true] at h2
  exact wpAnyH_take h1 h2.1 h2.2.1 h2.2.2 hq (.inr ⟨hw, rfl⟩) hs hr
end Go.Proofs.YtpknegneogdmfaaGreat
