/-
  SubstVar's answer where the variable is not free, or is put for itself: the tree as it was.
-/
import Derived.Test.YtjlaabipgppijaaSubN
import Derived.Test.YtjlaabipgppijaaReb
namespace Go.Proofs.Ytjlaabipgppijaa
open Go.RowKit
set_option maxRecDepth 100000

theorem subB_from {p x y : Nd} {v : Int} (h : subB p v x = some y) : subOk p v x = true ∧ putN (p.k.size + 1) p v x = some y ∧ ndIs y = true := by
  unfold subB at h
  split at h
  · rename_i h0
    refine ⟨h0, ?_⟩
    split at h
    · cases h
    · rename_i y2 hp
      split at h
      · rename_i hy
        injection h with h
        subst h
        exact ⟨hp, hy⟩
      · cases h
  · cases h
theorem sub_none {p x y : Nd} {v : Int} (hc : cntP v p = 0) (h : subB p v x = some y) : y = p := by
  obtain ⟨_, h2, _⟩ := subB_from h
  rw [putN_none v x (p.k.size + 1) p (by omega) hc] at h2
  injection h2 with h2
  exact h2.symm
theorem sub_self {p y : Nd} {v : Int} (h : subB p v ⟨2, v, .nil⟩ = some y) : y = p := by
  obtain ⟨h1, h2, _⟩ := subB_from h
  have hp := (subOk_is h1).1
  unfold ndIs at hp
  rw [nodeIs_eq, Bool.and_eq_true] at hp
  rw [putN_self v (p.k.size + 1) p (firstS 8) (by omega) hp.2] at h2
  injection h2 with h2
  exact h2.symm
theorem sub_size (p x : Nd) (v : Int) : ((subB p v x).getD nd0).k.size ≤ 79 := by
  cases h : subB p v x with
  | none => simp [nd0, Fo.size]
  | some y =>
    have := ndIs_small (subB_from h).2.2
    unfold smallOk at this
    simp only [Bool.and_eq_true, decide_eq_true_iff] at this
    simp only [Option.getD_some]
    omega
end Go.Proofs.Ytjlaabipgppijaa
