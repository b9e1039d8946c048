/-
  Clients of a library and what they use, as data.
-/
import Derived.Test.YthjfinhfpgifiaaGraD
import Derived.Test.YthjfinhfpgifiaaClient
namespace Go.Proofs.Ythjfinhfpgifiaa
open Go.RowKit
set_option maxRecDepth 100000

def clientsOk (ds : List De) : Fo → Bool
  | .nil => true
  | .cons o n k r => (nodeIs o n k (firstS 0) && fitN (ariS ds) o n k) && clientsOk ds r
def usedF (ds : List De) : Fo → Nat → Bool
  | .nil, _ => false
  | .cons o n k r, i => fromS ds o n k i || usedF ds r i
def rightB (ds : List De) (f : Fo) : Bool := libOk ds && (decide (f.len ≤ 10) && clientsOk ds f)
def unusedL (ds : List De) (f : Fo) : List Int := if rightB ds f then (namesD ds).filter fun y => !usedF ds f y.toNat else []
theorem clientsOk_cons {ds : List De} {f : Fo} {o n : Int} {k r : Fo} (e : f = .cons o n k r) : clientsOk ds f = ((nodeIs o n k (firstS 0) && fitN (ariS ds) o n k) && clientsOk ds r) := by subst e; rfl
theorem usedF_cons {ds : List De} {f : Fo} {o n : Int} {k r : Fo} (e : f = .cons o n k r) (i : Nat) : usedF ds f i = (fromS ds o n k i || usedF ds r i) := by subst e; rfl
theorem unusedL_no {ds : List De} {f : Fo} (h : rightB ds f = false) : unusedL ds f = [] := by unfold unusedL; rw [h]; rfl
theorem unusedL_yes {ds : List De} {f : Fo} (h : rightB ds f = true) : unusedL ds f = (namesD ds).filter fun y => !usedF ds f y.toNat := by unfold unusedL; rw [h]; rfl
theorem unusedL_mem {ds : List De} {f : Fo} {x : Int} (h : x ∈ unusedL ds f) : x ∈ namesD ds ∧ libOk ds = true := by
  unfold unusedL at h
  split at h
  · rename_i hr
    exact ⟨(List.mem_filter.1 h).1, (Bool.and_eq_true_iff.1 hr).1⟩
  · cases h
theorem unusedL_small {ds : List De} {f : Fo} : ∀ x ∈ unusedL ds f, I64 x := by
  intro x hx
  obtain ⟨h1, h2⟩ := unusedL_mem hx
  obtain ⟨d, hd, rfl⟩ := List.mem_map.1 h1
  obtain ⟨e0, e8⟩ := inVar_nat (libOk_named h2 d hd).1
  unfold I64
  omega
theorem unusedL_len (ds : List De) (f : Fo) : (unusedL ds f).length ≤ ds.length := by
  unfold unusedL
  split
  · exact Nat.le_trans (List.length_filter_le _ _) (by rw [namesD_len]; exact Nat.le_refl _)
  · exact Nat.zero_le _
theorem unusedL_len8 (ds : List De) (f : Fo) : (unusedL ds f).length ≤ 8 := by
  cases h : libOk ds with
  | false => rw [unusedL_no (by unfold rightB; rw [h]; rfl)]; exact Nat.zero_le _
  | true => exact Nat.le_trans (unusedL_len ds f) (libOk_len h)
theorem client_is {ds : List De} (h : libOk ds = true) (o n : Int) (k : Fo) : (nodeIs o n k (firstS 0) && fitN (ariS ds) o n k) = clientB ds o n k := by unfold clientB; rw [h, Bool.true_and]
theorem client_fits {ds : List De} {o n : Int} {k : Fo} (h : (nodeIs o n k (firstS 0) && fitN (ariS ds) o n k) = true) : callsFitB ds o n k = true := by
  rw [← client_split] at h
  exact (Bool.and_eq_true_iff.1 h).2
theorem right_len {ds : List De} {f : Fo} (h1 : libOk ds = true) (h2 : f.len ≤ 10) : rightB ds f = clientsOk ds f := by unfold rightB; rw [h1, decide_eq_true h2]; rfl
end Go.Proofs.Ythjfinhfpgifiaa
