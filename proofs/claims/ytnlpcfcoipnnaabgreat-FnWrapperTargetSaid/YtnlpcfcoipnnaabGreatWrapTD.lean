/-
  What a wrapper calls in the end, as data: the model's rounds and the program's (a set of names met so far) come to the same.
-/
import Derived.Test.YtnlpcfcoipnnaabGreatIsWrap
namespace Go.Proofs.YtnlpcfcoipnnaabGreat
open Go.RowKit
set_option maxRecDepth 100000

/-- What the function x only calls, where it is a wrapper. -/
def nxtW (ds : List De) (x : Int) : Option Int := match fnd x ds with
  | some d => if wrapN d.nm d.op d.n d.k then some d.n else none
  | none => none
/-- The model's rounds. -/
def tgtW (ds : List De) : Nat → Int → Option Int
  | 0, _ => none
  | f + 1, x => match nxtW ds x with
    | some y => tgtW ds f y
    | none => some x
/-- The k-th function behind x. -/
def itW (ds : List De) (x : Int) : Nat → Int
  | 0 => x
  | k + 1 => (nxtW ds (itW ds x k)).getD 0
theorem tgtW_none {ds : List De} {x : Int} (h : nxtW ds x = none) (f : Nat) : tgtW ds (f + 1) x = some x := by simp [tgtW, h]
theorem tgtW_some {ds : List De} {x y : Int} (h : nxtW ds x = some y) (f : Nat) : tgtW ds (f + 1) x = tgtW ds f y := by simp [tgtW, h]
theorem itW_front (ds : List De) (x : Int) : ∀ k, itW ds x (k + 1) = itW ds ((nxtW ds x).getD 0) k
  | 0 => rfl
  | k + 1 => by rw [itW, itW_front ds x k]; rfl
theorem tgtW_hit {ds : List De} : ∀ (k f : Nat) (x : Int), (∀ j, j < k → (nxtW ds (itW ds x j)).isSome = true) → nxtW ds (itW ds x k) = none → k < f → tgtW ds f x = some (itW ds x k)
  | 0, f + 1, x, _, h, _ => tgtW_none h f
  | k + 1, f + 1, x, hs, h, hf => by
    obtain ⟨y, hy⟩ := Option.isSome_iff_exists.1 (hs 0 (by omega))
    have hy : nxtW ds x = some y := hy
    have e : ∀ j, itW ds x (j + 1) = itW ds y j := fun j => by rw [itW_front, hy]; rfl
    rw [tgtW_some hy, tgtW_hit k f y (fun j hj => by rw [← e]; exact hs (j + 1) (by omega)) (by rw [← e]; exact h) (by omega), e]
  | k, 0, x, _, _, h => by omega
theorem tgtW_never {ds : List De} : ∀ (f : Nat) (x : Int), (∀ j, (nxtW ds (itW ds x j)).isSome = true) → tgtW ds f x = none
  | 0, _, _ => rfl
  | f + 1, x, hs => by
    obtain ⟨y, hy⟩ := Option.isSome_iff_exists.1 (hs 0)
    have hy : nxtW ds x = some y := hy
    have e : ∀ j, itW ds x (j + 1) = itW ds y j := fun j => by rw [itW_front, hy]; rfl
    rw [tgtW_some hy]
    exact tgtW_never f y fun j => by rw [← e]; exact hs (j + 1)
/-- A function that was met before is met for ever. -/
theorem itW_circle {ds : List De} {x : Int} {k i : Nat} (hi : i < k) (e : itW ds x k = itW ds x i) : ∀ m, ∃ j, j < k ∧ itW ds x m = itW ds x j
  | 0 => ⟨0, by omega, rfl⟩
  | m + 1 => by
    obtain ⟨j, hj, h⟩ := itW_circle hi e m
    have h2 : itW ds x (m + 1) = itW ds x (j + 1) := by rw [itW, h, itW]
    by_cases hk : j + 1 < k
    · exact ⟨j + 1, hk, h2⟩
    · exact ⟨i, hi, by rw [h2, ← e]; congr 1; omega⟩

/-- How many functions of a library are not in a set of names. -/
def unv : List De → (Nat → Bool) → Nat
  | [], _ => 0
  | d :: r, T => (if T d.nm.toNat = true then 0 else 1) + unv r T
theorem unv_le (T : Nat → Bool) : ∀ ds : List De, unv ds T ≤ ds.length
  | [] => Nat.le_refl _
  | d :: r => by
    have := unv_le T r
    simp only [unv, List.length_cons]
    split <;> omega
theorem unv_mono {S T : Nat → Bool} (h : ∀ i, S i = true → T i = true) : ∀ ds : List De, unv ds T ≤ unv ds S
  | [] => Nat.le_refl _
  | d :: r => by
    have := unv_mono h r
    simp only [unv]
    by_cases hs : S d.nm.toNat = true
    · rw [if_pos hs, if_pos (h _ hs)]; omega
    · rw [if_neg hs]
      split <;> omega
theorem unv_less {T : Nat → Bool} {v : Nat} : ∀ (ds : List De), (∃ d, d ∈ ds ∧ d.nm.toNat = v ∧ T v = false) → unv ds (fun i => if i = v then true else T i) + 1 ≤ unv ds T
  | [], ⟨d, h, _⟩ => by cases h
  | d0 :: r, ⟨d, hd, h1, h2⟩ => by
    have hr := unv_mono (S := T) (T := fun i => if i = v then true else T i) (fun i hi => by by_cases hv : i = v <;> simp [hv, hi]) r
    by_cases h0 : d0.nm.toNat = v
    · simp only [unv, h0, h2]
      rw [if_pos (by simp), if_neg (by simp)]
      omega
    · rcases List.mem_cons.1 hd with rfl | hd
      · exact absurd h1 h0
      · have ih := unv_less r ⟨d, hd, h1, h2⟩
        simp only [unv, if_neg h0]
        omega

/-- What WrapperTarget answers. -/
def resW (x : Int) (ds : List De) : Option Int := if isWrapB x ds then tgtW ds (ds.length + 1) x else none
theorem nxtW_is {x : Int} {ds : List De} (d : De) (hd : fnd x ds = some d) : nxtW ds x = if wrapN d.nm d.op d.n d.k then some d.n else none := by unfold nxtW; rw [hd]
/-- A wrapper calls a function. -/
theorem nxtW_fun {ds : List De} (hv : libOk ds = true) {x y : Int} (h : nxtW ds x = some y) : ∃ d, fnd y ds = some d := by
  unfold nxtW at h
  split at h
  · rename_i d hd
    split at h
    · rename_i hw
      injection h with h
      have hf := libOk_body hv d (fnd_mem hd).1
      unfold wrapN at hw
      simp only [Bool.and_eq_true, decide_eq_true_iff] at hw
      unfold fitN okCall at hf
      rw [Bool.and_eq_true, if_pos hw.1.1] at hf
      have := of_decide_eq_true hf.1
      unfold ariS at this
      rw [h, Option.map_eq_some_iff] at this
      exact ⟨_, this.choose_spec.1⟩
    · cases h
  · cases h
end Go.Proofs.YtnlpcfcoipnnaabGreat
