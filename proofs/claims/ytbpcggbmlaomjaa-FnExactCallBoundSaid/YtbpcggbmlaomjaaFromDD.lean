/-
  The functions out of use that an expression calls, as data.
  The functions that an expression calls, also within functions, as data: the rounds of the model, and what can be reached.
-/
import Derived.Test.YtbpcggbmlaomjaaCFit
import Derived.Test.YtbpcggbmlaomjaaCallsL
import Derived.Test.YtbpcggbmlaomjaaLibVD
namespace Go.Proofs.Ytbpcggbmlaomjaa
open Go.RowKit
set_option maxRecDepth 100000

theorem fit_calls {ari : Int → Option Int} : ∀ (k : Fo) (v : Nat), fitF ari k = true → callF k v = true → ∃ a, ari (v : Int) = some a
  | .nil, v, _, h => by simp [callF] at h
  | .cons op n k r, v, hf, h => by
    rw [fitF_cons rfl, Bool.and_eq_true] at hf
    rw [callF_cons rfl, Bool.or_eq_true] at h
    rcases h with h | h
    · unfold fitN at hf
      rw [Bool.and_eq_true] at hf
      unfold callB at h
      rw [Bool.or_eq_true] at h
      rcases h with h | h
      · unfold ownCall at h
        rw [Bool.and_eq_true] at h
        have h3 := of_decide_eq_true h.1
        have hn := of_decide_eq_true h.2
        have ho := hf.1.1
        dsimp only at h3 hn
        unfold okCall at ho
        rw [if_pos h3] at ho
        rw [← hn]
        exact ⟨_, of_decide_eq_true ho⟩
      · exact fit_calls k v hf.1.2 h
    · exact fit_calls r v hf.2 h
theorem fitN_calls {ari : Int → Option Int} {op n : Int} {k : Fo} {v : Nat} (hf : fitN ari op n k = true) (h : callB ⟨op, n, k⟩ v = true) : ∃ a, ari (v : Int) = some a := by
  have h1 : fitF ari (.cons op n k .nil) = true := by rw [fitF_cons rfl, hf]; rfl
  exact fit_calls _ v h1 (by rw [callF_cons rfl, h]; rfl)

/-- Is the function with this name out of use? -/
def oldB (ds : List De) (x : Int) : Bool := match fnd x ds with | some d => d.old | none => false
def oldL (ds : List De) (op n : Int) (k : Fo) : List Int := if libOk ds && callsFitB ds op n k then (numsUpto (callB ⟨op, n, k⟩) 8).filter (oldB ds) else []

theorem numsUpto_mem {S : Nat → Bool} : ∀ (j : Nat) (x : Int), x ∈ numsUpto S j → ∃ v, v < j ∧ x = (v : Int) ∧ S v = true
  | 0, x, h => by simp [numsUpto] at h
  | j + 1, x, h => by
    rcases Bool.eq_false_or_eq_true (S j) with hs | hs
    · rw [numsUpto_yes hs] at h
      rcases List.mem_append.1 h with h | h
      · obtain ⟨v, h1, h2, h3⟩ := numsUpto_mem j x h
        exact ⟨v, by omega, h2, h3⟩
      · rw [List.mem_singleton] at h
        exact ⟨j, by omega, h, hs⟩
    · rw [numsUpto_no hs] at h
      obtain ⟨v, h1, h2, h3⟩ := numsUpto_mem j x h
      exact ⟨v, by omega, h2, h3⟩

/-- What a fitting expression calls is there. -/
theorem called_there {ds : List De} {op n : Int} {k : Fo} (hf : callsFitB ds op n k = true) : ∀ x ∈ numsUpto (callB ⟨op, n, k⟩) 8, inVar x = true ∧ ∃ d, fnd x ds = some d := by
  intro x hx
  obtain ⟨v, h1, rfl, h3⟩ := numsUpto_mem 8 x hx
  unfold callsFitB at hf
  rw [Bool.and_eq_true] at hf
  obtain ⟨a, ha⟩ := fitN_calls hf.2 h3
  refine ⟨by unfold inVar; simp; omega, ?_⟩
  unfold ariS at ha
  cases hq : fnd (v : Int) ds with
  | none => rw [hq] at ha; cases ha
  | some d => exact ⟨d, rfl⟩

theorem oldL_no {ds : List De} {op n : Int} {k : Fo} (h : (libOk ds && callsFitB ds op n k) = false) : oldL ds op n k = [] := by unfold oldL; rw [h]; rfl
theorem oldL_yes {ds : List De} {op n : Int} {k : Fo} (h1 : libOk ds = true) (h2 : callsFitB ds op n k = true) : oldL ds op n k = (numsUpto (callB ⟨op, n, k⟩) 8).filter (oldB ds) := by unfold oldL; rw [h1, h2]; rfl

theorem filter_take_no {p : Int → Bool} {zs : List Int} {j : Nat} {x : Int} (h : zs[j]? = some x) (hp : p x = false) : (zs.take (j + 1)).filter p = (zs.take j).filter p := by
  rw [List.take_add_one, h, List.filter_append]; simp [hp]
theorem filter_take_yes {p : Int → Bool} {zs : List Int} {j : Nat} {x : Int} (h : zs[j]? = some x) (hp : p x = true) : (zs.take (j + 1)).filter p = (zs.take j).filter p ++ [x] := by
  rw [List.take_add_one, h, List.filter_append]; simp [hp]
theorem filter_take_len (p : Int → Bool) (zs : List Int) (j : Nat) : ((zs.take j).filter p).length ≤ zs.length := by
  have h1 := List.length_filter_le p (zs.take j)
  have h2 := List.length_take_le j zs
  have h3 : (zs.take j).length ≤ zs.length := by rw [List.length_take]; omega
  omega
theorem oldL_small {ds : List De} {op n : Int} {k : Fo} : ∀ x ∈ oldL ds op n k, I64 x := by
  intro x hx
  unfold oldL at hx
  split at hx
  · exact numsUpto_small _ 8 x (Nat.le_refl _) (List.mem_filter.1 hx).1
  · simp at hx
theorem oldL_len (ds : List De) (op n : Int) (k : Fo) : (oldL ds op n k).length ≤ 8 := by
  unfold oldL
  split
  · exact Nat.le_trans (List.length_filter_le _ _) (numsUpto_len _ 8)
  · exact Nat.zero_le _
end Go.Proofs.Ytbpcggbmlaomjaa

namespace Go.Proofs.Ytbpcggbmlaomjaa
open Go.RowKit
set_option maxRecDepth 100000

/-- The functions that the body of f calls. -/
def edge (ds : List De) (f g : Nat) : Bool := match fnd (f : Int) ds with | some d => callB ⟨d.op, d.n, d.k⟩ g | none => false

/-- What can be reached. -/
inductive Rch (S : Nat → Bool) (E : Nat → Nat → Bool) : Nat → Prop
  | base {g : Nat} (h : S g = true) : Rch S E g
  | step {f g : Nat} (h : Rch S E f) (e : E f g = true) : Rch S E g

/-- One function in a round of the model. -/
def swp1 (S : Nat → Bool) (d : De) : Nat → Bool := if inVar d.nm && S d.nm.toNat then fun i => S i || callB ⟨d.op, d.n, d.k⟩ i else S
def swp (S : Nat → Bool) (ds : List De) : Nat → Bool := ds.foldl swp1 S
def rnds (ds : List De) (S : Nat → Bool) : Nat → Nat → Bool
  | 0 => S
  | j + 1 => swp (rnds ds S j) ds

theorem swp1_mono (S : Nat → Bool) (d : De) (i : Nat) (h : S i = true) : swp1 S d i = true := by
  unfold swp1
  split
  · simp [h]
  · exact h
theorem swp_mono : ∀ (ds : List De) (S : Nat → Bool) (i : Nat), S i = true → swp S ds i = true
  | [], _, _, h => h
  | d :: r, S, i, h => swp_mono r (swp1 S d) i (swp1_mono S d i h)

theorem swp1_rch {ds : List De} {S0 S : Nat → Bool} (hn : Named ds) {d : De} (hd : d ∈ ds) (h : ∀ i, S i = true → Rch S0 (edge ds) i) : ∀ i, swp1 S d i = true → Rch S0 (edge ds) i := by
  intro i hi
  unfold swp1 at hi
  split at hi
  · rename_i hc
    rw [Bool.and_eq_true] at hc
    dsimp only at hi
    rw [Bool.or_eq_true] at hi
    rcases hi with hi | hi
    · exact h i hi
    · refine .step (h _ hc.2) ?_
      unfold edge
      rw [(inVar_nat hc.1).1, (hn d hd).2]
      exact hi
  · exact h i hi
theorem swp_rch {ds : List De} {S0 : Nat → Bool} (hn : Named ds) : ∀ (r : List De) (S : Nat → Bool), (∀ d ∈ r, d ∈ ds) → (∀ i, S i = true → Rch S0 (edge ds) i) → ∀ i, swp S r i = true → Rch S0 (edge ds) i
  | [], _, _, h => h
  | d :: r, S, hr, h => swp_rch hn r (swp1 S d) (fun e he => hr e (List.mem_cons_of_mem _ he)) (swp1_rch hn (hr d (List.mem_cons_self ..)) h)
theorem rnds_rch {ds : List De} {S : Nat → Bool} (hn : Named ds) : ∀ j i, rnds ds S j i = true → Rch S (edge ds) i
  | 0, _, h => .base h
  | j + 1, i, h => swp_rch hn ds _ (fun _ h => h) (rnds_rch hn j) i h

def Clo (ds : List De) (S : Nat → Bool) : Prop := ∀ f g, S f = true → edge ds f g = true → S g = true
theorem clo_rch {ds : List De} {S T : Nat → Bool} (hc : Clo ds T) (h : ∀ i, S i = true → T i = true) : ∀ i, Rch S (edge ds) i → T i = true := by
  intro i hi
  induction hi with
  | base h1 => exact h _ h1
  | step _ e ih => exact hc _ _ ih e

/-- What a round that changes nothing leaves is closed. -/
theorem swp_fix : ∀ (r : List De) (S : Nat → Bool), (∀ i, swp S r i = true → S i = true) → ∀ d ∈ r, inVar d.nm = true → S d.nm.toNat = true → ∀ g, callB ⟨d.op, d.n, d.k⟩ g = true → S g = true
  | [], _, _, d, hd, _, _, _, _ => by simp at hd
  | d0 :: r, S, h, d, hd, hv, hs, g, hg => by
    have h1 : ∀ i, swp1 S d0 i = true → S i = true := fun i hi => h i (swp_mono r _ i hi)
    rcases List.mem_cons.1 hd with rfl | hd
    · refine h1 g ?_
      unfold swp1
      rw [hv, hs]
      simp [hg]
    · have h2 : ∀ i, swp1 S d0 i = S i := fun i => by
        cases hb : S i with
        | true => exact swp1_mono S d0 i hb
        | false =>
          cases hb2 : swp1 S d0 i with
          | false => rfl
          | true => rw [h1 i hb2] at hb; cases hb
      have h3 : swp1 S d0 = S := funext h2
      have h4 : ∀ i, swp S r i = true → S i = true := fun i hi => h i (by show swp (swp1 S d0) r i = true; rw [h3]; exact hi)
      exact swp_fix r S h4 d hd hv hs g hg
theorem fix_clo {ds : List De} {S : Nat → Bool} (hn : Named ds) (h : ∀ i, swp S ds i = true → S i = true) : Clo ds S := by
  intro f g hf he
  unfold edge at he
  split at he
  · rename_i d hd
    obtain ⟨hm, hx⟩ := fnd_mem hd
    refine swp_fix ds S h d hm (hn d hm).1 ?_ g he
    rw [hx]
    exact hf
  · cases he

/-- How many of the functions are marked. -/
def cnt8 (S : Nat → Bool) : List De → Nat
  | [] => 0
  | d :: r => (if S d.nm.toNat then 1 else 0) + cnt8 S r
theorem cnt8_le (S : Nat → Bool) : ∀ r : List De, cnt8 S r ≤ r.length
  | [] => Nat.le_refl _
  | d :: r => by have := cnt8_le S r; simp only [cnt8, List.length_cons]; split <;> omega
theorem cnt8_mono {S T : Nat → Bool} (h : ∀ i, S i = true → T i = true) : ∀ r : List De, cnt8 S r ≤ cnt8 T r
  | [] => Nat.le_refl _
  | d :: r => by
    have := cnt8_mono h r
    simp only [cnt8]
    cases hs : S d.nm.toNat with
    | true => rw [h _ hs]; simp; exact this
    | false => simp; omega
theorem cnt8_lt {S T : Nat → Bool} (h : ∀ i, S i = true → T i = true) : ∀ (r : List De) (d : De), d ∈ r → S d.nm.toNat = false → T d.nm.toNat = true → cnt8 S r < cnt8 T r
  | [], _, hd, _, _ => by simp at hd
  | d0 :: r, d, hd, h1, h2 => by
    have hm := cnt8_mono h r
    simp only [cnt8]
    rcases List.mem_cons.1 hd with rfl | hd
    · rw [h1, h2]; simp; omega
    · have hl := cnt8_lt h r d hd h1 h2
      cases hs : S d0.nm.toNat with
      | true => rw [h _ hs]; simp; omega
      | false => simp; omega
theorem cnt8_pos {S : Nat → Bool} (r : List De) (d : De) (hd : d ∈ r) (h : S d.nm.toNat = true) : 1 ≤ cnt8 S r := by
  have h0 : cnt8 (fun _ => false) r < cnt8 S r := cnt8_lt (fun i h => by cases h) r d hd rfl h
  omega

/-- As many rounds as there are functions come to what can be reached. -/
theorem rnds_clo {ds : List De} {S : Nat → Bool} (hn : Named ds) (hin : ∀ i, Rch S (edge ds) i → ∃ d ∈ ds, d.nm.toNat = i) : Clo ds (rnds ds S ds.length) := by
  have key : ∀ j, Clo ds (rnds ds S j) ∨ j + 1 ≤ cnt8 (rnds ds S j) ds := by
    intro j
    induction j with
    | zero =>
      by_cases h : ∃ i, S i = true
      · obtain ⟨i, hi⟩ := h
        obtain ⟨d, hd, hx⟩ := hin i (.base hi)
        exact .inr (cnt8_pos ds d hd (by show S d.nm.toNat = true; rw [hx]; exact hi))
      · exact .inl fun f g hf _ => absurd ⟨f, hf⟩ h
    | succ j ih =>
      by_cases hfix : ∀ i, swp (rnds ds S j) ds i = true → rnds ds S j i = true
      · have heq : rnds ds S (j + 1) = rnds ds S j := funext fun i => by
          show swp (rnds ds S j) ds i = rnds ds S j i
          cases hb : rnds ds S j i with
          | true => exact swp_mono ds _ i hb
          | false =>
            cases hb2 : swp (rnds ds S j) ds i with
            | false => rfl
            | true => rw [hfix i hb2] at hb; cases hb
        left
        rw [heq]
        exact fix_clo hn hfix
      · have hm := swp_mono ds (rnds ds S j)
        have hx : ∃ i, swp (rnds ds S j) ds i = true ∧ rnds ds S j i = false := by
          refine Classical.byContradiction fun hno => hfix fun i hi => ?_
          cases hb : rnds ds S j i with
          | true => rfl
          | false => exact absurd ⟨i, hi, hb⟩ hno
        obtain ⟨i, h1, h2⟩ := hx
        rcases ih with ih | ih
        · exfalso
          have h3 := clo_rch ih (S := rnds ds S j) (fun _ h => h) i
          have h4 : Rch (rnds ds S j) (edge ds) i := swp_rch hn ds _ (fun _ h => h) (fun i h => .base h) i h1
          rw [h3 h4] at h2
          cases h2
        · right
          obtain ⟨d, hd, hx⟩ := hin i (rnds_rch hn (j + 1) i h1)
          have h5 := cnt8_lt (S := rnds ds S j) (T := rnds ds S (j + 1)) (fun i h => hm i h) ds d hd (by rw [hx]; exact h2) (by rw [hx]; exact h1)
          omega
  rcases key ds.length with h | h
  · exact h
  · have := cnt8_le (rnds ds S ds.length) ds
    omega
theorem rnds_start {ds : List De} {S : Nat → Bool} : ∀ j i, S i = true → rnds ds S j i = true
  | 0, _, h => h
  | j + 1, i, h => swp_mono ds _ i (rnds_start j i h)
/-- The rounds mark just what can be reached. -/
theorem rnds_iff {ds : List De} {S : Nat → Bool} (hn : Named ds) (hin : ∀ i, Rch S (edge ds) i → ∃ d ∈ ds, d.nm.toNat = i) (i : Nat) : rnds ds S ds.length i = true ↔ Rch S (edge ds) i :=
  ⟨rnds_rch hn _ i, clo_rch (rnds_clo hn hin) (rnds_start _) i⟩

theorem ari_there {ds : List De} {v : Nat} {a : Int} (h : ariS ds (v : Int) = some a) : ∃ d, fnd (v : Int) ds = some d := by
  unfold ariS at h
  cases hq : fnd (v : Int) ds with
  | none => rw [hq] at h; cases h
  | some d => exact ⟨d, rfl⟩
theorem edge_there {ds : List De} (h : libOk ds = true) {f g : Nat} (he : edge ds f g = true) : ∃ d, fnd (g : Int) ds = some d := by
  unfold edge at he
  split at he
  · rename_i d hd
    obtain ⟨hm, _⟩ := fnd_mem hd
    obtain ⟨a, ha⟩ := fitN_calls (libOk_body h d hm) he
    exact ari_there ha
  · cases he
theorem rch_there {ds : List De} {op n : Int} {k : Fo} (h : libOk ds = true) (hf : callsFitB ds op n k = true) : ∀ i, Rch (callB ⟨op, n, k⟩) (edge ds) i → ∃ d, fnd (i : Int) ds = some d := by
  intro i hi
  cases hi with
  | base h1 =>
    unfold callsFitB at hf
    rw [Bool.and_eq_true] at hf
    obtain ⟨a, ha⟩ := fitN_calls hf.2 h1
    exact ari_there ha
  | step _ e => exact edge_there h e

/-- The answer of CallsFrom. -/
def fromS (ds : List De) (op n : Int) (k : Fo) : Nat → Bool := rnds ds (callB ⟨op, n, k⟩) ds.length
def fromL (ds : List De) (op n : Int) (k : Fo) : List Int := if libOk ds && callsFitB ds op n k then numsUpto (fromS ds op n k) 8 else []
theorem fromS_iff {ds : List De} {op n : Int} {k : Fo} (h : libOk ds = true) (hf : callsFitB ds op n k = true) (i : Nat) : fromS ds op n k i = true ↔ Rch (callB ⟨op, n, k⟩) (edge ds) i :=
  rnds_iff (libOk_named h) (fun i hi => by
    obtain ⟨d, hd⟩ := rch_there h hf i hi
    obtain ⟨hm, hx⟩ := fnd_mem hd
    exact ⟨d, hm, by rw [hx]; rfl⟩) i
theorem fromL_no {ds : List De} {op n : Int} {k : Fo} (h : (libOk ds && callsFitB ds op n k) = false) : fromL ds op n k = [] := by unfold fromL; rw [h]; rfl
theorem fromL_yes {ds : List De} {op n : Int} {k : Fo} (h1 : libOk ds = true) (h2 : callsFitB ds op n k = true) : fromL ds op n k = numsUpto (fromS ds op n k) 8 := by unfold fromL; rw [h1, h2]; rfl
theorem fromL_small {ds : List De} {op n : Int} {k : Fo} : ∀ x ∈ fromL ds op n k, I64 x := by
  intro x hx
  unfold fromL at hx
  split at hx
  · exact numsUpto_small _ 8 x (Nat.le_refl _) hx
  · simp at hx
theorem fromL_len (ds : List De) (op n : Int) (k : Fo) : (fromL ds op n k).length ≤ 8 := by
  unfold fromL
  split
  · exact numsUpto_len _ 8
  · exact Nat.zero_le _
end Go.Proofs.Ytbpcggbmlaomjaa
