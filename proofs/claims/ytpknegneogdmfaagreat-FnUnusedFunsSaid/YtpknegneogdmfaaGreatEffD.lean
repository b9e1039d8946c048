/-
  The functions out of use that an expression calls, as data.
  The functions that an expression calls, also within functions, as data: the rounds of the model, and what can be reached.
  Outputs, as data.
  Effects as data: which functions are quiet, which end; sets of functions that are made by rounds.
  The names of a library's functions that are in a set; the answers of QuietFuns and EndingFuns.
  Purity, as data: by the nodes (the model), and by what is called (the program).
  Trees whose nodes have the right number of Kids, and whose calls are of functions. What comes first, as data.
-/
import Derived.Test.YtpknegneogdmfaaGreatLibVD
import Derived.Test.YtpknegneogdmfaaGreatCallsM
import Derived.Test.YtpknegneogdmfaaGreatFo
namespace Go.Proofs.YtpknegneogdmfaaGreat
open Go.RowKit
set_option maxRecDepth 100000

theorem fit_calls {ari : Int → Option Int} : ∀ (k : Fo) (v : Nat), fitF ari k = true → callF k v = true → ∃ a, ari (v : Int) = some a
  | .nil, v, _, h => by simp [callF] at h
  | .cons op n k r, v, hf, h => by
    rw [fitF_cons rfl, Bool.and_eq_true] at hf
    rw [callF_cons rfl, Bool.or_eq_true] at h
    rcases h with h | h
    · unfold fitN at hf
      rw [Bool.and_eq_true] at hf
      unfold callB at h
      rw [Bool.or_eq_true] at h
      rcases h with h | h
      · unfold ownCall at h
        rw [Bool.and_eq_true] at h
        have h3 := of_decide_eq_true h.1
        have hn := of_decide_eq_true h.2
        have ho := hf.1.1
        dsimp only at h3 hn
        unfold okCall at ho
        rw [if_pos h3] at ho
        rw [← hn]
        exact ⟨_, of_decide_eq_true ho⟩
      · exact fit_calls k v hf.1.2 h
    · exact fit_calls r v hf.2 h
theorem fitN_calls {ari : Int → Option Int} {op n : Int} {k : Fo} {v : Nat} (hf : fitN ari op n k = true) (h : callB ⟨op, n, k⟩ v = true) : ∃ a, ari (v : Int) = some a := by
  have h1 : fitF ari (.cons op n k .nil) = true := by rw [fitF_cons rfl, hf]; rfl
  exact fit_calls _ v h1 (by rw [callF_cons rfl, h]; rfl)

/-- Is the function with this name out of use? -/
def oldB (ds : List De) (x : Int) : Bool := match fnd x ds with | some d => d.old | none => false
def oldL (ds : List De) (op n : Int) (k : Fo) : List Int := if libOk ds && callsFitB ds op n k then (numsUpto (callB ⟨op, n, k⟩) 8).filter (oldB ds) else []

theorem numsUpto_mem {S : Nat → Bool} : ∀ (j : Nat) (x : Int), x ∈ numsUpto S j → ∃ v, v < j ∧ x = (v : Int) ∧ S v = true
  | 0, x, h => by simp [numsUpto] at h
  | j + 1, x, h => by
    rcases Bool.eq_false_or_eq_true (S j) with hs | hs
    · rw [numsUpto_yes hs] at h
      rcases List.mem_append.1 h with h | h
      · obtain ⟨v, h1, h2, h3⟩ := numsUpto_mem j x h
        exact ⟨v, by omega, h2, h3⟩
      · rw [List.mem_singleton] at h
        exact ⟨j, by omega, h, hs⟩
    · rw [numsUpto_no hs] at h
      obtain ⟨v, h1, h2, h3⟩ := numsUpto_mem j x h
      exact ⟨v, by omega, h2, h3⟩

/-- What a fitting expression calls is there. -/
theorem called_there {ds : List De} {op n : Int} {k : Fo} (hf : callsFitB ds op n k = true) : ∀ x ∈ numsUpto (callB ⟨op, n, k⟩) 8, inVar x = true ∧ ∃ d, fnd x ds = some d := by
  intro x hx
  obtain ⟨v, h1, rfl, h3⟩ := numsUpto_mem 8 x hx
  unfold callsFitB at hf
  rw [Bool.and_eq_true] at hf
  obtain ⟨a, ha⟩ := fitN_calls hf.2 h3
  refine ⟨by unfold inVar; simp; omega, ?_⟩
  unfold ariS at ha
  cases hq : fnd (v : Int) ds with
  | none => rw [hq] at ha; cases ha
  | some d => exact ⟨d, rfl⟩

theorem oldL_no {ds : List De} {op n : Int} {k : Fo} (h : (libOk ds && callsFitB ds op n k) = false) : oldL ds op n k = [] := by unfold oldL; rw [h]; rfl
theorem oldL_yes {ds : List De} {op n : Int} {k : Fo} (h1 : libOk ds = true) (h2 : callsFitB ds op n k = true) : oldL ds op n k = (numsUpto (callB ⟨op, n, k⟩) 8).filter (oldB ds) := by unfold oldL; rw [h1, h2]; rfl

theorem filter_take_no {p : Int → Bool} {zs : List Int} {j : Nat} {x : Int} (h : zs[j]? = some x) (hp : p x = false) : (zs.take (j + 1)).filter p = (zs.take j).filter p := by
  rw [List.take_add_one, h, List.filter_append]; simp [hp]
theorem filter_take_yes {p : Int → Bool} {zs : List Int} {j : Nat} {x : Int} (h : zs[j]? = some x) (hp : p x = true) : (zs.take (j + 1)).filter p = (zs.take j).filter p ++ [x] := by
  rw [List.take_add_one, h, List.filter_append]; simp [hp]
theorem filter_take_len (p : Int → Bool) (zs : List Int) (j : Nat) : ((zs.take j).filter p).length ≤ zs.length := by
  have h1 := List.length_filter_le p (zs.take j)
  have h2 := List.length_take_le j zs
  have h3 : (zs.take j).length ≤ zs.length := by rw [List.length_take]; omega
  omega
theorem oldL_small {ds : List De} {op n : Int} {k : Fo} : ∀ x ∈ oldL ds op n k, I64 x := by
  intro x hx
  unfold oldL at hx
  split at hx
  · exact numsUpto_small _ 8 x (Nat.le_refl _) (List.mem_filter.1 hx).1
  · simp at hx
theorem oldL_len (ds : List De) (op n : Int) (k : Fo) : (oldL ds op n k).length ≤ 8 := by
  unfold oldL
  split
  · exact Nat.le_trans (List.length_filter_le _ _) (numsUpto_len _ 8)
  · exact Nat.zero_le _
end Go.Proofs.YtpknegneogdmfaaGreat

namespace Go.Proofs.YtpknegneogdmfaaGreat
open Go.RowKit
set_option maxRecDepth 100000

/-- The functions that the body of f calls. -/
def edge (ds : List De) (f g : Nat) : Bool := match fnd (f : Int) ds with | some d => callB ⟨d.op, d.n, d.k⟩ g | none => false

/-- What can be reached. -/
inductive Rch (S : Nat → Bool) (E : Nat → Nat → Bool) : Nat → Prop
  | base {g : Nat} (h : S g = true) : Rch S E g
  | step {f g : Nat} (h : Rch S E f) (e : E f g = true) : Rch S E g

/-- One function in a round of the model. -/
def swp1 (S : Nat → Bool) (d : De) : Nat → Bool := if inVar d.nm && S d.nm.toNat then fun i => S i || callB ⟨d.op, d.n, d.k⟩ i else S
def swp (S : Nat → Bool) (ds : List De) : Nat → Bool := ds.foldl swp1 S
def rnds (ds : List De) (S : Nat → Bool) : Nat → Nat → Bool
  | 0 => S
  | j + 1 => swp (rnds ds S j) ds

theorem swp1_mono (S : Nat → Bool) (d : De) (i : Nat) (h : S i = true) : swp1 S d i = true := by
  unfold swp1
  split
  · simp [h]
  · exact h
theorem swp_mono : ∀ (ds : List De) (S : Nat → Bool) (i : Nat), S i = true → swp S ds i = true
  | [], _, _, h => h
  | d :: r, S, i, h => swp_mono r (swp1 S d) i (swp1_mono S d i h)

theorem swp1_rch {ds : List De} {S0 S : Nat → Bool} (hn : Named ds) {d : De} (hd : d ∈ ds) (h : ∀ i, S i = true → Rch S0 (edge ds) i) : ∀ i, swp1 S d i = true → Rch S0 (edge ds) i := by
  intro i hi
  unfold swp1 at hi
  split at hi
  · rename_i hc
    rw [Bool.and_eq_true] at hc
    dsimp only at hi
    rw [Bool.or_eq_true] at hi
    rcases hi with hi | hi
    · exact h i hi
    · refine .step (h _ hc.2) ?_
      unfold edge
      rw [(inVar_nat hc.1).1, (hn d hd).2]
      exact hi
  · exact h i hi
theorem swp_rch {ds : List De} {S0 : Nat → Bool} (hn : Named ds) : ∀ (r : List De) (S : Nat → Bool), (∀ d ∈ r, d ∈ ds) → (∀ i, S i = true → Rch S0 (edge ds) i) → ∀ i, swp S r i = true → Rch S0 (edge ds) i
  | [], _, _, h => h
  | d :: r, S, hr, h => swp_rch hn r (swp1 S d) (fun e he => hr e (List.mem_cons_of_mem _ he)) (swp1_rch hn (hr d (List.mem_cons_self ..)) h)
theorem rnds_rch {ds : List De} {S : Nat → Bool} (hn : Named ds) : ∀ j i, rnds ds S j i = true → Rch S (edge ds) i
  | 0, _, h => .base h
  | j + 1, i, h => swp_rch hn ds _ (fun _ h => h) (rnds_rch hn j) i h

def Clo (ds : List De) (S : Nat → Bool) : Prop := ∀ f g, S f = true → edge ds f g = true → S g = true
theorem clo_rch {ds : List De} {S T : Nat → Bool} (hc : Clo ds T) (h : ∀ i, S i = true → T i = true) : ∀ i, Rch S (edge ds) i → T i = true := by
  intro i hi
  induction hi with
  | base h1 => exact h _ h1
  | step _ e ih => exact hc _ _ ih e

/-- What a round that changes nothing leaves is closed. -/
theorem swp_fix : ∀ (r : List De) (S : Nat → Bool), (∀ i, swp S r i = true → S i = true) → ∀ d ∈ r, inVar d.nm = true → S d.nm.toNat = true → ∀ g, callB ⟨d.op, d.n, d.k⟩ g = true → S g = true
  | [], _, _, d, hd, _, _, _, _ => by simp at hd
  | d0 :: r, S, h, d, hd, hv, hs, g, hg => by
    have h1 : ∀ i, swp1 S d0 i = true → S i = true := fun i hi => h i (swp_mono r _ i hi)
    rcases List.mem_cons.1 hd with rfl | hd
    · refine h1 g ?_
      unfold swp1
      rw [hv, hs]
      simp [hg]
    · have h2 : ∀ i, swp1 S d0 i = S i := fun i => by
        cases hb : S i with
        | true => exact swp1_mono S d0 i hb
        | false =>
          cases hb2 : swp1 S d0 i with
          | false => rfl
          | true => rw [h1 i hb2] at hb; cases hb
      have h3 : swp1 S d0 = S := funext h2
      have h4 : ∀ i, swp S r i = true → S i = true := fun i hi => h i (by show swp (swp1 S d0) r i = true; rw [h3]; exact hi)
      exact swp_fix r S h4 d hd hv hs g hg
theorem fix_clo {ds : List De} {S : Nat → Bool} (hn : Named ds) (h : ∀ i, swp S ds i = true → S i = true) : Clo ds S := by
  intro f g hf he
  unfold edge at he
  split at he
  · rename_i d hd
    obtain ⟨hm, hx⟩ := fnd_mem hd
    refine swp_fix ds S h d hm (hn d hm).1 ?_ g he
    rw [hx]
    exact hf
  · cases he

/-- How many of the functions are marked. -/
def cnt8 (S : Nat → Bool) : List De → Nat
  | [] => 0
  | d :: r => (if S d.nm.toNat then 1 else 0) + cnt8 S r
theorem cnt8_le (S : Nat → Bool) : ∀ r : List De, cnt8 S r ≤ r.length
  | [] => Nat.le_refl _
  | d :: r => by have := cnt8_le S r; simp only [cnt8, List.length_cons]; split <;> omega
theorem cnt8_mono {S T : Nat → Bool} (h : ∀ i, S i = true → T i = true) : ∀ r : List De, cnt8 S r ≤ cnt8 T r
  | [] => Nat.le_refl _
  | d :: r => by
    have := cnt8_mono h r
    simp only [cnt8]
    cases hs : S d.nm.toNat with
    | true => rw [h _ hs]; simp; exact this
    | false => simp; omega
theorem cnt8_lt {S T : Nat → Bool} (h : ∀ i, S i = true → T i = true) : ∀ (r : List De) (d : De), d ∈ r → S d.nm.toNat = false → T d.nm.toNat = true → cnt8 S r < cnt8 T r
  | [], _, hd, _, _ => by simp at hd
  | d0 :: r, d, hd, h1, h2 => by
    have hm := cnt8_mono h r
    simp only [cnt8]
    rcases List.mem_cons.1 hd with rfl | hd
    · rw [h1, h2]; simp; omega
    · have hl := cnt8_lt h r d hd h1 h2
      cases hs : S d0.nm.toNat with
      | true => rw [h _ hs]; simp; omega
      | false => simp; omega
theorem cnt8_pos {S : Nat → Bool} (r : List De) (d : De) (hd : d ∈ r) (h : S d.nm.toNat = true) : 1 ≤ cnt8 S r := by
  have h0 : cnt8 (fun _ => false) r < cnt8 S r := cnt8_lt (fun i h => by cases h) r d hd rfl h
  omega

/-- As many rounds as there are functions come to what can be reached. -/
theorem rnds_clo {ds : List De} {S : Nat → Bool} (hn : Named ds) (hin : ∀ i, Rch S (edge ds) i → ∃ d ∈ ds, d.nm.toNat = i) : Clo ds (rnds ds S ds.length) := by
  have key : ∀ j, Clo ds (rnds ds S j) ∨ j + 1 ≤ cnt8 (rnds ds S j) ds := by
    intro j
    induction j with
    | zero =>
      by_cases h : ∃ i, S i = true
      · obtain ⟨i, hi⟩ := h
        obtain ⟨d, hd, hx⟩ := hin i (.base hi)
        exact .inr (cnt8_pos ds d hd (by show S d.nm.toNat = true; rw [hx]; exact hi))
      · exact .inl fun f g hf _ => absurd ⟨f, hf⟩ h
    | succ j ih =>
      by_cases hfix : ∀ i, swp (rnds ds S j) ds i = true → rnds ds S j i = true
      · have heq : rnds ds S (j + 1) = rnds ds S j := funext fun i => by
          show swp (rnds ds S j) ds i = rnds ds S j i
          cases hb : rnds ds S j i with
          | true => exact swp_mono ds _ i hb
          | false =>
            cases hb2 : swp (rnds ds S j) ds i with
            | false => rfl
            | true => rw [hfix i hb2] at hb; cases hb
        left
        rw [heq]
        exact fix_clo hn hfix
      · have hm := swp_mono ds (rnds ds S j)
        have hx : ∃ i, swp (rnds ds S j) ds i = true ∧ rnds ds S j i = false := by
          refine Classical.byContradiction fun hno => hfix fun i hi => ?_
          cases hb : rnds ds S j i with
          | true => rfl
          | false => exact absurd ⟨i, hi, hb⟩ hno
        obtain ⟨i, h1, h2⟩ := hx
        rcases ih with ih | ih
        · exfalso
          have h3 := clo_rch ih (S := rnds ds S j) (fun _ h => h) i
          have h4 : Rch (rnds ds S j) (edge ds) i := swp_rch hn ds _ (fun _ h => h) (fun i h => .base h) i h1
          rw [h3 h4] at h2
          cases h2
        · right
          obtain ⟨d, hd, hx⟩ := hin i (rnds_rch hn (j + 1) i h1)
          have h5 := cnt8_lt (S := rnds ds S j) (T := rnds ds S (j + 1)) (fun i h => hm i h) ds d hd (by rw [hx]; exact h2) (by rw [hx]; exact h1)
          omega
  rcases key ds.length with h | h
  · exact h
  · have := cnt8_le (rnds ds S ds.length) ds
    omega
theorem rnds_start {ds : List De} {S : Nat → Bool} : ∀ j i, S i = true → rnds ds S j i = true
  | 0, _, h => h
  | j + 1, i, h => swp_mono ds _ i (rnds_start j i h)
/-- The rounds mark just what can be reached. -/
theorem rnds_iff {ds : List De} {S : Nat → Bool} (hn : Named ds) (hin : ∀ i, Rch S (edge ds) i → ∃ d ∈ ds, d.nm.toNat = i) (i : Nat) : rnds ds S ds.length i = true ↔ Rch S (edge ds) i :=
  ⟨rnds_rch hn _ i, clo_rch (rnds_clo hn hin) (rnds_start _) i⟩

theorem ari_there {ds : List De} {v : Nat} {a : Int} (h : ariS ds (v : Int) = some a) : ∃ d, fnd (v : Int) ds = some d := by
  unfold ariS at h
  cases hq : fnd (v : Int) ds with
  | none => rw [hq] at h; cases h
  | some d => exact ⟨d, rfl⟩
theorem edge_there {ds : List De} (h : libOk ds = true) {f g : Nat} (he : edge ds f g = true) : ∃ d, fnd (g : Int) ds = some d := by
  unfold edge at he
  split at he
  · rename_i d hd
    obtain ⟨hm, _⟩ := fnd_mem hd
    obtain ⟨a, ha⟩ := fitN_calls (libOk_body h d hm) he
    exact ari_there ha
  · cases he
theorem rch_there {ds : List De} {op n : Int} {k : Fo} (h : libOk ds = true) (hf : callsFitB ds op n k = true) : ∀ i, Rch (callB ⟨op, n, k⟩) (edge ds) i → ∃ d, fnd (i : Int) ds = some d := by
  intro i hi
  cases hi with
  | base h1 =>
    unfold callsFitB at hf
    rw [Bool.and_eq_true] at hf
    obtain ⟨a, ha⟩ := fitN_calls hf.2 h1
    exact ari_there ha
  | step _ e => exact edge_there h e

/-- The answer of CallsFrom. -/
def fromS (ds : List De) (op n : Int) (k : Fo) : Nat → Bool := rnds ds (callB ⟨op, n, k⟩) ds.length
def fromL (ds : List De) (op n : Int) (k : Fo) : List Int := if libOk ds && callsFitB ds op n k then numsUpto (fromS ds op n k) 8 else []
theorem fromS_iff {ds : List De} {op n : Int} {k : Fo} (h : libOk ds = true) (hf : callsFitB ds op n k = true) (i : Nat) : fromS ds op n k i = true ↔ Rch (callB ⟨op, n, k⟩) (edge ds) i :=
  rnds_iff (libOk_named h) (fun i hi => by
    obtain ⟨d, hd⟩ := rch_there h hf i hi
    obtain ⟨hm, hx⟩ := fnd_mem hd
    exact ⟨d, hm, by rw [hx]; rfl⟩) i
theorem fromL_no {ds : List De} {op n : Int} {k : Fo} (h : (libOk ds && callsFitB ds op n k) = false) : fromL ds op n k = [] := by unfold fromL; rw [h]; rfl
theorem fromL_yes {ds : List De} {op n : Int} {k : Fo} (h1 : libOk ds = true) (h2 : callsFitB ds op n k = true) : fromL ds op n k = numsUpto (fromS ds op n k) 8 := by unfold fromL; rw [h1, h2]; rfl
theorem fromL_small {ds : List De} {op n : Int} {k : Fo} : ∀ x ∈ fromL ds op n k, I64 x := by
  intro x hx
  unfold fromL at hx
  split at hx
  · exact numsUpto_small _ 8 x (Nat.le_refl _) hx
  · simp at hx
theorem fromL_len (ds : List De) (op n : Int) (k : Fo) : (fromL ds op n k).length ≤ 8 := by
  unfold fromL
  split
  · exact numsUpto_len _ 8
  · exact Nat.zero_le _
end Go.Proofs.YtpknegneogdmfaaGreat

namespace Go.Proofs.YtpknegneogdmfaaGreat
open Go.RowKit
set_option maxRecDepth 100000

/-- Is the node an output? -/
def ownO (op _n : Int) (_v : Nat) : Bool := decide (op = 9)
def outsB (op n : Int) (k : Fo) : Bool := hasB ownO ⟨op, n, k⟩ 0
def outsF (k : Fo) : Bool := hasF ownO k 0
theorem outsF_cons {f : Fo} {op n : Int} {k r : Fo} (e : f = .cons op n k r) : outsF f = (outsB op n k || outsF r) := hasF_cons e 0
theorem outsB_yes (n : Int) (k : Fo) : outsB 9 n k = true := by simp [outsB, hasB, ownO]
theorem outsB_no {op : Int} (n : Int) (k : Fo) (h : op ≠ 9) : outsB op n k = outsF k := by simp [outsB, hasB, ownO, h, outsF]
end Go.Proofs.YtpknegneogdmfaaGreat

namespace Go.Proofs.YtpknegneogdmfaaGreat
open Go.RowKit
set_option maxRecDepth 100000

def outsD (d : De) : Bool := outsB d.op d.n d.k
def callD (d : De) : Nat → Bool := callB ⟨d.op, d.n, d.k⟩

/-- The model's words. -/
def quietS (ds : List De) (f : Int) : Bool := ds.all fun d => !(fromS ds 3 f .nil d.nm.toNat && outsD d)
def endingS (ds : List De) (f : Int) : Bool := ds.all fun d => !(fromS ds 3 f .nil d.nm.toNat && fromS ds d.op d.n d.k d.nm.toNat)

theorem rch_in {S T : Nat → Bool} {E : Nat → Nat → Bool} (h : ∀ i, S i = true → Rch T E i) {i : Nat} (hi : Rch S E i) : Rch T E i := by
  induction hi with
  | base h1 => exact h _ h1
  | step _ e ih => exact .step ih e
/-- The set of one function. -/
def just (f : Nat) : Nat → Bool := fun i => decide (i = f)
theorem call_just {f : Nat} : callB ⟨3, (f : Int), .nil⟩ = just f := by
  funext i
  unfold callB ownCall callF just
  rw [Bool.eq_iff_iff]
  simp
  omega
theorem rch_just {E : Nat → Nat → Bool} (f : Nat) : Rch (just f) E f := .base (by simp [just])
theorem just_in {S : Nat → Bool} {E : Nat → Nat → Bool} {f i : Nat} (hf : Rch S E f) (hi : Rch (just f) E i) : Rch S E i :=
  rch_in (fun j hj => by unfold just at hj; rw [of_decide_eq_true hj]; exact hf) hi
/-- From a function: itself, or from one that it calls. -/
theorem just_split {E : Nat → Nat → Bool} {f i : Nat} (h : Rch (just f) E i) : i = f ∨ ∃ c, E f c = true ∧ Rch (just c) E i := by
  induction h with
  | base h1 => exact .inl (of_decide_eq_true h1)
  | step _ e ih =>
    rcases ih with rfl | ⟨c, h1, h2⟩
    · exact .inr ⟨_, e, rch_just _⟩
    · exact .inr ⟨c, h1, .step h2 e⟩
theorem set_split {S : Nat → Bool} {E : Nat → Nat → Bool} {i : Nat} (h : Rch S E i) : ∃ c, S c = true ∧ Rch (just c) E i := by
  induction h with
  | base h1 => exact ⟨_, h1, rch_just _⟩
  | step _ e ih => obtain ⟨c, h1, h2⟩ := ih; exact ⟨c, h1, .step h2 e⟩

theorem edge_at {ds : List De} {f : Nat} {d : De} (h : fnd (f : Int) ds = some d) (g : Nat) : edge ds f g = callD d g := by unfold edge; rw [h]; rfl
theorem edge_mem {ds : List De} (h : libOk ds = true) {d : De} (hd : d ∈ ds) (g : Nat) : edge ds d.nm.toNat g = callD d g := by
  have hn := libOk_named h d hd
  have e := (inVar_nat hn.1).1
  exact edge_at (by rw [e]; exact hn.2) g
theorem there_mem {ds : List De} (_h : libOk ds = true) {g : Nat} {d : De} (hd : fnd (g : Int) ds = some d) : d ∈ ds ∧ d.nm.toNat = g := by
  obtain ⟨hm, hx⟩ := fnd_mem hd
  exact ⟨hm, by rw [hx]; rfl⟩
theorem edge_lt8 {ds : List De} (h : libOk ds = true) {f g : Nat} (he : edge ds f g = true) : g < 8 := by
  obtain ⟨d, hd⟩ := edge_there h he
  obtain ⟨hm, hx⟩ := there_mem h hd
  have := (inVar_nat (libOk_named h d hm).1).2
  omega

/-- What the model's search from a function of the library marks. -/
theorem from_fun {ds : List De} (h : libOk ds = true) {d : De} (hd : d ∈ ds) (i : Nat) : fromS ds 3 d.nm .nil i = true ↔ Rch (just d.nm.toNat) (edge ds) i := by
  have hn := libOk_named h d hd
  have e := (inVar_nat hn.1).1
  unfold fromS
  rw [← e, call_just]
  refine rnds_iff (libOk_named h) (fun j hj => ?_) i
  cases hj with
  | base h1 => exact ⟨d, hd, (of_decide_eq_true h1).symm⟩
  | step _ he =>
    obtain ⟨d', hd'⟩ := edge_there h he
    obtain ⟨hm, hx⟩ := there_mem h hd'
    exact ⟨d', hm, hx⟩
theorem from_body {ds : List De} (h : libOk ds = true) {d : De} (hd : d ∈ ds) (i : Nat) : fromS ds d.op d.n d.k i = true ↔ Rch (callD d) (edge ds) i := by
  unfold fromS
  refine rnds_iff (libOk_named h) (fun j hj => ?_) i
  have h2 : Rch (just d.nm.toNat) (edge ds) j := rch_in (fun c hc => .step (rch_just _) (by rw [edge_mem h hd]; exact hc)) hj
  rcases just_split h2 with rfl | ⟨c, h3, h4⟩
  · exact ⟨d, hd, rfl⟩
  · cases h2 with
    | base h1 => exact ⟨d, hd, (of_decide_eq_true h1).symm⟩
    | step _ he =>
      obtain ⟨d', hd'⟩ := edge_there h he
      obtain ⟨hm, hx⟩ := there_mem h hd'
      exact ⟨d', hm, hx⟩

/-- Can something be put out from the function f? -/
def Louds (ds : List De) (f : Nat) : Prop := ∃ d ∈ ds, Rch (just f) (edge ds) d.nm.toNat ∧ outsD d = true
theorem quiet_iff {ds : List De} (h : libOk ds = true) {d : De} (hd : d ∈ ds) : quietS ds d.nm = true ↔ ¬ Louds ds d.nm.toNat := by
  unfold quietS Louds
  rw [List.all_eq_true]
  constructor
  · rintro h1 ⟨g, hg, h2, h3⟩
    have h4 := h1 g hg
    rw [(from_fun h hd _).2 h2, h3] at h4
    cases h4
  · intro h1 g hg
    cases h2 : fromS ds 3 d.nm .nil g.nm.toNat with
    | false => rfl
    | true =>
      cases h3 : outsD g with
      | false => rfl
      | true => exact absurd ⟨g, hg, (from_fun h hd _).1 h2, h3⟩ h1
/-- Does all that is reached from f not reach itself? -/
def Ends (ds : List De) (f : Nat) : Prop := ∀ g, Rch (just f) (edge ds) g → ∀ c, edge ds g c = true → ¬ Rch (just c) (edge ds) g
theorem ending_iff {ds : List De} (h : libOk ds = true) {d : De} (hd : d ∈ ds) : endingS ds d.nm = true ↔ Ends ds d.nm.toNat := by
  unfold endingS Ends
  rw [List.all_eq_true]
  constructor
  · intro h1 g hg c hc hr
    obtain ⟨e, he⟩ : ∃ e, fnd (g : Int) ds = some e := by
      unfold edge at hc
      split at hc
      · exact ⟨_, by assumption⟩
      · cases hc
    obtain ⟨hm, hx⟩ := there_mem h he
    have h4 := h1 e hm
    rw [hx, (from_fun h hd _).2 hg] at h4
    have h5 : fromS ds e.op e.n e.k g = true := (from_body h hm _).2 (just_in (.base (by rw [← edge_at he]; exact hc)) hr)
    rw [h5] at h4
    cases h4
  · intro h1 g hg
    cases h2 : fromS ds 3 d.nm .nil g.nm.toNat with
    | false => rfl
    | true =>
      cases h3 : fromS ds g.op g.n g.k g.nm.toNat with
      | false => rfl
      | true =>
        obtain ⟨c, hc, hr⟩ := set_split ((from_body h hg _).1 h3)
        exact absurd hr (h1 _ ((from_fun h hd _).1 h2) c (by rw [edge_mem h hg]; exact hc))

-- sets that are made by rounds

/-- Made of nothing by taking what belongs to what was taken. -/
inductive Made (bel : De → (Nat → Bool) → Bool) (ds : List De) : (Nat → Bool) → Prop
  | nil : Made bel ds (fun _ => false)
  | add {T : Nat → Bool} {d : De} (h : Made bel ds T) (hd : d ∈ ds) (hb : bel d T = true) : Made bel ds (fun i => T i || decide (i = d.nm.toNat))
def Closed (bel : De → (Nat → Bool) → Bool) (ds : List De) (T : Nat → Bool) : Prop := ∀ d ∈ ds, bel d T = true → T d.nm.toNat = true

def anyT (T : Nat → Bool) (zs : List Int) : Bool := zs.any fun x => T x.toNat
def allT (T : Nat → Bool) (zs : List Int) : Bool := !zs.any fun x => !T x.toNat
def loudBel (d : De) (T : Nat → Bool) : Bool := outsD d || anyT T (numsUpto (callD d) 8)
def endBel (d : De) (T : Nat → Bool) : Bool := allT T (numsUpto (callD d) 8)
theorem nums_iff (S : Nat → Bool) : ∀ (j : Nat) (x : Int), x ∈ numsUpto S j ↔ ∃ v, v < j ∧ x = (v : Int) ∧ S v = true
  | 0, x => by simp [numsUpto]
  | j + 1, x => by
    constructor
    · exact numsUpto_mem (j + 1) x
    · rintro ⟨v, h1, rfl, h2⟩
      by_cases hv : v = j
      · subst hv
        rw [numsUpto_yes h2]
        exact List.mem_append_right _ (List.mem_singleton.2 rfl)
      · have h3 := (nums_iff S j _).2 ⟨v, by omega, rfl, h2⟩
        cases hs : S j with
        | true => rw [numsUpto_yes hs]; exact List.mem_append_left _ h3
        | false => rw [numsUpto_no hs]; exact h3
theorem anyT_iff (T S : Nat → Bool) : anyT T (numsUpto S 8) = true ↔ ∃ c, c < 8 ∧ S c = true ∧ T c = true := by
  unfold anyT
  rw [List.any_eq_true]
  constructor
  · rintro ⟨x, hx, ht⟩
    obtain ⟨v, h1, rfl, h2⟩ := (nums_iff S 8 x).1 hx
    exact ⟨v, h1, h2, ht⟩
  · rintro ⟨c, h1, h2, h3⟩
    exact ⟨_, (nums_iff S 8 _).2 ⟨c, h1, rfl, h2⟩, h3⟩
theorem allT_iff (T S : Nat → Bool) : allT T (numsUpto S 8) = true ↔ ∀ c, c < 8 → S c = true → T c = true := by
  have h := anyT_iff (fun i => !T i) S
  have h2 : allT T (numsUpto S 8) = !anyT (fun i => !T i) (numsUpto S 8) := rfl
  rw [h2]
  constructor
  · intro h3 c h1 h4
    cases ht : T c with
    | true => rfl
    | false => rw [h.2 ⟨c, h1, h4, by simp [ht]⟩] at h3; cases h3
  · intro h3
    cases ha : anyT (fun i => !T i) (numsUpto S 8) with
    | false => rfl
    | true =>
      obtain ⟨c, h1, h4, h5⟩ := h.1 ha
      rw [h3 c h1 h4] at h5
      cases h5

/-- The loud ones. -/
theorem loud_made {ds : List De} (h : libOk ds = true) {T : Nat → Bool} (hm : Made loudBel ds T) : ∀ i, T i = true → Louds ds i := by
  induction hm with
  | nil => intro i hi; cases hi
  | @add T d _ hd hb ih =>
    intro i hi
    rw [Bool.or_eq_true] at hi
    rcases hi with hi | hi
    · exact ih i hi
    · rw [of_decide_eq_true hi]
      unfold loudBel at hb
      rw [Bool.or_eq_true] at hb
      rcases hb with hb | hb
      · exact ⟨d, hd, rch_just _, hb⟩
      · obtain ⟨c, _, hc, ht⟩ := (anyT_iff _ _).1 hb
        obtain ⟨g, hg, hr, ho⟩ := ih c ht
        exact ⟨g, hg, just_in (.step (rch_just _) (by rw [edge_mem h hd]; exact hc)) hr, ho⟩
theorem loud_closed {ds : List De} (h : libOk ds = true) {T : Nat → Bool} (hc : Closed loudBel ds T) {f : Nat} (hf : Louds ds f) : T f = true := by
  obtain ⟨d, hd, hr, ho⟩ := hf
  have h1 : T d.nm.toNat = true := hc d hd (by unfold loudBel; rw [ho]; rfl)
  generalize d.nm.toNat = g at hr h1
  clear ho hd d
  induction hr with
  | base h2 => rw [← of_decide_eq_true h2]; exact h1
  | @step a b hr2 he ih =>
    refine ih ?_
    unfold edge at he
    split at he
    · rename_i d hd
      obtain ⟨hm, hx⟩ := there_mem h hd
      rw [← hx]
      refine hc d hm ?_
      unfold loudBel
      rw [(anyT_iff T (callD d)).2 ⟨b, edge_lt8 (f := a) h (by rw [edge_at hd]; exact he), he, h1⟩, Bool.or_true]
    · cases he
/-- The ending ones. -/
theorem end_made {ds : List De} (h : libOk ds = true) {T : Nat → Bool} (hm : Made endBel ds T) : ∀ i, T i = true → Ends ds i := by
  induction hm with
  | nil => intro i hi; cases hi
  | @add T d _ hd hb ih =>
    intro i hi
    rw [Bool.or_eq_true] at hi
    rcases hi with hi | hi
    · exact ih i hi
    · rw [of_decide_eq_true hi]
      have hb2 := (allT_iff T (callD d)).1 hb
      intro g hg c hc hr
      have key : ∀ c, edge ds d.nm.toNat c = true → T c = true := fun c hc => hb2 c (edge_lt8 h hc) (by rw [← edge_mem h hd]; exact hc)
      rcases just_split hg with rfl | ⟨c2, h1, h2⟩
      · exact ih c (key c hc) _ hr c hc hr
      · exact ih c2 (key c2 h1) g h2 c hc hr
/-- How many functions are reached behind f. -/
def behind (ds : List De) (f : Nat) : Nat := match fnd (f : Int) ds with | some d => cnt8 (fromS ds d.op d.n d.k) ds | none => 0
theorem behind_lt {ds : List De} (h : libOk ds = true) {f c : Nat} (he : Ends ds f) (hc : edge ds f c = true) : behind ds c < behind ds f := by
  obtain ⟨e, hfe⟩ := edge_there h hc
  obtain ⟨hem, hex⟩ := there_mem h hfe
  obtain ⟨d, hfd⟩ : ∃ d, fnd (f : Int) ds = some d := by
    unfold edge at hc
    split at hc
    · exact ⟨_, by assumption⟩
    · cases hc
  obtain ⟨hdm, hdx⟩ := there_mem h hfd
  unfold behind
  rw [hfe, hfd]
  refine cnt8_lt (fun i hi => ?_) ds e hem ?_ ?_
  · rw [from_body h hdm]
    rw [from_body h hem] at hi
    exact rch_in (fun j hj => .step (.base (by rw [← edge_at hfd]; exact hc)) (by rw [edge_at hfe]; exact hj)) hi
  · cases hb : fromS ds e.op e.n e.k e.nm.toNat with
    | false => rfl
    | true =>
      obtain ⟨c2, h1, h2⟩ := set_split ((from_body h hem _).1 hb)
      rw [hex] at h2
      exact absurd h2 (he c (.step (rch_just _) hc) c2 (by rw [edge_at hfe]; exact h1))
  · rw [from_body h hdm, hex]
    exact .base (by rw [← edge_at hfd]; exact hc)
theorem Ends.call {ds : List De} {f c : Nat} (he : Ends ds f) (hc : edge ds f c = true) : Ends ds c := fun g hg => he g (just_in (.step (rch_just _) hc) hg)
theorem end_closed {ds : List De} (h : libOk ds = true) {T : Nat → Bool} (hc : Closed endBel ds T) (m : Nat) : ∀ d ∈ ds, behind ds d.nm.toNat = m → Ends ds d.nm.toNat → T d.nm.toNat = true := by
  induction m using Nat.strongRecOn with
  | _ m ih =>
    intro d hd hm he
    refine hc d hd ?_
    refine (allT_iff T (callD d)).2 fun c _ hcc => ?_
    have hec : edge ds d.nm.toNat c = true := by rw [edge_mem h hd]; exact hcc
    obtain ⟨e, hfe⟩ := edge_there h hec
    obtain ⟨hem, hex⟩ := there_mem h hfe
    have := behind_lt h he hec
    rw [← hex] at this ⊢
    exact ih _ (by omega) e hem rfl (by rw [hex]; exact he.call hec)

/-- The sets that the rounds come to. -/
theorem loud_set {ds : List De} (h : libOk ds = true) {T : Nat → Bool} (hm : Made loudBel ds T) (hc : Closed loudBel ds T) {d : De} (hd : d ∈ ds) : T d.nm.toNat = !quietS ds d.nm := by
  cases hq : quietS ds d.nm with
  | true =>
    have h1 := (quiet_iff h hd).1 hq
    cases ht : T d.nm.toNat with
    | false => rfl
    | true => exact absurd (loud_made h hm _ ht) h1
  | false =>
    have h1 : ¬ ¬ Louds ds d.nm.toNat := fun hn => by rw [(quiet_iff h hd).2 hn] at hq; cases hq
    exact loud_closed h hc (Classical.not_not.1 h1)
theorem end_set {ds : List De} (h : libOk ds = true) {T : Nat → Bool} (hm : Made endBel ds T) (hc : Closed endBel ds T) {d : De} (hd : d ∈ ds) : T d.nm.toNat = endingS ds d.nm := by
  cases hq : endingS ds d.nm with
  | true => exact end_closed h hc _ d hd rfl ((ending_iff h hd).1 hq)
  | false =>
    cases ht : T d.nm.toNat with
    | false => rfl
    | true => rw [(ending_iff h hd).2 (end_made h hm _ ht)] at hq; cases hq
/-- No other number is taken. -/
theorem made_in {bel : De → (Nat → Bool) → Bool} {ds : List De} {T : Nat → Bool} (hm : Made bel ds T) : ∀ i, T i = true → ∃ d ∈ ds, d.nm.toNat = i := by
  induction hm with
  | nil => intro i hi; cases hi
  | @add T d _ hd _ ih =>
    intro i hi
    rw [Bool.or_eq_true] at hi
    rcases hi with hi | hi
    · exact ih i hi
    · exact ⟨d, hd, (of_decide_eq_true hi).symm⟩
end Go.Proofs.YtpknegneogdmfaaGreat

namespace Go.Proofs.YtpknegneogdmfaaGreat
open Go.RowKit
set_option maxRecDepth 100000

def namesD (ds : List De) : List Int := ds.map (·.nm)
def namesT (T : Nat → Bool) (ds : List De) : List Int := (namesD ds).filter fun x => T x.toNat
theorem namesD_at {ds : List De} {j : Nat} {d : De} (h : ds[j]? = some d) : (namesD ds)[j]? = some d.nm := by unfold namesD; rw [List.getElem?_map, h]; rfl
theorem namesD_len (ds : List De) : (namesD ds).length = ds.length := List.length_map _
theorem namesT_len (T : Nat → Bool) (ds : List De) : (namesT T ds).length ≤ ds.length := by
  have := List.length_filter_le (fun x : Int => T x.toNat) (namesD ds)
  rw [namesD_len] at this
  exact this

/-- The functions of a library for which something holds. -/
def funsP (p : Int → Bool) (ds : List De) : List Int := if libOk ds then (namesD ds).filter p else []
theorem funsP_no {p : Int → Bool} {ds : List De} (h : libOk ds = false) : funsP p ds = [] := by unfold funsP; rw [h]; rfl
theorem funsP_yes {p : Int → Bool} {ds : List De} (h : libOk ds = true) : funsP p ds = (namesD ds).filter p := by unfold funsP; rw [h]; rfl
theorem funsP_small {p : Int → Bool} {ds : List De} : ∀ x ∈ funsP p ds, I64 x := by
  intro x hx
  cases h : libOk ds with
  | false => rw [funsP_no h] at hx; simp at hx
  | true =>
    rw [funsP_yes h] at hx
    obtain ⟨d, hd, rfl⟩ := List.mem_map.1 (List.mem_filter.1 hx).1
    have := inVar_true (libOk_named h d hd).1
    unfold I64
    omega
theorem funsP_len (p : Int → Bool) (ds : List De) : (funsP p ds).length ≤ 8 := by
  cases h : libOk ds with
  | false => rw [funsP_no h]; exact Nat.zero_le _
  | true =>
    rw [funsP_yes h]
    have h1 := List.length_filter_le p (namesD ds)
    rw [namesD_len] at h1
    exact Nat.le_trans h1 (libOk_len h)
/-- The names in a set that says the same. -/
theorem namesT_filter {T : Nat → Bool} {p : Int → Bool} {ds : List De} (h : ∀ d ∈ ds, T d.nm.toNat = p d.nm) : namesT T ds = (namesD ds).filter p := by
  unfold namesT
  refine List.filter_congr fun x hx => ?_
  obtain ⟨d, hd, rfl⟩ := List.mem_map.1 hx
  exact h d hd
end Go.Proofs.YtpknegneogdmfaaGreat

namespace Go.Proofs.YtpknegneogdmfaaGreat
open Go.RowKit
set_option maxRecDepth 100000

/-- Is the node itself no obstacle? -/
def pureOwn (ds : List De) (op n : Int) : Bool := !(decide (op = 9) || (decide (op = 3) && (!quietS ds n || !endingS ds n)))
def pureF (ds : List De) : Fo → Bool
  | .nil => true
  | .cons op n k r => (pureOwn ds op n && pureF ds k) && pureF ds r
def pureS (ds : List De) (op n : Int) (k : Fo) : Bool := pureOwn ds op n && pureF ds k
theorem pureF_cons {ds : List De} {f : Fo} {op n : Int} {k r : Fo} (e : f = .cons op n k r) : pureF ds f = (pureS ds op n k && pureF ds r) := by subst e; rfl
def isPureB (ds : List De) (op n : Int) (k : Fo) : Bool := (libOk ds && callsFitB ds op n k) && pureS ds op n k

/-- The sets of the program. -/
def endingT (ds : List De) (i : Nat) : Bool := ds.any fun d => decide (d.nm.toNat = i) && endingS ds d.nm
def quietT (ds : List De) (i : Nat) : Bool := ds.any fun d => decide (d.nm.toNat = i) && quietS ds d.nm
def pureT (ds : List De) (i : Nat) : Bool := endingT ds i && quietT ds i
theorem nat_inj {x y : Int} (hx : inVar x = true) (hy : inVar y = true) (h : x.toNat = y.toNat) : x = y := by
  have h1 := inVar_true hx
  have h2 := inVar_true hy
  omega
theorem endingT_at {ds : List De} (h : libOk ds = true) {d : De} (hd : d ∈ ds) : endingT ds d.nm.toNat = endingS ds d.nm := by
  unfold endingT
  cases hq : endingS ds d.nm with
  | true => exact List.any_eq_true.2 ⟨d, hd, by simp [hq]⟩
  | false =>
    rw [Bool.eq_false_iff]
    intro hn
    obtain ⟨e, he, h2⟩ := List.any_eq_true.1 hn
    rw [Bool.and_eq_true, decide_eq_true_iff] at h2
    rw [nat_inj (libOk_named h e he).1 (libOk_named h d hd).1 h2.1, hq] at h2
    cases h2.2
theorem quietT_at {ds : List De} (h : libOk ds = true) {d : De} (hd : d ∈ ds) : quietT ds d.nm.toNat = quietS ds d.nm := by
  unfold quietT
  cases hq : quietS ds d.nm with
  | true => exact List.any_eq_true.2 ⟨d, hd, by simp [hq]⟩
  | false =>
    rw [Bool.eq_false_iff]
    intro hn
    obtain ⟨e, he, h2⟩ := List.any_eq_true.1 hn
    rw [Bool.and_eq_true, decide_eq_true_iff] at h2
    rw [nat_inj (libOk_named h e he).1 (libOk_named h d hd).1 h2.1, hq] at h2
    cases h2.2

/-- Pure, where these functions are. -/
def pureW (T : Nat → Bool) (op n : Int) (k : Fo) : Bool := !outsB op n k && allT T (numsUpto (callB ⟨op, n, k⟩) 8)

/-- A call that fits is one of a function of the library. -/
theorem call_in {ds : List De} (_h : libOk ds = true) {n : Int} {l : Nat} (hf : okCall (ariS ds) 3 n l = true) : ∃ d ∈ ds, d.nm = n := by
  unfold okCall at hf
  rw [if_pos rfl] at hf
  have ha := of_decide_eq_true hf
  unfold ariS at ha
  cases hq : fnd n ds with
  | none => rw [hq] at ha; cases ha
  | some d => exact ⟨d, (fnd_mem hq).1, (fnd_mem hq).2⟩
theorem pureOwn_at {ds : List De} (h : libOk ds = true) {n : Int} {l : Nat} (hf : okCall (ariS ds) 3 n l = true) : pureOwn ds 3 n = pureT ds n.toNat := by
  obtain ⟨d, hd, rfl⟩ := call_in h hf
  unfold pureOwn pureT
  rw [endingT_at h hd, quietT_at h hd]
  simp [Bool.and_comm]
theorem pureF_iff {ds : List De} (h : libOk ds = true) : ∀ (k : Fo), fitF (ariS ds) k = true → (pureF ds k = true ↔ outsF k = false ∧ ∀ c : Nat, callF k c = true → pureT ds c = true)
  | .nil, _ => by simp [pureF, outsF, hasF, callF]
  | .cons op n k r, hf => by
    rw [fitF_cons rfl, Bool.and_eq_true] at hf
    obtain ⟨hf1, hf2⟩ := hf
    unfold fitN at hf1
    rw [Bool.and_eq_true] at hf1
    have ih1 := pureF_iff h k hf1.2
    have ih2 := pureF_iff h r hf2
    rw [pureF_cons rfl, outsF_cons rfl]
    unfold pureS
    rw [Bool.and_eq_true, Bool.and_eq_true, ih1, ih2, Bool.or_eq_false_iff]
    by_cases h9 : op = 9
    · subst h9
      rw [outsB_yes]
      simp [pureOwn]
    · rw [outsB_no n k h9]
      by_cases h3 : op = 3
      · subst h3
        rw [pureOwn_at h hf1.1]
        obtain ⟨d, hd, hdn⟩ := call_in h hf1.1
        have hn := inVar_nat (libOk_named h d hd).1
        rw [hdn] at hn
        constructor
        · rintro ⟨⟨h1, h2, h3⟩, h4, h5⟩
          refine ⟨⟨h2, h4⟩, fun c hc => ?_⟩
          rw [callF_cons rfl, Bool.or_eq_true] at hc
          rcases hc with hc | hc
          · unfold callB at hc
            rw [Bool.or_eq_true] at hc
            rcases hc with hc | hc
            · unfold ownCall at hc
              rw [Bool.and_eq_true, decide_eq_true_iff, decide_eq_true_iff] at hc
              have : c = n.toNat := by have := hc.2; dsimp only at this; omega
              rw [this]; exact h1
            · exact h3 c hc
          · exact h5 c hc
        · rintro ⟨⟨h2, h4⟩, h5⟩
          refine ⟨⟨h5 n.toNat ?_, h2, fun c hc => h5 c ?_⟩, h4, fun c hc => h5 c ?_⟩
          · rw [callF_cons rfl]
            unfold callB ownCall
            simp [hn.1]
          · rw [callF_cons rfl]; unfold callB; simp [hc]
          · rw [callF_cons rfl]; simp [hc]
      · have ho : pureOwn ds op n = true := by simp [pureOwn, h9, h3]
        rw [ho]
        have hc : ∀ c, callF (.cons op n k r) c = (callF k c || callF r c) := fun c => by
          rw [callF_cons rfl]
          unfold callB ownCall
          simp [h3]
        constructor
        · rintro ⟨⟨_, h2, h3⟩, h4, h5⟩
          refine ⟨⟨h2, h4⟩, fun c hh => ?_⟩
          rw [hc, Bool.or_eq_true] at hh
          rcases hh with hh | hh
          · exact h3 c hh
          · exact h5 c hh
        · rintro ⟨⟨h2, h4⟩, h5⟩
          exact ⟨⟨rfl, h2, fun c hh => h5 c (by rw [hc, hh]; rfl)⟩, h4, fun c hh => h5 c (by rw [hc, hh]; exact Bool.or_true _)⟩
theorem callF_lt {ds : List De} (h : libOk ds = true) {k : Fo} (hf : fitF (ariS ds) k = true) {c : Nat} (hc : callF k c = true) : c < 8 := by
  obtain ⟨a, ha⟩ := fit_calls k c hf hc
  obtain ⟨d, hd⟩ := ari_there ha
  obtain ⟨hm, hx⟩ := there_mem h hd
  have := (inVar_nat (libOk_named h d hm).1).2
  omega
/-- The model's word and the program's. -/
theorem pureN_is {ds : List De} (h : libOk ds = true) {op n : Int} {k : Fo} (hf : fitN (ariS ds) op n k = true) : pureS ds op n k = pureW (pureT ds) op n k := by
  have hf2 : fitF (ariS ds) (.cons op n k .nil) = true := by rw [fitF_cons rfl, hf]; rfl
  have h1 := pureF_iff h _ hf2
  have h2 : pureF ds (.cons op n k .nil) = pureS ds op n k := by rw [pureF_cons rfl]; exact Bool.and_true _
  have h3 : outsF (.cons op n k .nil) = outsB op n k := by rw [outsF_cons rfl]; exact Bool.or_false _
  have h4 : ∀ c, callF (.cons op n k .nil) c = callB ⟨op, n, k⟩ c := fun c => by rw [callF_cons rfl]; exact Bool.or_false _
  rw [h2, h3] at h1
  rw [Bool.eq_iff_iff, h1]
  unfold pureW
  rw [Bool.and_eq_true, allT_iff]
  constructor
  · rintro ⟨a, b⟩
    exact ⟨by rw [a]; rfl, fun c _ hc => b c (by rw [h4]; exact hc)⟩
  · rintro ⟨a, b⟩
    refine ⟨by simpa using a, fun c hc => b c (callF_lt h hf2 hc) (by rw [← h4]; exact hc)⟩
theorem pure_is {ds : List De} {op n : Int} {k : Fo} (h : libOk ds = true) (hf : callsFitB ds op n k = true) : pureS ds op n k = pureW (pureT ds) op n k := by
  unfold callsFitB at hf
  rw [Bool.and_eq_true] at hf
  exact pureN_is h hf.2
end Go.Proofs.YtpknegneogdmfaaGreat

namespace Go.Proofs.YtpknegneogdmfaaGreat
open Go.RowKit
set_option maxRecDepth 100000

def wellOwn (op n : Int) (l : Nat) : Bool := kidsOk op l && (!decide (op = 3) || inVar n)
def wellF : Fo → Bool
  | .nil => true
  | .cons op n k r => (wellOwn op n k.len && wellF k) && wellF r
def wellN (op n : Int) (k : Fo) : Bool := wellOwn op n k.len && wellF k
theorem wellF_cons {f : Fo} {op n : Int} {k r : Fo} (e : f = .cons op n k r) : wellF f = (wellN op n k && wellF r) := by subst e; rfl
theorem well_own {op n : Int} {l : Nat} {S : Nat → Bool} (hk : kidsOk op l = true) (ho : ownOk op n S = true) : wellOwn op n l = true := by
  unfold wellOwn
  rw [hk, Bool.true_and]
  by_cases h3 : op = 3
  · subst h3
    have : inVar n = true := by simpa [ownOk] using ho
    simp [this]
  · simp [h3]
theorem well_shape : ∀ (f : Fo) (op n : Int) (i : Nat) (S : Nat → Bool) (d : Nat), shapeF op n i S d f = true → wellF f = true
  | .nil, _, _, _, _, _, _ => rfl
  | .cons o m k r, op, n, i, S, d, h => by
    simp only [shapeF, Bool.and_eq_true] at h
    obtain ⟨⟨⟨⟨_, h2⟩, h3⟩, h4⟩, h5⟩ := h
    have e1 := well_shape k o m 0 _ _ h4
    have e2 := well_shape r op n (i + 1) S d h5
    rw [wellF_cons rfl]
    unfold wellN
    rw [well_own h2 h3, e1, e2]
    rfl
theorem well_is {op n : Int} {k : Fo} {S : Nat → Bool} (h : nodeIs op n k S = true) : wellN op n k = true := by
  unfold nodeIs nodeShape at h
  simp only [Bool.and_eq_true] at h
  obtain ⟨⟨⟨⟨_, h2⟩, h3⟩, h4⟩, _⟩ := h
  unfold wellN
  rw [well_own h2 h3, well_shape k op n 0 S _ h4]
  rfl
theorem well_fit {ds : List De} {op n : Int} {k : Fo} (h : callsFitB ds op n k = true) : wellN op n k = true := by
  unfold callsFitB at h
  rw [Bool.and_eq_true] at h
  exact well_is h.1
theorem well_kid : ∀ {k : Fo} {j : Nat} {o m : Int} {k' r : Fo}, wellF k = true → k.drop j = .cons o m k' r → wellN o m k' = true
  | .nil, j, _, _, _, _, _, h => by rw [Fo.drop_nil] at h; cases h
  | .cons o' m' k2 r2, 0, o, m, k', r, hs, h => by
    simp only [Fo.drop, Fo.cons.injEq] at h
    obtain ⟨rfl, rfl, rfl, rfl⟩ := h
    rw [wellF_cons rfl, Bool.and_eq_true] at hs
    exact hs.1
  | .cons o' m' k2 r2, j + 1, o, m, k', r, hs, h => by
    rw [wellF_cons rfl, Bool.and_eq_true] at hs
    exact well_kid hs.2 (by simpa [Fo.drop] using h)
theorem wellN_kids {op n : Int} {k : Fo} (h : wellN op n k = true) : wellF k = true := (Bool.and_eq_true_iff.1 h).2
theorem wellN_ok {op n : Int} {k : Fo} (h : wellN op n k = true) : kidsOk op k.len = true := by
  unfold wellN wellOwn at h
  rw [Bool.and_eq_true, Bool.and_eq_true] at h
  exact h.1.1
theorem wellN_if {n : Int} {k : Fo} (h : wellN 6 n k = true) : k.len = 3 := by simpa [kidsOk] using wellN_ok h
theorem wellN_let {n : Int} {k : Fo} (h : wellN 7 n k = true) : k.len = 2 := by simpa [kidsOk] using wellN_ok h
theorem wellN_var {n : Int} {k : Fo} (h : wellN 2 n k = true) : k.len = 0 := by simpa [kidsOk] using wellN_ok h
theorem wellN_call {n : Int} {k : Fo} (h : wellN 3 n k = true) : inVar n = true := by
  unfold wellN wellOwn at h
  simp at h
  exact h.1.2
theorem fit_kid {ari : Int → Option Int} : ∀ {k : Fo} {j : Nat} {o m : Int} {k' r : Fo}, fitF ari k = true → k.drop j = .cons o m k' r → fitN ari o m k' = true
  | .nil, j, _, _, _, _, _, h => by rw [Fo.drop_nil] at h; cases h
  | .cons o' m' k2 r2, 0, o, m, k', r, hs, h => by
    simp only [Fo.drop, Fo.cons.injEq] at h
    obtain ⟨rfl, rfl, rfl, rfl⟩ := h
    rw [fitF_cons rfl, Bool.and_eq_true] at hs
    exact hs.1
  | .cons o' m' k2 r2, j + 1, o, m, k', r, hs, h => by
    rw [fitF_cons rfl, Bool.and_eq_true] at hs
    exact fit_kid hs.2 (by simpa [Fo.drop] using h)

/-- The first that says something. -/
def firstNZ : List Nat → Nat
  | [] => 0
  | a :: r => if a = 0 then firstNZ r else a
/-- What a node says behind its Kids: 1 first, 2 not first, 0 nothing. -/
def behindN (pq : Int → Bool) (v op n : Int) : Nat := if op = 2 ∧ n = v then 1 else if op = 9 ∨ (op = 3 ∧ pq n = false) then 2 else 0
def second (pp : Int → Int → Fo → Bool) : Fo → Bool
  | .cons _ _ _ (.cons o m k _) => pp o m k
  | _ => false
def ansN (pq : Int → Bool) (pp : Int → Int → Fo → Bool) (v op n : Int) (k : Fo) (zs : List Nat) : Nat :=
  if op = 6 then (if zs.getD 0 0 = 0 then (if zs.getD 1 0 = zs.getD 2 0 then zs.getD 1 0 else 2) else zs.getD 0 0)
  else if op = 7 ∧ n = v then (if zs.getD 0 0 = 0 then (if second pp k = true then 0 else 2) else zs.getD 0 0)
  else if firstNZ zs = 0 then behindN pq v op n else firstNZ zs
def ansL (pq : Int → Bool) (pp : Int → Int → Fo → Bool) (v : Int) : Fo → List Nat
  | .nil => []
  | .cons op n k r => ansN pq pp v op n k (ansL pq pp v k) :: ansL pq pp v r
def ans (pq : Int → Bool) (pp : Int → Int → Fo → Bool) (v op n : Int) (k : Fo) : Nat := ansN pq pp v op n k (ansL pq pp v k)
theorem ansL_cons {pq : Int → Bool} {pp : Int → Int → Fo → Bool} {v : Int} {f : Fo} {op n : Int} {k r : Fo} (e : f = .cons op n k r) : ansL pq pp v f = ans pq pp v op n k :: ansL pq pp v r := by subst e; rfl
theorem ansL_at {pq : Int → Bool} {pp : Int → Int → Fo → Bool} {v : Int} : ∀ {k : Fo} {j : Nat} {o m : Int} {k' r : Fo}, k.drop j = .cons o m k' r → (ansL pq pp v k).getD j 0 = ans pq pp v o m k'
  | .nil, j, _, _, _, _, h => by rw [Fo.drop_nil] at h; cases h
  | .cons o' m' k2 r2, 0, o, m, k', r, h => by
    simp only [Fo.drop, Fo.cons.injEq] at h
    obtain ⟨rfl, rfl, rfl, rfl⟩ := h
    rfl
  | .cons o' m' k2 r2, j + 1, o, m, k', r, h => by
    have := ansL_at (pq := pq) (pp := pp) (v := v) (k := r2) (j := j) (by simpa [Fo.drop] using h)
    rw [ansL_cons rfl]
    simpa using this
theorem second_at {pp : Int → Int → Fo → Bool} : ∀ {k : Fo} {o m : Int} {k' r : Fo}, k.drop 1 = .cons o m k' r → second pp k = pp o m k'
  | .nil, _, _, _, _, h => by simp [Fo.drop] at h
  | .cons _ _ _ r2, o, m, k', r, h => by
    have h2 : r2 = .cons o m k' r := by simpa [Fo.drop, Fo.drop_zero] using h
    subst h2
    rfl
theorem firstNZ_cons {pq : Int → Bool} {pp : Int → Int → Fo → Bool} {v : Int} {f : Fo} {op n : Int} {k r : Fo} (e : f = .cons op n k r) : firstNZ (ansL pq pp v f) = if ans pq pp v op n k = 0 then firstNZ (ansL pq pp v r) else ans pq pp v op n k := by
  rw [ansL_cons e]; rfl
theorem firstNZ_nil {pq : Int → Bool} {pp : Int → Int → Fo → Bool} {v : Int} : firstNZ (ansL pq pp v .nil) = 0 := rfl
theorem ans_if {pq : Int → Bool} {pp : Int → Int → Fo → Bool} {v n : Int} {k : Fo} {o0 m0 o1 m1 o2 m2 : Int} {k0 k1 k2 r0 r1 r2 : Fo} (e0 : k.drop 0 = .cons o0 m0 k0 r0) (e1 : k.drop 1 = .cons o1 m1 k1 r1) (e2 : k.drop 2 = .cons o2 m2 k2 r2) :
    ans pq pp v 6 n k = if ans pq pp v o0 m0 k0 = 0 then (if ans pq pp v o1 m1 k1 = ans pq pp v o2 m2 k2 then ans pq pp v o1 m1 k1 else 2) else ans pq pp v o0 m0 k0 := by
  rw [ans, ansN, if_pos rfl, ansL_at e0, ansL_at e1, ansL_at e2]
theorem ans_let {pq : Int → Bool} {pp : Int → Int → Fo → Bool} {v : Int} {k : Fo} {o0 m0 o1 m1 : Int} {k0 k1 r0 r1 : Fo} (e0 : k.drop 0 = .cons o0 m0 k0 r0) (e1 : k.drop 1 = .cons o1 m1 k1 r1) :
    ans pq pp v 7 v k = if ans pq pp v o0 m0 k0 = 0 then (if pp o1 m1 k1 = true then 0 else 2) else ans pq pp v o0 m0 k0 := by
  rw [ans, ansN, if_neg (by decide), if_pos ⟨rfl, rfl⟩, ansL_at e0, second_at e1]
theorem ans_other {pq : Int → Bool} {pp : Int → Int → Fo → Bool} {v op n : Int} {k : Fo} (h6 : op ≠ 6) (h7 : ¬ (op = 7 ∧ n = v)) : ans pq pp v op n k = if firstNZ (ansL pq pp v k) = 0 then behindN pq v op n else firstNZ (ansL pq pp v k) := by
  rw [ans, ansN, if_neg h6, if_neg h7]

/-- Two ways to say what is pure that agree on what fits. -/
theorem ansL_congr {ds : List De} {pq pq' : Int → Bool} {pp pp' : Int → Int → Fo → Bool} {v : Int} (hq : ∀ (n : Int) (l : Nat), okCall (ariS ds) 3 n l = true → pq n = pq' n) (hp : ∀ op n k, fitN (ariS ds) op n k = true → pp op n k = pp' op n k) :
    ∀ (k : Fo), fitF (ariS ds) k = true → wellF k = true → ansL pq pp v k = ansL pq' pp' v k
  | .nil, _, _ => rfl
  | .cons op n k r, hf, hw => by
    rw [fitF_cons rfl, Bool.and_eq_true] at hf
    rw [wellF_cons rfl, Bool.and_eq_true] at hw
    have hf1 := hf.1
    unfold fitN at hf1
    rw [Bool.and_eq_true] at hf1
    have ih1 := ansL_congr (v := v) hq hp k hf1.2 (wellN_kids hw.1)
    have ih2 := ansL_congr (v := v) hq hp r hf.2 hw.2
    rw [ansL_cons rfl, ansL_cons rfl, ih2]
    congr 1
    unfold ans
    rw [ih1]
    unfold ansN
    by_cases h6 : op = 6
    · rw [if_pos h6, if_pos h6]
    · rw [if_neg h6, if_neg h6]
      by_cases h7 : op = 7 ∧ n = v
      · rw [if_pos h7, if_pos h7]
        obtain ⟨rfl, rfl⟩ := h7
        have h2 := wellN_let hw.1
        obtain ⟨o1, m1, k1, e1, _, _⟩ := Fo.drop_of_lt k 1 (by omega)
        rw [second_at e1, second_at e1, hp _ _ _ (fit_kid hf1.2 e1)]
      · rw [if_neg h7, if_neg h7]
        have hb : behindN pq v op n = behindN pq' v op n := by
          unfold behindN
          by_cases h3 : op = 3
          · subst h3
            rw [hq n k.len hf1.1]
          · simp [h3]
        rw [hb]
theorem ans_congr {ds : List De} {pq pq' : Int → Bool} {pp pp' : Int → Int → Fo → Bool} {v op n : Int} {k : Fo} (hq : ∀ (n : Int) (l : Nat), okCall (ariS ds) 3 n l = true → pq n = pq' n) (hp : ∀ op n k, fitN (ariS ds) op n k = true → pp op n k = pp' op n k)
    (hf : fitN (ariS ds) op n k = true) (hw : wellN op n k = true) : ans pq pp v op n k = ans pq' pp' v op n k := by
  have h := ansL_congr (v := v) hq hp (.cons op n k .nil) (by rw [fitF_cons rfl, hf]; rfl) (by rw [wellF_cons rfl, hw]; rfl)
  rw [ansL_cons rfl, ansL_cons rfl] at h
  exact (List.cons.inj h).1

/-- The model's way, and the program's. -/
def ansS (ds : List De) (v op n : Int) (k : Fo) : Nat := ans (fun n => quietS ds n && endingS ds n) (pureS ds) v op n k
def ansI (T : Nat → Bool) (v op n : Int) (k : Fo) : Nat := ans (fun n => T n.toNat) (pureW T) v op n k
theorem ans_is {ds : List De} {v op n : Int} {k : Fo} (h : libOk ds = true) (hf : callsFitB ds op n k = true) : ansS ds v op n k = ansI (pureT ds) v op n k := by
  have hw := well_fit hf
  unfold callsFitB at hf
  rw [Bool.and_eq_true] at hf
  refine ans_congr (fun n l ho => ?_) (fun op n k hf => pureN_is h hf) hf.2 hw
  have h1 := pureOwn_at h ho
  show (quietS ds n && endingS ds n) = pureT ds n.toNat
  rw [← h1]
  simp [pureOwn]
def firstB (ds : List De) (op n : Int) (k : Fo) (v : Int) : Bool := ((libOk ds && callsFitB ds op n k) && inVar v) && decide (ansS ds v op n k = 1)
end Go.Proofs.YtpknegneogdmfaaGreat
