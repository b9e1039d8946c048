/-
  Outputs, as data.
  Effects as data: which functions are quiet, which end; sets of functions that are made by rounds.
  The names of a library's functions that are in a set; the answers of QuietFuns and EndingFuns.
-/
import Derived.Test.YtbpcggbmlaomjaaMarkD
import Derived.Test.YtbpcggbmlaomjaaFromDD
namespace Go.Proofs.Ytbpcggbmlaomjaa
open Go.RowKit
set_option maxRecDepth 100000

/-- Is the node an output? -/
def ownO (op _n : Int) (_v : Nat) : Bool := decide (op = 9)
def outsB (op n : Int) (k : Fo) : Bool := hasB ownO ⟨op, n, k⟩ 0
def outsF (k : Fo) : Bool := hasF ownO k 0
theorem outsF_cons {f : Fo} {op n : Int} {k r : Fo} (e : f = .cons op n k r) : outsF f = (outsB op n k || outsF r) := hasF_cons e 0
theorem outsB_yes (n : Int) (k : Fo) : outsB 9 n k = true := by simp [outsB, hasB, ownO]
theorem outsB_no {op : Int} (n : Int) (k : Fo) (h : op ≠ 9) : outsB op n k = outsF k := by simp [outsB, hasB, ownO, h, outsF]
end Go.Proofs.Ytbpcggbmlaomjaa

namespace Go.Proofs.Ytbpcggbmlaomjaa
open Go.RowKit
set_option maxRecDepth 100000

def outsD (d : De) : Bool := outsB d.op d.n d.k
def callD (d : De) : Nat → Bool := callB ⟨d.op, d.n, d.k⟩

/-- The model's words. -/
def quietS (ds : List De) (f : Int) : Bool := ds.all fun d => !(fromS ds 3 f .nil d.nm.toNat && outsD d)
def endingS (ds : List De) (f : Int) : Bool := ds.all fun d => !(fromS ds 3 f .nil d.nm.toNat && fromS ds d.op d.n d.k d.nm.toNat)

theorem rch_in {S T : Nat → Bool} {E : Nat → Nat → Bool} (h : ∀ i, S i = true → Rch T E i) {i : Nat} (hi : Rch S E i) : Rch T E i := by
  induction hi with
  | base h1 => exact h _ h1
  | step _ e ih => exact .step ih e
/-- The set of one function. -/
def just (f : Nat) : Nat → Bool := fun i => decide (i = f)
theorem call_just {f : Nat} : callB ⟨3, (f : Int), .nil⟩ = just f := by
  funext i
  unfold callB ownCall callF just
  rw [Bool.eq_iff_iff]
  simp
  omega
theorem rch_just {E : Nat → Nat → Bool} (f : Nat) : Rch (just f) E f := .base (by simp [just])
theorem just_in {S : Nat → Bool} {E : Nat → Nat → Bool} {f i : Nat} (hf : Rch S E f) (hi : Rch (just f) E i) : Rch S E i :=
  rch_in (fun j hj => by unfold just at hj; rw [of_decide_eq_true hj]; exact hf) hi
/-- From a function: itself, or from one that it calls. -/
theorem just_split {E : Nat → Nat → Bool} {f i : Nat} (h : Rch (just f) E i) : i = f ∨ ∃ c, E f c = true ∧ Rch (just c) E i := by
  induction h with
  | base h1 => exact .inl (of_decide_eq_true h1)
  | step _ e ih =>
    rcases ih with rfl | ⟨c, h1, h2⟩
    · exact .inr ⟨_, e, rch_just _⟩
    · exact .inr ⟨c, h1, .step h2 e⟩
theorem set_split {S : Nat → Bool} {E : Nat → Nat → Bool} {i : Nat} (h : Rch S E i) : ∃ c, S c = true ∧ Rch (just c) E i := by
  induction h with
  | base h1 => exact ⟨_, h1, rch_just _⟩
  | step _ e ih => obtain ⟨c, h1, h2⟩ := ih; exact ⟨c, h1, .step h2 e⟩

theorem edge_at {ds : List De} {f : Nat} {d : De} (h : fnd (f : Int) ds = some d) (g : Nat) : edge ds f g = callD d g := by unfold edge; rw [h]; rfl
theorem edge_mem {ds : List De} (h : libOk ds = true) {d : De} (hd : d ∈ ds) (g : Nat) : edge ds d.nm.toNat g = callD d g := by
  have hn := libOk_named h d hd
  have e := (inVar_nat hn.1).1
  exact edge_at (by rw [e]; exact hn.2) g
theorem there_mem {ds : List De} (_h : libOk ds = true) {g : Nat} {d : De} (hd : fnd (g : Int) ds = some d) : d ∈ ds ∧ d.nm.toNat = g := by
  obtain ⟨hm, hx⟩ := fnd_mem hd
  exact ⟨hm, by rw [hx]; rfl⟩
theorem edge_lt8 {ds : List De} (h : libOk ds = true) {f g : Nat} (he : edge ds f g = true) : g < 8 := by
  obtain ⟨d, hd⟩ := edge_there h he
  obtain ⟨hm, hx⟩ := there_mem h hd
  have := (inVar_nat (libOk_named h d hm).1).2
  omega

/-- What the model's search from a function of the library marks. -/
theorem from_fun {ds : List De} (h : libOk ds = true) {d : De} (hd : d ∈ ds) (i : Nat) : fromS ds 3 d.nm .nil i = true ↔ Rch (just d.nm.toNat) (edge ds) i := by
  have hn := libOk_named h d hd
  have e := (inVar_nat hn.1).1
  unfold fromS
  rw [← e, call_just]
  refine rnds_iff (libOk_named h) (fun j hj => ?_) i
  cases hj with
  | base h1 => exact ⟨d, hd, (of_decide_eq_true h1).symm⟩
  | step _ he =>
    obtain ⟨d', hd'⟩ := edge_there h he
    obtain ⟨hm, hx⟩ := there_mem h hd'
    exact ⟨d', hm, hx⟩
theorem from_body {ds : List De} (h : libOk ds = true) {d : De} (hd : d ∈ ds) (i : Nat) : fromS ds d.op d.n d.k i = true ↔ Rch (callD d) (edge ds) i := by
  unfold fromS
  refine rnds_iff (libOk_named h) (fun j hj => ?_) i
  have h2 : Rch (just d.nm.toNat) (edge ds) j := rch_in (fun c hc => .step (rch_just _) (by rw [edge_mem h hd]; exact hc)) hj
  rcases just_split h2 with rfl | ⟨c, h3, h4⟩
  · exact ⟨d, hd, rfl⟩
  · cases h2 with
    | base h1 => exact ⟨d, hd, (of_decide_eq_true h1).symm⟩
    | step _ he =>
      obtain ⟨d', hd'⟩ := edge_there h he
      obtain ⟨hm, hx⟩ := there_mem h hd'
      exact ⟨d', hm, hx⟩

/-- Can something be put out from the function f? -/
def Louds (ds : List De) (f : Nat) : Prop := ∃ d ∈ ds, Rch (just f) (edge ds) d.nm.toNat ∧ outsD d = true
theorem quiet_iff {ds : List De} (h : libOk ds = true) {d : De} (hd : d ∈ ds) : quietS ds d.nm = true ↔ ¬ Louds ds d.nm.toNat := by
  unfold quietS Louds
  rw [List.all_eq_true]
  constructor
  · rintro h1 ⟨g, hg, h2, h3⟩
    have h4 := h1 g hg
    rw [(from_fun h hd _).2 h2, h3] at h4
    cases h4
  · intro h1 g hg
    cases h2 : fromS ds 3 d.nm .nil g.nm.toNat with
    | false => rfl
    | true =>
      cases h3 : outsD g with
      | false => rfl
      | true => exact absurd ⟨g, hg, (from_fun h hd _).1 h2, h3⟩ h1
/-- Does all that is reached from f not reach itself? -/
def Ends (ds : List De) (f : Nat) : Prop := ∀ g, Rch (just f) (edge ds) g → ∀ c, edge ds g c = true → ¬ Rch (just c) (edge ds) g
theorem ending_iff {ds : List De} (h : libOk ds = true) {d : De} (hd : d ∈ ds) : endingS ds d.nm = true ↔ Ends ds d.nm.toNat := by
  unfold endingS Ends
  rw [List.all_eq_true]
  constructor
  · intro h1 g hg c hc hr
    obtain ⟨e, he⟩ : ∃ e, fnd (g : Int) ds = some e := by
      unfold edge at hc
      split at hc
      · exact ⟨_, by assumption⟩
      · cases hc
    obtain ⟨hm, hx⟩ := there_mem h he
    have h4 := h1 e hm
    rw [hx, (from_fun h hd _).2 hg] at h4
    have h5 : fromS ds e.op e.n e.k g = true := (from_body h hm _).2 (just_in (.base (by rw [← edge_at he]; exact hc)) hr)
    rw [h5] at h4
    cases h4
  · intro h1 g hg
    cases h2 : fromS ds 3 d.nm .nil g.nm.toNat with
    | false => rfl
    | true =>
      cases h3 : fromS ds g.op g.n g.k g.nm.toNat with
      | false => rfl
      | true =>
        obtain ⟨c, hc, hr⟩ := set_split ((from_body h hg _).1 h3)
        exact absurd hr (h1 _ ((from_fun h hd _).1 h2) c (by rw [edge_mem h hg]; exact hc))

-- sets that are made by rounds

/-- Made of nothing by taking what belongs to what was taken. -/
inductive Made (bel : De → (Nat → Bool) → Bool) (ds : List De) : (Nat → Bool) → Prop
  | nil : Made bel ds (fun _ => false)
  | add {T : Nat → Bool} {d : De} (h : Made bel ds T) (hd : d ∈ ds) (hb : bel d T = true) : Made bel ds (fun i => T i || decide (i = d.nm.toNat))
def Closed (bel : De → (Nat → Bool) → Bool) (ds : List De) (T : Nat → Bool) : Prop := ∀ d ∈ ds, bel d T = true → T d.nm.toNat = true

def anyT (T : Nat → Bool) (zs : List Int) : Bool := zs.any fun x => T x.toNat
def allT (T : Nat → Bool) (zs : List Int) : Bool := !zs.any fun x => !T x.toNat
def loudBel (d : De) (T : Nat → Bool) : Bool := outsD d || anyT T (numsUpto (callD d) 8)
def endBel (d : De) (T : Nat → Bool) : Bool := allT T (numsUpto (callD d) 8)
theorem nums_iff (S : Nat → Bool) : ∀ (j : Nat) (x : Int), x ∈ numsUpto S j ↔ ∃ v, v < j ∧ x = (v : Int) ∧ S v = true
  | 0, x => by simp [numsUpto]
  | j + 1, x => by
    constructor
    · exact numsUpto_mem (j + 1) x
    · rintro ⟨v, h1, rfl, h2⟩
      by_cases hv : v = j
      · subst hv
        rw [numsUpto_yes h2]
        exact List.mem_append_right _ (List.mem_singleton.2 rfl)
      · have h3 := (nums_iff S j _).2 ⟨v, by omega, rfl, h2⟩
        cases hs : S j with
        | true => rw [numsUpto_yes hs]; exact List.mem_append_left _ h3
        | false => rw [numsUpto_no hs]; exact h3
theorem anyT_iff (T S : Nat → Bool) : anyT T (numsUpto S 8) = true ↔ ∃ c, c < 8 ∧ S c = true ∧ T c = true := by
  unfold anyT
  rw [List.any_eq_true]
  constructor
  · rintro ⟨x, hx, ht⟩
    obtain ⟨v, h1, rfl, h2⟩ := (nums_iff S 8 x).1 hx
    exact ⟨v, h1, h2, ht⟩
  · rintro ⟨c, h1, h2, h3⟩
    exact ⟨_, (nums_iff S 8 _).2 ⟨c, h1, rfl, h2⟩, h3⟩
theorem allT_iff (T S : Nat → Bool) : allT T (numsUpto S 8) = true ↔ ∀ c, c < 8 → S c = true → T c = true := by
  have h := anyT_iff (fun i => !T i) S
  have h2 : allT T (numsUpto S 8) = !anyT (fun i => !T i) (numsUpto S 8) := rfl
  rw [h2]
  constructor
  · intro h3 c h1 h4
    cases ht : T c with
    | true => rfl
    | false => rw [h.2 ⟨c, h1, h4, by simp [ht]⟩] at h3; cases h3
  · intro h3
    cases ha : anyT (fun i => !T i) (numsUpto S 8) with
    | false => rfl
    | true =>
      obtain ⟨c, h1, h4, h5⟩ := h.1 ha
      rw [h3 c h1 h4] at h5
      cases h5

/-- The loud ones. -/
theorem loud_made {ds : List De} (h : libOk ds = true) {T : Nat → Bool} (hm : Made loudBel ds T) : ∀ i, T i = true → Louds ds i := by
  induction hm with
  | nil => intro i hi; cases hi
  | @add T d _ hd hb ih =>
    intro i hi
    rw [Bool.or_eq_true] at hi
    rcases hi with hi | hi
    · exact ih i hi
    · rw [of_decide_eq_true hi]
      unfold loudBel at hb
      rw [Bool.or_eq_true] at hb
      rcases hb with hb | hb
      · exact ⟨d, hd, rch_just _, hb⟩
      · obtain ⟨c, _, hc, ht⟩ := (anyT_iff _ _).1 hb
        obtain ⟨g, hg, hr, ho⟩ := ih c ht
        exact ⟨g, hg, just_in (.step (rch_just _) (by rw [edge_mem h hd]; exact hc)) hr, ho⟩
theorem loud_closed {ds : List De} (h : libOk ds = true) {T : Nat → Bool} (hc : Closed loudBel ds T) {f : Nat} (hf : Louds ds f) : T f = true := by
  obtain ⟨d, hd, hr, ho⟩ := hf
  have h1 : T d.nm.toNat = true := hc d hd (by unfold loudBel; rw [ho]; rfl)
  generalize d.nm.toNat = g at hr h1
  clear ho hd d
  induction hr with
  | base h2 => rw [← of_decide_eq_true h2]; exact h1
  | @step a b hr2 he ih =>
    refine ih ?_
    unfold edge at he
    split at he
    · rename_i d hd
      obtain ⟨hm, hx⟩ := there_mem h hd
      rw [← hx]
      refine hc d hm ?_
      unfold loudBel
      rw [(anyT_iff T (callD d)).2 ⟨b, edge_lt8 (f := a) h (by rw [edge_at hd]; exact he), he, h1⟩, Bool.or_true]
    · cases he
/-- The ending ones. -/
theorem end_made {ds : List De} (h : libOk ds = true) {T : Nat → Bool} (hm : Made endBel ds T) : ∀ i, T i = true → Ends ds i := by
  induction hm with
  | nil => intro i hi; cases hi
  | @add T d _ hd hb ih =>
    intro i hi
    rw [Bool.or_eq_true] at hi
    rcases hi with hi | hi
    · exact ih i hi
    · rw [of_decide_eq_true hi]
      have hb2 := (allT_iff T (callD d)).1 hb
      intro g hg c hc hr
      have key : ∀ c, edge ds d.nm.toNat c = true → T c = true := fun c hc => hb2 c (edge_lt8 h hc) (by rw [← edge_mem h hd]; exact hc)
      rcases just_split hg with rfl | ⟨c2, h1, h2⟩
      · exact ih c (key c hc) _ hr c hc hr
      · exact ih c2 (key c2 h1) g h2 c hc hr
/-- How many functions are reached behind f. -/
def behind (ds : List De) (f : Nat) : Nat := match fnd (f : Int) ds with | some d => cnt8 (fromS ds d.op d.n d.k) ds | none => 0
theorem behind_lt {ds : List De} (h : libOk ds = true) {f c : Nat} (he : Ends ds f) (hc : edge ds f c = true) : behind ds c < behind ds f := by
  obtain ⟨e, hfe⟩ := edge_there h hc
  obtain ⟨hem, hex⟩ := there_mem h hfe
  obtain ⟨d, hfd⟩ : ∃ d, fnd (f : Int) ds = some d := by
    unfold edge at hc
    split at hc
    · exact ⟨_, by assumption⟩
    · cases hc
  obtain ⟨hdm, hdx⟩ := there_mem h hfd
  unfold behind
  rw [hfe, hfd]
  refine cnt8_lt (fun i hi => ?_) ds e hem ?_ ?_
  · rw [from_body h hdm]
    rw [from_body h hem] at hi
    exact rch_in (fun j hj => .step (.base (by rw [← edge_at hfd]; exact hc)) (by rw [edge_at hfe]; exact hj)) hi
  · cases hb : fromS ds e.op e.n e.k e.nm.toNat with
    | false => rfl
    | true =>
      obtain ⟨c2, h1, h2⟩ := set_split ((from_body h hem _).1 hb)
      rw [hex] at h2
      exact absurd h2 (he c (.step (rch_just _) hc) c2 (by rw [edge_at hfe]; exact h1))
  · rw [from_body h hdm, hex]
    exact .base (by rw [← edge_at hfd]; exact hc)
theorem Ends.call {ds : List De} {f c : Nat} (he : Ends ds f) (hc : edge ds f c = true) : Ends ds c := fun g hg => he g (just_in (.step (rch_just _) hc) hg)
theorem end_closed {ds : List De} (h : libOk ds = true) {T : Nat → Bool} (hc : Closed endBel ds T) (m : Nat) : ∀ d ∈ ds, behind ds d.nm.toNat = m → Ends ds d.nm.toNat → T d.nm.toNat = true := by
  induction m using Nat.strongRecOn with
  | _ m ih =>
    intro d hd hm he
    refine hc d hd ?_
    refine (allT_iff T (callD d)).2 fun c _ hcc => ?_
    have hec : edge ds d.nm.toNat c = true := by rw [edge_mem h hd]; exact hcc
    obtain ⟨e, hfe⟩ := edge_there h hec
    obtain ⟨hem, hex⟩ := there_mem h hfe
    have := behind_lt h he hec
    rw [← hex] at this ⊢
    exact ih _ (by omega) e hem rfl (by rw [hex]; exact he.call hec)

/-- The sets that the rounds come to. -/
theorem loud_set {ds : List De} (h : libOk ds = true) {T : Nat → Bool} (hm : Made loudBel ds T) (hc : Closed loudBel ds T) {d : De} (hd : d ∈ ds) : T d.nm.toNat = !quietS ds d.nm := by
  cases hq : quietS ds d.nm with
  | true =>
    have h1 := (quiet_iff h hd).1 hq
    cases ht : T d.nm.toNat with
    | false => rfl
    | true => exact absurd (loud_made h hm _ ht) h1
  | false =>
    have h1 : ¬ ¬ Louds ds d.nm.toNat := fun hn => by rw [(quiet_iff h hd).2 hn] at hq; cases hq
    exact loud_closed h hc (Classical.not_not.1 h1)
theorem end_set {ds : List De} (h : libOk ds = true) {T : Nat → Bool} (hm : Made endBel ds T) (hc : Closed endBel ds T) {d : De} (hd : d ∈ ds) : T d.nm.toNat = endingS ds d.nm := by
  cases hq : endingS ds d.nm with
  | true => exact end_closed h hc _ d hd rfl ((ending_iff h hd).1 hq)
  | false =>
    cases ht : T d.nm.toNat with
    | false => rfl
    | true => rw [(ending_iff h hd).2 (end_made h hm _ ht)] at hq; cases hq
/-- No other number is taken. -/
theorem made_in {bel : De → (Nat → Bool) → Bool} {ds : List De} {T : Nat → Bool} (hm : Made bel ds T) : ∀ i, T i = true → ∃ d ∈ ds, d.nm.toNat = i := by
  induction hm with
  | nil => intro i hi; cases hi
  | @add T d _ hd _ ih =>
    intro i hi
    rw [Bool.or_eq_true] at hi
    rcases hi with hi | hi
    · exact ih i hi
    · exact ⟨d, hd, (of_decide_eq_true hi).symm⟩
end Go.Proofs.Ytbpcggbmlaomjaa

namespace Go.Proofs.Ytbpcggbmlaomjaa
open Go.RowKit
set_option maxRecDepth 100000

def namesD (ds : List De) : List Int := ds.map (·.nm)
def namesT (T : Nat → Bool) (ds : List De) : List Int := (namesD ds).filter fun x => T x.toNat
theorem namesD_at {ds : List De} {j : Nat} {d : De} (h : ds[j]? = some d) : (namesD ds)[j]? = some d.nm := by unfold namesD; rw [List.getElem?_map, h]; rfl
theorem namesD_len (ds : List De) : (namesD ds).length = ds.length := List.length_map _
theorem namesT_len (T : Nat → Bool) (ds : List De) : (namesT T ds).length ≤ ds.length := by
  have := List.length_filter_le (fun x : Int => T x.toNat) (namesD ds)
  rw [namesD_len] at this
  exact this

/-- The functions of a library for which something holds. -/
def funsP (p : Int → Bool) (ds : List De) : List Int := if libOk ds then (namesD ds).filter p else []
theorem funsP_no {p : Int → Bool} {ds : List De} (h : libOk ds = false) : funsP p ds = [] := by unfold funsP; rw [h]; rfl
theorem funsP_yes {p : Int → Bool} {ds : List De} (h : libOk ds = true) : funsP p ds = (namesD ds).filter p := by unfold funsP; rw [h]; rfl
theorem funsP_small {p : Int → Bool} {ds : List De} : ∀ x ∈ funsP p ds, I64 x := by
  intro x hx
  cases h : libOk ds with
  | false => rw [funsP_no h] at hx; simp at hx
  | true =>
    rw [funsP_yes h] at hx
    obtain ⟨d, hd, rfl⟩ := List.mem_map.1 (List.mem_filter.1 hx).1
    have := inVar_true (libOk_named h d hd).1
    unfold I64
    omega
theorem funsP_len (p : Int → Bool) (ds : List De) : (funsP p ds).length ≤ 8 := by
  cases h : libOk ds with
  | false => rw [funsP_no h]; exact Nat.zero_le _
  | true =>
    rw [funsP_yes h]
    have h1 := List.length_filter_le p (namesD ds)
    rw [namesD_len] at h1
    exact Nat.le_trans h1 (libOk_len h)
/-- The names in a set that says the same. -/
theorem namesT_filter {T : Nat → Bool} {p : Int → Bool} {ds : List De} (h : ∀ d ∈ ds, T d.nm.toNat = p d.nm) : namesT T ds = (namesD ds).filter p := by
  unfold namesT
  refine List.filter_congr fun x hx => ?_
  obtain ⟨d, hd, rfl⟩ := List.mem_map.1 hx
  exact h d hd
end Go.Proofs.Ytbpcggbmlaomjaa
