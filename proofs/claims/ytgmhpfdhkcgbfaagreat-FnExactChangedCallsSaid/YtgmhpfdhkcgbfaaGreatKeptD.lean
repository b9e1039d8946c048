/-
  Kept functions, as data: the model's words and the program's.
-/
import Derived.Test.YtgmhpfdhkcgbfaaGreatEffD
import Derived.Test.YtgmhpfdhkcgbfaaGreatSameD
import Derived.Test.YtgmhpfdhkcgbfaaGreatValD
namespace Go.Proofs.YtgmhpfdhkcgbfaaGreat
open Go.RowKit
set_option maxRecDepth 100000

/-- Is the function the same in both libraries? -/
def sameAt (ds1 ds2 : List De) (i : Nat) : Bool := match fnd (i : Int) ds1, fnd (i : Int) ds2 with
  | some d, some e => decide (d.ar = e.ar) && sameN d.op d.n d.k e.op e.n e.k
  | _, _ => false
/-- The model's word: all that is marked is the same. -/
def keptS (ds1 ds2 : List De) (f : Int) : Bool := (List.range 8).all fun i => !(fromS ds1 3 f .nil i && !sameAt ds1 ds2 i)
/-- The program's word. -/
def keptW (ds1 ds2 : List De) (d : De) : Bool := sameAt ds1 ds2 d.nm.toNat && (fromL ds1 d.op d.n d.k).all fun x => sameAt ds1 ds2 x.toNat

theorem body_callsFit {ds : List De} (h : libOk ds = true) {d : De} (hd : d ∈ ds) : callsFitB ds d.op d.n d.k = true := by
  have hf := libOk_body h d hd
  unfold libOk at h
  rw [Bool.and_eq_true] at h
  obtain ⟨_, hb, _⟩ := okL_named ds none h.2 d hd
  unfold bodyOk at hb
  rw [Bool.and_eq_true] at hb
  unfold callsFitB
  rw [hf, Bool.and_true]
  refine nodeIs_up (fun v hv _ => by unfold firstS; simpa using hv) hb.1

theorem kept_is {ds1 ds2 : List De} (h : libOk ds1 = true) {d : De} (hd : d ∈ ds1) : keptS ds1 ds2 d.nm = keptW ds1 ds2 d := by
  have hn := inVar_nat (libOk_named h d hd).1
  have hl : fromL ds1 d.op d.n d.k = numsUpto (fromS ds1 d.op d.n d.k) 8 := fromL_yes h (body_callsFit h hd)
  unfold keptS keptW
  rw [hl, Bool.eq_iff_iff, List.all_eq_true, Bool.and_eq_true, List.all_eq_true]
  constructor
  · intro hk
    have key : ∀ i, Rch (just d.nm.toNat) (edge ds1) i → i < 8 → sameAt ds1 ds2 i = true := fun i hi h8 => by
      have := hk i (List.mem_range.2 h8)
      rw [(from_fun h hd i).2 hi] at this
      simpa using this
    refine ⟨key _ (rch_just _) hn.2, fun x hx => ?_⟩
    obtain ⟨v, h8, rfl, hs⟩ := numsUpto_mem 8 x hx
    have hr := (from_body h hd v).1 hs
    exact key v (rch_in (fun c hc => .step (rch_just _) (by rw [edge_mem h hd]; exact hc)) hr) h8
  · rintro ⟨h1, h2⟩ i hi
    have h8 := List.mem_range.1 hi
    cases hf : fromS ds1 3 d.nm .nil i with
    | false => rfl
    | true =>
      have hr := (from_fun h hd i).1 hf
      have hs : sameAt ds1 ds2 i = true := by
        rcases just_split hr with rfl | ⟨c, h3, h4⟩
        · exact h1
        · have h5 : fromS ds1 d.op d.n d.k i = true := (from_body h hd i).2 (just_in (.base (by rw [← edge_mem h hd]; exact h3)) h4)
          have h6 : ((i : Nat) : Int) ∈ numsUpto (fromS ds1 d.op d.n d.k) 8 := by
            have : ∀ j, i < j → ((i : Nat) : Int) ∈ numsUpto (fromS ds1 d.op d.n d.k) j := fun j => by
              induction j with
              | zero => intro h; omega
              | succ j ih =>
                intro hj
                simp only [numsUpto, List.mem_append]
                by_cases hij : i = j
                · right; subst hij; rw [if_pos h5]; simp
                · left; exact ih (by omega)
            exact this 8 h8
          exact h2 _ h6
      simp [hs]

/-- Two ascending lists with the same numbers are the same. -/
theorem asc_ext : ∀ (a b : List Int), a.Pairwise (· < ·) → b.Pairwise (· < ·) → (∀ x, x ∈ a ↔ x ∈ b) → a = b
  | [], [], _, _, _ => rfl
  | [], y :: b, _, _, h => absurd ((h y).2 (List.mem_cons_self ..)) (by simp)
  | x :: a, [], _, _, h => absurd ((h x).1 (List.mem_cons_self ..)) (by simp)
  | x :: a, y :: b, ha, hb, h => by
    rw [List.pairwise_cons] at ha hb
    have hxy : x = y := by
      rcases List.mem_cons.1 ((h x).1 (List.mem_cons_self ..)) with e | e
      · exact e
      · rcases List.mem_cons.1 ((h y).2 (List.mem_cons_self ..)) with e2 | e2
        · exact e2.symm
        · have h1 := hb.1 x e
          have h2 := ha.1 y e2
          omega
    subst hxy
    rw [asc_ext a b ha.2 hb.2 fun z => ?_]
    constructor
    · intro hz
      rcases List.mem_cons.1 ((h z).1 (List.mem_cons_of_mem _ hz)) with e | e
      · have := ha.1 z hz; omega
      · exact e
    · intro hz
      rcases List.mem_cons.1 ((h z).2 (List.mem_cons_of_mem _ hz)) with e | e
      · have := hb.1 z hz; omega
      · exact e
theorem names_asc {A : List De} : ∀ (r : List De) (p : Option Int), okL A p r = true → (namesD r).Pairwise (· < ·)
  | [], _, _ => .nil
  | d :: r, p, h => by
    have e : okL A p (d :: r) = ((headOk p d && bodyOk A d) && okL A (some d.nm) r) := rfl
    rw [e, Bool.and_eq_true] at h
    unfold namesD
    rw [List.map_cons, List.pairwise_cons]
    refine ⟨fun x hx => ?_, names_asc r _ h.2⟩
    obtain ⟨d', hd', rfl⟩ := List.mem_map.1 hx
    exact (okL_named r (some d.nm) h.2 d' hd').2.2.2 _ rfl
theorem numsUpto_up (S : Nat → Bool) : ∀ j, (numsUpto S j).Pairwise (· < ·) ∧ ∀ x ∈ numsUpto S j, x < (j : Int)
  | 0 => ⟨.nil, fun x hx => by simp [numsUpto] at hx⟩
  | j + 1 => by
    obtain ⟨h1, h2⟩ := numsUpto_up S j
    unfold numsUpto
    refine ⟨List.pairwise_append.2 ⟨h1, by split <;> simp, fun x hx y hy => ?_⟩, fun x hx => ?_⟩
    · split at hy
      · rw [List.mem_singleton] at hy
        have := h2 x hx
        omega
      · simp at hy
    · rcases List.mem_append.1 hx with h | h
      · have := h2 x h; omega
      · split at h
        · rw [List.mem_singleton] at h; omega
        · simp at h

def keptOk (ds1 ds2 : List De) : Bool := libOk ds1 && libOk ds2
/-- One of the model's rounds: is f to be listed? -/
def keptF (ds1 ds2 : List De) (f : Nat) : Bool := (fnd (f : Int) ds1).isSome && keptS ds1 ds2 (f : Int)
/-- What KeptFuns answers. -/
def keptL (ds1 ds2 : List De) : List Int := if keptOk ds1 ds2 then numsUpto (keptF ds1 ds2) 8 else []
theorem keptL_small {ds1 ds2 : List De} : ∀ x ∈ keptL ds1 ds2, I64 x := by
  intro x hx
  unfold keptL at hx
  split at hx
  · exact numsUpto_small _ 8 x (Nat.le_refl _) hx
  · simp at hx
theorem keptL_len (ds1 ds2 : List De) : (keptL ds1 ds2).length ≤ 8 := by
  unfold keptL
  split
  · exact numsUpto_len _ 8
  · exact Nat.zero_le _
/-- The program's list. -/
theorem keptL_is {ds1 ds2 : List De} (h1 : libOk ds1 = true) (h2 : libOk ds2 = true) {T : Nat → Bool} (hT : ∀ d ∈ ds1, T d.nm.toNat = keptW ds1 ds2 d) : namesT T ds1 = keptL ds1 ds2 := by
  unfold keptL keptOk
  rw [h1, h2]
  simp only [Bool.and_self, if_true]
  have hok := h1
  unfold libOk at hok
  rw [Bool.and_eq_true] at hok
  refine asc_ext _ _ ((names_asc ds1 none hok.2).filter _) (numsUpto_up _ 8).1 fun x => ?_
  unfold namesT
  rw [List.mem_filter]
  constructor
  · rintro ⟨hx, ht⟩
    unfold namesD at hx
    obtain ⟨d, hd, rfl⟩ := List.mem_map.1 hx
    obtain ⟨hv, hf⟩ := libOk_named h1 d hd
    obtain ⟨e0, e8⟩ := inVar_nat hv
    have hs : keptF ds1 ds2 d.nm.toNat = true := by
      unfold keptF
      rw [e0, hf, kept_is h1 hd, ← hT d hd]
      simpa using ht
    have : ∀ j, d.nm.toNat < j → d.nm ∈ numsUpto (keptF ds1 ds2) j := fun j => by
      induction j with
      | zero => intro h; omega
      | succ j ih =>
        intro hj
        simp only [numsUpto, List.mem_append]
        by_cases hij : d.nm.toNat = j
        · right; rw [← hij, if_pos hs]; simp [e0]
        · left; exact ih (by omega)
    exact this 8 e8
  · intro hx
    obtain ⟨v, h8, rfl, hs⟩ := numsUpto_mem 8 x hx
    unfold keptF at hs
    rw [Bool.and_eq_true] at hs
    obtain ⟨d, hd⟩ := Option.isSome_iff_exists.1 hs.1
    obtain ⟨hm, hn⟩ := fnd_mem hd
    refine ⟨List.mem_map.2 ⟨d, hm, hn⟩, ?_⟩
    have := hT d hm
    rw [hn] at this
    simp only [this]
    rw [← kept_is h1 hm, hn]
    exact hs.2
end Go.Proofs.YtgmhpfdhkcgbfaaGreat
