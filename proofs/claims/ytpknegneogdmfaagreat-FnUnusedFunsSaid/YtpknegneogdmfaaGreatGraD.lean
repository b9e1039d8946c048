/-
  Graphs of calls as data: sets of functions as bits; the order of the functions; how many calls deep they go; the callers of a function.
-/
import Derived.Test.YtpknegneogdmfaaGreatEffD
namespace Go.Proofs.YtpknegneogdmfaaGreat
open Go.RowKit
set_option maxRecDepth 100000

-- sets as bits
def bv (T : Nat → Bool) : Nat := (T 0).toNat + 2 * (T 1).toNat + 4 * (T 2).toNat + 8 * (T 3).toNat + 16 * (T 4).toNat + 32 * (T 5).toNat + 64 * (T 6).toNat + 128 * (T 7).toNat
theorem toNat_le1 (b : Bool) : b.toNat ≤ 1 := by cases b <;> decide
theorem bv_lt (T : Nat → Bool) : bv T < 256 := by
  have h0 := toNat_le1 (T 0); have h1 := toNat_le1 (T 1); have h2 := toNat_le1 (T 2); have h3 := toNat_le1 (T 3)
  have h4 := toNat_le1 (T 4); have h5 := toNat_le1 (T 5); have h6 := toNat_le1 (T 6); have h7 := toNat_le1 (T 7)
  unfold bv
  omega
theorem bv_testK : ∀ a b c d e f g h : Bool, ∀ v : Fin 8, (a.toNat + 2 * b.toNat + 4 * c.toNat + 8 * d.toNat + 16 * e.toNat + 32 * f.toNat + 64 * g.toNat + 128 * h.toNat).testBit v.val = [a, b, c, d, e, f, g, h].getD v.val false := by decide +kernel
theorem list8_at (T : Nat → Bool) {v : Nat} (h : v < 8) : [T 0, T 1, T 2, T 3, T 4, T 5, T 6, T 7].getD v false = T v := by
  rcases v with _ | _ | _ | _ | _ | _ | _ | _ | v
  all_goals first | rfl | omega
theorem bv_test (T : Nat → Bool) {v : Nat} (h : v < 8) : (bv T).testBit v = T v := by
  have h1 := bv_testK (T 0) (T 1) (T 2) (T 3) (T 4) (T 5) (T 6) (T 7) ⟨v, h⟩
  rw [list8_at T h] at h1
  exact h1
theorem bv_test_no (T : Nat → Bool) {v : Nat} (h : 8 ≤ v) : (bv T).testBit v = false :=
  Nat.testBit_lt_two_pow (Nat.lt_of_lt_of_le (bv_lt T) (by have := Nat.pow_le_pow_right (show 0 < 2 by decide) h; omega))
theorem bv_congr {S T : Nat → Bool} (h : ∀ i, i < 8 → S i = T i) : bv S = bv T := by
  unfold bv
  rw [h 0 (by decide), h 1 (by decide), h 2 (by decide), h 3 (by decide), h 4 (by decide), h 5 (by decide), h 6 (by decide), h 7 (by decide)]
theorem nums_in (S : Nat → Bool) : ∀ x ∈ numsUpto S 8, inVar x = true := fun x hx => by
  obtain ⟨v, h1, rfl, _⟩ := numsUpto_mem 8 x hx
  exact inVar_mk (by omega) (by omega)
theorem bv_none : bv (fun _ => false) = 0 := rfl
theorem bv_union (S T : Nat → Bool) : bv S ||| bv T = bv (fun i => S i || T i) := by
  refine Nat.eq_of_testBit_eq fun i => ?_
  rw [Nat.testBit_or]
  by_cases h : i < 8
  · rw [bv_test S h, bv_test T h, bv_test _ h]
  · rw [bv_test_no S (by omega), bv_test_no T (by omega), bv_test_no _ (by omega)]; rfl
theorem bv_one {v : Nat} (h : v < 8) : 2 ^ v = bv (fun i => decide (i = v)) := by
  refine Nat.eq_of_testBit_eq fun i => ?_
  rw [Nat.testBit_two_pow]
  by_cases hi : i < 8
  · rw [bv_test _ hi]
    by_cases e : v = i
    · simp [e]
    · rw [decide_eq_false e, decide_eq_false (fun e2 => e e2.symm)]
  · rw [bv_test_no _ (by omega)]
    exact decide_eq_false (by omega)
theorem bv_or1 (T : Nat → Bool) {v : Nat} (h : v < 8) : bv T ||| 2 ^ v = bv (fun i => T i || decide (i = v)) := by rw [bv_one h, bv_union]
theorem bv_has (T : Nat → Bool) {v : Nat} (h : v < 8) : (bv T / 2 ^ v) &&& 1 = (T v).toNat := by
  have h1 := bv_test T h
  rw [Nat.testBit_eq_decide_div_mod_eq] at h1
  rw [Nat.and_one_is_mod]
  cases ht : T v with
  | true => rw [ht] at h1; exact of_decide_eq_true h1
  | false =>
    rw [ht] at h1
    have h2 := of_decide_eq_false h1
    show _ = 0
    omega
theorem bv_diff (S T : Nat → Bool) : bv S &&& (255 - bv T) = bv (fun i => S i && !T i) := by
  refine Nat.eq_of_testBit_eq fun i => ?_
  have h9 := bv_lt T
  have e : 255 - bv T = 2 ^ 8 - (bv T + 1) := by omega
  rw [Nat.testBit_and, e, Nat.testBit_two_pow_sub_succ (by omega)]
  by_cases h : i < 8
  · rw [bv_test S h, bv_test T h, bv_test _ h, decide_eq_true h, Bool.true_and]
  · rw [bv_test_no S (by omega), bv_test_no (fun i => S i && !T i) (by omega), Bool.false_and]
theorem bv_zero {T : Nat → Bool} : bv T = 0 ↔ ∀ i, i < 8 → T i = false := by
  constructor
  · intro h i hi
    rw [← bv_test T hi, h]
    exact Nat.zero_testBit i
  · intro h
    rw [bv_congr (T := fun _ => false) h]
    rfl

-- the names of a library that is valid are in order
def Asc (zs : List Int) : Prop := zs.Pairwise (· < ·)
theorem asc_ext : ∀ {a b : List Int}, Asc a → Asc b → (∀ x, x ∈ a ↔ x ∈ b) → a = b
  | [], [], _, _, _ => rfl
  | [], y :: b, _, _, h => absurd ((h y).2 (List.mem_cons_self ..)) (by simp)
  | x :: a, [], _, _, h => absurd ((h x).1 (List.mem_cons_self ..)) (by simp)
  | x :: a, y :: b, h1, h2, h => by
    have h1' := List.pairwise_cons.1 h1
    have h2' := List.pairwise_cons.1 h2
    have e : x = y := by
      rcases List.mem_cons.1 ((h x).1 (List.mem_cons_self ..)) with e | hx
      · exact e
      · rcases List.mem_cons.1 ((h y).2 (List.mem_cons_self ..)) with e | hy
        · exact e.symm
        · have := h1'.1 y hy
          have := h2'.1 x hx
          omega
    subst e
    rw [asc_ext h1'.2 h2'.2 fun z => ⟨fun hz => ?_, fun hz => ?_⟩]
    · rcases List.mem_cons.1 ((h z).1 (List.mem_cons_of_mem _ hz)) with e | hz2
      · subst e
        have := h1'.1 z hz
        omega
      · exact hz2
    · rcases List.mem_cons.1 ((h z).2 (List.mem_cons_of_mem _ hz)) with e | hz2
      · subst e
        have := h2'.1 z hz
        omega
      · exact hz2
theorem nums_asc (S : Nat → Bool) : ∀ j, Asc (numsUpto S j)
  | 0 => List.Pairwise.nil
  | j + 1 => by
    cases h : S j with
    | false => rw [numsUpto_no h]; exact nums_asc S j
    | true =>
      rw [numsUpto_yes h]
      refine List.pairwise_append.2 ⟨nums_asc S j, List.pairwise_singleton _ _, fun a ha b hb => ?_⟩
      rw [List.mem_singleton.1 hb]
      obtain ⟨v, h1, rfl, _⟩ := numsUpto_mem j a ha
      omega
theorem names_asc {ds : List De} : ∀ (r : List De) (p : Option Int), okL ds p r = true → Asc (namesD r)
  | [], _, _ => List.Pairwise.nil
  | d :: r, p, h => by
    have h2 : okL ds (some d.nm) r = true := by
      have := h
      unfold okL at this
      exact (Bool.and_eq_true _ _ ▸ this).2
    refine List.pairwise_cons.2 ⟨fun a ha => ?_, names_asc r _ h2⟩
    obtain ⟨e, he, rfl⟩ := List.mem_map.1 ha
    exact (okL_named r _ h2 e he).2.2.2 d.nm rfl
theorem libOk_asc {ds : List De} (h : libOk ds = true) : Asc (namesD ds) := by
  unfold libOk at h
  rw [Bool.and_eq_true] at h
  exact names_asc ds none h.2
/-- The names for which something holds, told by a set. -/
theorem names_nums {ds : List De} (h : libOk ds = true) {p : Int → Bool} {S : Nat → Bool} (hs : ∀ v, v < 8 → (S v = true ↔ ∃ d ∈ ds, d.nm = (v : Int) ∧ p d.nm = true)) : (namesD ds).filter p = numsUpto S 8 := by
  refine asc_ext ((libOk_asc h).filter _) (nums_asc S 8) fun x => ?_
  rw [List.mem_filter, nums_iff]
  constructor
  · rintro ⟨hx, hp⟩
    obtain ⟨d, hd, rfl⟩ := List.mem_map.1 hx
    obtain ⟨e0, e8⟩ := inVar_nat (libOk_named h d hd).1
    exact ⟨d.nm.toNat, e8, e0.symm, (hs _ e8).2 ⟨d, hd, e0.symm, hp⟩⟩
  · rintro ⟨v, h8, rfl, hv⟩
    obtain ⟨d, hd, e, hp⟩ := (hs v h8).1 hv
    rw [← e]
    exact ⟨List.mem_map.2 ⟨d, hd, rfl⟩, hp⟩

-- who calls a function
def callI (d : De) (x : Int) : Bool := inVar x && callD d x.toNat
def callersL (ds : List De) (x : Int) : List Int := if libOk ds then (ds.filter fun d => callI d x).map (·.nm) else []
/-- What the functions call, function by function. -/
def graphG (ds : List De) (f : Nat) : Nat → Bool := edge ds f
def callersT (ds : List De) (x : Int) (f : Nat) : Bool := inVar x && edge ds f x.toNat
theorem filter_names {ds : List De} (h : libOk ds = true) (q : De → Bool) : (ds.filter q).map (·.nm) = (namesD ds).filter fun x => (fnd x ds).any q := by
  unfold namesD
  rw [List.filter_map]
  congr 1
  refine List.filter_congr fun d hd => ?_
  show q d = (fnd d.nm ds).any q
  rw [(libOk_named h d hd).2]
  rfl
theorem callersL_yes {ds : List De} (h : libOk ds = true) (x : Int) : callersL ds x = numsUpto (callersT ds x) 8 := by
  unfold callersL
  rw [if_pos h, filter_names h]
  refine names_nums h fun v _ => ?_
  unfold callersT
  constructor
  · intro hv
    obtain ⟨h1, h2⟩ := Bool.and_eq_true_iff.1 hv
    unfold edge at h2
    split at h2
    · rename_i d hd
      obtain ⟨hm, hx⟩ := fnd_mem hd
      refine ⟨d, hm, hx, ?_⟩
      rw [hx, hd]
      show callI d x = true
      unfold callI callD
      rw [h1, h2]; rfl
    · cases h2
  · rintro ⟨d, hd, e, hp⟩
    rw [(libOk_named h d hd).2] at hp
    have hp2 : callI d x = true := hp
    unfold callI at hp2
    obtain ⟨h1, h2⟩ := Bool.and_eq_true_iff.1 hp2
    rw [h1, Bool.true_and]
    have := edge_mem h hd x.toNat
    rw [h2, e] at this
    exact this
theorem callersL_no {ds : List De} (h : libOk ds = false) (x : Int) : callersL ds x = [] := by unfold callersL; rw [h]; rfl
theorem callersL_small {ds : List De} (x : Int) : ∀ z ∈ callersL ds x, I64 z := by
  intro z hz
  cases h : libOk ds with
  | false => rw [callersL_no h] at hz; simp at hz
  | true => rw [callersL_yes h] at hz; exact numsUpto_small _ 8 z (Nat.le_refl _) hz
theorem callersL_len (ds : List De) (x : Int) : (callersL ds x).length ≤ 8 := by
  cases h : libOk ds with
  | false => rw [callersL_no h]; exact Nat.zero_le _
  | true => rw [callersL_yes h]; exact numsUpto_len _ 8

-- the order of the functions
def inL (out : List Int) (i : Nat) : Bool := out.any fun x => decide (x.toNat = i)
theorem inL_snoc (out : List Int) (x : Int) : inL (out ++ [x]) = fun i => inL out i || decide (i = x.toNat) := by
  funext i
  unfold inL
  rw [List.any_append]
  simp only [List.any_cons, List.any_nil, Bool.or_false]
  congr 1
  by_cases e : x.toNat = i
  · simp [e]
  · rw [decide_eq_false e, decide_eq_false fun e2 => e e2.symm]
def readyD (T : Nat → Bool) (d : De) : Bool := !T d.nm.toNat && endBel d T
def nxt (ds : List De) (out : List Int) : Option De := ds.find? (readyD (inL out))
def ordR (ds : List De) : Nat → List Int → List Int
  | 0, out => out
  | m + 1, out => match nxt ds out with | none => out | some d => ordR ds m (out ++ [d.nm])
def orderL (ds : List De) : List Int := ordR ds ds.length []
inductive OrdI (ds : List De) : List Int → Prop
  | nil : OrdI ds []
  | add {out : List Int} {d : De} (h : OrdI ds out) (hn : nxt ds out = some d) : OrdI ds (out ++ [d.nm])
theorem nxt_mem {ds : List De} {out : List Int} {d : De} (h : nxt ds out = some d) : d ∈ ds ∧ readyD (inL out) d = true := ⟨List.mem_of_find?_eq_some h, List.find?_some h⟩
theorem OrdI.made {ds : List De} {out : List Int} (h : OrdI ds out) : Made endBel ds (inL out) := by
  induction h with
  | nil => exact .nil
  | @add out d _ hn ih =>
    rw [inL_snoc]
    obtain ⟨hd, hr⟩ := nxt_mem hn
    exact .add ih hd (Bool.and_eq_true_iff.1 hr).2
theorem OrdI.cnt {ds : List De} {out : List Int} (h : OrdI ds out) : out.length ≤ cnt8 (inL out) ds := by
  induction h with
  | nil => exact Nat.zero_le _
  | @add out d _ hn ih =>
    rw [inL_snoc, List.length_append, List.length_singleton]
    obtain ⟨hd, hr⟩ := nxt_mem hn
    have h1 := (Bool.and_eq_true_iff.1 hr).1
    have h2 : inL out d.nm.toNat = false := by simpa using h1
    have := cnt8_lt (S := inL out) (T := fun i => inL out i || decide (i = d.nm.toNat)) (fun i hi => by rw [hi]; rfl) ds d hd h2 (by simp)
    omega
theorem OrdI.len {ds : List De} {out : List Int} (h : OrdI ds out) : out.length ≤ ds.length := Nat.le_trans h.cnt (cnt8_le _ _)
theorem OrdI.more {ds : List De} {out : List Int} (h : OrdI ds out) {d : De} (hn : nxt ds out = some d) : out.length < ds.length := by
  have := (h.add hn).len
  rw [List.length_append, List.length_singleton] at this
  omega
theorem OrdI.is {ds : List De} {out : List Int} (h : OrdI ds out) : ordR ds (ds.length - out.length) out = orderL ds := by
  induction h with
  | nil => rfl
  | @add out d h hn ih =>
    have h1 := h.more hn
    rw [← ih, List.length_append, List.length_singleton]
    have e : ds.length - out.length = (ds.length - (out.length + 1)) + 1 := by omega
    rw [e]
    conv => rhs; unfold ordR
    rw [hn]
theorem ordR_end {ds : List De} {out : List Int} (hn : nxt ds out = none) : ∀ m, ordR ds m out = out
  | 0 => rfl
  | m + 1 => by unfold ordR; rw [hn]
theorem OrdI.last {ds : List De} {out : List Int} (h : OrdI ds out) (hn : nxt ds out = none) : out = orderL ds := by rw [← h.is, ordR_end hn]
theorem OrdI.full {ds : List De} {out : List Int} (h : OrdI ds out) (hl : ds.length ≤ out.length) : out = orderL ds := by
  rw [← h.is, Nat.sub_eq_zero_of_le hl]
  rfl
theorem OrdI.full_no {ds : List De} {out : List Int} (h : OrdI ds out) (hl : ds.length ≤ out.length) : nxt ds out = none := by
  cases hn : nxt ds out with
  | none => rfl
  | some d => have := h.more hn; omega
theorem ordR_I {ds : List De} : ∀ (m : Nat) (out : List Int), OrdI ds out → ds.length ≤ out.length + m → OrdI ds (ordR ds m out) ∧ nxt ds (ordR ds m out) = none
  | 0, out, h, hl => ⟨h, h.full_no (by omega)⟩
  | m + 1, out, h, hl => by
    unfold ordR
    cases hn : nxt ds out with
    | none => exact ⟨h, hn⟩
    | some d => exact ordR_I m _ (h.add hn) (by rw [List.length_append, List.length_singleton]; omega)
theorem orderL_I (ds : List De) : OrdI ds (orderL ds) ∧ nxt ds (orderL ds) = none := ordR_I ds.length [] .nil (by simp)
theorem OrdI.nums {ds : List De} (h : libOk ds = true) {out : List Int} (ho : OrdI ds out) : ∀ x ∈ out, inVar x = true := by
  induction ho with
  | nil => intro x hx; simp at hx
  | @add out d _ hn ih =>
    intro x hx
    rcases List.mem_append.1 hx with hx | hx
    · exact ih x hx
    · rw [List.mem_singleton.1 hx]
      exact (libOk_named h d (nxt_mem hn).1).1
theorem inL_mem {out : List Int} {x : Int} (hx : inVar x = true) (ho : ∀ z ∈ out, inVar z = true) : inL out x.toNat = decide (x ∈ out) := by
  cases h : inL out x.toNat with
  | true =>
    obtain ⟨z, hz, e⟩ := List.any_eq_true.1 h
    have := nat_inj (ho z hz) hx (of_decide_eq_true e)
    subst this
    exact (decide_eq_true hz).symm
  | false =>
    refine (decide_eq_false fun hm => ?_).symm
    rw [show inL out x.toNat = true from List.any_eq_true.2 ⟨x, hm, decide_eq_true rfl⟩] at h
    cases h
/-- In the order stand the ending functions. -/
theorem order_closed (ds : List De) : Closed endBel ds (inL (orderL ds)) := by
  intro d hd hb
  cases h : inL (orderL ds) d.nm.toNat with
  | true => rfl
  | false =>
    have hn := (orderL_I ds).2
    unfold nxt at hn
    have := List.find?_eq_none.1 hn d hd
    unfold readyD at this
    rw [h, hb] at this
    exact absurd rfl this
theorem order_ends {ds : List De} (h : libOk ds = true) {d : De} (hd : d ∈ ds) : inL (orderL ds) d.nm.toNat = endingS ds d.nm := end_set h (orderL_I ds).1.made (order_closed ds) hd
def orderB (ds : List De) : Bool := libOk ds && decide ((orderL ds).length = ds.length)
def orderV (ds : List De) : List Int := if orderB ds then orderL ds else []
theorem orderV_small {ds : List De} : ∀ x ∈ orderV ds, I64 x := by
  intro x hx
  unfold orderV at hx
  split at hx
  · rename_i h
    have := inVar_true ((orderL_I ds).1.nums (Bool.and_eq_true_iff.1 h).1 x hx)
    unfold I64
    omega
  · simp at hx
theorem orderV_len (ds : List De) : (orderV ds).length ≤ 8 := by
  unfold orderV
  split
  · rename_i h
    exact Nat.le_trans (orderL_I ds).1.len (libOk_len (Bool.and_eq_true_iff.1 h).1)
  · exact Nat.zero_le _
/-- All functions have a place in the order exactly if all are ending. -/
theorem cnt8_all {S : Nat → Bool} : ∀ {r : List De}, cnt8 S r = r.length → ∀ d ∈ r, S d.nm.toNat = true := by
  intro r he d hd
  cases h : S d.nm.toNat with
  | true => rfl
  | false =>
    have h1 := cnt8_lt (S := S) (T := fun _ => true) (fun _ _ => rfl) r d hd h rfl
    have h2 := cnt8_le (fun _ => true) r
    omega
theorem order_all {ds : List De} (h : libOk ds = true) (hb : orderB ds = true) : ∀ d ∈ ds, endingS ds d.nm = true := by
  intro d hd
  rw [← order_ends h hd]
  have hl := of_decide_eq_true (Bool.and_eq_true_iff.1 hb).2
  have h1 := (orderL_I ds).1.cnt
  have h2 := cnt8_le (inL (orderL ds)) ds
  exact cnt8_all (by omega) d hd

-- how many calls deep a function goes
def maxOver (g : Nat → Nat) : List Int → Nat → Nat
  | [], n => n
  | x :: r, n => maxOver g r (max n (g x.toNat + 1))
theorem maxOver_snoc (g : Nat → Nat) : ∀ (zs : List Int) (x : Int) (n : Nat), maxOver g (zs ++ [x]) n = max (maxOver g zs n) (g x.toNat + 1)
  | [], _, _ => rfl
  | y :: zs, x, n => by show maxOver g (zs ++ [x]) _ = _; rw [maxOver_snoc g zs x]; rfl
theorem maxOver_congr {g h : Nat → Nat} : ∀ {zs : List Int} {n : Nat}, (∀ x ∈ zs, g x.toNat = h x.toNat) → maxOver g zs n = maxOver h zs n
  | [], _, _ => rfl
  | x :: r, n, e => by
    unfold maxOver
    rw [e x (List.mem_cons_self ..)]
    exact maxOver_congr fun y hy => e y (List.mem_cons_of_mem _ hy)
theorem maxOver_le {g : Nat → Nat} {m : Nat} : ∀ {zs : List Int} {n : Nat}, n ≤ m → (∀ x ∈ zs, g x.toNat + 1 ≤ m) → maxOver g zs n ≤ m
  | [], _, h, _ => h
  | x :: r, n, h, e => by
    show maxOver g r (max n (g x.toNat + 1)) ≤ m
    exact maxOver_le (Nat.max_le.2 ⟨h, e x (List.mem_cons_self ..)⟩) fun y hy => e y (List.mem_cons_of_mem _ hy)
theorem le_maxOver {g : Nat → Nat} : ∀ {zs : List Int} {n : Nat}, n ≤ maxOver g zs n ∧ ∀ x ∈ zs, g x.toNat + 1 ≤ maxOver g zs n
  | [], _ => ⟨Nat.le_refl _, fun x hx => by simp at hx⟩
  | y :: r, n => by
    have ih := le_maxOver (g := g) (zs := r) (n := max n (g y.toNat + 1))
    refine ⟨Nat.le_trans (Nat.le_max_left _ _) ih.1, fun x hx => ?_⟩
    rcases List.mem_cons.1 hx with rfl | hx
    · exact Nat.le_trans (Nat.le_max_right _ _) ih.1
    · exact ih.2 x hx
/-- What the function with this number calls. -/
def outE (ds : List De) (f : Nat) : List Int := numsUpto (edge ds f) 8
def lvN (ds : List De) : Nat → Nat → Nat
  | 0, _ => 0
  | m + 1, f => maxOver (lvN ds m) (outE ds f) 0
def lvl (ds : List De) (f : Nat) : Nat := lvN ds (behind ds f + 1) f
theorem lvN_stable {ds : List De} (h : libOk ds = true) : ∀ (m f : Nat), Ends ds f → behind ds f < m → lvN ds m f = lvl ds f := by
  intro m
  induction m using Nat.strongRecOn with
  | _ m ih =>
    intro f he hm
    match m, hm, ih with
    | m + 1, hm, ih =>
      unfold lvl
      show maxOver (lvN ds m) (outE ds f) 0 = maxOver (lvN ds (behind ds f)) (outE ds f) 0
      refine maxOver_congr fun x hx => ?_
      obtain ⟨v, _, rfl, hv⟩ := (nums_iff _ 8 x).1 hx
      show lvN ds m v = lvN ds (behind ds f) v
      have hlt := behind_lt h he hv
      rw [ih m (by omega) v (he.call hv) (by omega)]
      by_cases hb : behind ds f < m + 1
      · exact (ih (behind ds f) hb v (he.call hv) (by omega)).symm
      · omega
theorem lvl_is {ds : List De} (h : libOk ds = true) {f : Nat} (he : Ends ds f) : lvl ds f = maxOver (lvl ds) (outE ds f) 0 := by
  unfold lvl
  show maxOver (lvN ds (behind ds f)) (outE ds f) 0 = _
  refine maxOver_congr fun x hx => ?_
  obtain ⟨v, _, rfl, hv⟩ := (nums_iff _ 8 x).1 hx
  exact lvN_stable h _ v (he.call hv) (behind_lt h he hv)
theorem lvl_call {ds : List De} (h : libOk ds = true) {f c : Nat} (he : Ends ds f) (hc : edge ds f c = true) : lvl ds c < lvl ds f := by
  rw [lvl_is h he]
  exact le_maxOver.2 (c : Int) ((nums_iff _ 8 _).2 ⟨c, edge_lt8 h hc, rfl, hc⟩)
theorem lvl_behind {ds : List De} (h : libOk ds = true) (m : Nat) : ∀ f, behind ds f = m → Ends ds f → lvl ds f ≤ m := by
  induction m using Nat.strongRecOn with
  | _ m ih =>
    intro f hm he
    rw [lvl_is h he]
    refine maxOver_le (Nat.zero_le _) fun x hx => ?_
    obtain ⟨v, _, rfl, hv⟩ := (nums_iff _ 8 x).1 hx
    have hlt := behind_lt h he hv
    have := ih _ (by omega) v rfl (he.call hv)
    show lvl ds v + 1 ≤ m
    omega
theorem lvl_lt {ds : List De} (h : libOk ds = true) {d : De} (hd : d ∈ ds) (he : Ends ds d.nm.toNat) : lvl ds d.nm.toNat < ds.length := by
  have h1 := lvl_behind h _ d.nm.toNat rfl he
  obtain ⟨e0, e8⟩ := inVar_nat (libOk_named h d hd).1
  have h2 : behind ds d.nm.toNat = cnt8 (fromS ds d.op d.n d.k) ds := by
    unfold behind
    rw [e0, (libOk_named h d hd).2]
  have h3 : fromS ds d.op d.n d.k d.nm.toNat = false := by
    cases hb : fromS ds d.op d.n d.k d.nm.toNat with
    | false => rfl
    | true =>
      obtain ⟨c, hc, hr⟩ := set_split ((from_body h hd _).1 hb)
      exact absurd hr (he _ (rch_just _) c (by rw [edge_mem h hd]; exact hc))
  have h4 := cnt8_lt (S := fromS ds d.op d.n d.k) (T := fun _ => true) (fun _ _ => rfl) ds d hd h3 rfl
  have h5 := cnt8_le (fun _ => true) ds
  omega
theorem lvl_zero {ds : List De} (h : libOk ds = true) {f : Nat} (he : Ends ds f) : lvl ds f = 0 ↔ outE ds f = [] := by
  constructor
  · intro h0
    cases hz : outE ds f with
    | nil => rfl
    | cons x r =>
      obtain ⟨v, _, rfl, hv⟩ := (nums_iff (edge ds f) 8 x).1 (show x ∈ outE ds f by rw [hz]; exact List.mem_cons_self ..)
      have := lvl_call h he hv
      omega
  · intro h0
    rw [lvl_is h he, h0]
    rfl
def lvlB (ds : List De) (x : Int) : Bool := libOk ds && ((fnd x ds).isSome && endingS ds x)
def lvlV (ds : List De) (x : Int) : Nat := if lvlB ds x then lvl ds x.toNat else 0
end Go.Proofs.YtpknegneogdmfaaGreat
