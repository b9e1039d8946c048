/-
  How often the model's source of numbers gives 3 of 30, as plain data: looked at for many places at once, a place a bit of a large number.
-/
import Derived.KernelRfl
set_option maxRecDepth 100000
namespace Go.Proofs.YtpknegneogdmfaaGreat.Dens


/-- Bit i of all x below 2^N, as a number of 2^N bits. -/
def col : Nat → Nat → Nat
  | 0, _ => 0
  | N + 1, i => if i = N then (2 ^ (2 ^ N) - 1) <<< (2 ^ N) else col N i ||| (col N i <<< (2 ^ N))

theorem col_lt : ∀ N i, col N i < 2 ^ (2 ^ N)
  | 0, _ => by simp [col]
  | N + 1, i => by
    have e : 2 ^ (N + 1) = 2 ^ N + 2 ^ N := by rw [Nat.pow_succ]; omega
    simp only [col]
    split
    · rw [Nat.shiftLeft_eq, e, Nat.pow_add]
      have : 0 < 2 ^ 2 ^ N := Nat.pow_pos (by decide)
      have h2 : 2 ^ 2 ^ N - 1 < 2 ^ 2 ^ N := Nat.sub_lt this (by decide)
      exact Nat.mul_lt_mul_of_pos_right h2 this
    · rw [e]
      refine Nat.or_lt_two_pow (Nat.lt_of_lt_of_le (col_lt N i) (Nat.pow_le_pow_right (by decide) (Nat.le_add_right _ _))) ?_
      rw [Nat.shiftLeft_eq, Nat.pow_add]
      exact Nat.mul_lt_mul_of_pos_right (col_lt N i) (Nat.pow_pos (by decide))

theorem top_bit {N x : Nat} (h : x < 2 ^ (N + 1)) : x.testBit N = decide (2 ^ N ≤ x) := by
  rw [Nat.testBit_eq_decide_div_mod_eq]
  have e : 2 ^ (N + 1) = 2 ^ N + 2 ^ N := by rw [Nat.pow_succ]; omega
  have hp : 0 < 2 ^ N := Nat.pow_pos (by decide)
  by_cases hx : 2 ^ N ≤ x
  · have h1 : x / 2 ^ N = 1 := by
      refine Nat.div_eq_of_lt_le (by omega) (by omega)
    simp [h1, hx]
  · simp [Nat.div_eq_of_lt (Nat.lt_of_not_le hx), hx]

theorem col_bit : ∀ (N i x : Nat), x < 2 ^ N → (col N i).testBit x = (decide (i < N) && x.testBit i)
  | 0, i, x, _ => by simp [col]
  | N + 1, i, x, hx => by
    have e : 2 ^ (N + 1) = 2 ^ N + 2 ^ N := by rw [Nat.pow_succ]; omega
    simp only [col]
    split
    · next h =>
      subst h
      rw [Nat.testBit_shiftLeft, Nat.testBit_two_pow_sub_one, top_bit hx]
      by_cases h1 : 2 ^ i ≤ x <;> simp [h1] <;> omega
    · next h =>
      rw [Nat.testBit_or, Nat.testBit_shiftLeft]
      by_cases h1 : 2 ^ N ≤ x
      · rw [Nat.testBit_lt_two_pow (Nat.lt_of_lt_of_le (col_lt N i) (Nat.pow_le_pow_right (by decide) h1)), col_bit N i (x - 2 ^ N) (by omega)]
        have e2 : x = 2 ^ N + (x - 2 ^ N) := by omega
        by_cases h2 : i < N
        · have h3 : x.testBit i = (x - 2 ^ N).testBit i := by
            rw [e2, Nat.testBit_two_pow_add_gt h2]; simp
          simp [h1, h2, h3, Nat.lt_succ_of_lt h2]
        · have h4 : ¬ i < N + 1 := by omega
          simp [h2, h4]
      · rw [col_bit N i x (by omega)]
        by_cases h2 : i < N
        · simp [h1, h2, Nat.lt_succ_of_lt h2]
        · have h4 : ¬ i < N + 1 := by omega
          simp [h1, h2, h4]

/-- The mixture's last step. -/
def mix (x : Nat) : Nat := x ^^^ (x >>> 6)

def yb (N i : Nat) : Nat := col N i ^^^ col N (i + 6)
theorem yb_bit {N i x : Nat} (hx : x < 2 ^ N) : (yb N i).testBit x = (mix x).testBit i := by
  have hb : ∀ j, (decide (j < N) && x.testBit j) = x.testBit j := fun j => by
    by_cases h : j < N
    · simp [h]
    · rw [Nat.testBit_lt_two_pow (Nat.lt_of_lt_of_le hx (Nat.pow_le_pow_right (by decide) (by omega)))]; simp
  simp only [yb, mix, Nat.testBit_xor, col_bit N _ x hx, hb, Nat.testBit_shiftRight, Nat.add_comm 6 i]
theorem mix_lt {N x : Nat} (hx : x < 2 ^ N) : mix x < 2 ^ N := by
  refine Nat.xor_lt_two_pow hx (Nat.lt_of_le_of_lt ?_ hx)
  rw [Nat.shiftRight_eq_div_pow]; exact Nat.div_le_self _ _

structure S3 where
  a : Nat
  b : Nat
  c : Nat
def st3 (all b : Nat) (s : S3) : S3 :=
  ⟨(s.a &&& (all ^^^ b)) ||| (s.b &&& b), (s.a &&& b) ||| (s.c &&& (all ^^^ b)), (s.b &&& (all ^^^ b)) ||| (s.c &&& b)⟩
structure S5 where
  a : Nat
  b : Nat
  c : Nat
  d : Nat
  e : Nat
def st5 (all b : Nat) (s : S5) : S5 :=
  ⟨(s.a &&& (all ^^^ b)) ||| (s.c &&& b), (s.a &&& b) ||| (s.d &&& (all ^^^ b)), (s.b &&& (all ^^^ b)) ||| (s.d &&& b),
   (s.b &&& b) ||| (s.e &&& (all ^^^ b)), (s.c &&& (all ^^^ b)) ||| (s.e &&& b)⟩
def m3 (N : Nat) : Nat → S3
  | 0 => ⟨2 ^ (2 ^ N) - 1, 0, 0⟩
  | k + 1 => st3 (2 ^ (2 ^ N) - 1) (yb N (N - (k + 1))) (m3 N k)
def m5 (N : Nat) : Nat → S5
  | 0 => ⟨2 ^ (2 ^ N) - 1, 0, 0, 0, 0⟩
  | k + 1 => st5 (2 ^ (2 ^ N) - 1) (yb N (N - (k + 1))) (m5 N k)
/-- For which x the mixture is 3 modulo 30. -/
def three (N : Nat) : Nat := yb N 0 &&& (m3 N N).a &&& (m5 N N).d

theorem shift_step (y m : Nat) : y >>> m = 2 * (y >>> (m + 1)) + (y.testBit m).toNat := by
  rw [Nat.testBit_eq_decide_div_mod_eq, Nat.shiftRight_eq_div_pow, Nat.shiftRight_eq_div_pow, Nat.pow_succ, ← Nat.div_div_eq_div_mul]
  have h := Nat.div_add_mod (y / 2 ^ m) 2
  rcases Nat.mod_two_eq_zero_or_one (y / 2 ^ m) with h2 | h2 <;> simp [h2] <;> omega

theorem all_bit {N x : Nat} (hx : x < 2 ^ N) : (2 ^ (2 ^ N) - 1).testBit x = true := by
  rw [Nat.testBit_two_pow_sub_one]; simpa using hx

theorem m3_bit {N x : Nat} (hx : x < 2 ^ N) : ∀ k, k ≤ N → (m3 N k).a.testBit x = decide ((mix x >>> (N - k)) % 3 = 0) ∧ (m3 N k).b.testBit x = decide ((mix x >>> (N - k)) % 3 = 1) ∧
    (m3 N k).c.testBit x = decide ((mix x >>> (N - k)) % 3 = 2)
  | 0, _ => by
    have h := mix_lt hx
    simp only [m3, all_bit hx, Nat.sub_zero, Nat.shiftRight_eq_div_pow, Nat.div_eq_of_lt h]; simp
  | k + 1, hk => by
    obtain ⟨h1, h2, h3⟩ := m3_bit hx k (by omega)
    have e : N - k = N - (k + 1) + 1 := by omega
    rw [e] at h1 h2 h3
    have hs := shift_step (mix x) (N - (k + 1))
    simp only [m3, st3, Nat.testBit_or, Nat.testBit_and, Nat.testBit_xor, all_bit hx, h1, h2, h3, yb_bit hx]
    rw [hs]
    generalize mix x >>> (N - (k + 1) + 1) = q
    generalize (mix x).testBit (N - (k + 1)) = b
    have hq : q % 3 = 0 ∨ q % 3 = 1 ∨ q % 3 = 2 := by omega
    cases b
    · have : (2 * q + false.toNat) % 3 = 2 * (q % 3) % 3 := by simp [Nat.mul_mod]
      rw [this]
      rcases hq with hq | hq | hq <;> simp [hq]
    · have : (2 * q + true.toNat) % 3 = (2 * (q % 3) + 1) % 3 := by simp only [Bool.toNat_true]; omega
      rw [this]
      rcases hq with hq | hq | hq <;> simp [hq]

theorem m5_bit {N x : Nat} (hx : x < 2 ^ N) : ∀ k, k ≤ N → (m5 N k).a.testBit x = decide ((mix x >>> (N - k)) % 5 = 0) ∧ (m5 N k).b.testBit x = decide ((mix x >>> (N - k)) % 5 = 1) ∧
    (m5 N k).c.testBit x = decide ((mix x >>> (N - k)) % 5 = 2) ∧ (m5 N k).d.testBit x = decide ((mix x >>> (N - k)) % 5 = 3) ∧ (m5 N k).e.testBit x = decide ((mix x >>> (N - k)) % 5 = 4)
  | 0, _ => by
    have h := mix_lt hx
    simp only [m5, all_bit hx, Nat.sub_zero, Nat.shiftRight_eq_div_pow, Nat.div_eq_of_lt h]; simp
  | k + 1, hk => by
    obtain ⟨h1, h2, h3, h4, h5⟩ := m5_bit hx k (by omega)
    have e : N - k = N - (k + 1) + 1 := by omega
    rw [e] at h1 h2 h3 h4 h5
    have hs := shift_step (mix x) (N - (k + 1))
    simp only [m5, st5, Nat.testBit_or, Nat.testBit_and, Nat.testBit_xor, all_bit hx, h1, h2, h3, h4, h5, yb_bit hx]
    rw [hs]
    generalize mix x >>> (N - (k + 1) + 1) = q
    generalize (mix x).testBit (N - (k + 1)) = b
    have hq : q % 5 = 0 ∨ q % 5 = 1 ∨ q % 5 = 2 ∨ q % 5 = 3 ∨ q % 5 = 4 := by omega
    cases b
    · have : (2 * q + false.toNat) % 5 = 2 * (q % 5) % 5 := by simp [Nat.mul_mod]
      rw [this]
      rcases hq with hq | hq | hq | hq | hq <;> simp [hq]
    · have : (2 * q + true.toNat) % 5 = (2 * (q % 5) + 1) % 5 := by simp only [Bool.toNat_true]; omega
      rw [this]
      rcases hq with hq | hq | hq | hq | hq <;> simp [hq]

theorem three_bit {N x : Nat} (hx : x < 2 ^ N) : (three N).testBit x = decide (mix x % 30 = 3) := by
  obtain ⟨h1, -, -⟩ := m3_bit hx N (Nat.le_refl _)
  obtain ⟨-, -, -, h2, -⟩ := m5_bit hx N (Nat.le_refl _)
  simp only [three, Nat.testBit_and, h1, h2, yb_bit hx, Nat.sub_self, Nat.shiftRight_zero, Nat.testBit_zero]
  generalize mix x = y
  rw [Bool.eq_iff_iff]
  simp only [Bool.and_eq_true, decide_eq_true_eq]
  omega

/-- Numbers in columns: at each place x the number of the bits there. -/
def val : List Nat → Nat → Nat
  | [], _ => 0
  | p :: r, x => (p.testBit x).toNat + 2 * val r x
def addP : List Nat → List Nat → Nat → List Nat
  | [], _, c => [c]
  | _ :: _, [], c => [c]
  | a :: as, b :: bs, c => (a ^^^ b ^^^ c) :: addP as bs ((a &&& b) ||| ((a ^^^ b) &&& c))
theorem val_add (x : Nat) : ∀ (l m : List Nat) (c : Nat), l.length = m.length → val (addP l m c) x = val l x + val m x + (c.testBit x).toNat
  | [], m, c, h => by
    cases m with
    | nil => simp [addP, val]
    | cons => simp at h
  | _ :: _, [], _, h => by simp at h
  | a :: as, b :: bs, c, h => by
    have ih := val_add x as bs ((a &&& b) ||| ((a ^^^ b) &&& c)) (by simpa using h)
    simp only [addP, val, ih, Nat.testBit_xor, Nat.testBit_or, Nat.testBit_and]
    generalize val as x = u
    generalize val bs x = v
    cases a.testBit x <;> cases b.testBit x <;> cases c.testBit x <;> simp <;> omega
def dbl (d : Nat) (l : List Nat) : List Nat := addP l (l.map (· >>> d)) 0
theorem val_shift (d x : Nat) : ∀ l : List Nat, val (l.map (· >>> d)) x = val l (x + d)
  | [] => rfl
  | p :: r => by simp only [List.map, val, val_shift d x r, Nat.testBit_shiftRight, Nat.add_comm d x]
theorem val_dbl (d x : Nat) (l : List Nat) : val (dbl d l) x = val l x + val l (x + d) := by
  rw [dbl, val_add x _ _ _ (by simp), val_shift]; simp
def cnt (d : Nat) : Nat → List Nat → List Nat
  | 0, l => l
  | s + 1, l => cnt (2 * d) s (dbl d l)

/-- The sum of f from 0 to n - 1. -/
def sum (f : Nat → Nat) : Nat → Nat
  | 0 => 0
  | n + 1 => sum f n + f n
theorem sum_congr {f g : Nat → Nat} : ∀ n, (∀ i, i < n → f i = g i) → sum f n = sum g n
  | 0, _ => rfl
  | n + 1, h => by simp only [sum, sum_congr n (fun i hi => h i (by omega)), h n (by omega)]
theorem sum_add (f g : Nat → Nat) : ∀ n, sum (fun i => f i + g i) n = sum f n + sum g n
  | 0 => rfl
  | n + 1 => by simp only [sum, sum_add f g n]; omega
theorem sum_le {f g : Nat → Nat} : ∀ n, (∀ i, i < n → f i ≤ g i) → sum f n ≤ sum g n
  | 0, _ => Nat.le_refl _
  | n + 1, h => Nat.add_le_add (sum_le n fun i hi => h i (by omega)) (h n (by omega))
theorem sum_const (c : Nat) : ∀ n, sum (fun _ => c) n = n * c
  | 0 => by simp [sum]
  | n + 1 => by simp only [sum, sum_const c n, Nat.succ_mul]
theorem sum_split (f : Nat → Nat) (a : Nat) : ∀ b, sum f (a + b) = sum f a + sum (fun i => f (a + i)) b
  | 0 => rfl
  | b + 1 => by rw [← Nat.add_assoc]; simp only [sum, sum_split f a b]; omega
theorem sum_swap (f : Nat → Nat → Nat) (n : Nat) : ∀ m, sum (fun i => sum (fun j => f i j) n) m = sum (fun j => sum (fun i => f i j) m) n
  | 0 => by simp only [sum]; rw [sum_const]; simp
  | m + 1 => by simp only [sum, sum_swap f n m, sum_add]
/-- Pairs: the sum over twice as many. -/
theorem sum_two (f : Nat → Nat) : ∀ n, sum f (2 * n) = sum (fun j => f (2 * j) + f (2 * j + 1)) n
  | 0 => rfl
  | n + 1 => by
    have e : 2 * (n + 1) = 2 * n + 1 + 1 := by omega
    rw [e]; simp only [sum, sum_two f n]; omega

theorem val_cnt : ∀ (s d x : Nat) (l : List Nat), val (cnt d s l) x = sum (fun j => val l (x + d * j)) (2 ^ s)
  | 0, d, x, l => by simp [cnt, sum]
  | s + 1, d, x, l => by
    have e : 2 ^ (s + 1) = 2 * 2 ^ s := by rw [Nat.pow_succ]; omega
    rw [cnt, val_cnt s (2 * d) x (dbl d l), e, sum_two]
    refine sum_congr _ fun j _ => ?_
    rw [val_dbl]
    have h1 : x + 2 * d * j = x + d * (2 * j) := by rw [Nat.mul_comm 2 d, Nat.mul_assoc]
    have h2 : x + d * (2 * j) + d = x + d * (2 * j + 1) := by rw [Nat.mul_add, Nat.mul_one]; omega
    rw [h1, h2]

def zeros (X : Nat) : List Nat → Bool
  | [] => true
  | p :: r => (p % 2 ^ X == 0) && zeros X r
theorem zeros_val {X x : Nat} (hx : x < X) : ∀ l, zeros X l = true → val l x = 0
  | [], _ => rfl
  | p :: r, h => by
    simp only [zeros, Bool.and_eq_true, beq_iff_eq] at h
    have h1 : p.testBit x = false := by
      have := Nat.testBit_mod_two_pow p X x
      rw [h.1] at this
      simpa [hx] using this.symm
    simp [val, h1, zeros_val hx r h.2]
theorem val_lt (x : Nat) : ∀ (j : Nat) (l : List Nat), val (l.drop j) x = 0 → val l x < 2 ^ j
  | 0, l, h => by rw [List.drop_zero] at h; rw [h]; decide
  | j + 1, [], _ => by simp only [val]; exact Nat.pow_pos (by decide)
  | j + 1, p :: r, h => by
    have := val_lt x j r (by simpa using h)
    have e : 2 ^ (j + 1) = 2 * 2 ^ j := by rw [Nat.pow_succ]; omega
    simp only [val, e]
    cases p.testBit x <;> simp <;> omega

/-- No 2^a places in steps of d, begun below X, bear 2^(a-2) threes. -/
def few (N X d a : Nat) : Bool := zeros X ((cnt d a [three N]).drop (a - 2))
def isThree (x : Nat) : Nat := if mix x % 30 = 3 then 1 else 0
theorem few_le {N X d a : Nat} (h : few N X d a = true) (hN : X + d * 2 ^ a ≤ 2 ^ N) {x : Nat} (hx : x < X) : sum (fun j => isThree (x + d * j)) (2 ^ a) < 2 ^ (a - 2) := by
  have h1 := val_lt x _ _ (zeros_val hx _ h)
  rw [val_cnt] at h1
  refine Nat.lt_of_le_of_lt (Nat.le_of_eq (sum_congr _ fun j hj => ?_)) h1
  have h2 : x + d * j < 2 ^ N := by
    have : d * j ≤ d * 2 ^ a := Nat.mul_le_mul_left _ (by omega)
    omega
  simp only [val, three_bit h2, isThree]
  split <;> simp [*]

theorem sum_mul (f : Nat → Nat) (n : Nat) : ∀ W, sum f (n * W) = sum (fun j => sum (fun i => f (n * j + i)) n) W
  | 0 => rfl
  | W + 1 => by rw [Nat.mul_succ, sum_split, sum_mul f n W]; rfl
theorem sum_le_one {f : Nat → Nat} (h : ∀ i, f i ≤ 1) (n : Nat) : sum f n ≤ n := by
  have := sum_le (f := f) (g := fun _ => 1) n fun i _ => h i
  rwa [sum_const, Nat.mul_one] at this

/-- What the source mixes at place k: n bytes b. -/
def mixAt (b : Nat → Nat) (n k : Nat) : Nat := b (k % n) * 131 + b ((k * 7 + 3) % n) * 1117 + k * 29 + k / n * 53
/-- The number below m that the source picks at place k. -/
def pk (b : Nat → Nat) (n k m : Nat) : Nat := if k < n then b k % m else mix (mixAt b n k) % m
def thr (b : Nat → Nat) (n k : Nat) : Nat := if pk b n k 30 = 3 then 1 else 0
theorem thr_le (b : Nat → Nat) (n k : Nat) : thr b n k ≤ 1 := by unfold thr; split <;> omega

theorem mixAt_step (b : Nat → Nat) (n k j : Nat) (hn : 0 < n) : mixAt b n (k + n * j) = mixAt b n k + (29 * n + 53) * j := by
  have e1 : (k + n * j) % n = k % n := Nat.add_mul_mod_self_left _ _ _
  have e2 : ((k + n * j) * 7 + 3) % n = (k * 7 + 3) % n := by
    have : (k + n * j) * 7 + 3 = k * 7 + 3 + n * (j * 7) := by rw [Nat.add_mul, Nat.mul_assoc]; omega
    rw [this, Nat.add_mul_mod_self_left]
  have e3 : (k + n * j) / n = k / n + j := Nat.add_mul_div_left _ _ hn
  simp only [mixAt, e1, e2, e3]
  have e4 : (k + n * j) * 29 = k * 29 + 29 * n * j := by rw [Nat.add_mul, Nat.mul_comm (n * j) 29, Nat.mul_assoc]
  have e5 : (k / n + j) * 53 = k / n * 53 + 53 * j := by rw [Nat.add_mul, Nat.mul_comm j 53]
  rw [e4, e5, Nat.add_mul]
  omega

theorem thr_far {b : Nat → Nat} {n k : Nat} (hk : n ≤ k) : thr b n k = isThree (mixAt b n k) := by
  have h : ¬ k < n := by omega
  simp only [thr, pk, isThree, if_neg h]

/-- One block of n * 2^a places. -/
theorem block {b : Nat → Nat} {n s X N a : Nat} (hn : 0 < n) (hs : n ≤ s) (hX : ∀ i, i < n → mixAt b n (s + i) < X) (h : few N X (29 * n + 53) a = true) (hN : X + (29 * n + 53) * 2 ^ a ≤ 2 ^ N) :
    sum (fun i => thr b n (s + i)) (n * 2 ^ a) ≤ n * (2 ^ (a - 2) - 1) := by
  rw [sum_mul, sum_swap, ← sum_const]
  refine sum_le _ fun i hi => ?_
  have h1 := few_le h hN (hX i hi)
  have h2 : sum (fun j => thr b n (s + (n * j + i))) (2 ^ a) = sum (fun j => isThree (mixAt b n (s + i) + (29 * n + 53) * j)) (2 ^ a) := by
    refine sum_congr _ fun j _ => ?_
    have e : s + (n * j + i) = s + i + n * j := by omega
    rw [e, thr_far (by omega), mixAt_step _ _ _ _ hn]
  rw [h2]
  omega

theorem mixAt_lt {b : Nat → Nat} (hb : ∀ i, b i < 256) {n k m : Nat} (h : k < n * (m + 1)) : mixAt b n k < 318241 + k * 29 + m * 53 := by
  have h1 : k / n < m + 1 := Nat.div_lt_of_lt_mul h
  have h2 : k / n * 53 ≤ m * 53 := Nat.mul_le_mul_right _ (by omega)
  have h3 := hb (k % n)
  have h4 := hb ((k * 7 + 3) % n)
  have h5 : b (k % n) * 131 ≤ 255 * 131 := Nat.mul_le_mul_right _ (by omega)
  have h6 : b ((k * 7 + 3) % n) * 1117 ≤ 255 * 1117 := Nat.mul_le_mul_right _ (by omega)
  unfold mixAt
  omega

/-- q blocks. -/
theorem blocks {b : Nat → Nat} (hb : ∀ i, b i < 256) {n X N a : Nat} (hn : 0 < n) (h : few N X (29 * n + 53) a = true) (hN : X + (29 * n + 53) * 2 ^ a ≤ 2 ^ N) : ∀ q,
    318294 + 58 * n + (29 * n + 53) * 2 ^ a * (q - 1) ≤ X → sum (fun i => thr b n (n + i)) (n * 2 ^ a * q) ≤ n * (2 ^ (a - 2) - 1) * q
  | 0, _ => Nat.le_refl _
  | q + 1, hX => by
    have ih := blocks hb hn h hN q (Nat.le_trans (Nat.add_le_add_left (Nat.mul_le_mul_left _ (by omega)) _) hX)
    rw [Nat.mul_succ, sum_split, Nat.mul_succ]
    refine Nat.add_le_add ih ?_
    have e : ∀ i, thr b n (n + (n * 2 ^ a * q + i)) = thr b n (n + n * 2 ^ a * q + i) := fun i => by rw [Nat.add_assoc]
    simp only [e]
    refine block hn (by omega) (fun i hi => Nat.lt_of_lt_of_le (mixAt_lt hb (m := 1 + 2 ^ a * q) ?_) (Nat.le_trans ?_ hX)) h hN
    · have : n * (1 + 2 ^ a * q + 1) = n + n * 2 ^ a * q + n := by rw [Nat.mul_add, Nat.mul_add, Nat.mul_one, Nat.mul_assoc]
      omega
    · rw [Nat.add_sub_cancel]
      have h2 : (29 * n + 53) * 2 ^ a * q = n * 2 ^ a * q * 29 + 2 ^ a * q * 53 := by
        rw [Nat.mul_assoc, Nat.add_mul, Nat.mul_assoc 29, Nat.mul_comm 29, Nat.mul_comm 53, Nat.mul_assoc n (2 ^ a) q]
      omega

/-- A row n of the table: blocks of n * 2^a places, q of them, looked at with N bits. -/
def many (n a : Nat) : Nat := (4008 + 2 * n + n * (2 ^ a - 3 * (2 ^ (a - 2) - 1)) - 1) / (n * (2 ^ a - 3 * (2 ^ (a - 2) - 1)))
def edge (n a q : Nat) : Nat := 318294 + 58 * n + (29 * n + 53) * 2 ^ a * (q - 1)
def fine (N a q n : Nat) : Bool :=
  few N (edge n a q) (29 * n + 53) a && Nat.ble (edge n a q + (29 * n + 53) * 2 ^ a) (2 ^ N) && Nat.ble (3 * n + 3 * (n * (2 ^ (a - 2) - 1) * q) + 4008) (n + n * 2 ^ a * q) && Nat.ble (n + n * 2 ^ a * q) 500000
def good (n : Nat) : Prop := ∃ N a q, fine N a q n = true
/-- Those that want longer blocks. -/
def skip (n : Nat) : Bool := Nat.beq n 7 || Nat.beq n 135 || Nat.beq n 263 || Nat.beq n 636 || Nat.beq n 647 || Nat.beq n 903 || Nat.beq n 1031 || Nat.beq n 1127 || Nat.beq n 1287 || Nat.beq n 1415 || Nat.beq n 1543 || Nat.beq n 1799 || Nat.beq n 1863 || Nat.beq n 1927
def goods (N a n : Nat) : Nat → Bool
  | 0 => true
  | k + 1 => (skip n || fine N a (many n a) n) && goods N a (n + 1) k
theorem goods_at {N a : Nat} : ∀ (k n m : Nat), goods N a n k = true → n ≤ m → m < n + k → skip m = false → good m
  | 0, _, _, _, h1, h2, _ => by omega
  | k + 1, n, m, h, h1, h2, hs => by
    simp only [goods, Bool.and_eq_true, Bool.or_eq_true] at h
    by_cases e : m = n
    · rw [← e, hs] at h
      exact ⟨N, a, many m a, h.1.resolve_left (by simp)⟩
    · exact goods_at k (n + 1) m h.2 (by omega) (by omega) hs

/-- Behind some place Q the threes are fewer than a third. -/
theorem rare {n : Nat} (hn : 0 < n) (hg : good n) : ∃ Q, Q ≤ 500000 ∧ ∀ b : Nat → Nat, (∀ i, b i < 256) → 3 * sum (thr b n) Q + 4008 ≤ Q := by
  obtain ⟨N, a, q, hg⟩ := hg
  simp only [fine, Bool.and_eq_true] at hg
  obtain ⟨⟨⟨h1, h2⟩, h3⟩, h4⟩ := hg
  have h2 := Nat.le_of_ble_eq_true h2
  have h3 := Nat.le_of_ble_eq_true h3
  have h4 := Nat.le_of_ble_eq_true h4
  refine ⟨_, h4, fun b hb => ?_⟩
  have h5 := blocks hb hn h1 h2 q (Nat.le_refl _)
  rw [sum_split]
  have h6 := sum_le_one (thr_le b n) n
  omega
end Go.Proofs.YtpknegneogdmfaaGreat.Dens
