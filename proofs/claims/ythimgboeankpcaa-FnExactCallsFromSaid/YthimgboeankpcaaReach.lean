/-
  A search through a graph by a list of work, as data: what has been come to, what is still to do. A set of numbers in a map.
-/
import Derived.Test.YthimgboeankpcaaFromD
import Derived.Lib.SlKeysI
import Derived.Maps.OwnSet
import Derived.Maps.Views
namespace Go.Proofs.Ythimgboeankpcaa
open Go.RowKit Go.Maps
set_option maxRecDepth 100000

/-- ks: come to; ws: to do. -/
structure Srch (ds : List De) (S : Nat → Bool) (ks ws : List Int) : Prop where
  nd : ks.Nodup
  kin : ∀ x ∈ ks, inVar x = true ∧ Rch S (edge ds) x.toNat
  win : ∀ x ∈ ws, inVar x = true ∧ Rch S (edge ds) x.toNat
  start : ∀ v, S v = true → (v : Int) ∈ ks ∨ (v : Int) ∈ ws
  next : ∀ x ∈ ks, ∀ g, edge ds x.toNat g = true → (g : Int) ∈ ks ∨ (g : Int) ∈ ws

theorem vars_len : ∀ (m : Nat) (ks : List Int), ks.Nodup → (∀ x ∈ ks, 0 ≤ x ∧ x < (m : Int)) → ks.length ≤ m
  | 0, [], _, _ => Nat.le_refl _
  | 0, x :: _, _, h => by have := h x (List.mem_cons_self ..); omega
  | m + 1, ks, hn, h => by
    have h1 := vars_len m (ks.filter fun x => decide (x ≠ (m : Int))) (hn.filter _) (fun x hx => by
      obtain ⟨h2, h3⟩ := List.mem_filter.1 hx
      have := h x h2
      have := of_decide_eq_true h3
      omega)
    by_cases hm : (m : Int) ∈ ks
    · have h2 : ks.filter (fun x => decide (x ≠ (m : Int))) = ks.erase (m : Int) := by
        rw [hn.erase_eq_filter]
        refine List.filter_congr fun x _ => ?_
        by_cases hxm : x = (m : Int) <;> simp [hxm]
      rw [h2, List.length_erase_of_mem hm] at h1
      omega
    · have h2 : ks.filter (fun x => decide (x ≠ (m : Int))) = ks := List.filter_eq_self.2 fun x hx => decide_eq_true fun e => hm (e ▸ hx)
      rw [h2] at h1
      omega
theorem Srch.len {ds : List De} {S : Nat → Bool} {ks ws : List Int} (h : Srch ds S ks ws) : ks.length ≤ 8 :=
  vars_len 8 ks h.nd fun x hx => by have := inVar_nat (h.kin x hx).1; omega

/-- A number that is there already is left out of the work. -/
theorem Srch.old {ds : List De} {S : Nat → Bool} {ks ws : List Int} {x : Int} (h : Srch ds S ks (ws ++ [x])) (hx : x ∈ ks) : Srch ds S ks ws := by
  have hm : ∀ y, y ∈ ks ∨ y ∈ ws ++ [x] → y ∈ ks ∨ y ∈ ws := by
    rintro y (hy | hy)
    · exact .inl hy
    · rcases List.mem_append.1 hy with hy | hy
      · exact .inr hy
      · rw [List.mem_singleton] at hy; subst hy; exact .inl hx
  exact ⟨h.nd, h.kin, fun y hy => h.win y (List.mem_append_left _ hy), fun v hv => hm _ (h.start v hv), fun y hy g hg => hm _ (h.next y hy g hg)⟩
/-- A new one: what it calls is to do. -/
theorem Srch.new {ds : List De} {S : Nat → Bool} {ks ws zs : List Int} {x : Int} (h : Srch ds S ks (ws ++ [x])) (hx : x ∉ ks) (hz : ∀ y, y ∈ zs ↔ ∃ g, y = ((g : Nat) : Int) ∧ edge ds x.toNat g = true ∧ g < 8) (h8 : ∀ g, edge ds x.toNat g = true → g < 8) : Srch ds S (ks ++ [x]) (ws ++ zs) := by
  have hxw := h.win x (List.mem_append_right _ (List.mem_singleton.2 rfl))
  have hm : ∀ y, y ∈ ks ∨ y ∈ ws ++ [x] → y ∈ ks ++ [x] ∨ y ∈ ws ++ zs := by
    rintro y (hy | hy)
    · exact .inl (List.mem_append_left _ hy)
    · rcases List.mem_append.1 hy with hy | hy
      · exact .inr (List.mem_append_left _ hy)
      · exact .inl (List.mem_append_right _ hy)
  refine ⟨List.nodup_append.2 ⟨h.nd, by simp, fun a ha b hb => ?_⟩, ?_, ?_, fun v hv => hm _ (h.start v hv), ?_⟩
  · rw [List.mem_singleton] at hb
    subst hb
    intro e
    subst e
    exact hx ha
  · intro y hy
    rcases List.mem_append.1 hy with hy | hy
    · exact h.kin y hy
    · rw [List.mem_singleton] at hy; subst hy; exact hxw
  · intro y hy
    rcases List.mem_append.1 hy with hy | hy
    · exact h.win y (List.mem_append_left _ hy)
    · obtain ⟨g, rfl, he, hg⟩ := (hz y).1 hy
      exact ⟨by unfold inVar; simp; omega, .step hxw.2 he⟩
  · intro y hy g hg
    rcases List.mem_append.1 hy with hy | hy
    · exact hm _ (h.next y hy g hg)
    · rw [List.mem_singleton] at hy
      subst hy
      exact .inr (List.mem_append_right _ ((hz _).2 ⟨g, rfl, hg, h8 g hg⟩))
/-- At the end. -/
theorem Srch.fin {ds : List De} {S : Nat → Bool} {ks : List Int} (h : Srch ds S ks []) (v : Nat) : (v : Int) ∈ ks ↔ Rch S (edge ds) v := by
  constructor
  · intro hv
    exact (h.kin _ hv).2
  · intro hv
    induction hv with
    | base h1 =>
      rcases h.start _ h1 with h2 | h2
      · exact h2
      · simp at h2
    | step _ e ih =>
      rcases h.next _ ih _ e with h2 | h2
      · exact h2
      · simp at h2

theorem numsUpto_iff (S : Nat → Bool) : ∀ (j : Nat) (x : Int), x ∈ numsUpto S j ↔ ∃ v, v < j ∧ x = (v : Int) ∧ S v = true
  | 0, x => by simp [numsUpto]
  | j + 1, x => by
    constructor
    · exact numsUpto_mem (j + 1) x
    · rintro ⟨v, h1, rfl, h2⟩
      by_cases hv : v = j
      · subst hv
        rw [numsUpto_yes h2]
        exact List.mem_append_right _ (List.mem_singleton.2 rfl)
      · have h3 := (numsUpto_iff S j _).2 ⟨v, by omega, rfl, h2⟩
        cases hs : S j with
        | true => rw [numsUpto_yes hs]; exact List.mem_append_left _ h3
        | false => rw [numsUpto_no hs]; exact h3
theorem numsUpto_asc (S : Nat → Bool) : ∀ j, (numsUpto S j).Pairwise (· < ·)
  | 0 => .nil
  | j + 1 => by
    cases hs : S j with
    | true =>
      rw [numsUpto_yes hs]
      refine List.pairwise_append.2 ⟨numsUpto_asc S j, List.pairwise_singleton _ _, fun a ha b hb => ?_⟩
      rw [List.mem_singleton] at hb
      obtain ⟨v, h1, rfl, _⟩ := numsUpto_mem j a ha
      omega
    | false => rw [numsUpto_no hs]; exact numsUpto_asc S j
/-- Numbers in whatever order, sorted. -/
theorem sorted_nums {S : Nat → Bool} {ks ss : List Int} (hn : ks.Nodup) (hk : ∀ x ∈ ks, inVar x = true) (h : ∀ v : Nat, (v : Int) ∈ ks ↔ S v = true) (hp : ss.Perm ks) : ss.mergeSort (fun x y => decide (x ≤ y)) = numsUpto S 8 := by
  have hnd : (numsUpto S 8).Nodup := (numsUpto_asc S 8).imp fun h => by omega
  have h2 : ks.Perm (numsUpto S 8) := (List.perm_ext_iff_of_nodup hn hnd).2 fun x => by
    rw [numsUpto_iff]
    constructor
    · intro hx
      have h3 := inVar_nat (hk x hx)
      exact ⟨x.toNat, h3.2, h3.1.symm, (h _).1 (by rw [h3.1]; exact hx)⟩
    · rintro ⟨v, _, rfl, h3⟩
      exact (h v).2 h3
  have h3 := mergeSort_of_perm_i (hp.trans h2)
  refine h3.trans ?_
  exact List.mergeSort_of_pairwise ((numsUpto_asc S 8).imp fun h => decide_eq_true (Int.le_of_lt h))

/-- The map holds just the numbers ks. -/
def SetB (D : DataW Unit) (ks : List Int) : Prop := IsMap D ∧ ∀ x : Int, D.atKey (.int .i64 x) (.lit (.bool false)) = .lit (.bool (decide (x ∈ ks))) ∧ has D (.int .i64 x) = decide (x ∈ ks)
theorem SetB.nil : SetB (.map []) [] := ⟨isMap_empty, fun _ => ⟨rfl, rfl⟩⟩
theorem SetB.put {D : DataW Unit} {ks : List Int} (h : SetB D ks) (x : Int) : SetB (D.put (.int .i64 x) (.lit (.bool true))) (ks ++ [x]) := by
  refine ⟨h.1.put _ _, fun y => ?_⟩
  by_cases hy : y = x
  · subst hy
    rw [atKey_put_same h.1 (show WideAt.IsKeyLit (.int .i64 y) from trivial), has_put_same h.1 (show WideAt.IsKeyLit (.int .i64 y) from trivial)]
    simp
  · have hne : (Lit.int .i64 y) ≠ .int .i64 x := by simpa using hy
    rw [atKey_put_other hne, has_put_other hne, (h.2 y).1, (h.2 y).2]
    simp [hy]
end Go.Proofs.Ythimgboeankpcaa
