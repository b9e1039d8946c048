/-
  spec.l1Numbers: the places that are set.
  The first variable that is not in a list, as data; spec.l1Has.
  spec.FreshVar.
  impl.varSet: its methods add and list.
  impl.FreshVar.
  Lists of numbers that a call makes: append of a list in memory, as one step of a region that draws its order.
-/
import Derived.Test.YtpknegneogdmfaaGreatFo
import Derived.Test.YtpknegneogdmfaaGreatOwnM
import Derived.Test.YtpknegneogdmfaaGreatNodesI
import Derived.Test.YtpknegneogdmfaaGreatDe
import Derived.Maps.AppendAt
import Derived.Test.YtpknegneogdmfaaGreatVars
import Derived.Test.YtpknegneogdmfaaGreatSmall
import Derived.Deep.RegionWith
import Derived.Deep.RegionLaw
namespace Go.Proofs.YtpknegneogdmfaaGreat
open Go.RowKit Go.Shelf
set_option maxRecDepth 100000

end Go.Proofs.YtpknegneogdmfaaGreat

namespace Go.Proofs.YtpknegneogdmfaaGreat
open Go.RowKit Go.Shelf
set_option maxRecDepth 100000

def freshL (zs : List Int) : Nat → Nat → Option Nat
  | 0, _ => none
  | f + 1, v => if ((v : Int) ∈ zs) then freshL zs f (v + 1) else some v
def freshV (zs : List Int) : Option Nat := freshL zs 8 0
theorem freshL_in {zs : List Int} {j : Nat} (hj : j < 8) (h : (j : Int) ∈ zs) : freshL zs (8 - j) j = freshL zs (8 - (j + 1)) (j + 1) := by
  rw [show 8 - j = (8 - (j + 1)) + 1 by omega]
  simp [freshL, h]
theorem freshL_out {zs : List Int} {j : Nat} (hj : j < 8) (h : ¬ (j : Int) ∈ zs) : freshL zs (8 - j) j = some j := by
  rw [show 8 - j = (8 - (j + 1)) + 1 by omega]
  simp [freshL, h]
theorem freshL_lt {zs : List Int} : ∀ {f v x : Nat}, freshL zs f v = some x → v ≤ x ∧ x < v + f ∧ ¬ ((x : Int) ∈ zs)
  | 0, _, _, h => by simp [freshL] at h
  | f + 1, v, x, h => by
    unfold freshL at h
    split at h
    · obtain ⟨h1, h2, h3⟩ := freshL_lt h
      exact ⟨by omega, by omega, h3⟩
    · cases h; rename_i h2; exact ⟨Nat.le_refl _, by omega, h2⟩
theorem freshV_lt {zs : List Int} {x : Nat} (h : freshV zs = some x) : x < 8 ∧ ¬ ((x : Int) ∈ zs) := by
  obtain ⟨_, h2, h3⟩ := freshL_lt h
  exact ⟨by omega, h3⟩

theorem has_take {zs : List Int} {j : Nat} {x : Int} (h : zs[j]? = some x) (n : Int) : decide (n ∈ zs.take (j + 1)) = (decide (n ∈ zs.take j) || decide (x = n)) := by
  rw [List.take_add_one, h, Bool.eq_iff_iff]
  simp only [decide_eq_true_iff, List.mem_append, Option.toList_some, List.mem_singleton, Bool.or_eq_true]
  exact or_congr Iff.rfl ⟨Eq.symm, Eq.symm⟩

end Go.Proofs.YtpknegneogdmfaaGreat

namespace Go.Proofs.YtpknegneogdmfaaGreat
open Go.RowKit Go.Shelf
set_option maxRecDepth 100000

theorem ret_two {a b : Value} {x y : Value} (h1 : a = x) (h2 : b = y) : Ending.returned (.tuple #[a, b]) = Ending.returned (.tuple #[x, y]) := by rw [h1, h2]

end Go.Proofs.YtpknegneogdmfaaGreat

namespace Go.Proofs.YtpknegneogdmfaaGreat
open Go.RowKit Go.Shelf
set_option maxRecDepth 100000

theorem inVar_v8 {n : Int} (h : inVar n = true) : ∃ v : Nat, v < 8 ∧ n = (v : Int) := by
  obtain ⟨h0, h8⟩ := inVar_true h
  exact ⟨n.toNat, by omega, by omega⟩

theorem KC.of_only {g : Nat} {W W' : World} (h : Only g W.heap.size W W') : KC (fun x => x = g) W W' :=
  ⟨h.size, fun k _ _ _ hx hk => (h.block k (Array.getElem?_eq_some_iff.1 hk).1 hx).trans hk⟩
theorem KeepsFrom.of_only {B g : Nat} {W W' : World} (h : Only g W.heap.size W W') (hg : g < B) : KeepsFrom B W W' :=
  ⟨h.size, fun k _ hB hk _ => (h.block k (Array.getElem?_eq_some_iff.1 hk).1 (by omega)).trans hk⟩

/-- What the method add does to the flags. -/
def addS (S : Nat → Bool) (n : Int) : Nat → Bool := fun i => S i || decide (n = (i : Int))
theorem addS_no {S : Nat → Bool} {n : Int} (h : inVar n = false) : cells8 (addS S n) = cells8 S := by
  refine cells8_congr fun i hi => ?_
  have := inVar_false h
  have e : decide (n = (i : Int)) = false := by rw [decide_eq_false_iff_not]; omega
  unfold addS
  rw [e, Bool.or_false]
theorem addS_nat (S : Nat → Bool) {v : Nat} (h : v < 8) : (cells8 S).setIfInBounds v (.bool true) = cells8 (addS S (v : Int)) := by
  rw [cells8_set S h]
  refine cells8_congr fun i _ => ?_
  unfold addS
  congr 1
  rw [Bool.eq_iff_iff]
  simp
  omega

def arr8 (S : Nat → Bool) : Value := .agg (cells8 S)
end Go.Proofs.YtpknegneogdmfaaGreat

namespace Go.Proofs.YtpknegneogdmfaaGreat
open Go.RowKit Go.Shelf
set_option maxRecDepth 100000

def inS (zs : List Int) : Nat → Bool := fun i => decide ((i : Int) ∈ zs)
theorem inS_take {zs : List Int} {j : Nat} {x : Int} (h : zs[j]? = some x) : cells8 (inS (zs.take (j + 1))) = cells8 (addS (inS (zs.take j)) x) := by
  refine cells8_congr fun i _ => ?_
  exact has_take h (i : Int)

end Go.Proofs.YtpknegneogdmfaaGreat

namespace Go.Proofs.YtpknegneogdmfaaGreat
open Go.RowKit Go.Shelf
set_option maxRecDepth 100000

theorem run_append_lies {w : World} {base : Nat} {v : Value} {n : Nat} {xs : List Value} {zs : List Int} {A : Option Addr} {c L B : Nat} (h : w.ownsRow base 3 1 v n xs) (hl : LiesI w L B A zs) (hn : n + zs.length ≤ 1048576) (hb : base ≤ w.heap.size) :
    ∃ v' w', (Builtin.append_ #[27, 27] 27 #[v, .slice A zs.length c]).run Tryz.prog w = .ok v' w' ∧ w'.ownsRow base 3 1 v' (n + zs.length) (xs ++ zs.map (Value.int .i64)) ∧ w.grownBy w' v.ownBlock ∧ (v'.ownBlock = v.ownBlock ∨ v'.ownBlock = some w.heap.size) := by
  obtain ⟨iT, hiT, hiz0, hiz1, hiz2⟩ := info_parts (show (Tryz.prog.info? 3).map (fun i => (i.zero, i.size, i.bytes)) = some (some (.int .i64 0), 1, 8) by kernel_rfl)
  have hu := Tryz.underlying27
  cases A with
  | none =>
    have hz : zs = [] := by
      cases zs with
      | nil => rfl
      | cons x r => obtain ⟨b, o, hA, _⟩ := hl 0 x rfl; cases hA
    subst hz
    refine ⟨v, w, ?_, by simpa using h, World.grownBy.refl w _, .inl rfl⟩
    rcases h.2 with ⟨rfl, _⟩ | ⟨g, cap, cur, rfl, _, _, hn, _⟩
    · simp [Builtin.append_, run_underlying hu, sizeOf, typeInfo, hiT, Builtin.lenOf, Builtin.firstCells]
    · simp [Builtin.append_, run_underlying hu, sizeOf, typeInfo, hiT, Builtin.lenOf, Builtin.firstCells, hn, storeCells]
  | some a =>
    have hcells : ∀ (j : Nat) (u : Value), (zs.map (Value.int .i64))[j]? = some u → w.cell? (a.add j) = some u := by
      intro j u hj
      rw [List.getElem?_map, Option.map_eq_some_iff] at hj
      obtain ⟨x, hx, rfl⟩ := hj
      obtain ⟨b, o, hA, _, _, _, hc⟩ := hl j x hx
      injection hA with hA
      subst hA
      have e : ((⟨b, o, none⟩ : Addr).add j) = ⟨b, o + j, none⟩ := by unfold Addr.add; split <;> simp_all
      rw [e]
      exact hc
    obtain ⟨v', w', hr, h1, h2, _, h4⟩ := run_append_own_at (P := Tryz.prog) w base 27 27 3 iT _ 1 8 hu hiT hiz0 hiz1 hiz2 rfl (by decide) v n xs h a zs.length c (zs.map (Value.int .i64)) (by simp) hcells
      (fun u hu => by obtain ⟨x, _, rfl⟩ := List.mem_map.1 hu; rfl) (by unfold maxLen; omega) (by omega) hb
    exact ⟨v', w', hr, h1, h2, h4⟩

theorem step_lies {ops : Array Oper} {o : Oper} {a : Act} {w : World} {K : Act → World → Prop} {Q : Exit → Act → World → Prop} {E : Prop} (hgd : o.guard = none) (s x : Operand)
    (ho : o.op = .call { callee := .builtin .append, args := #[s, x], argTypes := #[27, 27] }) (hty : o.type = 27)
    (base : Nat) (v : Value) (n : Nat) (xs : List Value) (hs : a.eval s = v) (h : w.ownsRow base 3 1 v n xs) (zs : List Int) (A : Option Addr) (c L B : Nat) (hx : a.eval x = .slice A zs.length c) (hl : LiesI w L B A zs) (hn : n + zs.length ≤ 1048576) (hb : base ≤ w.heap.size)
    (hK : ∀ v' w', w'.ownsRow base 3 1 v' (n + zs.length) (xs ++ zs.map (Value.int .i64)) → w.grownBy w' v.ownBlock → (v'.ownBlock = v.ownBlock ∨ v'.ownBlock = some w.heap.size) → K (a.put o.dst v') w') :
    if Region.wanted o (yielded ops a.tmps) = true then Oper.wp Tryz.prog o a w K Q else E := by
  have hw : Region.wanted o (yielded ops a.tmps) = true := by simp [Region.wanted, hgd]
  rw [if_pos hw]
  obtain ⟨v', w', hr, h1, h2, h3⟩ := run_append_lies (c := c) h hl hn hb
  rw [← hty] at hr
  unfold Oper.wp
  simp [execOp, ho, resolve, invoke, builtin, hs, hx, hty, Result.andThen] at hr ⊢
  rw [hr]
  exact hK v' w' h1 h2 h3

theorem step_lies0 {ops : Array Oper} {o : Oper} {a : Act} {w : World} {K : Act → World → Prop} {Q : Exit → Act → World → Prop} {E : Prop} (hgd : o.guard = none) (s x : Operand)
    (ho : o.op = .call { callee := .builtin .append, args := #[s, x], argTypes := #[27, 27] }) (hty : o.type = 27)
    (base : Nat) (v : Value) (n : Nat) (xs : List Value) (hs : a.eval s = v) (zs : List Int) {A : Option Addr} {c : Nat} (hx : a.eval x = .slice A zs.length c) (h : w.ownsRow base 3 1 v n xs) (hl : LiesI w 0 w.heap.size A zs) (hn : n + zs.length ≤ 1048576) (hb : base ≤ w.heap.size)
    (hK : ∀ v' w', w'.ownsRow base 3 1 v' (n + zs.length) (xs ++ zs.map (Value.int .i64)) → w.grownBy w' v.ownBlock → (v'.ownBlock = v.ownBlock ∨ v'.ownBlock = some w.heap.size) → K (a.put o.dst v') w') :
    if Region.wanted o (yielded ops a.tmps) = true then Oper.wp Tryz.prog o a w K Q else E :=
  step_lies hgd s x ho hty base v n xs hs h zs A c 0 w.heap.size hx hl hn hb hK

theorem row_grown' {w w' : World} {g : Nat} {t : TypeId} {cs : Array Value} {b : Option Nat} (h : Row w g t cs) (hg : w.grownBy w' b) (hne : some g ≠ b) : Row w' g t cs := (hg.block g h.size hne).trans h

theorem own_empty {w : World} {base g : Nat} (hr : Row w g 3 #[]) (hb : base ≤ g) : w.ownsRow base 3 1 (.slice (some ⟨g, 0, none⟩) 0 0) 0 [] :=
  ⟨rfl, .inr ⟨g, 0, #[], rfl, hb, hr, Nat.le_refl _, by decide, rfl, rfl⟩⟩
theorem lies_one {w : World} {g : Nat} {x : Int} (hr : Row w g 3 #[.int .i64 x]) (hx : I64 x) : LiesI w 0 w.heap.size (some ⟨g, 0, none⟩) [x] := by
  intro i y hy
  have hi : i < 1 := (List.getElem?_eq_some_iff.1 hy).1
  have h0 : i = 0 := by omega
  subst h0
  simp at hy
  subst hy
  exact ⟨g, 0, rfl, Nat.zero_le _, hr.size, hx, by rw [Nat.zero_add]; exact hr.cell (i := 0) rfl⟩
theorem list_made {wr w2 : World} {v : Value} {ls : List Int} {n : Int} {A : Option Addr} (h : w2.ownsRow wr.heap.size 3 1 v (ls.length + [n].length) (ls.map (Value.int .i64) ++ [n].map (Value.int .i64))) (hb : Below wr.heap.size wr w2) (hn : I64 n) (hl : LiesI wr 0 wr.heap.size A ls) :
    ∃ A9 c9, v = .slice A9 (ls.length + 1) c9 ∧ LiesI w2 0 w2.heap.size A9 (ls ++ [n]) ∧ Below wr.heap.size wr w2 := by
  have h9 : w2.ownsRow wr.heap.size 3 1 v (ls ++ [n]).length ((ls ++ [n]).map (Value.int .i64)) := by
    rw [List.length_append, List.map_append]; exact h
  have hi : ∀ x ∈ ls ++ [n], I64 x := by
    intro x hx
    rcases List.mem_append.1 hx with h | h
    · obtain ⟨i, hlt, hi⟩ := List.getElem_of_mem h
      obtain ⟨_, _, _, _, _, h4, _⟩ := hl i x (by rw [List.getElem?_eq_getElem hlt, hi])
      exact h4
    · rw [List.mem_singleton.1 h]; exact hn
  obtain ⟨A9, c9, rfl, hI⟩ := own_ints h9 hi
  exact ⟨A9, c9, by rw [List.length_append]; rfl, hI.mono_ (Nat.zero_le _) (Nat.le_refl _), hb⟩
end Go.Proofs.YtpknegneogdmfaaGreat
