/-
  The laws' own tools at one outcome: szIntS, szOutcome, toOutcome, eqOutcome; what reads as an outcome.
-/
import Derived.Test.YtjaabcfgnmomkaaIntsEq
import Derived.Test.YtjaabcfgnmomkaaInts
import Derived.ProofKit
namespace Go.Proofs.Ytjaabcfgnmomkaa
open Go.RowKit
set_option maxRecDepth 100000

/-- An outcome as plain data. -/
structure Ou where
  code : Int
  val : Int
  out : List Int
  calls : List Int

def SzI (n : Nat) (left : Int) (B : Nat) (w : World) (e : Ending) (w' : World) : Prop :=
  ∃ r : Int, e = .returned (.int .i64 r) ∧ (r = -1 ∨ (0 ≤ r ∧ r + n = left)) ∧ Below B w w'

theorem szIntS_any (n : Nat) (A : Option Addr) (c : Nat) (w : World) (left : Int) (hlen : n ≤ maxLen) (h0 : 0 ≤ left) (h1 : left ≤ 1048576) :
    Calls Try.prog 12 #[.slice A n c, .int .i64 left] w (SzI n left w.heap.size w) := by
  unfold maxLen at hlen
  by_cases hlt : left - (n : Int) < 0
  · go_enter Try.func12, Try.ntmps12
    go_wp2
    go_ret
    exact ⟨-1, rfl, .inl rfl, Below.refl _ _⟩
  · have hge : 0 ≤ left - (n : Int) := by omega
    go_enter Try.func12, Try.ntmps12
    go_wp2
    go_ret
    exact ⟨left - n, rfl, .inr ⟨by omega, by omega⟩, Below.refl _ _⟩

theorem szOutcome_any (o : Ou) (A A2 : Option Addr) (c c2 : Nat) (w : World) (left : Int) (hlen : o.out.length ≤ maxLen) (hlen2 : o.calls.length ≤ maxLen) (h0 : 0 ≤ left) (h1 : left ≤ 1048576) :
    Calls Try.prog 5 #[.agg #[.int .i64 o.code, .int .i64 o.val, .slice A o.out.length c, .slice A2 o.calls.length c2], .int .i64 left] w (SzI (o.out.length + o.calls.length) left w.heap.size w) := by
  have hb0 : Below w.heap.size w (w.alloc (Obj.cells #[Value.int IntKind.i64 o.code, Value.int IntKind.i64 o.val, Value.slice A o.out.length c, Value.slice A2 o.calls.length c2] 24)) := (Below.refl _ _).alloc (Nat.le_refl _) _
  have hr0 := Row.fresh w 24 #[Value.int IntKind.i64 o.code, Value.int IntKind.i64 o.val, Value.slice A o.out.length c, Value.slice A2 o.calls.length c2]
  go_enter Try.func5, Try.ntmps5
  go_wp2_with fail
  refine (szIntS_any o.out.length A c _ left hlen h0 h1).mono ?_
  rintro e w1 ⟨r, rfl, hr, hb1⟩
  have hb := hb0.trans (hb1.mono hb0.size)
  have q := (hr0.below hb1 hr0.size).cell (i := 3) rfl
  clear hb0 hb1 hr0
  rcases hr with rfl | ⟨hrz, hr⟩
  · go_wp2
    go_ret
    exact ⟨-1, rfl, .inl rfl, hb⟩
  go_wp2_with fail
  refine (szIntS_any o.calls.length A2 c2 w1 r hlen2 hrz (by omega)).mono ?_
  rintro e w2 ⟨r2, rfl, hr2, hb2⟩
  have hb3 := hb.trans (hb2.mono hb.size)
  clear hb hb2 q
  rcases hr2 with rfl | ⟨hrz2, hr2⟩
  · go_wp2
    go_ret
    exact ⟨-1, rfl, .inl rfl, hb3⟩
  go_wp2
  go_ret
  exact ⟨r2, rfl, .inr ⟨hrz2, by omega⟩, hb3⟩

/-- The post of toOutcome: a copy in new memory. -/
def ToOut (o : Ou) (w : World) (e : Ending) (w' : World) : Prop :=
  ∃ A c A2 c2, e = .returned (.agg #[.int .i64 o.code, .int .i64 o.val, .slice A o.out.length c, .slice A2 o.calls.length c2]) ∧ o.out.length ≤ c ∧ c ≤ maxLen ∧ o.calls.length ≤ c2 ∧ c2 ≤ maxLen ∧
    LiesI w' w.heap.size w'.heap.size A o.out ∧ LiesI w' w.heap.size w'.heap.size A2 o.calls ∧ Below w.heap.size w w'

theorem LiesI.up {w w' : World} {A : Option Addr} {zs : List Int} (h : LiesI w 0 w.heap.size A zs) (hb : Below w.heap.size w w') : LiesI w' 0 w'.heap.size A zs := (h.below hb).mono_ (Nat.le_refl _) hb.size
theorem LiesI.set {w : World} {L B : Nat} {zs : List Int} {A : Option Addr} (h : LiesI w L B A zs) {p : Addr} (hp : p.block < L ∨ B ≤ p.block) (v : Value) : LiesI (w.setCell p v) L B A zs :=
  h.keep (Nat.le_refl _) (Nat.le_refl _) fun q h1 h2 => World.cell?_setCell_other w p q v (fun e => by subst e; omega)
end Go.Proofs.Ytjaabcfgnmomkaa
