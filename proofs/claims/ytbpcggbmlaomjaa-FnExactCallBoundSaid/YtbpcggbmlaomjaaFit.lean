/-
  The place of a function in a list: spec.l2Place.
  Which calls fit a list of functions, as data.
-/
import Derived.Test.YtbpcggbmlaomjaaDe
import Derived.Test.YtbpcggbmlaomjaaRows
import Derived.WalkKit
import Derived.WalkSpells
import Derived.Lib.Hide
import Derived.Test.YtbpcggbmlaomjaaNodes
namespace Go.Proofs.Ytbpcggbmlaomjaa
open Go.RowKit
set_option maxRecDepth 100000

/-- The place of the first element with the name x, or how many there are. -/
def plc (x : Int) : List De → Nat
  | [] => 0
  | d :: r => if d.nm = x then 0 else plc x r + 1
theorem plc_le (x : Int) : ∀ ds : List De, plc x ds ≤ ds.length
  | [] => Nat.le_refl _
  | d :: r => by have := plc_le x r; simp only [plc, List.length_cons]; split <;> omega
theorem plc_hit {x : Int} {ds : List De} {j : Nat} {d : De} (h : ds[j]? = some d) (hp : plc x ds = j + plc x (ds.drop j)) (hx : d.nm = x) : plc x ds = j := by
  rw [hp, drop_at h]; simp [plc, hx]
theorem plc_miss {x : Int} {ds : List De} {j : Nat} {d : De} (h : ds[j]? = some d) (hp : plc x ds = j + plc x (ds.drop j)) (hx : d.nm ≠ x) : plc x ds = j + 1 + plc x (ds.drop (j + 1)) := by
  rw [hp, drop_at h]; simp [plc, hx]; omega
theorem plc_end {x : Int} {ds : List De} {j : Nat} (hj : ds.length ≤ j) (hp : plc x ds = j + plc x (ds.drop j)) : plc x ds = j := by
  rw [hp, List.drop_eq_nil_iff.2 hj]; rfl
def plcI (x : Int) (ds : List De) : Int := if plc x ds < ds.length then (plc x ds : Int) else -1

set_option maxHeartbeats 400000 in
theorem place_any (ds : List De) (A : Option Addr) (c : Nat) (w : World) (x : Int) (hl : LiesD w 0 w.heap.size A ds) (hsz : ds.length ≤ 1048576) :
    Calls Try.prog 76 #[.slice A ds.length c, .int .i64 x] w (Gives (.int .i64 (plcI x ds)) w) := by
  go_enter Try.func76, Try.ntmps76
  go_wp2
  go_loopw [5] (fun i wr => ∃ (j : Nat), j ≤ ds.length ∧ i = .int .i64 j ∧ Hid (plc x ds = j + plc x (ds.drop j)) ∧ Below w.heap.size w wr)
    (fun i _ => ds.length - (intOf i).toNat)
  case atStart => exact ⟨0, by omega, rfl, Lib.hid (by simp), Below.refl _ _⟩
  case round =>
    obtain ⟨j, hj, rfl, hp, hb⟩ := hrel
    by_cases hlt : j < ds.length
    · have e1 := List.getElem?_eq_getElem hlt
      generalize ds[j] = d at e1
      obtain ⟨b, o, A', c', hA, _, hbb, hf, g1, _⟩ := hl.below hb j d e1
      subst hA
      have E1 := Lib.hid e1
      clear e1
      by_cases hx : d.nm = x
      · have hpl := plc_hit E1.out hp.out hx
        have HP := Lib.hid hpl
        clear hpl
        go_wp2
        go_ret
        have hpi : plcI x ds = (j : Int) := by unfold plcI; rw [if_pos (by rw [HP.out]; exact hlt), HP.out]
        rw [hpi]
        exact ⟨rfl, hb⟩
      · have hm := Lib.hid (plc_miss E1.out hp.out hx)
        go_wp2
        go_roundw
        case rel => exact ⟨j + 1, by omega, by go_num, hm, hb⟩
        case measure => simp [intOf]; omega
    · have hpl := Lib.hid (plc_end (by omega) hp.out)
      go_wp2
      go_ret
      have hpi : plcI x ds = -1 := by unfold plcI; rw [if_neg (by rw [hpl.out]; exact hlt)]
      rw [hpi]
      exact ⟨rfl, hb⟩
end Go.Proofs.Ytbpcggbmlaomjaa

namespace Go.Proofs.Ytbpcggbmlaomjaa
open Go.RowKit
set_option maxRecDepth 100000

/-- The first function with a name. -/
def fnd (x : Int) (ds : List De) : Option De := ds.find? fun d => decide (d.nm = x)
theorem fnd_snoc (x : Int) (ds : List De) (d : De) : fnd x (ds ++ [d]) = (fnd x ds).or (if d.nm = x then some d else none) := by
  unfold fnd
  rw [List.find?_append]
  congr 1
  simp only [List.find?_cons, List.find?_nil]
  by_cases h : d.nm = x <;> simp [h]
theorem fnd_take {x : Int} {ds : List De} {j : Nat} {d : De} (h : ds[j]? = some d) : fnd x (ds.take (j + 1)) = (fnd x (ds.take j)).or (if d.nm = x then some d else none) := by
  rw [← fnd_snoc]
  congr 1
  obtain ⟨hj, rfl⟩ := List.getElem?_eq_some_iff.1 h
  exact List.take_succ_eq_append_getElem hj

/-- One call: the function is there, with as many arguments. -/
def okCall (ari : Int → Option Int) (op n : Int) (l : Nat) : Bool := if op = 3 then decide (ari n = some (l : Int)) else true
def okQ (ari : Int → Option Int) (q : Nd) : Bool := okCall ari q.op q.n q.k.len
def fitF (ari : Int → Option Int) : Fo → Bool
  | .nil => true
  | .cons op n k r => (okCall ari op n k.len && fitF ari k) && fitF ari r
def fitN (ari : Int → Option Int) (op n : Int) (k : Fo) : Bool := okCall ari op n k.len && fitF ari k
theorem fitF_cons {ari : Int → Option Int} {f : Fo} {op n : Int} {k r : Fo} (e : f = .cons op n k r) : fitF ari f = (fitN ari op n k && fitF ari r) := by subst e; rfl
theorem all_ordF (ari : Int → Option Int) : ∀ (p : Nd) (i : Nat) (k : Fo), (ordF (fun _ _ => false) p i k).all (okQ ari) = fitF ari k
  | _, _, .nil => rfl
  | p, i, .cons op n k r => by
    have h1 := all_ordF ari p (i + 1) r
    have h2 := all_ordF ari ⟨op, n, k⟩ 0 k
    simp only [ordF, List.all_append, h1, fitF]
    simp [h2, okQ, Bool.and_comm]
theorem all_ordN (ari : Int → Option Int) (p : Nd) : (ordN (fun _ _ => false) p).all (okQ ari) = fitN ari p.op p.n p.k := by
  simp [ordN, all_ordF, okQ, fitN]

/-- The numbers of arguments: as the model has them, and as the map has them. -/
def ariS (ds : List De) (x : Int) : Option Int := (fnd x ds).map (·.ar)
def ariI (ds : List De) (x : Int) : Option Int := if inVar x = true then ariS ds x else none

theorem fnd_cons (x : Int) (d : De) (r : List De) : fnd x (d :: r) = if d.nm = x then some d else fnd x r := by
  unfold fnd
  rw [List.find?_cons]
  by_cases h : d.nm = x <;> simp [h]
theorem plc_fnd (x : Int) : ∀ ds : List De, (plc x ds < ds.length → ∃ d, ds[plc x ds]? = some d ∧ fnd x ds = some d) ∧ (¬ plc x ds < ds.length → fnd x ds = none)
  | [] => ⟨fun h => by simp [plc] at h, fun _ => rfl⟩
  | d :: r => by
    obtain ⟨h1, h2⟩ := plc_fnd x r
    by_cases h : d.nm = x
    · refine ⟨fun _ => ⟨d, by simp [plc, h], by rw [fnd_cons, if_pos h]⟩, fun hn => absurd ?_ hn⟩
      simp [plc, h]
    · refine ⟨fun hl => ?_, fun hn => ?_⟩
      · simp only [plc, if_neg h, List.length_cons] at hl ⊢
        obtain ⟨d', e1, e2⟩ := h1 (by omega)
        exact ⟨d', by simpa using e1, by rw [fnd_cons, if_neg h, e2]⟩
      · rw [fnd_cons, if_neg h]
        refine h2 fun hl => hn ?_
        simp only [plc, if_neg h, List.length_cons]
        omega
theorem okCall_other {ari : Int → Option Int} {op n : Int} {l : Nat} (h : op ≠ 3) : okCall ari op n l = true := by simp [okCall, h]
end Go.Proofs.Ytbpcggbmlaomjaa
