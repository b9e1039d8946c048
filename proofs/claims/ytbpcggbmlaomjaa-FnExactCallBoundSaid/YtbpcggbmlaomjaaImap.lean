/-
  A map whose keys are ints, made by the call: what a lookup and the store of a new key give. Over any program.
-/
import Derived.MapKept
import Derived.Maps.OwnOps
import Derived.Laws.Rows
import Derived.Below
namespace Go.Proofs.Ytbpcggbmlaomjaa
open Go Go.Instr Go.RowKit
set_option maxRecDepth 100000

/-- The entries of a map as pairs. -/
abbrev IEnts := List (Int × Value)
def ilook : IEnts → Int → Option Value
  | [], _ => none
  | p :: r, a => if p.1 = a then some p.2 else ilook r a
theorem ilook_snoc : ∀ (es : IEnts) (a : Int) (v : Value) (x : Int), ilook (es ++ [(a, v)]) x = (ilook es x).or (if a = x then some v else none)
  | [], a, v, x => by simp [ilook]
  | p :: r, a, v, x => by
    simp only [List.cons_append, ilook, ilook_snoc r a v x]
    split <;> simp

/-- The pairs are the entries of the map r. -/
def IM (w : World) (r : Nat) (es : IEnts) : Prop :=
  ∃ (ents : Array MapEntry) (clock : Nat), w.heap[r]? = some (.map ents clock) ∧ ents.toList.map (fun e => (e.key, e.val)) = es.map (fun p => (Value.int .i64 p.1, p.2))
theorem IM.lt {w : World} {r : Nat} {es : IEnts} (h : IM w r es) : r < w.heap.size := by
  obtain ⟨_, _, h, _⟩ := h
  exact (Array.getElem?_eq_some_iff.1 h).1
theorem IM.below {w w' : World} {r : Nat} {es : IEnts} (h : IM w r es) {B : Nat} (hb : Below B w w') (hr : r < B) : IM w' r es := by
  obtain ⟨ents, clock, h1, h2⟩ := h
  exact ⟨ents, clock, (hb.block r hr).trans h1, h2⟩
theorem IM.set {w : World} {r : Nat} {es : IEnts} (h : IM w r es) (p : Addr) (v : Value) : IM (w.setCell p v) r es := by
  obtain ⟨ents, clock, h1, h2⟩ := h
  refine ⟨ents, clock, ?_, h2⟩
  by_cases hp : r = p.block
  · subst hp
    simp [World.setCell, Array.getElem?_modify, h1]
  · exact (Below.heap_setCell w p v r hp).trans h1

section
variable {P : Program} {w : World} {T K E : TypeId} {r : Nat} {es : IEnts} {a : Int}

theorem find_int : ∀ (ents : List MapEntry) (es : IEnts) (i : Nat), ents.map (fun e => (e.key, e.val)) = es.map (fun p => (Value.int .i64 p.1, p.2)) →
    (∃ k v, ilook es a = some v ∧ findNow (.int .i64) (.int .i64 a) ents i = some (some (k, v))) ∨ (ilook es a = none ∧ findNow (.int .i64) (.int .i64 a) ents i = some none)
  | [], es, i, h => by
    have : es = [] := by simpa using h.symm
    subst this
    exact .inr ⟨rfl, rfl⟩
  | e :: ents, [], i, h => by simp at h
  | e :: ents, p :: es, i, h => by
    simp only [List.map_cons, List.cons.injEq, Prod.mk.injEq] at h
    obtain ⟨⟨h1, h2⟩, h3⟩ := h
    by_cases hp : p.1 = a
    · refine .inl ⟨i, p.2, by simp [ilook, hp], ?_⟩
      simp [findNow, h1, sameNow, hp, h2]
    · have hne : (a == p.1) = false := by simp; omega
      rcases find_int ents es (i + 1) h3 with ⟨k, v, k1, k2⟩ | ⟨k1, k2⟩
      · refine .inl ⟨k, v, by simp [ilook, hp, k1], ?_⟩
        simp [findNow, h1, sameNow, hne, k2]
      · refine .inr ⟨by simp [ilook, hp, k1], ?_⟩
        simp [findNow, h1, sameNow, hne, k2]

theorem check_int (hK : P.underlying K = some (.int .i64)) (em : Bool) : (checkKey em 10000 K (.int .i64 a)).run P w = .ok () w := by
  have h : ∀ d : Nat, (checkKey em (d + 1) K (.int .i64 a)).run P w = .ok () w := fun d => by simp [checkKey, run_underlying hK]
  exact h 9999

theorem im_lookup (hT : P.underlying T = some (.map K E)) (hK : P.underlying K = some (.int .i64)) {z : Value} (hE : (zeroValue E).run P w = .ok z w) (hm : IM w r es) :
    (lookup T (.map (some r)) (.int .i64 a) true).run P w = .ok (.tuple #[(ilook es a).getD z, .bool (ilook es a).isSome]) w := by
  obtain ⟨ents, clock, hh, hm⟩ := hm
  rcases find_int (a := a) ents.toList es 0 hm with ⟨k, v, k1, k2⟩ | ⟨k1, k2⟩
  · simp [lookup, run_underlying hT, run_underlying hK, MapKept.run_getObj_map hh, check_int hK, findKey, k2, k1]
  · simp [lookup, run_underlying hT, run_underlying hK, MapKept.run_getObj_map hh, check_int hK, findKey, k2, k1, hE]

theorem im_lookup1 (hT : P.underlying T = some (.map K E)) (hK : P.underlying K = some (.int .i64)) {z : Value} (hE : (zeroValue E).run P w = .ok z w) (hm : IM w r es) :
    (lookup T (.map (some r)) (.int .i64 a) false).run P w = .ok ((ilook es a).getD z) w := by
  obtain ⟨ents, clock, hh, hm⟩ := hm
  rcases find_int (a := a) ents.toList es 0 hm with ⟨k, v, k1, k2⟩ | ⟨k1, k2⟩
  · simp [lookup, run_underlying hT, run_underlying hK, MapKept.run_getObj_map hh, check_int hK, findKey, k2, k1]
  · simp [lookup, run_underlying hT, run_underlying hK, MapKept.run_getObj_map hh, check_int hK, findKey, k2, k1, hE]

theorem im_update (hT : P.underlying T = some (.map K E)) (hK : P.underlying K = some (.int .i64)) (hm : IM w r es) (ha : ilook es a = none) (v : Value) :
    ∃ w', (mapUpdate T (.map (some r)) (.int .i64 a) v).run P w = .ok () w' ∧ IM w' r (es ++ [(a, v)]) ∧ ∀ B, B ≤ r → Below B w w' := by
  obtain ⟨ents, clock, hh, hm⟩ := hm
  have hrs : r < w.heap.size := (Array.getElem?_eq_some_iff.1 hh).1
  have hbut : ∀ o : Obj, ∀ B, B ≤ r → Below B w { w with heap := w.heap.setIfInBounds r o } := fun o B hB =>
    ⟨rfl, rfl, rfl, by simp, fun k hk => by simp [Array.getElem?_setIfInBounds_ne (show r ≠ k by omega)]⟩
  have hget : ∀ o : Obj, ({ w with heap := w.heap.setIfInBounds r o } : World).heap[r]? = some o := fun o => by simp [hrs]
  rcases find_int (a := a) ents.toList es 0 hm with ⟨k, v, k1, k2⟩ | ⟨k1, k2⟩
  · rw [ha] at k1; cases k1
  · refine ⟨_, ?_, ⟨ents.push { key := .int .i64 a, val := v, born := clock }, clock + 1, hget _, by simp [hm]⟩, hbut _⟩
    simp [mapUpdate, run_underlying hT, run_underlying hK, MapKept.run_getObj_map hh, check_int hK, findKey, k2, MapKept.run_setObj_map _ hh]
end
end Go.Proofs.Ytbpcggbmlaomjaa
