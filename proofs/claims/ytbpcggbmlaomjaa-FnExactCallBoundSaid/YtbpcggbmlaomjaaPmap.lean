/-
  A map whose keys are pointers to structs and whose elements are bools, made by the call: what a lookup and a store give. Over any program.
-/
import Derived.LaidEqlPtr
import Derived.MapKept
import Derived.Maps.OwnOps
import Derived.Laws.Rows
namespace Go.Proofs.Ytbpcggbmlaomjaa
open Go Go.Instr
set_option maxRecDepth 100000

/-- The entries of a map as pairs. -/
abbrev Ents := List (Addr × Bool)
def look (es : Ents) (a : Addr) : Option Bool := (es.find? fun p => p.1 == a).map (·.2)
def put : Ents → Addr → Bool → Ents
  | [], a, b => [(a, b)]
  | p :: r, a, b => if p.1 = a then (a, b) :: r else p :: put r a b

theorem look_cons (p : Addr × Bool) (r : Ents) (a : Addr) : look (p :: r) a = if p.1 = a then some p.2 else look r a := by
  unfold look
  rw [List.find?_cons]
  by_cases h : p.1 = a
  · simp [h]
  · have : (p.1 == a) = false := by simpa using h
    simp [this, h]
theorem look_put_same : ∀ (es : Ents) (a : Addr) (b : Bool), look (put es a b) a = some b
  | [], a, b => by simp [put, look]
  | p :: r, a, b => by
    unfold put
    by_cases h : p.1 = a
    · rw [if_pos h, look_cons]; simp
    · rw [if_neg h, look_cons, if_neg h, look_put_same r a b]
theorem look_put_other : ∀ (es : Ents) (a a' : Addr) (b : Bool), a' ≠ a → look (put es a b) a' = look es a'
  | [], a, a', b, h => by
    unfold put
    rw [look_cons, if_neg (fun e => h e.symm)]
  | p :: r, a, a', b, h => by
    unfold put
    by_cases hp : p.1 = a
    · rw [if_pos hp, look_cons, look_cons, if_neg (fun e => h e.symm), if_neg (fun e => h (by rw [← e, hp]))]
    · rw [if_neg hp, look_cons, look_cons, look_put_other r a a' b h]

/-- The pairs are the entries of the map r. -/
def PM (w : World) (r : Nat) (es : Ents) : Prop :=
  ∃ (ents : Array MapEntry) (clock : Nat), w.heap[r]? = some (.map ents clock) ∧ ents.toList.map (fun e => (e.key, e.val)) = es.map (fun p => (Value.pointer (some p.1), Value.bool p.2))

/-- The block of an address is a plain row. -/
def OnRow (w : World) (a : Addr) : Prop := ∃ (cs : Array Value) (t : TypeId), w.heap[a.block]? = some (.cells cs t (0, 0))

section
variable {P : Program} {w : World} {T K E el : TypeId} {j : TypeInfo} {r : Nat} {es : Ents} {a : Addr}

theorem run_eq_ptr (hK : P.underlying K = some (.pointer el)) (hj : P.info? el = some j) (hz : j.size ≠ 0) {b : Addr} (ha : OnRow w a) (hb : OnRow w b) :
    (Op.equal K (.pointer (some a)) (.pointer (some b))).run P w = .ok (decide (a = b)) w := by
  obtain ⟨ca, ta, ha⟩ := ha
  obtain ⟨cb, tb, hb⟩ := hb
  by_cases h : a = b
  · subst h
    have h1 : ∀ d : Nat, (Op.equalIn (d + 1) K (.pointer (some a)) (.pointer (some a))).run P w = .ok true w := fun d => by
      simp [Op.equalIn, run_underlying hK, sizeOf, typeInfo, hj, run_sameAddr_same]
    simp [Op.equal, Op.maxDepth, h1 9999]
  · have h1 : ∀ d : Nat, (Op.equalIn (d + 1) K (.pointer (some a)) (.pointer (some b))).run P w = .ok false w := fun d => by
      simp [Op.equalIn, run_underlying hK, sizeOf, typeInfo, hj, hz, run_sameAddr_other w h ha hb]
    simp [Op.equal, Op.maxDepth, h1 9999, h]

theorem run_find (hK : P.underlying K = some (.pointer el)) (hj : P.info? el = some j) (hz : j.size ≠ 0) (ha : OnRow w a) :
    ∀ (ents : List MapEntry) (es : Ents) (i : Nat), ents.map (fun e => (e.key, e.val)) = es.map (fun p => (Value.pointer (some p.1), Value.bool p.2)) → (∀ p ∈ es, OnRow w p.1) →
      (∃ k b, k < ents.length ∧ es[k]? = some (a, b) ∧ look es a = some b ∧ (∀ b', put es a b' = es.set k (a, b')) ∧ (findAsking K (.pointer (some a)) ents i).run P w = .ok (some (i + k, .bool b)) w) ∨
      (look es a = none ∧ (∀ b', put es a b' = es ++ [(a, b')]) ∧ (findAsking K (.pointer (some a)) ents i).run P w = .ok none w)
  | [], es, i, h, _ => by
    have : es = [] := by simpa using h.symm
    subst this
    exact .inr ⟨rfl, fun _ => rfl, by simp [findAsking]⟩
  | e :: ents, [], i, h, _ => by simp at h
  | e :: ents, p :: es, i, h, hr => by
    simp only [List.map_cons, List.cons.injEq, Prod.mk.injEq] at h
    obtain ⟨⟨h1, h2⟩, h3⟩ := h
    have hq := run_eq_ptr hK hj hz ha (hr p (List.mem_cons_self ..))
    by_cases hp : p.1 = a
    · obtain ⟨p1, p2⟩ := p
      simp only at hp h1 h2
      subst hp
      refine .inl ⟨0, p2, by simp, rfl, by rw [look_cons]; simp, fun b' => by simp [put], ?_⟩
      simp [findAsking, h1, h2, hq]
    · rcases run_find hK hj hz ha ents es (i + 1) h3 (fun q hq => hr q (List.mem_cons_of_mem _ hq)) with ⟨k, b, k1, k2, k3, k4, k5⟩ | ⟨k3, k4, k5⟩
      · refine .inl ⟨k + 1, b, by simp; omega, by simpa using k2, by rw [look_cons, if_neg hp]; exact k3, fun b' => by simp [put, hp, k4], ?_⟩
        have hne : ¬ a = p.1 := fun e => hp e.symm
        have e1 : i + 1 + k = i + (k + 1) := by omega
        simp [findAsking, h1, hq, hne, k5, e1]
      · refine .inr ⟨by rw [look_cons, if_neg hp]; exact k3, fun b' => by simp [put, hp, k4], ?_⟩
        have hne : ¬ a = p.1 := fun e => hp e.symm
        simp [findAsking, h1, hq, hne, k5]

theorem run_findKey_ptr (hK : P.underlying K = some (.pointer el)) (hj : P.info? el = some j) (hz : j.size ≠ 0) (ha : OnRow w a) (ents : List MapEntry) (es : Ents)
    (h : ents.map (fun e => (e.key, e.val)) = es.map (fun p => (Value.pointer (some p.1), Value.bool p.2))) (hr : ∀ p ∈ es, OnRow w p.1) :
    (∃ k b, k < ents.length ∧ es[k]? = some (a, b) ∧ look es a = some b ∧ (∀ b', put es a b' = es.set k (a, b')) ∧ (findKey K (.pointer (some a)) ents).run P w = .ok (some (k, .bool b)) w) ∨
    (look es a = none ∧ (∀ b', put es a b' = es ++ [(a, b')]) ∧ (findKey K (.pointer (some a)) ents).run P w = .ok none w) := by
  rcases run_find hK hj hz ha ents es 0 h hr with ⟨k, b, k1, k2, k3, k4, k5⟩ | ⟨k3, k4, k5⟩
  · refine .inl ⟨k, b, k1, k2, k3, k4, ?_⟩
    rw [Nat.zero_add] at k5
    cases ents with
    | nil => simp at k1
    | cons e r => simp [findKey, run_underlying hK, findNow, sameNow, k5]
  · refine .inr ⟨k3, k4, ?_⟩
    cases ents with
    | nil => simp [findKey, run_underlying hK, findNow]
    | cons e r => simp [findKey, run_underlying hK, findNow, sameNow, k5]

theorem run_checkKey_ptr (hK : P.underlying K = some (.pointer el)) (em : Bool) : (checkKey em 10000 K (.pointer (some a))).run P w = .ok () w := by
  have h : ∀ d : Nat, (checkKey em (d + 1) K (.pointer (some a))).run P w = .ok () w := fun d => by simp [checkKey, run_underlying hK]
  exact h 9999

theorem pm_lookup (hT : P.underlying T = some (.map K E)) (hK : P.underlying K = some (.pointer el)) (hj : P.info? el = some j) (hz : j.size ≠ 0) (hE : (zeroValue E).run P w = .ok (.bool false) w)
    (hm : PM w r es) (hr : ∀ p ∈ es, OnRow w p.1) (ha : OnRow w a) :
    (lookup T (.map (some r)) (.pointer (some a)) true).run P w = .ok (.tuple #[.bool ((look es a).getD false), .bool (look es a).isSome]) w := by
  obtain ⟨ents, clock, hh, hm⟩ := hm
  rcases run_findKey_ptr hK hj hz ha ents.toList es hm hr with ⟨k, b, _, _, k3, _, k5⟩ | ⟨k3, _, k5⟩
  · simp [lookup, run_underlying hT, MapKept.run_getObj_map hh, run_checkKey_ptr hK, k5, k3]
  · simp [lookup, run_underlying hT, MapKept.run_getObj_map hh, run_checkKey_ptr hK, k5, k3, hE]

/-- The heap but for the block r is as it was. -/
def HeapBut (r : Nat) (w w' : World) : Prop := w'.os = w.os ∧ w'.tape = w.tape ∧ w'.output = w.output ∧ w'.heap.size = w.heap.size ∧ ∀ k, k ≠ r → w'.heap[k]? = w.heap[k]?

theorem pm_update (hT : P.underlying T = some (.map K E)) (hK : P.underlying K = some (.pointer el)) (hj : P.info? el = some j) (hz : j.size ≠ 0)
    (hm : PM w r es) (hr : ∀ p ∈ es, OnRow w p.1) (ha : OnRow w a) (b : Bool) :
    ∃ w', (mapUpdate T (.map (some r)) (.pointer (some a)) (.bool b)).run P w = .ok () w' ∧ PM w' r (put es a b) ∧ HeapBut r w w' := by
  obtain ⟨ents, clock, hh, hm⟩ := hm
  have hrs : r < w.heap.size := (Array.getElem?_eq_some_iff.1 hh).1
  have hbut : ∀ o : Obj, HeapBut r w { w with heap := w.heap.setIfInBounds r o } := fun o =>
    ⟨rfl, rfl, rfl, by simp, fun k hk => by simp [Array.getElem?_setIfInBounds_ne (Ne.symm hk)]⟩
  have hget : ∀ o : Obj, ({ w with heap := w.heap.setIfInBounds r o } : World).heap[r]? = some o := fun o => by simp [hrs]
  rcases run_findKey_ptr hK hj hz ha ents.toList es hm hr with ⟨k, b0, k1, k2, k3, k4, k5⟩ | ⟨k3, k4, k5⟩
  · have hlen : ents.toList.length = es.length := by have := congrArg List.length hm; simpa using this
    have hk : k < ents.size := by simpa using k1
    have hkey : ents[k].key = .pointer (some a) := by
      have h1 := congrArg (fun l => l[k]?) hm
      simp only [List.getElem?_map, k2, Array.getElem?_toList, Array.getElem?_eq_getElem hk, Option.map_some, Option.some.injEq, Prod.mk.injEq] at h1
      exact h1.1
    have hst : (keyThatStays (.pointer (some a)) (.pointer (some a))).run P w = .ok (.pointer (some a)) w := by simp [keyThatStays, sameBits]
    refine ⟨_, ?_, ⟨ents.modify k fun e => { e with key := .pointer (some a), val := .bool b }, clock, hget _, ?_⟩, hbut _⟩
    · simp [mapUpdate, run_underlying hT, MapKept.run_getObj_map hh, run_checkKey_ptr hK, k5, hk, hkey, hst, MapKept.run_setObj_map _ hh]
    · rw [k4, List.map_set, ← hm]
      apply List.ext_getElem?
      intro i
      simp only [List.getElem?_map, Array.getElem?_toList, Array.getElem?_modify, List.getElem?_set, List.length_map, Array.length_toList]
      by_cases hi : k = i
      · subst hi
        simp [hk]
      · simp [hi]
  · refine ⟨_, ?_, ⟨ents.push { key := .pointer (some a), val := .bool b, born := clock }, clock + 1, hget _, ?_⟩, hbut _⟩
    · simp [mapUpdate, run_underlying hT, MapKept.run_getObj_map hh, run_checkKey_ptr hK, k5, MapKept.run_setObj_map _ hh]
    · rw [k4]
      simp [hm]
end
end Go.Proofs.Ytbpcggbmlaomjaa
