/-
  A map whose keys are pointers to structs and whose elements are bools, made by the call: what a lookup and a store give. Over any program.
  A search in depth with a list and marks, over a finite graph without circles: no node that is under way is met again; a number that every step lowers.
  The nodes of an expression in memory are a finite graph in which every edge goes down.
  endless: false at every expression that lies in memory as a tree of nodes.
-/
import Derived.LaidEqlPtr
import Derived.MapKept
import Derived.Maps.OwnOps
import Derived.Laws.Rows
import Derived.Test.YtpknegneogdmfaaGreatFo
import Derived.Test.YtpknegneogdmfaaGreatSmall
import Derived.Deep.LoopGhost
import Derived.OwnWalk
namespace Go.Proofs.YtpknegneogdmfaaGreat
open Go Go.Instr
set_option maxRecDepth 100000

/-- The entries of a map as pairs. -/
abbrev Ents := List (Addr × Bool)
def look (es : Ents) (a : Addr) : Option Bool := (es.find? fun p => p.1 == a).map (·.2)
def put : Ents → Addr → Bool → Ents
  | [], a, b => [(a, b)]
  | p :: r, a, b => if p.1 = a then (a, b) :: r else p :: put r a b

theorem look_cons (p : Addr × Bool) (r : Ents) (a : Addr) : look (p :: r) a = if p.1 = a then some p.2 else look r a := by
  unfold look
  rw [List.find?_cons]
  by_cases h : p.1 = a
  · simp [h]
  · have : (p.1 == a) = false := by simpa using h
    simp [this, h]
theorem look_put_same : ∀ (es : Ents) (a : Addr) (b : Bool), look (put es a b) a = some b
  | [], a, b => by simp [put, look]
  | p :: r, a, b => by
    unfold put
    by_cases h : p.1 = a
    · rw [if_pos h, look_cons]; simp
    · rw [if_neg h, look_cons, if_neg h, look_put_same r a b]
theorem look_put_other : ∀ (es : Ents) (a a' : Addr) (b : Bool), a' ≠ a → look (put es a b) a' = look es a'
  | [], a, a', b, h => by
    unfold put
    rw [look_cons, if_neg (fun e => h e.symm)]
  | p :: r, a, a', b, h => by
    unfold put
    by_cases hp : p.1 = a
    · rw [if_pos hp, look_cons, look_cons, if_neg (fun e => h e.symm), if_neg (fun e => h (by rw [← e, hp]))]
    · rw [if_neg hp, look_cons, look_cons, look_put_other r a a' b h]

/-- The pairs are the entries of the map r. -/
def PM (w : World) (r : Nat) (es : Ents) : Prop :=
  ∃ (ents : Array MapEntry) (clock : Nat), w.heap[r]? = some (.map ents clock) ∧ ents.toList.map (fun e => (e.key, e.val)) = es.map (fun p => (Value.pointer (some p.1), Value.bool p.2))

/-- The block of an address is a plain row. -/
def OnRow (w : World) (a : Addr) : Prop := ∃ (cs : Array Value) (t : TypeId), w.heap[a.block]? = some (.cells cs t (0, 0))

section
variable {P : Program} {w : World} {T K E el : TypeId} {j : TypeInfo} {r : Nat} {es : Ents} {a : Addr}

theorem run_eq_ptr (hK : P.underlying K = some (.pointer el)) (hj : P.info? el = some j) (hz : j.size ≠ 0) {b : Addr} (ha : OnRow w a) (hb : OnRow w b) :
    (Op.equal K (.pointer (some a)) (.pointer (some b))).run P w = .ok (decide (a = b)) w := by
  obtain ⟨ca, ta, ha⟩ := ha
  obtain ⟨cb, tb, hb⟩ := hb
  by_cases h : a = b
  · subst h
    have h1 : ∀ d : Nat, (Op.equalIn (d + 1) K (.pointer (some a)) (.pointer (some a))).run P w = .ok true w := fun d => by
      simp [Op.equalIn, run_underlying hK, sizeOf, typeInfo, hj, run_sameAddr_same]
    simp [Op.equal, Op.maxDepth, h1 9999]
  · have h1 : ∀ d : Nat, (Op.equalIn (d + 1) K (.pointer (some a)) (.pointer (some b))).run P w = .ok false w := fun d => by
      simp [Op.equalIn, run_underlying hK, sizeOf, typeInfo, hj, hz, run_sameAddr_other w h ha hb]
    simp [Op.equal, Op.maxDepth, h1 9999, h]

theorem run_find (hK : P.underlying K = some (.pointer el)) (hj : P.info? el = some j) (hz : j.size ≠ 0) (ha : OnRow w a) :
    ∀ (ents : List MapEntry) (es : Ents) (i : Nat), ents.map (fun e => (e.key, e.val)) = es.map (fun p => (Value.pointer (some p.1), Value.bool p.2)) → (∀ p ∈ es, OnRow w p.1) →
      (∃ k b, k < ents.length ∧ es[k]? = some (a, b) ∧ look es a = some b ∧ (∀ b', put es a b' = es.set k (a, b')) ∧ (findAsking K (.pointer (some a)) ents i).run P w = .ok (some (i + k, .bool b)) w) ∨
      (look es a = none ∧ (∀ b', put es a b' = es ++ [(a, b')]) ∧ (findAsking K (.pointer (some a)) ents i).run P w = .ok none w)
  | [], es, i, h, _ => by
    have : es = [] := by simpa using h.symm
    subst this
    exact .inr ⟨rfl, fun _ => rfl, by simp [findAsking]⟩
  | e :: ents, [], i, h, _ => by simp at h
  | e :: ents, p :: es, i, h, hr => by
    simp only [List.map_cons, List.cons.injEq, Prod.mk.injEq] at h
    obtain ⟨⟨h1, h2⟩, h3⟩ := h
    have hq := run_eq_ptr hK hj hz ha (hr p (List.mem_cons_self ..))
    by_cases hp : p.1 = a
    · obtain ⟨p1, p2⟩ := p
      simp only at hp h1 h2
      subst hp
      refine .inl ⟨0, p2, by simp, rfl, by rw [look_cons]; simp, fun b' => by simp [put], ?_⟩
      simp [findAsking, h1, h2, hq]
    · rcases run_find hK hj hz ha ents es (i + 1) h3 (fun q hq => hr q (List.mem_cons_of_mem _ hq)) with ⟨k, b, k1, k2, k3, k4, k5⟩ | ⟨k3, k4, k5⟩
      · refine .inl ⟨k + 1, b, by simp; omega, by simpa using k2, by rw [look_cons, if_neg hp]; exact k3, fun b' => by simp [put, hp, k4], ?_⟩
        have hne : ¬ a = p.1 := fun e => hp e.symm
        have e1 : i + 1 + k = i + (k + 1) := by omega
        simp [findAsking, h1, hq, hne, k5, e1]
      · refine .inr ⟨by rw [look_cons, if_neg hp]; exact k3, fun b' => by simp [put, hp, k4], ?_⟩
        have hne : ¬ a = p.1 := fun e => hp e.symm
        simp [findAsking, h1, hq, hne, k5]

theorem run_findKey_ptr (hK : P.underlying K = some (.pointer el)) (hj : P.info? el = some j) (hz : j.size ≠ 0) (ha : OnRow w a) (ents : List MapEntry) (es : Ents)
    (h : ents.map (fun e => (e.key, e.val)) = es.map (fun p => (Value.pointer (some p.1), Value.bool p.2))) (hr : ∀ p ∈ es, OnRow w p.1) :
    (∃ k b, k < ents.length ∧ es[k]? = some (a, b) ∧ look es a = some b ∧ (∀ b', put es a b' = es.set k (a, b')) ∧ (findKey K (.pointer (some a)) ents).run P w = .ok (some (k, .bool b)) w) ∨
    (look es a = none ∧ (∀ b', put es a b' = es ++ [(a, b')]) ∧ (findKey K (.pointer (some a)) ents).run P w = .ok none w) := by
  rcases run_find hK hj hz ha ents es 0 h hr with ⟨k, b, k1, k2, k3, k4, k5⟩ | ⟨k3, k4, k5⟩
  · refine .inl ⟨k, b, k1, k2, k3, k4, ?_⟩
    rw [Nat.zero_add] at k5
    cases ents with
    | nil => simp at k1
    | cons e r => simp [findKey, run_underlying hK, findNow, sameNow, k5]
  · refine .inr ⟨k3, k4, ?_⟩
    cases ents with
    | nil => simp [findKey, run_underlying hK, findNow]
    | cons e r => simp [findKey, run_underlying hK, findNow, sameNow, k5]

theorem run_checkKey_ptr (hK : P.underlying K = some (.pointer el)) (em : Bool) : (checkKey em 10000 K (.pointer (some a))).run P w = .ok () w := by
  have h : ∀ d : Nat, (checkKey em (d + 1) K (.pointer (some a))).run P w = .ok () w := fun d => by simp [checkKey, run_underlying hK]
  exact h 9999

theorem pm_lookup (hT : P.underlying T = some (.map K E)) (hK : P.underlying K = some (.pointer el)) (hj : P.info? el = some j) (hz : j.size ≠ 0) (hE : (zeroValue E).run P w = .ok (.bool false) w)
    (hm : PM w r es) (hr : ∀ p ∈ es, OnRow w p.1) (ha : OnRow w a) :
    (lookup T (.map (some r)) (.pointer (some a)) true).run P w = .ok (.tuple #[.bool ((look es a).getD false), .bool (look es a).isSome]) w := by
  obtain ⟨ents, clock, hh, hm⟩ := hm
  rcases run_findKey_ptr hK hj hz ha ents.toList es hm hr with ⟨k, b, _, _, k3, _, k5⟩ | ⟨k3, _, k5⟩
  · simp [lookup, run_underlying hT, MapKept.run_getObj_map hh, run_checkKey_ptr hK, k5, k3]
  · simp [lookup, run_underlying hT, MapKept.run_getObj_map hh, run_checkKey_ptr hK, k5, k3, hE]

/-- The heap but for the block r is as it was. -/
def HeapBut (r : Nat) (w w' : World) : Prop := w'.os = w.os ∧ w'.tape = w.tape ∧ w'.output = w.output ∧ w'.heap.size = w.heap.size ∧ ∀ k, k ≠ r → w'.heap[k]? = w.heap[k]?

theorem pm_update (hT : P.underlying T = some (.map K E)) (hK : P.underlying K = some (.pointer el)) (hj : P.info? el = some j) (hz : j.size ≠ 0)
    (hm : PM w r es) (hr : ∀ p ∈ es, OnRow w p.1) (ha : OnRow w a) (b : Bool) :
    ∃ w', (mapUpdate T (.map (some r)) (.pointer (some a)) (.bool b)).run P w = .ok () w' ∧ PM w' r (put es a b) ∧ HeapBut r w w' := by
  obtain ⟨ents, clock, hh, hm⟩ := hm
  have hrs : r < w.heap.size := (Array.getElem?_eq_some_iff.1 hh).1
  have hbut : ∀ o : Obj, HeapBut r w { w with heap := w.heap.setIfInBounds r o } := fun o =>
    ⟨rfl, rfl, rfl, by simp, fun k hk => by simp [Array.getElem?_setIfInBounds_ne (Ne.symm hk)]⟩
  have hget : ∀ o : Obj, ({ w with heap := w.heap.setIfInBounds r o } : World).heap[r]? = some o := fun o => by simp [hrs]
  rcases run_findKey_ptr hK hj hz ha ents.toList es hm hr with ⟨k, b0, k1, k2, k3, k4, k5⟩ | ⟨k3, k4, k5⟩
  · have hlen : ents.toList.length = es.length := by have := congrArg List.length hm; simpa using this
    have hk : k < ents.size := by simpa using k1
    have hkey : ents[k].key = .pointer (some a) := by
      have h1 := congrArg (fun l => l[k]?) hm
      simp only [List.getElem?_map, k2, Array.getElem?_toList, Array.getElem?_eq_getElem hk, Option.map_some, Option.some.injEq, Prod.mk.injEq] at h1
      exact h1.1
    have hst : (keyThatStays (.pointer (some a)) (.pointer (some a))).run P w = .ok (.pointer (some a)) w := by simp [keyThatStays, sameBits]
    refine ⟨_, ?_, ⟨ents.modify k fun e => { e with key := .pointer (some a), val := .bool b }, clock, hget _, ?_⟩, hbut _⟩
    · simp [mapUpdate, run_underlying hT, MapKept.run_getObj_map hh, run_checkKey_ptr hK, k5, hk, hkey, hst, MapKept.run_setObj_map _ hh]
    · rw [k4, List.map_set, ← hm]
      apply List.ext_getElem?
      intro i
      simp only [List.getElem?_map, Array.getElem?_toList, Array.getElem?_modify, List.getElem?_set, List.length_map, Array.length_toList]
      by_cases hi : k = i
      · subst hi
        simp [hk]
      · simp [hi]
  · refine ⟨_, ?_, ⟨ents.push { key := .pointer (some a), val := .bool b, born := clock }, clock + 1, hget _, ?_⟩, hbut _⟩
    · simp [mapUpdate, run_underlying hT, MapKept.run_getObj_map hh, run_checkKey_ptr hK, k5, MapKept.run_setObj_map _ hh]
    · rw [k4]
      simp [hm]
end
end Go.Proofs.YtpknegneogdmfaaGreat

namespace Go.Proofs.YtpknegneogdmfaaGreat

/-- A finite graph in which every edge goes down. -/
structure Gr where
  univ : List Addr
  kid : Addr → List Addr
  sz : Addr → Nat
  closed : ∀ a ∈ univ, ∀ x ∈ kid a, x ∈ univ ∧ sz x < sz a

structure DInv (G : Gr) (st : List Addr) (es : Ents) : Prop where
  stack : ∀ a ∈ st, a ∈ G.univ
  marks : ∀ a, (look es a).isSome = true → a ∈ G.univ
  under : ∀ a, look es a = some false → ∃ i : Nat, st[i]? = some a ∧ ∀ (j : Nat) (x : Addr), i < j → st[j]? = some x → G.sz x < G.sz a

/-- While the kids of x are gone through. -/
structure DInv2 (G : Gr) (st : List Addr) (es : Ents) (x : Addr) : Prop extends DInv G st es where
  top : ∀ a, look es a = some false → G.sz x ≤ G.sz a

variable {G : Gr} {st : List Addr} {es : Ents} {x : Addr}

theorem DInv.pop (h : DInv G (st ++ [x]) es) (hx : look es x ≠ none) : DInv G st (put es x true) where
  stack a ha := h.stack a (List.mem_append_left _ ha)
  marks a ha := by
    by_cases e : a = x
    · subst e; exact h.stack a (by simp)
    · rw [look_put_other _ _ _ _ e] at ha; exact h.marks a ha
  under a ha := by
    have e : a ≠ x := by rintro rfl; rw [look_put_same] at ha; simp at ha
    rw [look_put_other _ _ _ _ e] at ha
    obtain ⟨i, hi, hj⟩ := h.under a ha
    have hil : i < st.length := by
      have h1 := (List.getElem?_eq_some_iff.1 hi).1
      simp at h1
      by_cases h2 : i = st.length
      · subst h2; simp at hi; exact absurd hi.symm e
      · omega
    refine ⟨i, by rw [List.getElem?_append_left hil] at hi; exact hi, fun j y h1 h2 => hj j y h1 ?_⟩
    have hjl := (List.getElem?_eq_some_iff.1 h2).1
    rw [List.getElem?_append_left hjl]
    exact h2

theorem DInv.expand (h : DInv G (st ++ [x]) es) (hx : look es x = none) : DInv2 G (st ++ [x]) (put es x false) x ∧ ∀ y ∈ G.kid x, look (put es x false) y ≠ some false := by
  have hxu : x ∈ G.univ := h.stack x (by simp)
  have above : ∀ a, look es a = some false → G.sz x < G.sz a ∧ a ≠ x := by
    intro a ha
    have e : a ≠ x := by rintro rfl; rw [hx] at ha; simp at ha
    obtain ⟨i, hi, hj⟩ := h.under a ha
    have h1 := (List.getElem?_eq_some_iff.1 hi).1
    simp at h1
    have hil : i < st.length := by
      by_cases h2 : i = st.length
      · subst h2; simp at hi; exact absurd hi.symm e
      · omega
    exact ⟨hj st.length x hil (by simp), e⟩
  refine ⟨⟨⟨h.stack, ?_, ?_⟩, ?_⟩, ?_⟩
  · intro a ha
    by_cases e : a = x
    · subst e; exact hxu
    · rw [look_put_other _ _ _ _ e] at ha; exact h.marks a ha
  · intro a ha
    by_cases e : a = x
    · subst e
      exact ⟨st.length, by simp, fun j y h1 h2 => by have := (List.getElem?_eq_some_iff.1 h2).1; simp at this; omega⟩
    · rw [look_put_other _ _ _ _ e] at ha; exact h.under a ha
  · intro a ha
    by_cases e : a = x
    · subst e; exact Nat.le_refl _
    · rw [look_put_other _ _ _ _ e] at ha; exact Nat.le_of_lt (above a ha).1
  · intro y hy ha
    have hlt := (G.closed x hxu y hy).2
    by_cases e : y = x
    · subst e; omega
    · rw [look_put_other _ _ _ _ e] at ha
      have := (above y ha).1
      omega

theorem DInv2.push {y : Addr} (h : DInv2 G st es x) (hx : x ∈ G.univ) (hy : y ∈ G.kid x) : DInv2 G (st ++ [y]) es x where
  stack a ha := by
    rcases List.mem_append.1 ha with h1 | h1
    · exact h.stack a h1
    · rw [List.mem_singleton.1 h1]; exact (G.closed x hx y hy).1
  marks := h.marks
  under a ha := by
    obtain ⟨i, hi, hj⟩ := h.under a ha
    have hil := (List.getElem?_eq_some_iff.1 hi).1
    refine ⟨i, by rw [List.getElem?_append_left hil]; exact hi, fun j z h1 h2 => ?_⟩
    by_cases hjl : j < st.length
    · rw [List.getElem?_append_left hjl] at h2; exact hj j z h1 h2
    · have h3 := (List.getElem?_eq_some_iff.1 h2).1
      simp at h3
      have h4 : j = st.length := by omega
      subst h4
      simp at h2
      subst h2
      have := h.top a ha
      have := (G.closed x hx y hy).2
      omega
  top := h.top

/-- What is left to do. -/
def todo (G : Gr) (es : Ents) : List Addr → Nat
  | [] => 0
  | a :: r => (if (look es a).isSome then 0 else (G.kid a).length + 1) + todo G es r
def pot (G : Gr) (st : List Addr) (es : Ents) : Nat := st.length + todo G es G.univ

theorem todo_put_le (b : Bool) : ∀ us : List Addr, todo G (put es x b) us ≤ todo G es us
  | [] => Nat.le_refl _
  | a :: r => by
    have := todo_put_le (b := b) r
    simp only [todo]
    by_cases e : a = x
    · subst e; rw [look_put_same]; simp; omega
    · rw [look_put_other _ _ _ _ e]; omega
theorem todo_put_lt (hx : look es x = none) (b : Bool) : ∀ us : List Addr, x ∈ us → todo G (put es x b) us + (G.kid x).length + 1 ≤ todo G es us
  | a :: r, h => by
    simp only [todo]
    by_cases e : a = x
    · subst e
      have := todo_put_le (G := G) (es := es) (x := a) (b := b) r
      rw [look_put_same, hx]
      simp
      omega
    · have hr : x ∈ r := by
        rcases List.mem_cons.1 h with h1 | h1
        · exact absurd h1.symm e
        · exact h1
      have := todo_put_lt hx b r hr
      rw [look_put_other _ _ _ _ e]
      omega

theorem pot_pop : pot G st (put es x true) + 1 ≤ pot G (st ++ [x]) es := by
  have := todo_put_le (G := G) (es := es) (x := x) (b := true) G.univ
  simp [pot]
  omega
theorem pot_expand (h : DInv G (st ++ [x]) es) (hx : look es x = none) : pot G (st ++ [x]) (put es x false) + (G.kid x).length + 1 ≤ pot G (st ++ [x]) es := by
  have := todo_put_lt (G := G) hx false G.univ (h.stack x (by simp))
  simp [pot]
  omega
end Go.Proofs.YtpknegneogdmfaaGreat

namespace Go.Proofs.YtpknegneogdmfaaGreat
open Go.RowKit
set_option maxRecDepth 100000

/-- What lies at a slice is one list of nodes. -/
theorem Lies.uniq {w : World} {L B : Nat} : ∀ {f f' : Fo} {A : Option Addr} {i : Nat}, Lies w L B A i f → Lies w L B A i f' → f.len = f'.len → f = f'
  | .nil, .nil, _, _, _, _, _ => rfl
  | .nil, .cons _ _ _ _, _, _, _, _, h => by simp [Fo.len] at h
  | .cons _ _ _ _, .nil, _, _, _, _, h => by simp [Fo.len] at h
  | .cons op n k r, .cons op' n' k' r', A, i, ⟨⟨b, o, A1, c1, hA, _, _, _, _, g0, g1, g2, _, _, hk⟩, hr⟩, ⟨⟨b', o', A2, c2, hA', _, _, _, _, g0', g1', g2', _, _, hk'⟩, hr'⟩, h => by
    rw [hA] at hA'
    cases hA'
    rw [g0] at g0'; rw [g1] at g1'; rw [g2] at g2'
    cases g0'; cases g1'
    simp only [Option.some.injEq, Value.slice.injEq] at g2'
    obtain ⟨rfl, h2, rfl⟩ := g2'
    have e1 := hk.uniq hk' h2
    have e2 := hr.uniq hr' (by simpa [Fo.len] using h)
    rw [e1, e2]

/-- The node with the Kids k is at the address a. -/
def NodeAt (w : World) (L B : Nat) (a : Addr) (k : Fo) : Prop :=
  ∃ op n A c, a.spot = none ∧ w.cell? ⟨a.block, a.off, none⟩ = some (.int .i64 op) ∧ w.cell? ⟨a.block, a.off + 1, none⟩ = some (.int .i64 n) ∧ w.cell? ⟨a.block, a.off + 2, none⟩ = some (.slice A k.len c) ∧ k.len ≤ c ∧ c ≤ maxLen ∧ Lies w L B A 0 k
theorem NodeAt.uniq {w : World} {L B : Nat} {a : Addr} {k k' : Fo} (h : NodeAt w L B a k) (h' : NodeAt w L B a k') : k = k' := by
  obtain ⟨_, _, A, c, _, _, _, g2, _, _, hk⟩ := h
  obtain ⟨_, _, A', c', _, _, _, g2', _, _, hk'⟩ := h'
  rw [g2] at g2'
  simp only [Option.some.injEq, Value.slice.injEq] at g2'
  obtain ⟨rfl, h2, rfl⟩ := g2'
  exact hk.uniq hk' h2

/-- The addresses of n nodes of a slice. -/
def addrRow : Option Addr → Nat → List Addr
  | some a, n => (List.range n).map fun i => ⟨a.block, a.off + i * 3, none⟩
  | none, _ => []
/-- The slice of Kids of the node at an address. -/
def kidSlice (w : World) (a : Addr) : Option Addr × Nat :=
  match w.cell? ⟨a.block, a.off + 2, none⟩ with
  | some (.slice A n _) => (A, n)
  | _ => (none, 0)
def kidsAt (w : World) (a : Addr) : List Addr := addrRow (kidSlice w a).1 (kidSlice w a).2
theorem length_kidsAt_le (A : Option Addr) (n : Nat) : (addrRow A n).length ≤ n := by cases A <;> simp [addrRow]

/-- The addresses of all nodes of a list of nodes. -/
def addrs (w : World) : Option Addr → Nat → Fo → List Addr
  | _, _, .nil => []
  | none, _, .cons _ _ _ _ => []
  | some a, i, .cons _ _ k r => ⟨a.block, a.off + i * 3, none⟩ :: (addrs w (kidSlice w ⟨a.block, a.off + i * 3, none⟩).1 0 k ++ addrs w (some a) (i + 1) r)

theorem mem_addrs {w : World} {a : Addr} : ∀ {f : Fo} {i j : Nat}, j < f.len → (⟨a.block, a.off + (i + j) * 3, none⟩ : Addr) ∈ addrs w (some a) i f
  | .nil, _, _, h => by simp [Fo.len] at h
  | .cons _ _ k r, i, 0, _ => by simp [addrs]
  | .cons _ _ k r, i, j + 1, h => by
    have := mem_addrs (w := w) (a := a) (f := r) (i := i + 1) (j := j) (by simp only [Fo.len] at h; omega)
    have e : i + 1 + j = i + (j + 1) := by omega
    rw [e] at this
    simp only [addrs, List.mem_cons, List.mem_append]
    exact .inr (.inr this)

theorem addrRow_sub {w : World} {L B : Nat} {A : Option Addr} {k : Fo} (h : Lies w L B A 0 k) : ∀ y ∈ addrRow A k.len, y ∈ addrs w A 0 k := by
  intro y hy
  cases A with
  | none => simp [addrRow] at hy
  | some a =>
    simp only [addrRow, List.mem_map, List.mem_range] at hy
    obtain ⟨i, hi, rfl⟩ := hy
    have := mem_addrs (w := w) (a := a) (f := k) (i := 0) hi
    simpa using this

theorem kidSlice_of {w : World} {a : Addr} {A : Option Addr} {n c : Nat} (h : w.cell? ⟨a.block, a.off + 2, none⟩ = some (.slice A n c)) : kidSlice w a = (A, n) := by simp [kidSlice, h]

/-- Each address is that of a node, in the bounds, whose Kids are among them. -/
theorem addrs_node {w : World} {L B : Nat} : ∀ {f : Fo} {A : Option Addr} {i : Nat}, Lies w L B A i f → ∀ x ∈ addrs w A i f, (∃ k, NodeAt w L B x k ∧ k.size < f.size) ∧ L ≤ x.block ∧ x.block < B ∧ ∀ y ∈ kidsAt w x, y ∈ addrs w A i f
  | .nil, _, _, _, x, hx => by simp [addrs] at hx
  | .cons op n k r, A, i, ⟨⟨b, o, A1, c1, hA, hL, hB, _, _, g0, g1, g2, hk1, hk2, hk⟩, hr⟩, x, hx => by
    subst hA
    have hks : kidSlice w ⟨b, o + i * 3, none⟩ = (A1, k.len) := kidSlice_of g2
    simp only [addrs, hks, List.mem_cons, List.mem_append] at hx ⊢
    rcases hx with rfl | hx | hx
    · refine ⟨⟨k, ⟨op, n, A1, c1, rfl, g0, g1, g2, hk1, hk2, hk⟩, by simp only [Fo.size]; omega⟩, hL, hB, fun y hy => .inr (.inl ?_)⟩
      unfold kidsAt at hy
      rw [hks] at hy
      exact addrRow_sub hk y hy
    · obtain ⟨⟨k', h1, h2⟩, h3, h4, h5⟩ := addrs_node hk x hx
      exact ⟨⟨k', h1, by simp only [Fo.size]; omega⟩, h3, h4, fun y hy => .inr (.inl (h5 y hy))⟩
    · obtain ⟨⟨k', h1, h2⟩, h3, h4, h5⟩ := addrs_node hr x hx
      exact ⟨⟨k', h1, by simp only [Fo.size]; omega⟩, h3, h4, fun y hy => .inr (.inr (h5 y hy))⟩

/-- The sum that bounds a search. -/
def weight (w : World) : List Addr → Nat
  | [] => 0
  | a :: r => (kidsAt w a).length + 1 + weight w r
theorem weight_append (w : World) : ∀ a b : List Addr, weight w (a ++ b) = weight w a + weight w b
  | [], _ => by simp [weight]
  | _ :: r, b => by simp only [List.cons_append, weight, weight_append w r b]; omega
theorem addrs_weight {w : World} {L B : Nat} : ∀ {f : Fo} {A : Option Addr} {i : Nat}, Lies w L B A i f → weight w (addrs w A i f) + f.len ≤ 2 * f.size
  | .nil, _, _, _ => by simp [addrs, weight, Fo.len, Fo.size]
  | .cons op n k r, A, i, ⟨⟨b, o, A1, c1, hA, hL, hB, _, _, g0, g1, g2, hk1, hk2, hk⟩, hr⟩ => by
    subst hA
    have hks : kidSlice w ⟨b, o + i * 3, none⟩ = (A1, k.len) := kidSlice_of g2
    have h1 := addrs_weight hk
    have h2 := addrs_weight hr
    have h3 : (kidsAt w ⟨b, o + i * 3, none⟩).length ≤ k.len := by unfold kidsAt; rw [hks]; exact length_kidsAt_le _ _
    simp only [addrs, hks, weight, weight_append, Fo.len, Fo.size]
    omega

/-- The size of the node at an address. -/
noncomputable def szAt (w : World) (L B : Nat) (a : Addr) : Nat := (@Classical.epsilon Fo ⟨.nil⟩ fun k => NodeAt w L B a k).size
theorem szAt_of {w : World} {L B : Nat} {a : Addr} {k : Fo} (h : NodeAt w L B a k) : szAt w L B a = k.size := by
  have h1 : NodeAt w L B a (@Classical.epsilon Fo ⟨.nil⟩ fun k => NodeAt w L B a k) := @Classical.epsilon_spec Fo (fun k => NodeAt w L B a k) ⟨k, h⟩
  unfold szAt
  rw [h1.uniq h]

theorem kid_size {w : World} {L B : Nat} {a : Addr} {k : Fo} (h : NodeAt w L B a k) : ∀ y ∈ kidsAt w a, (∃ k', NodeAt w L B y k' ∧ k'.size < k.size) := by
  obtain ⟨_, _, A, c, _, _, _, g2, _, _, hk⟩ := h
  intro y hy
  unfold kidsAt at hy
  rw [kidSlice_of g2] at hy
  obtain ⟨h1, _⟩ := addrs_node hk y (addrRow_sub hk y hy)
  exact h1

/-- The graph of an expression whose root is at the address p. -/
noncomputable def exprGr (w : World) (L B : Nat) (p : Addr) (A : Option Addr) (k : Fo) (hp : NodeAt w L B p k) (hA : kidSlice w p = (A, k.len)) (hk : Lies w L B A 0 k) : Gr where
  univ := p :: addrs w A 0 k
  kid := kidsAt w
  sz := szAt w L B
  closed := by
    intro a ha x hx
    have key : ∀ k', NodeAt w L B a k' → szAt w L B x < szAt w L B a := by
      intro k' hk'
      obtain ⟨k2, h2, h3⟩ := kid_size hk' x hx
      rw [szAt_of hk', szAt_of h2]
      exact h3
    rcases List.mem_cons.1 ha with rfl | ha
    · refine ⟨List.mem_cons_of_mem _ ?_, key k hp⟩
      unfold kidsAt at hx
      rw [hA] at hx
      exact addrRow_sub hk x hx
    · obtain ⟨⟨k', h1, _⟩, _, _, h5⟩ := addrs_node hk a ha
      exact ⟨List.mem_cons_of_mem _ (h5 x hx), key k' h1⟩

theorem todo_weight (G : Gr) (w : World) (hG : G.kid = kidsAt w) : ∀ us : List Addr, todo G [] us = weight w us
  | [] => rfl
  | a :: r => by simp [todo, weight, look, hG, todo_weight G w hG r]
end Go.Proofs.YtpknegneogdmfaaGreat

namespace Go.Proofs.YtpknegneogdmfaaGreat
open Go.RowKit
set_option maxRecDepth 100000

theorem allRows_on {w : World} {L B : Nat} (h : AllRows w L B) {a : Addr} (h1 : L ≤ a.block) (h2 : a.block < B) : OnRow w a :=
  let ⟨t, cs, hr⟩ := h a.block h1 h2; ⟨cs, t, hr⟩
theorem OnRow.below {w w' : World} {a : Addr} {B : Nat} (h : OnRow w a) (hb : Below B w w') (ha : a.block < B) : OnRow w' a :=
  let ⟨cs, t, hr⟩ := h; ⟨cs, t, (hb.block _ ha).trans hr⟩
def ptrs (st : List Addr) : List Value := st.map fun a => .pointer (some a)

theorem plain_add (b o j : Nat) : (⟨b, o, none⟩ : Addr).add j = ⟨b, o + j, none⟩ := by unfold Addr.add; split <;> simp_all

/-- The search under way: the list, the marks. -/
structure Sea (w3 : World) (G : Gr) (gL : Nat) (st : List Addr) (es : Ents) (v : Value) (wr : World) : Prop where
  own : wr.ownsRow gL 117 1 v st.length (ptrs st)
  pm : PM wr (gL + 1) es
  below : Below gL w3 wr
  size : gL + 2 ≤ wr.heap.size

/-- What the search needs to know of the nodes. -/
structure Gnd (w3 : World) (G : Gr) (gL : Nat) : Prop where
  on : ∀ a ∈ G.univ, OnRow w3 a ∧ a.block < gL
  kids : ∀ a ∈ G.univ, a.spot = none ∧ ∃ A n c, n ≤ c ∧ c ≤ maxLen ∧ w3.cell? ⟨a.block, a.off + 2, none⟩ = some (.slice A n c) ∧ G.kid a = addrRow A n ∧ (0 < n → ∃ b o, A = some ⟨b, o, Option.none⟩)

/-- The blocks in which the nodes of a list stand are plain rows. -/
def PlainF (w : World) (B : Nat) : Option Addr → Nat → Fo → Prop
  | _, _, .nil => True
  | A, i, .cons _ _ k r => (∃ b o A' c', A = some ⟨b, o, none⟩ ∧ b < B ∧ OnRow w ⟨b, 0, none⟩ ∧ w.cell? ⟨b, o + i * 3 + 2, none⟩ = some (.slice A' k.len c') ∧ PlainF w B A' 0 k) ∧ PlainF w B A (i + 1) r
theorem PlainF.below {w w' : World} {B C : Nat} (hb : Below C w w') (hC : B ≤ C) : ∀ {f : Fo} {A : Option Addr} {i : Nat}, PlainF w B A i f → PlainF w' B A i f
  | .nil, _, _, _ => trivial
  | .cons _ _ _ _, _, _, ⟨⟨b, o, A', c', hA, h1, h2, h3, h4⟩, h⟩ => ⟨⟨b, o, A', c', hA, h1, h2.below hb (Nat.lt_of_lt_of_le h1 hC), (hb.cell (p := ⟨b, _, none⟩) (Nat.lt_of_lt_of_le h1 hC)).trans h3, h4.below hb hC⟩, h.below hb hC⟩
theorem PlainF.on {w : World} {B : Nat} : ∀ {f : Fo} {A : Option Addr} {i : Nat}, PlainF w B A i f → ∀ x ∈ addrs w A i f, OnRow w x
  | .nil, _, _, _, x, hx => by simp [addrs] at hx
  | .cons _ _ k r, A, i, ⟨⟨b, o, A', c', hA, h1, h2, h3, h4⟩, h⟩, x, hx => by
    subst hA
    have hks : kidSlice w ⟨b, o + i * 3, none⟩ = (A', k.len) := kidSlice_of h3
    simp only [addrs, hks, List.mem_cons, List.mem_append] at hx
    rcases hx with rfl | hx | hx
    · exact h2
    · exact h4.on x hx
    · exact h.on x hx
theorem plain_of {w : World} {L B : Nat} (hal : AllRows w L B) : ∀ {f : Fo} {A : Option Addr} {i : Nat}, Lies w L B A i f → PlainF w B A i f
  | .nil, _, _, _ => trivial
  | .cons _ _ _ _, _, _, ⟨⟨b, o, A', c', hA, hL, hB, _, _, _, _, h3, _, _, h4⟩, h⟩ => ⟨⟨b, o, A', c', hA, hB, allRows_on (a := ⟨b, 0, none⟩) hal hL hB, h3, plain_of hal h4⟩, plain_of hal h⟩

/-- The graph of an expression at whose root stands p; what the search needs to know; what bounds it. -/
theorem start_graph {w3 : World} {L B gL : Nat} {op n : Int} {k : Fo} {A : Option Addr} {c : Nat} {p : Addr} (hp : p.spot = none) (hk : Lies w3 L B A 0 k) (hal : PlainF w3 B A 0 k) (hB : B ≤ gL) (hpg : p.block < gL) (hon : OnRow w3 p)
    (g0 : w3.cell? ⟨p.block, p.off, none⟩ = some (.int .i64 op)) (g1 : w3.cell? ⟨p.block, p.off + 1, none⟩ = some (.int .i64 n)) (g2 : w3.cell? ⟨p.block, p.off + 2, none⟩ = some (.slice A k.len c)) (h1 : k.len ≤ c) (h2 : c ≤ maxLen) :
    ∃ G : Gr, Gnd w3 G gL ∧ p ∈ G.univ ∧ pot G [p] [] ≤ 2 * k.size + 2 := by
  have hn : NodeAt w3 L B p k := ⟨op, n, A, c, hp, g0, g1, g2, h1, h2, hk⟩
  have hs : kidSlice w3 p = (A, k.len) := kidSlice_of g2
  refine ⟨exprGr w3 L B p A k hn hs hk, ⟨?_, ?_⟩, List.mem_cons_self .., ?_⟩
  · intro a ha
    rcases List.mem_cons.1 ha with rfl | ha
    · exact ⟨hon, hpg⟩
    · obtain ⟨_, h3, h4, _⟩ := addrs_node hk a ha
      exact ⟨hal.on a ha, by omega⟩
  · intro a ha
    have key : ∀ k', NodeAt w3 L B a k' → a.spot = none ∧ ∃ A n c, n ≤ c ∧ c ≤ maxLen ∧ w3.cell? ⟨a.block, a.off + 2, none⟩ = some (.slice A n c) ∧ kidsAt w3 a = addrRow A n ∧ (0 < n → ∃ b o, A = some ⟨b, o, Option.none⟩) := by
      rintro k' ⟨_, _, A', c', h3, _, _, h4, h5, h6, h7⟩
      refine ⟨h3, A', k'.len, c', h5, h6, h4, by unfold kidsAt; rw [kidSlice_of h4], fun h0 => ?_⟩
      cases k' with
      | nil => simp [Fo.len] at h0
      | cons _ _ _ _ => obtain ⟨⟨b, o, _, _, hA, _⟩, _⟩ := h7; exact ⟨b, o, hA⟩
    rcases List.mem_cons.1 ha with rfl | ha
    · exact key k hn
    · obtain ⟨⟨k', h3, _⟩, _⟩ := addrs_node hk a ha
      exact key k' h3
  · have e1 : todo (exprGr w3 L B p A k hn hs hk) [] (exprGr w3 L B p A k hn hs hk).univ = weight w3 (p :: addrs w3 A 0 k) := todo_weight _ w3 rfl _
    have h3 := addrs_weight hk
    have h4 : (kidsAt w3 p).length ≤ k.len := by unfold kidsAt; rw [hs]; exact length_kidsAt_le _ _
    unfold pot
    rw [e1]
    simp only [weight, List.length_cons, List.length_nil]
    omega

/-- The search begins. -/
theorem start_inv {G : Gr} {p : Addr} (hp : p ∈ G.univ) : DInv G [p] [] where
  stack a ha := by rw [List.mem_singleton.1 ha]; exact hp
  marks a ha := by simp [look] at ha
  under a ha := by simp [look] at ha

theorem HeapBut.below {r B : Nat} {w w' : World} (h : HeapBut r w w') (hr : B ≤ r) : Below B w w' := ⟨h.1, h.2.1, h.2.2.1, by rw [h.2.2.2.1]; exact Nat.le_refl _, fun k hk => h.2.2.2.2 k (by omega)⟩
theorem take_ptrs {l : List Value} {st : List Addr} {x : Addr} (h : l.take ((st.length + 1) * 1) = ptrs (st ++ [x])) : l.take (st.length * 1) = ptrs st := by
  have h1 : (l.take ((st.length + 1) * 1)).take (st.length * 1) = (ptrs (st ++ [x])).take (st.length * 1) := by rw [h]
  rw [List.take_take, Nat.min_eq_left (by omega)] at h1
  rw [h1]
  simp [ptrs]
theorem row_ne_map {w : World} {g r : Nat} {cur : Array Value} {t : TypeId} {es : Ents} (h : w.heap[g]? = some (.cells cur t (0, 0))) (hm : PM w r es) : g ≠ r := by
  rintro rfl
  obtain ⟨_, _, h2, _⟩ := hm
  rw [h] at h2
  cases h2

set_option maxHeartbeats 1000000 in
theorem endless_big (op n : Int) (k : Fo) (A : Option Addr) (c L B : Nat) (w : World) (hl : Lies w L B A 0 k) (hB : B ≤ w.heap.size) (hal : PlainF w B A 0 k) (hk1 : k.len ≤ c) (hk2 : c ≤ maxLen) (hsz : k.size ≤ 1048576) (hsm : smallOk k 14 80 = false) :
    Calls Tryz.prog 67 #[.agg #[.int .i64 op, .int .i64 n, .slice A k.len c]] w (Gives (.bool false) w) := by
  have hb0 : Below w.heap.size w (w.alloc (Obj.cells #[Value.int IntKind.i64 op, Value.int IntKind.i64 n, Value.slice A k.len c] 36)) := (Below.refl _ _).alloc (Nat.le_refl _) _
  have hr0 := Row.fresh w 36 #[Value.int IntKind.i64 op, Value.int IntKind.i64 n, Value.slice A k.len c]
  have hs0 : w.heap.size + 1 ≤ (w.alloc (Obj.cells #[Value.int IntKind.i64 op, Value.int IntKind.i64 n, Value.slice A k.len c] 36)).heap.size := by simp
  have hl0 := (hl.mono_ (Nat.zero_le _) hB).below hb0
  have hmm := @run_makeMap Tryz.prog
  go_enter Tryz.func67, Tryz.ntmps67
  go_wp2_with fail
  refine (withinLimits_any op n k A c _ (hl0.mono_ (Nat.le_refl _) hb0.size) (by omega)).mono ?_
  rintro e w2 ⟨rfl, hb2'⟩
  rw [hsm]
  have hb2 := hb0.trans (hb2'.mono hb0.size)
  have hr2 := hr0.below hb2' (by omega)
  have hs2 : w.heap.size + 1 ≤ w2.heap.size := Nat.le_trans hs0 hb2'.size
  have q0 := hr2.cell (i := 0) rfl
  have q1 := hr2.cell (i := 1) rfl
  have q2 := hr2.cell (i := 2) rfl
  clear hb0 hr0 hs0 hl0 hb2'
  have hb3 : Below w.heap.size w (((w2.alloc (Obj.cells #[Value.int IntKind.i64 op, Value.int IntKind.i64 n, Value.slice A k.len c] 36)).alloc (Obj.cells #[Value.pointer (some ⟨w2.heap.size, 0, none⟩)] 117)).alloc (Obj.map #[] 0)) :=
    ((hb2.alloc hb2.size _).alloc (by simp; omega) _).alloc (by simp; omega) _
  have rR : Row (((w2.alloc (Obj.cells #[Value.int IntKind.i64 op, Value.int IntKind.i64 n, Value.slice A k.len c] 36)).alloc (Obj.cells #[Value.pointer (some ⟨w2.heap.size, 0, none⟩)] 117)).alloc (Obj.map #[] 0)) w2.heap.size 36 #[Value.int IntKind.i64 op, Value.int IntKind.i64 n, Value.slice A k.len c] :=
    ((Row.fresh _ _ _).alloc _).alloc _
  have rL : Row (((w2.alloc (Obj.cells #[Value.int IntKind.i64 op, Value.int IntKind.i64 n, Value.slice A k.len c] 36)).alloc (Obj.cells #[Value.pointer (some ⟨w2.heap.size, 0, none⟩)] 117)).alloc (Obj.map #[] 0)) (w2.heap.size + 1) 117 #[Value.pointer (some ⟨w2.heap.size, 0, none⟩)] := by
    have := Row.fresh (w2.alloc (Obj.cells #[Value.int IntKind.i64 op, Value.int IntKind.i64 n, Value.slice A k.len c] 36)) 117 #[Value.pointer (some ⟨w2.heap.size, 0, none⟩)]
    rw [World.size_alloc] at this
    exact this.alloc _
  have pm : PM (((w2.alloc (Obj.cells #[Value.int IntKind.i64 op, Value.int IntKind.i64 n, Value.slice A k.len c] 36)).alloc (Obj.cells #[Value.pointer (some ⟨w2.heap.size, 0, none⟩)] 117)).alloc (Obj.map #[] 0)) (w2.heap.size + 1 + 1) [] := by
    refine ⟨#[], 0, ?_, rfl⟩
    have := heap_alloc_new ((w2.alloc (Obj.cells #[Value.int IntKind.i64 op, Value.int IntKind.i64 n, Value.slice A k.len c] 36)).alloc (Obj.cells #[Value.pointer (some ⟨w2.heap.size, 0, none⟩)] 117)) (Obj.map #[] 0)
    simpa using this
  have hz3 : (((w2.alloc (Obj.cells #[Value.int IntKind.i64 op, Value.int IntKind.i64 n, Value.slice A k.len c] 36)).alloc (Obj.cells #[Value.pointer (some ⟨w2.heap.size, 0, none⟩)] 117)).alloc (Obj.map #[] 0)).heap.size = w2.heap.size + 1 + 1 + 1 := by simp
  have hzz := hb2.size
  have H3 := Lib.hid hb3
  have HR3 := Lib.hid rR
  have HL3 := Lib.hid rL
  have HP3 := Lib.hid pm
  have HZ3 := Lib.hid hz3
  clear hb3 rR rL pm hz3
  go_wp2_with fail
  generalize ((w2.alloc (Obj.cells #[Value.int IntKind.i64 op, Value.int IntKind.i64 n, Value.slice A k.len c] 36)).alloc (Obj.cells #[Value.pointer (some ⟨w2.heap.size, 0, none⟩)] 117)).alloc (Obj.map #[] 0) = w3 at *
  have hl3 : Lies w3 L B A 0 k := hl.below (H3.out.mono hB)
  have hal3 : PlainF w3 B A 0 k := hal.below H3.out hB
  obtain ⟨G, gnd, hpu, hpot⟩ := start_graph (w3 := w3) (gL := w2.heap.size + 1) (p := ⟨w2.heap.size, 0, none⟩) rfl hl3 hal3 (by omega) (Nat.lt_succ_self _) ⟨_, _, HR3.out⟩ (HR3.out.cell (i := 0) rfl) (HR3.out.cell (i := 1) rfl) (HR3.out.cell (i := 2) rfl) hk1 hk2
  have sea0 : Sea w3 G (w2.heap.size + 1) [⟨w2.heap.size, 0, none⟩] [] (.slice (some ⟨w2.heap.size + 1, 0, none⟩) 1 1) w3 :=
    ⟨⟨rfl, .inr ⟨_, 1, _, rfl, Nat.le_refl _, HL3.out, Nat.le_refl _, by decide, rfl, rfl⟩⟩, HP3.out, Below.refl _ _, by rw [HZ3.out]; omega⟩
  have inv0 := start_inv hpu
  go_loopg [4] (pot G [⟨w2.heap.size, 0, none⟩] []) (fun gk v wr => ∃ st es, gk = pot G st es ∧ gk ≤ 2097154 ∧ Sea w3 G (w2.heap.size + 1) st es v wr ∧ DInv G st es)
  case atStart => exact ⟨_, _, rfl, by omega, sea0, inv0⟩
  case round =>
    clear sea0 inv0
    obtain ⟨st, es, hgk, hgm, hsea, hinv⟩ := hrel
    have hbw : Below w.heap.size w wr := H3.out.trans (hsea.below.mono (by omega))
    rcases List.eq_nil_or_concat st with rfl | ⟨st', x, hst⟩
    · rcases hsea.own.2 with ⟨rfl, _⟩ | ⟨g, cap, cur, rfl, _⟩
      all_goals
        clear hsea hinv hgk
        go_wp2
        go_ret
        exact ⟨rfl, hbw⟩
    · rw [List.concat_eq_append] at hst
      subst hst
      rcases hsea.own.2 with ⟨_, h0⟩ | ⟨g, cap, cur, hv, hgg, hgh, hgn, hgc, hgs, hgt⟩
      · simp at h0
      rw [List.length_append] at hv hgn hgt
      simp only [List.length_singleton] at hv hgn hgt
      subst hv
      have hpot := hgm
      have hxu : x ∈ G.univ := hinv.stack x (by simp)
      have hlen : st'.length + 1 ≤ 2097154 := by
        have : (st' ++ [x]).length ≤ pot G (st' ++ [x]) es := Nat.le_add_right _ _
        simp at this
        omega
      have hctop : wr.cell? ⟨g, st'.length, none⟩ = some (.pointer (some x)) := by
        refine (cell_of_row wr g st'.length cur _ _ hgh).trans ?_
        have h1 : (cur.toList.take ((st'.length + 1) * 1))[st'.length]? = (ptrs (st' ++ [x]))[st'.length]? := by rw [hgt]
        rw [List.getElem?_take_of_lt (by omega), Array.getElem?_toList] at h1
        rw [h1]
        simp [ptrs]
      have hons : ∀ p ∈ es, OnRow wr p.1 := by
        intro p hp
        have h1 : (look es p.1).isSome = true := by
          cases hq : look es p.1 with
          | some _ => rfl
          | none =>
            unfold look at hq
            rw [Option.map_eq_none_iff, List.find?_eq_none] at hq
            have h9 := hq p hp
            simp at h9
        obtain ⟨h2, h3⟩ := gnd.on p.1 (hinv.marks _ h1)
        exact h2.below hsea.below h3
      obtain ⟨hxo, hxb⟩ := gnd.on x hxu
      have hxo' := hxo.below hsea.below hxb
      obtain ⟨jT, hjT, hjz⟩ : ∃ j, Tryz.prog.info? 36 = some j ∧ j.size ≠ 0 := by
        obtain ⟨i, hi, _, hz1, _⟩ := info_parts (show (Tryz.prog.info? 36).map (fun i => (i.zero, i.size, i.bytes)) = some (some (.agg #[.int .i64 0, .int .i64 0, .slice Option.none 0 0]), 3, 40) by kernel_rfl)
        exact ⟨i, hi, by rw [hz1]; decide⟩
      have hlk := pm_lookup (P := Tryz.prog) Tryz.underlying119 Tryz.underlying117 hjT hjz (by kernel_rfl) hsea.pm hons hxo'
      have HT := Lib.hid hgt
      have HH := Lib.hid hgh
      have HS := Lib.hid hgs
      have HGK := Lib.hid hgk
      clear hgt hgh hgs hgk
      cases hlook : look es x with
      | some b =>
        rw [hlook] at hlk
        simp only [Option.getD_some, Option.isSome_some] at hlk
        obtain ⟨wu, hup, hpm2, hbut⟩ := pm_update (P := Tryz.prog) Tryz.underlying119 Tryz.underlying117 hjT hjz hsea.pm hons hxo' true
        have HLK := Lib.hid hlook
        clear hlook
        have HB := Lib.hid hbut
        have HE := Lib.hid hmm
        have HPM2 := Lib.hid hpm2
        clear hmm hbut hpm2
        go_wp2
        have hne := row_ne_map HH.out hsea.pm
        have sea2 : Sea w3 G (w2.heap.size + 1) st' (put es x true) (.slice (some ⟨g, 0, none⟩) st'.length cap) wu :=
          ⟨⟨by simp [ptrs], .inr ⟨g, cap, cur, rfl, hgg, (HB.out.2.2.2.2 g hne).trans HH.out, by omega, hgc, HS.out, take_ptrs HT.out⟩⟩, HPM2.out, hsea.below.trans (HB.out.below (by omega)), by rw [HB.out.2.2.2.1]; exact hsea.size⟩
        have inv2 := hinv.pop (by rw [HLK.out]; simp)
        have pot2 := pot_pop (G := G) (st := st') (es := es) (x := x)
        rw [← HGK.out] at pot2
        go_roundg (pot G st' (put es x true))
        case measure => omega
        case rel => exact ⟨_, _, rfl, by omega, sea2, inv2⟩
      | none =>
        rw [hlook] at hlk
        simp only [Option.getD_none, Option.isSome_none] at hlk
        obtain ⟨wu, hup, hpm2, hbut⟩ := pm_update (P := Tryz.prog) Tryz.underlying119 Tryz.underlying117 hjT hjz hsea.pm hons hxo' false
        obtain ⟨hinv2, hkids⟩ := hinv.expand hlook
        have pot2 := pot_expand hinv hlook
        rw [← HGK.out] at pot2
        have hne := row_ne_map HH.out hsea.pm
        have sea2 : Sea w3 G (w2.heap.size + 1) (st' ++ [x]) (put es x false) (.slice (some ⟨g, 0, none⟩) (st'.length + 1) cap) wu :=
          ⟨⟨by simp [ptrs], .inr ⟨g, cap, cur, by simp, hgg, (hbut.2.2.2.2 g hne).trans HH.out, by simp; omega, hgc, HS.out, by simpa using HT.out⟩⟩, hpm2, hsea.below.trans (hbut.below (by omega)), by rw [hbut.2.2.2.1]; exact hsea.size⟩
        obtain ⟨hspot, KA, kn, kc, hkn, hkc, hkcell, hkid, hkA⟩ := gnd.kids x hxu
        obtain ⟨xb, xo, xs⟩ := x
        simp only at hspot hxb hkcell
        subst hspot
        have hkl : (G.kid ⟨xb, xo, none⟩).length ≤ kn := by rw [hkid]; exact length_kidsAt_le _ _
        have hkl2 : (G.kid ⟨xb, xo, none⟩).length = kn := by
          rw [hkid]
          rcases Nat.eq_zero_or_pos kn with h0 | h0
          · subst h0; have := length_kidsAt_le KA 0; omega
          · obtain ⟨b, o, rfl⟩ := hkA h0; simp [addrRow]
        have xc : wu.cell? ⟨xb, xo + 2, none⟩ = some (.slice KA kn kc) := ((hbut.below (B := w2.heap.size + 1) (by omega)).cell hxb).trans ((hsea.below.cell hxb).trans hkcell)
        have hkcell' : ∀ wi, Below (w2.heap.size + 1) w3 wi → wi.cell? ⟨xb, xo + 2, none⟩ = some (.slice KA kn kc) := fun wi hi => (hi.cell hxb).trans hkcell
        have hm63 : kn ≤ 9223372036854775807 := by have := hkc; unfold maxLen at this; omega
        have HSEA2 := Lib.hid sea2
        have HINV2 := Lib.hid hinv2
        have HKIDS := Lib.hid hkids
        have HPOT2 := Lib.hid pot2
        have HKC := Lib.hid hkcell'
        have HKID := Lib.hid hkid
        have HKL := Lib.hid hkl2
        clear hmm hbut hpm2 sea2 hinv2 hkids pot2 hkcell' hkid hkl hkl2 hlook hkcell
        go_wp2_with fail
        clear hup xc hlk hctop
        go_loopw [4, 48] (fun v i wi => ∃ (j : Nat) (ks : List Addr), j ≤ kn ∧ i = .int .i64 j ∧ ks.length ≤ j ∧ Sea w3 G (w2.heap.size + 1) (st' ++ [⟨xb, xo, none⟩] ++ ks) (put es ⟨xb, xo, none⟩ false) v wi ∧ DInv2 G (st' ++ [⟨xb, xo, none⟩] ++ ks) (put es ⟨xb, xo, none⟩ false) ⟨xb, xo, none⟩)
          (fun _ i _ => kn - (intOf i).toNat)
        case atStart => exact ⟨0, [], by omega, rfl, by simp, by simpa using HSEA2.out, by simpa using HINV2.out⟩
        case round =>
          obtain ⟨j, ks, hj, rfl, hks, hsi, hii⟩ := hrel
          have xc := HKC.out _ hsi.below
          have HII := Lib.hid hii
          by_cases hlt : j < kn
          · obtain ⟨b, o, rfl⟩ := hkA (by omega)
            have hy : (⟨b, o + j * 3, none⟩ : Addr) ∈ G.kid ⟨xb, xo, none⟩ := by
              rw [HKID.out]
              exact List.mem_map.2 ⟨j, List.mem_range.2 hlt, rfl⟩
            have hyu := (G.closed _ hxu _ hy).1
            obtain ⟨hyo, hyb⟩ := gnd.on _ hyu
            have hyo' := hyo.below hsi.below hyb
            have hons2 : ∀ p ∈ put es ⟨xb, xo, none⟩ false, OnRow wr p.1 := by
              intro p hp
              have h1 : (look (put es ⟨xb, xo, none⟩ false) p.1).isSome = true := by
                cases hq : look (put es ⟨xb, xo, none⟩ false) p.1 with
                | some _ => rfl
                | none =>
                  unfold look at hq
                  rw [Option.map_eq_none_iff, List.find?_eq_none] at hq
                  have h9 := hq p hp
                  simp at h9
              obtain ⟨h2, h3⟩ := gnd.on p.1 (HII.out.marks _ h1)
              exact h2.below hsi.below h3
            have hlk := pm_lookup (P := Tryz.prog) Tryz.underlying119 Tryz.underlying117 hjT hjz (by kernel_rfl) hsi.pm hons2 hyo'
            have HT2 := Lib.hid hsi
            have hnf := HKIDS.out _ hy
            cases hlook : look (put es ⟨xb, xo, none⟩ false) ⟨b, o + j * 3, none⟩ with
            | some d =>
              cases d with
              | false => exact absurd hlook hnf
              | true =>
                rw [hlook] at hlk
                simp only [Option.getD_some, Option.isSome_some] at hlk
                clear hsi hnf hlook
                go_wp2
                go_roundw
                case rel => exact ⟨j + 1, ks, by omega, by go_num, by omega, HT2.out, HII.out⟩
                case measure => simp [intOf]; omega
            | none =>
              rw [hlook] at hlk
              simp only [Option.getD_none, Option.isSome_none] at hlk
              clear hnf hlook
              obtain ⟨iT, hiT, hiz0, hiz1, hiz2⟩ := info_parts (show (Tryz.prog.info? 117).map (fun i => (i.zero, i.size, i.bytes)) = some (some (.pointer none), 1, 8) by kernel_rfl)
              have hown := hsi.own
              have hslen : (st' ++ [(⟨xb, xo, none⟩ : Addr)] ++ ks).length ≤ 2097154 := by
                have h1 := HPOT2.out
                have h2 := HKL.out
                have h3 : (st' ++ [(⟨xb, xo, none⟩ : Addr)]).length ≤ pot G (st' ++ [⟨xb, xo, none⟩]) (put es ⟨xb, xo, none⟩ false) := Nat.le_add_right _ _
                rw [List.length_append]
                omega
              have hsz1 := hsi.size
              have HOWN := Lib.hid (hown.alloc (.cells #[Value.pointer (some ⟨b, o + j * 3, none⟩)] 117))
              clear hsi hown
              go_wp2_with (at_builtin; refine wpList_append_own _ rfl _ _ 118 rfl (w2.heap.size + 1) 117 iT (.pointer none) 1 8 Tryz.underlying118 hiT hiz0 hiz1 hiz2 rfl (by decide) _ _ _ rfl HOWN.out ⟨wr.heap.size, 0, none⟩ 1 1 [.pointer (some ⟨b, o + j * 3, none⟩)] rfl rfl ?c1 ?c2 ?c3 ?c4 ?c5 ?_)
              case c2 => rfl
              case c3 => simp [maxLen] at hslen ⊢; omega
              case c4 => simp at hslen ⊢; omega
              case c5 => omega
              intro v' w1 h1 h2 h3
              have hb1 : Below (w2.heap.size + 1) w3 w1 := by
                refine (HT2.out.below.alloc (by omega) _).grown h2 (by simp; omega) fun g' hg' => ?_
                rcases HT2.out.own.2 with ⟨rfl, _⟩ | ⟨g2, _, _, rfl, hgg2, _⟩
                · simp [Value.ownBlock] at hg'
                · have : g2 = g' := by simpa [Value.ownBlock] using hg'
                  omega
              have hpm1 : PM w1 (w2.heap.size + 1 + 1) (put es ⟨xb, xo, none⟩ false) := by
                obtain ⟨ents, clock, hh, hm⟩ := HT2.out.pm
                refine ⟨ents, clock, ?_, hm⟩
                rw [h2.block _ (by simp; omega) ?_]
                · rw [Below.heap_alloc _ _ _ (by omega)]
                  exact hh
                · rcases HT2.out.own.2 with ⟨rfl, _⟩ | ⟨g2, _, _, rfl, hgg2, hgh2, _⟩
                  · simp [Value.ownBlock]
                  · have := row_ne_map hgh2 HT2.out.pm
                    simp [Value.ownBlock]
                    omega
              have sea4 : Sea w3 G (w2.heap.size + 1) (st' ++ [⟨xb, xo, none⟩] ++ (ks ++ [⟨b, o + j * 3, none⟩])) (put es ⟨xb, xo, none⟩ false) v' w1 := by
                refine ⟨?_, hpm1, hb1, ?_⟩
                · simpa [ptrs, Nat.add_assoc] using h1
                · have := h2.size
                  simp at this
                  omega
              have inv4 := HII.out.push hxu hy
              rw [List.append_assoc] at inv4
              have SEA4 := Lib.hid sea4
              have INV4 := Lib.hid inv4
              clear h1 h2 h3 hb1 hpm1 sea4 inv4
              go_wp2
              go_roundw
              case rel => exact ⟨j + 1, ks ++ [(⟨b, o + j * 3, none⟩ : Addr)], by omega, by go_num, by simp; omega, SEA4.out, INV4.out⟩
              case measure => simp [intOf]; omega
          · have hjk : j = kn := by omega
            have HT2 := Lib.hid hsi
            clear hsi
            go_wp2
            go_roundg (pot G (st' ++ [⟨xb, xo, none⟩] ++ ks) (put es ⟨xb, xo, none⟩ false))
            case measure =>
              have h1 := HPOT2.out
              have h2 := HKL.out
              have h3 : pot G (st' ++ [⟨xb, xo, none⟩] ++ ks) (put es ⟨xb, xo, none⟩ false) = pot G (st' ++ [⟨xb, xo, none⟩]) (put es ⟨xb, xo, none⟩ false) + ks.length := by unfold pot; rw [List.length_append]; omega
              omega
            case rel =>
              refine ⟨_, _, rfl, ?_, HT2.out, HII.out.toDInv⟩
              have h1 := HPOT2.out
              have h2 := HKL.out
              have h3 : pot G (st' ++ [⟨xb, xo, none⟩] ++ ks) (put es ⟨xb, xo, none⟩ false) = pot G (st' ++ [⟨xb, xo, none⟩]) (put es ⟨xb, xo, none⟩ false) + ks.length := by unfold pot; rw [List.length_append]; omega
              omega

/-- What is too large for an expression lies in plain rows. -/
def RowsIf (w : World) (B : Nat) (A : Option Addr) (k : Fo) : Prop := smallOk k 14 80 = false → PlainF w B A 0 k
theorem RowsIf.below {w w' : World} {B C : Nat} {A : Option Addr} {k : Fo} (h : RowsIf w B A k) (hb : Below C w w') (hC : B ≤ C) : RowsIf w' B A k := fun hs => (h hs).below hb hC
theorem RowsIf.small {w : World} {B : Nat} {A : Option Addr} {k : Fo} (h : smallOk k 14 80 = true) : RowsIf w B A k := fun hs => by rw [h] at hs; cases hs
theorem RowsIf.of {w : World} {L B : Nat} {A : Option Addr} {k : Fo} (h : Lies w L B A 0 k) (hal : AllRows w L B) : RowsIf w B A k := fun _ => plain_of hal h

set_option maxHeartbeats 1000000 in
theorem endless_r (op n : Int) (k : Fo) (A : Option Addr) (c L B : Nat) (w : World) (hl : Lies w L B A 0 k) (hB : B ≤ w.heap.size) (hal : RowsIf w B A k) (hk1 : k.len ≤ c) (hk2 : c ≤ maxLen) (hsz : k.size ≤ 1048576) :
    Calls Tryz.prog 67 #[.agg #[.int .i64 op, .int .i64 n, .slice A k.len c]] w (Gives (.bool false) w) := by
  cases hsm : smallOk k 14 80 with
  | false => exact endless_big op n k A c L B w hl hB (hal hsm) hk1 hk2 hsz hsm
  | true =>
    have hb0 : Below w.heap.size w (w.alloc (Obj.cells #[Value.int IntKind.i64 op, Value.int IntKind.i64 n, Value.slice A k.len c] 36)) := (Below.refl _ _).alloc (Nat.le_refl _) _
    have hl0 := (hl.mono_ (Nat.zero_le _) hB).below hb0
    go_enter Tryz.func67, Tryz.ntmps67
    go_wp2_with fail
    refine (withinLimits_any op n k A c _ (hl0.mono_ (Nat.le_refl _) hb0.size) (by omega)).mono ?_
    rintro e w2 ⟨rfl, hb2'⟩
    rw [hsm]
    have hb2 := hb0.trans (hb2'.mono hb0.size)
    clear hb0 hl0 hb2'
    go_wp2
    go_ret
    exact ⟨rfl, hb2⟩
theorem endless_any (op n : Int) (k : Fo) (A : Option Addr) (c L B : Nat) (w : World) (hl : Lies w L B A 0 k) (hB : B ≤ w.heap.size) (hal : AllRows w L B) (hk1 : k.len ≤ c) (hk2 : c ≤ maxLen) (hsz : k.size ≤ 1048576) :
    Calls Tryz.prog 67 #[.agg #[.int .i64 op, .int .i64 n, .slice A k.len c]] w (Gives (.bool false) w) :=
  endless_r op n k A c L B w hl hB (.of hl hal) hk1 hk2 hsz
end Go.Proofs.YtpknegneogdmfaaGreat
