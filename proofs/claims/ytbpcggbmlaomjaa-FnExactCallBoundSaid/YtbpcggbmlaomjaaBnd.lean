/-
  Bounds for the number of calls, as data: the model's table, and what an ending function comes to.
  impl.bounding: sum, boundOfAll, boundOfBody, bound.
  impl.CallBound.
  spec.l5Bound, spec.l5Table and spec.CallBound.
  spec.l5Table and spec.CallBound.
-/
import Derived.Test.YtbpcggbmlaomjaaPureDD
import Derived.Test.YtbpcggbmlaomjaaDefsBy
import Derived.Test.YtbpcggbmlaomjaaNodesI
import Derived.Test.YtbpcggbmlaomjaaVars
import Derived.Deep.RegionHeld3
import Derived.Test.YtbpcggbmlaomjaaSets
import Derived.Test.YtbpcggbmlaomjaaLibVI
import Derived.Test.YtbpcggbmlaomjaaIsPureS
import Derived.Lib.AppendZeros
namespace Go.Proofs.Ytbpcggbmlaomjaa
open Go.RowKit
set_option maxRecDepth 100000

def sumL (zs : List Nat) : Nat := zs.foldr (· + ·) 0
/-- The bound of a node, given those of its Kids; tb: the bounds of the bodies; M: stands for all that is too great. -/
def bndN (tb : Int → Nat) (M : Nat) (op n : Int) (zs : List Nat) : Nat :=
  min (if op = 6 then zs.getD 0 0 + max (zs.getD 1 0) (zs.getD 2 0) else sumL zs + (if op = 3 then 1 + tb n else 0)) M
def bndL (tb : Int → Nat) (M : Nat) : Fo → List Nat
  | .nil => []
  | .cons op n k r => bndN tb M op n (bndL tb M k) :: bndL tb M r
def bnd (tb : Int → Nat) (M : Nat) (op n : Int) (k : Fo) : Nat := bndN tb M op n (bndL tb M k)
theorem bndL_cons {tb : Int → Nat} {M : Nat} {f : Fo} {op n : Int} {k r : Fo} (e : f = .cons op n k r) : bndL tb M f = bnd tb M op n k :: bndL tb M r := by subst e; rfl
theorem bnd_le (tb : Int → Nat) (M : Nat) (op n : Int) (k : Fo) : bnd tb M op n k ≤ M := Nat.min_le_right _ _
theorem bndL_at {tb : Int → Nat} {M : Nat} : ∀ {k : Fo} {j : Nat} {o m : Int} {k' r : Fo}, k.drop j = .cons o m k' r → (bndL tb M k).getD j 0 = bnd tb M o m k'
  | .nil, j, _, _, _, _, h => by rw [Fo.drop_nil] at h; cases h
  | .cons o' m' k2 r2, 0, o, m, k', r, h => by
    simp only [Fo.drop, Fo.cons.injEq] at h
    obtain ⟨rfl, rfl, rfl, rfl⟩ := h
    rfl
  | .cons o' m' k2 r2, j + 1, o, m, k', r, h => by
    have := bndL_at (tb := tb) (M := M) (k := r2) (j := j) (by simpa [Fo.drop] using h)
    rw [bndL_cons rfl]
    simpa using this
theorem sumL_nil : sumL [] = 0 := rfl
theorem sumL_cons (a : Nat) (r : List Nat) : sumL (a :: r) = a + sumL r := rfl
theorem sumL_snoc (zs : List Nat) (a : Nat) : sumL (zs ++ [a]) = sumL zs + a := by
  induction zs with
  | nil => simp [sumL]
  | cons x r ih => rw [List.cons_append, sumL_cons, sumL_cons, ih]; omega
theorem bnd_if {tb : Int → Nat} {M : Nat} {n : Int} {k : Fo} {o0 m0 o1 m1 o2 m2 : Int} {k0 k1 k2 r0 r1 r2 : Fo} (e0 : k.drop 0 = .cons o0 m0 k0 r0) (e1 : k.drop 1 = .cons o1 m1 k1 r1) (e2 : k.drop 2 = .cons o2 m2 k2 r2) :
    bnd tb M 6 n k = min (bnd tb M o0 m0 k0 + max (bnd tb M o1 m1 k1) (bnd tb M o2 m2 k2)) M := by
  rw [bnd, bndN, if_pos rfl, bndL_at e0, bndL_at e1, bndL_at e2]
theorem bnd_call {tb : Int → Nat} {M : Nat} {n : Int} {k : Fo} : bnd tb M 3 n k = min (sumL (bndL tb M k) + (1 + tb n)) M := by
  rw [bnd, bndN, if_neg (by decide), if_pos rfl]
theorem bnd_other {tb : Int → Nat} {M : Nat} {op n : Int} {k : Fo} (h6 : op ≠ 6) (h3 : op ≠ 3) : bnd tb M op n k = min (sumL (bndL tb M k)) M := by
  rw [bnd, bndN, if_neg h6, if_neg h3, Nat.add_zero]

/-- It hangs on what is called alone. -/
theorem bndL_congr {tb tb' : Int → Nat} {M : Nat} : ∀ (k : Fo), wellF k = true → (∀ c : Nat, callF k c = true → tb (c : Int) = tb' (c : Int)) → bndL tb M k = bndL tb' M k
  | .nil, _, _ => rfl
  | .cons op n k r, hw, h => by
    rw [wellF_cons rfl, Bool.and_eq_true] at hw
    have ih1 := bndL_congr (M := M) k (wellN_kids hw.1) (fun c hc => h c (by rw [callF_cons rfl]; unfold callB; simp [hc]))
    have ih2 := bndL_congr (M := M) r hw.2 (fun c hc => h c (by rw [callF_cons rfl]; simp [hc]))
    rw [bndL_cons rfl, bndL_cons rfl, ih2]
    congr 1
    unfold bnd
    rw [ih1]
    unfold bndN
    by_cases h6 : op = 6
    · rw [if_pos h6, if_pos h6]
    · rw [if_neg h6, if_neg h6]
      by_cases h3 : op = 3
      · subst h3
        have hn := inVar_nat (wellN_call hw.1)
        have h4 := h n.toNat (by rw [callF_cons rfl]; unfold callB ownCall; simp [hn.1])
        rw [hn.1] at h4
        rw [if_pos rfl, if_pos rfl, h4]
      · rw [if_neg h3, if_neg h3]
theorem bnd_congr {tb tb' : Int → Nat} {M : Nat} {op n : Int} {k : Fo} (hw : wellN op n k = true) (h : ∀ c : Nat, callB ⟨op, n, k⟩ c = true → tb (c : Int) = tb' (c : Int)) : bnd tb M op n k = bnd tb' M op n k := by
  have h1 := bndL_congr (tb := tb) (tb' := tb') (M := M) (.cons op n k .nil) (by rw [wellF_cons rfl, hw]; rfl) (fun c hc => h c (by rw [callF_cons rfl] at hc; simpa [callF] using hc))
  rw [bndL_cons rfl, bndL_cons rfl] at h1
  exact (List.cons.inj h1).1

/-- The model's table after some rounds. -/
def tabR (ds : List De) (M : Nat) : Nat → Int → Nat
  | 0, _ => 0
  | r + 1, x => match fnd x ds with | some d => bnd (tabR ds M r) M d.op d.n d.k | none => 0
theorem tabR_at {ds : List De} {M r : Nat} {x : Int} {d : De} (h : fnd x ds = some d) : tabR ds M (r + 1) x = bnd (tabR ds M r) M d.op d.n d.k := by
  unfold tabR; rw [h]
theorem lib_well {ds : List De} (h : libOk ds = true) {d : De} (hd : d ∈ ds) : wellN d.op d.n d.k = true := by
  unfold libOk at h
  rw [Bool.and_eq_true] at h
  obtain ⟨_, hb, _⟩ := okL_named ds none h.2 d hd
  unfold bodyOk at hb
  rw [Bool.and_eq_true] at hb
  exact well_is hb.1
/-- The table stands still at what ends. -/
theorem tab_stable {ds : List De} (h : libOk ds = true) (M m : Nat) : ∀ (f : Nat), behind ds f = m → Ends ds f → (∃ d, fnd (f : Int) ds = some d) → ∀ r, m + 1 ≤ r → tabR ds M r (f : Int) = tabR ds M (m + 1) (f : Int) := by
  induction m using Nat.strongRecOn with
  | _ m ih =>
    intro f hm he hf r hr
    obtain ⟨d, hd⟩ := hf
    obtain ⟨hdm, hdx⟩ := there_mem h hd
    obtain ⟨r', rfl⟩ : ∃ r', r = r' + 1 := ⟨r - 1, by omega⟩
    rw [tabR_at hd, tabR_at hd]
    refine bnd_congr (lib_well h hdm) fun c hc => ?_
    have hec : edge ds f c = true := by rw [edge_at hd]; exact hc
    have hlt := behind_lt h he hec
    have hcx := edge_there h hec
    rw [ih _ (by omega) c rfl (he.call hec) hcx r' (by omega), ih _ (by omega) c rfl (he.call hec) hcx m (by omega)]
theorem behind_len {ds : List De} (h : libOk ds = true) {f : Nat} (he : Ends ds f) (hf : ∃ d, fnd (f : Int) ds = some d) : behind ds f + 1 ≤ ds.length := by
  obtain ⟨d, hd⟩ := hf
  obtain ⟨hdm, hdx⟩ := there_mem h hd
  have h1 : cnt8 (fromS ds d.op d.n d.k) ds < cnt8 (fun _ => true) ds := cnt8_lt (fun _ _ => rfl) ds d hdm (by
    cases hb : fromS ds d.op d.n d.k d.nm.toNat with
    | false => rfl
    | true =>
      obtain ⟨c, h1, h2⟩ := set_split ((from_body h hdm _).1 hb)
      rw [hdx] at h2
      exact absurd h2 (he f (rch_just f) c (by rw [edge_at hd]; exact h1))) rfl
  have h2 := cnt8_le (fun _ => true) ds
  unfold behind
  rw [hd]
  dsimp only
  omega
/-- What the table comes to: at an ending function it is the bound of its body. -/
def tabE (ds : List De) (M : Nat) (x : Int) : Nat := tabR ds M ds.length x
theorem tabE_at {ds : List De} (h : libOk ds = true) (M : Nat) {f : Nat} (he : Ends ds f) {d : De} (hd : fnd (f : Int) ds = some d) : tabE ds M (f : Int) = bnd (tabE ds M) M d.op d.n d.k := by
  have h1 := tab_stable h M _ f rfl he ⟨d, hd⟩ ds.length (behind_len h he ⟨d, hd⟩)
  have h2 := tab_stable h M _ f rfl he ⟨d, hd⟩ (ds.length + 1) (by have := behind_len h he ⟨d, hd⟩; omega)
  unfold tabE
  rw [h1, ← h2]
  exact tabR_at hd

/-- Is all that is called, also within functions, ending? -/
def endsB (ds : List De) (op n : Int) (k : Fo) : Bool := ds.all fun d => !(fromS ds op n k d.nm.toNat && !endingS ds d.nm)
theorem ends_iff {ds : List De} (h : libOk ds = true) {op n : Int} {k : Fo} (hf : callsFitB ds op n k = true) : endsB ds op n k = true ↔ ∀ c, callB ⟨op, n, k⟩ c = true → Ends ds c := by
  unfold endsB
  rw [List.all_eq_true]
  constructor
  · intro h1 c hc
    obtain ⟨d, hd⟩ := rch_there h hf c (.base hc)
    obtain ⟨hm, hx⟩ := there_mem h hd
    have h2 := h1 d hm
    rw [hx, (fromS_iff h hf c).2 (.base hc)] at h2
    have h3 : endingS ds d.nm = true := by simpa using h2
    rw [← hx]
    exact (ending_iff h hm).1 h3
  · intro h1 d hd
    cases h2 : fromS ds op n k d.nm.toNat with
    | false => rfl
    | true =>
      have h3 : endingS ds d.nm = true := by
        rw [ending_iff h hd]
        obtain ⟨c, hc, hr⟩ := set_split ((fromS_iff h hf _).1 h2)
        intro g hg
        exact h1 c hc g (just_in hr hg)
      rw [h3]
      rfl
/-- The program's test. -/
theorem ends_is {ds : List De} (h : libOk ds = true) {op n : Int} {k : Fo} (hf : callsFitB ds op n k = true) : endsB ds op n k = allT (endingT ds) (numsUpto (callB ⟨op, n, k⟩) 8) := by
  rw [Bool.eq_iff_iff, ends_iff h hf, allT_iff]
  constructor
  · intro h1 c _ hc
    obtain ⟨d, hd⟩ := rch_there h hf c (.base hc)
    obtain ⟨hm, hx⟩ := there_mem h hd
    rw [← hx, endingT_at h hm, ending_iff h hm, hx]
    exact h1 c hc
  · intro h1 c hc
    obtain ⟨d, hd⟩ := rch_there h hf c (.base hc)
    obtain ⟨hm, hx⟩ := there_mem h hd
    have h2 := h1 c (by have := (inVar_nat (libOk_named h d hm).1).2; omega) hc
    rw [← hx, endingT_at h hm, ending_iff h hm, hx] at h2
    exact h2

/-- The answer of CallBound. -/
def boundOk (ds : List De) (op n : Int) (k : Fo) (most : Int) : Bool :=
  (libOk ds && callsFitB ds op n k) && (decide (0 ≤ most) && decide (most ≤ 200)) && (endsB ds op n k && decide (bnd (tabE ds (most.toNat + 1)) (most.toNat + 1) op n k ≤ most.toNat))
def boundV (ds : List De) (op n : Int) (k : Fo) (most : Int) : Nat := if boundOk ds op n k most = true then bnd (tabE ds (most.toNat + 1)) (most.toNat + 1) op n k else 0
/-- The answer as a value. -/
def boundR (ds : List De) (op n : Int) (k : Fo) (most : Int) : Value := .tuple #[.int .i64 (boundV ds op n k most : Nat), .bool (boundOk ds op n k most)]
theorem boundR_no {ds : List De} {op n : Int} {k : Fo} {most : Int} (h : boundOk ds op n k most = false) : boundR ds op n k most = .tuple #[.int .i64 0, .bool false] := by
  unfold boundR boundV
  rw [h]
  rfl

end Go.Proofs.Ytbpcggbmlaomjaa

namespace Go.Proofs.Ytbpcggbmlaomjaa
open Go.RowKit Go.Shelf
set_option maxRecDepth 100000

theorem IM.only {w w' : World} {r g B : Nat} {es : IEnts} (h : IM w r es) (hb : Only g B w w') (hr : r < B) (hne : r ≠ g) : IM w' r es := by
  obtain ⟨ents, clock, h1, h2⟩ := h
  exact ⟨ents, clock, (hb.block r hr hne).trans h1, h2⟩
theorem EntOk.only {w w' : World} {L B g C : Nat} {ds : List De} {es : IEnts} (h : EntOk w L B ds es) (hb : Only g C w w') (hB : B ≤ C) (hg : B ≤ g) : EntOk w' L B ds es :=
  ⟨fun x d h1 h2 => let ⟨A, c, a, b, e⟩ := h.1 x d h1 h2; ⟨A, c, a, b.only hb hB (.inr hg), e⟩, h.2⟩
theorem im_update_only {P : Program} {w : World} {T K E : TypeId} {r : Nat} {es : IEnts} {a : Int} (hT : P.underlying T = some (.map K E)) (hK : P.underlying K = some (.int .i64)) (hm : IM w r es) (ha : ilook es a = none) (v : Value) :
    ∃ w', (Instr.mapUpdate T (.map (some r)) (.int .i64 a) v).run P w = .ok () w' ∧ IM w' r (es ++ [(a, v)]) ∧ Only r w.heap.size w w' := by
  obtain ⟨ents, clock, hh, hm⟩ := hm
  have hrs : r < w.heap.size := (Array.getElem?_eq_some_iff.1 hh).1
  have hbut : ∀ o : Obj, Only r w.heap.size w { w with heap := w.heap.setIfInBounds r o } := fun o =>
    ⟨rfl, rfl, rfl, by simp, fun k _ hk => by simp [Array.getElem?_setIfInBounds_ne (show r ≠ k by omega)]⟩
  have hget : ∀ o : Obj, ({ w with heap := w.heap.setIfInBounds r o } : World).heap[r]? = some o := fun o => by simp [hrs]
  rcases find_int (a := a) ents.toList es 0 hm with ⟨k, v, k1, k2⟩ | ⟨k1, k2⟩
  · rw [ha] at k1; cases k1
  · refine ⟨_, ?_, ⟨ents.push { key := .int .i64 a, val := v, born := clock }, clock + 1, hget _, by simp [hm]⟩, hbut _⟩
    simp [Instr.mapUpdate, run_underlying hT, run_underlying hK, MapKept.run_getObj_map hh, check_int hK, Instr.findKey, k2, MapKept.run_setObj_map _ hh]

/-- What is kept of the bodies: each bound is the right one. -/
def MemoOk (ds : List De) (M : Nat) (ms : IEnts) : Prop := ∀ x u, ilook ms x = some u → u = .int .i64 (tabE ds M x : Nat)
def Grow (ds : List De) (m : Nat) (ms ms' : IEnts) : Prop := ∀ x, ilook ms' x ≠ none → ilook ms x ≠ none ∨ behind ds x.toNat < m
theorem Grow.refl (ds : List De) (m : Nat) (ms : IEnts) : Grow ds m ms ms := fun _ h => .inl h
theorem Grow.trans {ds : List De} {m : Nat} {a b c : IEnts} (h : Grow ds m a b) (k : Grow ds m b c) : Grow ds m a c := fun x hx => (k x hx).elim (h x) .inr
theorem Grow.more {ds : List De} {m m' : Nat} {a b : IEnts} (h : Grow ds m a b) (hm : m ≤ m') : Grow ds m' a b := fun x hx => (h x hx).imp id fun h => by omega

/-- What a bounding has in memory: the functions (rd), the bounds of bodies (rb). -/
structure BE (ds : List De) (M L B rd rb : Nat) (es ms : IEnts) (w : World) : Prop where
  im : IM w rd es
  ent : EntOk w L B ds es
  memo : IM w rb ms
  ok : MemoOk ds M ms
theorem BE.below {ds : List De} {M L B rd rb : Nat} {es ms : IEnts} {w w' : World} (h : BE ds M L B rd rb es ms w) (hb : Below w.heap.size w w') (hB : B ≤ w.heap.size) : BE ds M L B rd rb es ms w' :=
  ⟨h.im.below hb h.im.lt, h.ent.below (hb.mono hB), h.memo.below hb h.memo.lt, h.ok⟩

/-- The static side: where things lie. -/
structure BS (ds : List De) (M L B rd rb : Nat) : Prop where
  lib : libOk ds = true
  size : sizeD ds ≤ 1048576
  m : M ≤ 201
  rd : rd < rb
  b : B ≤ rb
/-- The post: the bound; what is kept may have grown. -/
def BPost (ds : List De) (M L B rd rb : Nat) (es ms : IEnts) (m v : Nat) (w : World) (x : Ending) (w' : World) : Prop :=
  x = .returned (.int .i64 (v : Int)) ∧ (∃ ms', BE ds M L B rd rb es ms' w' ∧ Grow ds m ms ms') ∧ Only rb w.heap.size w w'
/-- All that is called ends, and reaches less than m. -/
def Lower (ds : List De) (m : Nat) (f : Nat → Bool) : Prop := ∀ c, f c = true → Ends ds c ∧ behind ds c < m ∧ ∃ d, fnd (c : Int) ds = some d
theorem Lower.kid {ds : List De} {m : Nat} : ∀ {k : Fo} {j : Nat} {o n : Int} {k' r : Fo}, Lower ds m (callF k) → k.drop j = .cons o n k' r → Lower ds m (callB ⟨o, n, k'⟩)
  | .nil, j, _, _, _, _, _, h => by rw [Fo.drop_nil] at h; cases h
  | .cons o' m' k2 r2, 0, o, n, k', r, hs, h => by
    simp only [Fo.drop, Fo.cons.injEq] at h
    obtain ⟨rfl, rfl, rfl, rfl⟩ := h
    exact fun c hc => hs c (by rw [callF_cons rfl, hc]; rfl)
  | .cons o' m' k2 r2, j + 1, o, n, k', r, hs, h =>
    Lower.kid (k := r2) (j := j) (fun c hc => hs c (by rw [callF_cons rfl, hc]; exact Bool.or_true _)) (by simpa [Fo.drop] using h)
theorem Lower.kids {ds : List De} {m : Nat} {o n : Int} {k : Fo} (h : Lower ds m (callB ⟨o, n, k⟩)) : Lower ds m (callF k) := fun c hc => h c (by unfold callB; simp [hc])

/-- What bound has to do: at level m, at trees below the size s. -/
def BndOk (ds : List De) (M L B rd rb : Nat) (es : IEnts) (m s : Nat) : Prop := ∀ (op n : Int) (k : Fo) (A : Option Addr) (c : Nat) (w : World) (ms : IEnts), k.size < s → wellN op n k = true → Lower ds m (callB ⟨op, n, k⟩) → BE ds M L B rd rb es ms w → Lies w 0 rb A 0 k → k.len ≤ c → c ≤ maxLen → k.size ≤ 1048576 →
    Calls Try.prog 56 #[.agg #[.map (some rd), .map (some rb), .int .i64 (M : Int)], .agg #[.int .i64 op, .int .i64 n, .slice A k.len c]] w (BPost ds M L B rd rb es ms m (bnd (tabE ds M) M op n k) w)

theorem min_acc (s b M : Nat) : min (min s M + b) M = min (s + b) M := by omega
set_option maxHeartbeats 1000000 in
theorem sum_any (rd rb M a b : Nat) (w : World) (ha : a ≤ 100000000) (hb : b ≤ 100000000) : Calls Try.prog 81 #[.agg #[.map (some rd), .map (some rb), .int .i64 (M : Int)], .int .i64 (a : Int), .int .i64 (b : Int)] w (Gives (.int .i64 (min (a + b) M : Nat)) w) := by
  obtain ⟨hb1, hr1⟩ := one_box w 77 #[Value.map (some rd), Value.map (some rb), Value.int .i64 (M : Int)]
  have q2 := hr1.cell (i := 2) rfl
  have hw : IntKind.i64.wrap ((a : Int) + (b : Int)) = ((a + b : Nat) : Int) := (IntWalk.i64_in _ (by omega)).trans (by omega)
  have HB := Lib.hid hb1
  clear hr1 hb1
  generalize hab : a + b = z at hw
  have HAB := Lib.hid hab
  clear hab
  by_cases hm : z ≤ M
  · have HF := Lib.hid (show min z M = z from Nat.min_eq_left hm)
    have hm2 : (z : Int) ≤ (M : Int) := by omega
    go_enter Try.func81, Try.ntmps81
    go_wp2
    go_ret
    exact ⟨by rw [HF.out]; rfl, HB.out⟩
  · have HF := Lib.hid (show min z M = M from Nat.min_eq_right (by omega))
    have hm2 : ¬ (z : Int) ≤ (M : Int) := by omega
    clear hm
    go_enter Try.func81, Try.ntmps81
    go_wp2
    go_ret
    exact ⟨by rw [HF.out]; rfl, HB.out⟩


set_option maxHeartbeats 4000000 in
theorem boundOfAll_any (ds : List De) (M L B rd rb : Nat) (es : IEnts) (hs : BS ds M L B rd rb) (m s : Nat) (hok : BndOk ds M L B rd rb es m s) (k : Fo) (A : Option Addr) (c : Nat) (w : World) (ms : IEnts) (hks : k.size ≤ s) (hw : wellF k = true) (hlow : Lower ds m (callF k)) (hbe : BE ds M L B rd rb es ms w) (hl : Lies w 0 rb A 0 k) (hsz : k.size ≤ 1048576) :
    Calls Try.prog 83 #[.agg #[.map (some rd), .map (some rb), .int .i64 (M : Int)], .slice A k.len c] w (BPost ds M L B rd rb es ms m (min (sumL (bndL (tabE ds M) M k)) M) w) := by
  have hlen := Fo.len_le_size k
  have hm := hs.m
  have hrbz := hbe.memo.lt
  have hrd := hs.rd
  have hBb := hs.b
  obtain ⟨hb1, hr1⟩ := one_box w 77 #[Value.map (some rd), Value.map (some rb), Value.int .i64 (M : Int)]
  have HB1 := Lib.hid hb1
  have HR1 := Lib.hid hr1
  have HBE := Lib.hid (hbe.below hb1 (Nat.le_trans hBb (Nat.le_of_lt hrbz)))
  have HL := Lib.hid hl
  clear hb1 hr1 hbe hl
  go_enter Try.func83, Try.ntmps83
  go_wp2_with fail
  go_loopw [5, 10] (fun v i wr => ∃ (j s : Nat) (ms' : IEnts), j ≤ k.len ∧ i = .int .i64 j ∧ v = .int .i64 ((min s M : Nat) : Int) ∧ Hid (s + sumL (bndL (tabE ds M) M (k.drop j)) = sumL (bndL (tabE ds M) M k)) ∧ Row wr w.heap.size 77 #[Value.map (some rd), Value.map (some rb), Value.int .i64 (M : Int)] ∧
      BE ds M L B rd rb es ms' wr ∧ Grow ds m ms ms' ∧ Only rb w.heap.size w wr)
    (fun _ i _ => k.len - (intOf i).toNat)
  case atStart => exact ⟨0, 0, ms, Nat.zero_le _, rfl, by simp, Lib.hid (by rw [Fo.drop_zero, Nat.zero_add]), HR1.out, HBE.out, Grow.refl _ _ _, Only.of_below HB1.out⟩
  case round =>
    clear HB1 HR1 HBE
    obtain ⟨j, s', ms', hj, rfl, rfl, HF, hr, hbe, hgr, hon⟩ := hrel
    have hzz := hon.size
    by_cases hlt : j < k.len
    · obtain ⟨o1, m1, k1, e1, s1, _⟩ := Fo.drop_of_lt k j hlt
      have w1 := well_kid hw e1
      have hlw := hlow.kid e1
      have hlr : Lies wr 0 rb A 0 k := HL.out.only hon (Nat.le_of_lt hrbz) (.inr (Nat.le_refl _))
      have hj0 := hlr.at_ j
      rw [Nat.zero_add, e1] at hj0
      obtain ⟨⟨b, o, A1, c1, hA, _, hbB, _, _, g1, g2, g3, h1, h2, l1⟩, _⟩ := hj0
      subst hA
      have HE := Lib.hid (show s' + (bnd (tabE ds M) M o1 m1 k1 + sumL (bndL (tabE ds M) M (k.drop (j + 1)))) = sumL (bndL (tabE ds M) M k) by rw [← HF.out, bndL_cons e1, sumL_cons])
      have hbx := ((Below.refl wr.heap.size wr).alloc (Nat.le_refl _) (Obj.cells #[Value.int .i64 o1, Value.int .i64 m1, Value.slice A1 k1.len c1] 40)).drew
      have HRK := Lib.hid (Row.fresh wr 40 #[Value.int .i64 o1, Value.int .i64 m1, Value.slice A1 k1.len c1]).drew
      have HRX := Lib.hid (hr.below hbx hr.size)
      have hbex := hbe.below hbx (Nat.le_trans hBb (Nat.le_of_lt (Nat.lt_of_lt_of_le hrbz hzz)))
      have HC := Lib.hid (hok o1 m1 k1 A1 c1 _ ms' (by omega) w1 hlw hbex (l1.below (hbx.mono (Nat.le_of_lt (Nat.lt_of_lt_of_le hrbz hzz)))) h1 h2 (by omega))
      have hbl := bnd_le (tabE ds M) M o1 m1 k1
      generalize bnd (tabE ds M) M o1 m1 k1 = bz at HC HE hbl
      have hml : min s' M ≤ M := Nat.min_le_right _ _
      have HSM := Lib.hid (fun W => sum_any rd rb M (min s' M) bz W (by omega) (by omega))
      have HACC := Lib.hid (min_acc s' bz M)
      generalize hq : min s' M = q at HSM HACC hml ⊢
      clear hq
      generalize hq2 : min (q + bz) M = q2 at HSM HACC
      clear hq2
      have HSS := Lib.hid (fun w' (hr1 : Row w' w.heap.size 77 #[Value.map (some rd), Value.map (some rb), Value.int .i64 (M : Int)]) (hr2 : Row w' wr.heap.size 40 #[Value.int .i64 o1, Value.int .i64 m1, Value.slice A1 k1.len c1]) => show w'.cell? ⟨w.heap.size, 0, none⟩ = some (Value.map (some rd)) ∧ w'.cell? ⟨w.heap.size, 1, none⟩ = some (Value.map (some rb)) ∧ w'.cell? ⟨w.heap.size, 2, none⟩ = some (Value.int .i64 (M : Int)) ∧ w'.cell? ⟨wr.heap.size, 0, none⟩ = some (Value.int .i64 o1) ∧ w'.cell? ⟨wr.heap.size, 1, none⟩ = some (Value.int .i64 m1) ∧ w'.cell? ⟨wr.heap.size, 2, none⟩ = some (Value.slice A1 k1.len c1) from
        ⟨hr1.cell (i := 0) rfl, hr1.cell (i := 1) rfl, hr1.cell (i := 2) rfl, hr2.cell (i := 0) rfl, hr2.cell (i := 1) rfl, hr2.cell (i := 2) rfl⟩)
      have s1 := HSS.out _ HRX.out HRK.out
      have HGR := Lib.hid hgr
      have HON := Lib.hid (hon.trans (Only.of_below (hbx.mono hzz)))
      have HZ := Lib.hid (And.intro hzz (And.intro hrbz hbx.size))
      clear w1 hlw hlr e1 l1 hbx hr hbe hbex hgr hon HF h1 h2 hbl hzz
      go_wp2_with fail
      go_region_held3 (fun w' => w'.cell? ⟨w.heap.size, 0, none⟩ = some (Value.map (some rd)) ∧ w'.cell? ⟨w.heap.size, 1, none⟩ = some (Value.map (some rb)) ∧ w'.cell? ⟨w.heap.size, 2, none⟩ = some (Value.int .i64 (M : Int)) ∧ w'.cell? ⟨wr.heap.size, 0, none⟩ = some (Value.int .i64 o1) ∧ w'.cell? ⟨wr.heap.size, 1, none⟩ = some (Value.int .i64 m1) ∧ w'.cell? ⟨wr.heap.size, 2, none⟩ = some (Value.slice A1 k1.len c1))
        (first | with_reducible exact s1 | with_reducible exact s2 | with_reducible exact s3 | fail)
        (first
          | (go_at_call 56
             with_reducible refine HC.out.mono ?_
             rintro e w2 ⟨rfl, ⟨ms2, hbe2, hg2⟩, hon2⟩
             have hz := HZ.out
             have HR2 := Lib.hid (HRX.out.only hon2 HRX.out.size (by omega))
             have HK2 := Lib.hid (HRK.out.only hon2 HRK.out.size (by omega))
             have HBE2 := Lib.hid hbe2
             have HG2 := Lib.hid (HGR.out.trans hg2)
             have HON2 := Lib.hid (HON.out.trans (hon2.mono (Nat.le_trans hz.1 hz.2.2)))
             have s2 := HSS.out _ HR2.out HK2.out
             clear hbe2 hg2 hon2 hz)
          | (go_at_call 81
             with_reducible refine (HSM.out _).mono ?_
             rintro e w3 ⟨rfl, hb3⟩
             have hz := HZ.out
             have HR3 := Lib.hid (HR2.out.below hb3 HR2.out.size)
             have HK3 := Lib.hid (HK2.out.below hb3 HK2.out.size)
             have HBE3 := Lib.hid (HBE2.out.below hb3 (Nat.le_trans hBb (Nat.le_of_lt HBE2.out.memo.lt)))
             have HON3 := Lib.hid (HON2.out.trans (Only.of_below (hb3.mono HON2.out.size)))
             have s3 := HSS.out _ HR3.out HK3.out
             clear hb3 hz))
      all_goals
        clear s1 s2 s3 HSS HSM HC HR2 HK2 HBE2 HON2 HK3 HRK HRX HON HGR g1 g2 g3
        go_wp2
        go_roundw
        case rel => exact ⟨j + 1, s' + bz, _, hlt, by go_num, by rw [HACC.out], Lib.hid (by rw [Nat.add_assoc]; exact HE.out), HR3.out, HBE3.out, HG2.out, HON3.out⟩
        case measure => simp [intOf]; omega
    · have e9 : j = k.len := by omega
      have HFIN := Lib.hid (show min s' M = min (sumL (bndL (tabE ds M) M k)) M by rw [← HF.out, e9, Fo.drop_len]; rfl)
      have HBEF := Lib.hid hbe
      have HONF := Lib.hid hon
      have HGRF := Lib.hid hgr
      clear HF hbe hon hgr hr
      go_wp2
      go_ret
      exact ⟨by rw [← HFIN.out]; rfl, ⟨_, HBEF.out, HGRF.out⟩, HONF.out⟩

set_option maxHeartbeats 2000000 in
theorem boundOfBody_any (ds : List De) (M L B rd rb : Nat) (es : IEnts) (hs : BS ds M L B rd rb) (f : Nat) (he : Ends ds f) (d : De) (hd : fnd (f : Int) ds = some d) (hok : BndOk ds M L B rd rb es (behind ds f) 1048577) (w : World) (ms : IEnts) (hbe : BE ds M L B rd rb es ms w) :
    Calls Try.prog 82 #[.agg #[.map (some rd), .map (some rb), .int .i64 (M : Int)], .int .i64 (f : Int)] w (BPost ds M L B rd rb es ms (behind ds f + 1) (tabE ds M (f : Int)) w) := by
  have hrbz := hbe.memo.lt
  have hrd := hs.rd
  have hBb := hs.b
  obtain ⟨hdm, hdx⟩ := there_mem hs.lib hd
  have hfv : inVar (f : Int) = true := by
    have := (libOk_named hs.lib d hdm).1
    have h2 := inVar_nat this
    rw [hdx] at h2
    exact inVar_mk (by omega) (by omega)
  obtain ⟨hb1, hr1⟩ := one_box w 77 #[Value.map (some rd), Value.map (some rb), Value.int .i64 (M : Int)]
  have hbe1 := hbe.below hb1 (Nat.le_trans hBb (Nat.le_of_lt hrbz))
  have HB1 := Lib.hid hb1
  have HR1 := Lib.hid hr1
  have q0 := hr1.cell (i := 0) rfl
  have q1 := hr1.cell (i := 1) rfl
  have q2 := hr1.cell (i := 2) rfl
  have hlk := im_lookup (P := Try.prog) (a := (f : Int)) Try.underlying75 Try.underlying3 (show (zeroValue 3).run Try.prog (w.alloc (Obj.cells #[Value.map (some rd), Value.map (some rb), Value.int .i64 (M : Int)] 77)) = .ok (.int .i64 0) _ by kernel_rfl) hbe1.memo
  cases hme : ilook ms (f : Int) with
  | some u =>
    have hu := hbe.ok _ _ hme
    subst hu
    rw [hme] at hlk
    simp only [Option.getD_some, Option.isSome_some] at hlk
    have HBE1 := Lib.hid hbe1
    clear hbe1 hbe hr1 hb1 hme
    go_enter Try.func82, Try.ntmps82
    go_wp2
    go_ret
    exact ⟨rfl, ⟨ms, HBE1.out, Grow.refl _ _ _⟩, Only.of_below HB1.out⟩
  | none =>
    rw [hme] at hlk
    simp only [Option.getD_none, Option.isSome_none] at hlk
    obtain ⟨A', c', hil, hlk0, hkc, hkm⟩ := hbe1.ent.1 _ d hfv hd
    have hlk2 := im_lookup1 (P := Try.prog) (a := (f : Int)) Try.underlying73 Try.underlying3 (show (zeroValue 56).run Try.prog (w.alloc (Obj.cells #[Value.map (some rd), Value.map (some rb), Value.int .i64 (M : Int)] 77)) = .ok (.agg #[.int .i64 0, .int .i64 0, .bool false, .int .i64 0, .int .i64 0, .slice none 0 0]) _ by kernel_rfl) hbe1.im
    rw [hil, Option.getD_some] at hlk2
    unfold valD at hlk2
    have hfl : ∀ w : World, (Instr.field 56 (.agg #[.int .i64 d.nm, .int .i64 d.ar, .bool d.old, .int .i64 d.op, .int .i64 d.n, .slice A' d.k.len c']) 3).run Try.prog w = .ok (.agg #[.int .i64 d.op, .int .i64 d.n, .slice A' d.k.len c']) w := fun _ => by kernel_rfl
    have hdk : d.k.size ≤ 1048576 := by
      obtain ⟨i, hi⟩ := List.mem_iff_getElem?.1 hdm
      have := sizeD_at hi
      have := hs.size
      omega
    have hlow : Lower ds (behind ds f) (callB ⟨d.op, d.n, d.k⟩) := fun c hc => by
      have hec : edge ds f c = true := by rw [edge_at hd]; exact hc
      exact ⟨he.call hec, behind_lt hs.lib he hec, edge_there hs.lib hec⟩
    have HC := Lib.hid (hok d.op d.n d.k A' c' _ ms (by omega) (lib_well hs.lib hdm) hlow hbe1 (hlk0.mono_ (Nat.zero_le _) hBb) hkc hkm hdk)
    have HT := Lib.hid (tabE_at hs.lib M he hd)
    generalize bnd (tabE ds M) M d.op d.n d.k = bz at HC HT
    have HME := Lib.hid hme
    clear hbe1 hbe hr1 hb1 hme hlow hlk0 hil
    go_enter Try.func82, Try.ntmps82
    go_wp2_with fail
    with_reducible refine HC.out.mono ?_
    rintro e w2 ⟨rfl, ⟨ms2, hbe2, hg2⟩, hon2⟩
    have hno : ilook ms2 (f : Int) = none := by
      cases h : ilook ms2 (f : Int) with
      | none => rfl
      | some u =>
        rcases hg2 (f : Int) (by rw [h]; simp) with h1 | h1
        · exact absurd HME.out h1
        · rw [Int.toNat_natCast] at h1; omega
    obtain ⟨w3, hup, him3, hon3⟩ := im_update_only (P := Try.prog) (a := (f : Int)) Try.underlying75 Try.underlying3 hbe2.memo hno (.int .i64 (bz : Int))
    have hr2 := HR1.out.only hon2 HR1.out.size (by omega)
    have z1 := hr2.cell (i := 1) rfl
    have hzz := HB1.out.size
    have hrb2 : rb < w2.heap.size := hbe2.memo.lt
    have hrd2 : rd < w2.heap.size := hbe2.im.lt
    have HBE3 := Lib.hid (show BE ds M L B rd rb es (ms2 ++ [((f : Int), .int .i64 (bz : Int))]) w3 from
      ⟨hbe2.im.only hon3 hrd2 (by omega), hbe2.ent.only hon3 (by omega) hBb, him3, fun x u hx => by
        rw [ilook_snoc] at hx
        cases h : ilook ms2 x with
        | some u2 => rw [h] at hx; simp at hx; subst hx; exact hbe2.ok x _ h
        | none =>
          rw [h] at hx
          by_cases hfx : (f : Int) = x
          · rw [if_pos hfx] at hx
            simp at hx
            rw [← hx, ← hfx, HT.out]
          · rw [if_neg hfx] at hx; simp at hx⟩)
    have HG3 := Lib.hid (show Grow ds (behind ds f + 1) ms (ms2 ++ [((f : Int), .int .i64 (bz : Int))]) from fun x hx => by
      rw [ilook_snoc] at hx
      cases h : ilook ms2 x with
      | some u2 => exact (hg2 x (by rw [h]; simp)).imp id fun h => by omega
      | none =>
        rw [h] at hx
        by_cases hfx : (f : Int) = x
        · right
          rw [← hfx, Int.toNat_natCast]
          omega
        · rw [if_neg hfx] at hx; simp at hx)
    have HON3 := Lib.hid (((Only.of_below HB1.out).trans (hon2.mono hzz)).trans (hon3.mono (Nat.le_trans hzz hon2.size)))
    clear hbe2 hg2 hon2 hno him3 hon3 hr2 hlk hlk2 hfl q0 q1 q2 HC
    go_wp2
    go_ret
    exact ⟨by rw [HT.out]; rfl, ⟨_, HBE3.out, HG3.out⟩, HON3.out⟩

theorem kidI_0 {w : World} {L B : Nat} {b o : Nat} {k : Fo} {op n : Int} {k' r : Fo} (hl : Lies w L B (some ⟨b, o, none⟩) 0 k) (e : k.drop 0 = .cons op n k' r) : ∃ A' c', w.cell? ⟨b, o, none⟩ = some (.int .i64 op) ∧ w.cell? ⟨b, o + 1, none⟩ = some (.int .i64 n) ∧
    w.cell? ⟨b, o + 2, none⟩ = some (.slice A' k'.len c') ∧ k'.len ≤ c' ∧ c' ≤ maxLen ∧ Lies w L B A' 0 k' ∧ b < B := by
  have h := hl.at_ 0
  rw [Nat.zero_add, e] at h
  obtain ⟨⟨b', o', A', c', hA, h1, h2, _, _, g1, g2, g3, g4, g5, g6⟩, _⟩ := h
  obtain ⟨rfl, rfl⟩ : b = b' ∧ o = o' := by simpa using hA
  exact ⟨A', c', by simpa using g1, by simpa using g2, by simpa using g3, g4, g5, g6, h2⟩
theorem kidI_1 {w : World} {L B : Nat} {b o : Nat} {k : Fo} {op n : Int} {k' r : Fo} (hl : Lies w L B (some ⟨b, o, none⟩) 0 k) (e : k.drop 1 = .cons op n k' r) : ∃ A' c', w.cell? ⟨b, o + 3, none⟩ = some (.int .i64 op) ∧ w.cell? ⟨b, o + 4, none⟩ = some (.int .i64 n) ∧
    w.cell? ⟨b, o + 5, none⟩ = some (.slice A' k'.len c') ∧ k'.len ≤ c' ∧ c' ≤ maxLen ∧ Lies w L B A' 0 k' ∧ b < B := by
  have h := hl.at_ 1
  rw [Nat.zero_add, e] at h
  obtain ⟨⟨b', o', A', c', hA, h1, h2, _, _, g1, g2, g3, g4, g5, g6⟩, _⟩ := h
  obtain ⟨rfl, rfl⟩ : b = b' ∧ o = o' := by simpa using hA
  exact ⟨A', c', by simpa using g1, by simpa using g2, by simpa using g3, g4, g5, g6, h2⟩
theorem kidI_2 {w : World} {L B : Nat} {b o : Nat} {k : Fo} {op n : Int} {k' r : Fo} (hl : Lies w L B (some ⟨b, o, none⟩) 0 k) (e : k.drop 2 = .cons op n k' r) : ∃ A' c', w.cell? ⟨b, o + 6, none⟩ = some (.int .i64 op) ∧ w.cell? ⟨b, o + 7, none⟩ = some (.int .i64 n) ∧
    w.cell? ⟨b, o + 8, none⟩ = some (.slice A' k'.len c') ∧ k'.len ≤ c' ∧ c' ≤ maxLen ∧ Lies w L B A' 0 k' ∧ b < B := by
  have h := hl.at_ 2
  rw [Nat.zero_add, e] at h
  obtain ⟨⟨b', o', A', c', hA, h1, h2, _, _, g1, g2, g3, g4, g5, g6⟩, _⟩ := h
  obtain ⟨rfl, rfl⟩ : b = b' ∧ o = o' := by simpa using hA
  exact ⟨A', c', by simpa using g1, by simpa using g2, by simpa using g3, g4, g5, g6, h2⟩

set_option maxHeartbeats 4000000 in
theorem bound_if (ds : List De) (M L B rd rb : Nat) (es : IEnts) (hs : BS ds M L B rd rb) (m : Nat) (n : Int) (k : Fo) (A : Option Addr) (c : Nat) (w : World) (ms : IEnts) (hok : BndOk ds M L B rd rb es m k.size) (hw : wellN 6 n k = true) (hlow : Lower ds m (callF k)) (hbe : BE ds M L B rd rb es ms w) (hl : Lies w 0 rb A 0 k) (hsz : k.size ≤ 1048576) :
    Calls Try.prog 56 #[.agg #[.map (some rd), .map (some rb), .int .i64 (M : Int)], .agg #[.int .i64 6, .int .i64 n, .slice A k.len c]] w (BPost ds M L B rd rb es ms m (bnd (tabE ds M) M 6 n k) w) := by
  have hlen := Fo.len_le_size k
  have hm := hs.m
  have hrbz := hbe.memo.lt
  have hBb := hs.b
  have hlen3 := wellN_if hw
  obtain ⟨o0, m0, k0, e0, s0, _⟩ := Fo.drop_of_lt k 0 (by omega)
  have wl0 := well_kid (wellN_kids hw) e0
  have lw0 := hlow.kid e0
  obtain ⟨o1, m1, k1, e1, s1, _⟩ := Fo.drop_of_lt k 1 (by omega)
  have wl1 := well_kid (wellN_kids hw) e1
  have lw1 := hlow.kid e1
  obtain ⟨o2, m2, k2, e2, s2, _⟩ := Fo.drop_of_lt k 2 (by omega)
  have wl2 := well_kid (wellN_kids hw) e2
  have lw2 := hlow.kid e2
  have HANS := Lib.hid (bnd_if (tb := tabE ds M) (M := M) (n := n) e0 e1 e2)
  rw [hlen3]
  obtain ⟨b, o, hA⟩ : ∃ b o, A = some ⟨b, o, none⟩ := by
    have h := hl.at_ 0
    rw [Nat.zero_add, e0] at h
    obtain ⟨⟨b', o', A', c', hA, _⟩, _⟩ := h
    exact ⟨b', o', hA⟩
  subst hA
  obtain ⟨A0, c0, g0a, g0b, g0c, h0a, h0b, l0, hbB0⟩ := kidI_0 hl e0
  obtain ⟨A1, c1, g1a, g1b, g1c, h1a, h1b, l1, hbB1⟩ := kidI_1 hl e1
  obtain ⟨A2, c2, g2a, g2b, g2c, h2a, h2b, l2, hbB2⟩ := kidI_2 hl e2
  obtain ⟨hb0, hr1, hr2⟩ := two_boxes w 77 40 #[Value.map (some rd), Value.map (some rb), Value.int .i64 (M : Int)] #[.int .i64 6, .int .i64 n, .slice (some ⟨b, o, none⟩) 3 c]
  have hb2 := hb0.drew
  have HB1 := Lib.hid hb2
  have HR1 := Lib.hid hr1.drew
  have HR2 := Lib.hid hr2.drew
  have HBE := Lib.hid (hbe.below hb2 (Nat.le_trans hBb (Nat.le_of_lt hrbz)))
  have HSS := Lib.hid (fun w' (h : Only rb w.heap.size w w') (hr1 : Row w' w.heap.size 77 #[Value.map (some rd), Value.map (some rb), Value.int .i64 (M : Int)]) (hr2 : Row w' (w.heap.size + 1) 40 #[Value.int .i64 6, Value.int .i64 n, Value.slice (some ⟨b, o, none⟩) 3 c]) => show w'.cell? ⟨w.heap.size, 0, none⟩ = some (Value.map (some rd)) ∧ w'.cell? ⟨w.heap.size, 1, none⟩ = some (Value.map (some rb)) ∧ w'.cell? ⟨w.heap.size, 2, none⟩ = some (Value.int .i64 (M : Int)) ∧ w'.cell? ⟨w.heap.size + 1, 2, none⟩ = some (Value.slice (some ⟨b, o, none⟩) 3 c) ∧ w'.cell? ⟨b, o, none⟩ = some (Value.int .i64 o0) ∧ w'.cell? ⟨b, o + 1, none⟩ = some (Value.int .i64 m0) ∧ w'.cell? ⟨b, o + 2, none⟩ = some (Value.slice A0 k0.len c0) ∧ w'.cell? ⟨b, o + 3, none⟩ = some (Value.int .i64 o1) ∧ w'.cell? ⟨b, o + 4, none⟩ = some (Value.int .i64 m1) ∧ w'.cell? ⟨b, o + 5, none⟩ = some (Value.slice A1 k1.len c1) ∧ w'.cell? ⟨b, o + 6, none⟩ = some (Value.int .i64 o2) ∧ w'.cell? ⟨b, o + 7, none⟩ = some (Value.int .i64 m2) ∧ w'.cell? ⟨b, o + 8, none⟩ = some (Value.slice A2 k2.len c2) from
    ⟨hr1.cell (i := 0) rfl, hr1.cell (i := 1) rfl, hr1.cell (i := 2) rfl, hr2.cell (i := 2) rfl, (h.cell (Nat.lt_trans hbB0 hrbz) (Nat.ne_of_lt hbB0)).trans g0a, (h.cell (Nat.lt_trans hbB0 hrbz) (Nat.ne_of_lt hbB0)).trans g0b, (h.cell (Nat.lt_trans hbB0 hrbz) (Nat.ne_of_lt hbB0)).trans g0c, (h.cell (Nat.lt_trans hbB0 hrbz) (Nat.ne_of_lt hbB0)).trans g1a, (h.cell (Nat.lt_trans hbB0 hrbz) (Nat.ne_of_lt hbB0)).trans g1b, (h.cell (Nat.lt_trans hbB0 hrbz) (Nat.ne_of_lt hbB0)).trans g1c, (h.cell (Nat.lt_trans hbB0 hrbz) (Nat.ne_of_lt hbB0)).trans g2a, (h.cell (Nat.lt_trans hbB0 hrbz) (Nat.ne_of_lt hbB0)).trans g2b, (h.cell (Nat.lt_trans hbB0 hrbz) (Nat.ne_of_lt hbB0)).trans g2c⟩)
  have HV0 := Lib.hid (fun W ms (hbe : BE ds M L B rd rb es ms W) (h : Only rb w.heap.size w W) => hok o0 m0 k0 A0 c0 W ms s0 wl0 lw0 hbe (l0.only h (Nat.le_of_lt hrbz) (.inr (Nat.le_refl _))) h0a h0b (by omega))
  have hb0l := bnd_le (tabE ds M) M o0 m0 k0
  generalize bnd (tabE ds M) M o0 m0 k0 = a0 at HV0 HANS hb0l
  have HV1 := Lib.hid (fun W ms (hbe : BE ds M L B rd rb es ms W) (h : Only rb w.heap.size w W) => hok o1 m1 k1 A1 c1 W ms s1 wl1 lw1 hbe (l1.only h (Nat.le_of_lt hrbz) (.inr (Nat.le_refl _))) h1a h1b (by omega))
  have hb1l := bnd_le (tabE ds M) M o1 m1 k1
  generalize bnd (tabE ds M) M o1 m1 k1 = a1 at HV1 HANS hb1l
  have HV2 := Lib.hid (fun W ms (hbe : BE ds M L B rd rb es ms W) (h : Only rb w.heap.size w W) => hok o2 m2 k2 A2 c2 W ms s2 wl2 lw2 hbe (l2.only h (Nat.le_of_lt hrbz) (.inr (Nat.le_refl _))) h2a h2b (by omega))
  have hb2l := bnd_le (tabE ds M) M o2 m2 k2
  generalize bnd (tabE ds M) M o2 m2 k2 = a2 at HV2 HANS hb2l
  have HSM := Lib.hid (fun W => sum_any rd rb M a0 (max a1 a2) W (by omega) (by omega))
  generalize hz : min (a0 + max a1 a2) M = z at HSM HANS
  have HX := Lib.hid hz
  clear hz
  rw [HANS.out]
  have HZ := Lib.hid hrbz
  have HG := Lib.hid (Grow.refl ds m ms)
  have HO := Lib.hid (Only.of_below (g := rb) HB1.out)
  clear HX
  have HX := HR1
  have HY := HR2
  have y0 := HSS.out _ HO.out HX.out HY.out
  clear HB1 HR1 HR2 hbe hl hlow hw hok hb0 hr1 hr2 hb2 wl0 lw0 e0 s0 g0a g0b g0c h0a h0b l0 hbB0 wl1 lw1 e1 s1 g1a g1b g1c h1a h1b l1 hbB1 wl2 lw2 e2 s2 g2a g2b g2c h2a h2b l2 hbB2 hlen3
  go_enter Try.func56, Try.ntmps56
  go_wp2_with fail
  by_cases h12 : a1 < a2
  all_goals
    first
      | (have hmx := Lib.hid (show max a1 a2 = a2 from Nat.max_eq_right (Nat.le_of_lt h12)))
      | (have hmx := Lib.hid (show max a1 a2 = a1 from Nat.max_eq_left (by omega)))
    rw [hmx.out] at HSM
    clear hmx hb0l hb1l hb2l
    go_region_held3 (fun w' => w'.cell? ⟨w.heap.size, 0, none⟩ = some (Value.map (some rd)) ∧ w'.cell? ⟨w.heap.size, 1, none⟩ = some (Value.map (some rb)) ∧ w'.cell? ⟨w.heap.size, 2, none⟩ = some (Value.int .i64 (M : Int)) ∧ w'.cell? ⟨w.heap.size + 1, 2, none⟩ = some (Value.slice (some ⟨b, o, none⟩) 3 c) ∧ w'.cell? ⟨b, o, none⟩ = some (Value.int .i64 o0) ∧ w'.cell? ⟨b, o + 1, none⟩ = some (Value.int .i64 m0) ∧ w'.cell? ⟨b, o + 2, none⟩ = some (Value.slice A0 k0.len c0) ∧ w'.cell? ⟨b, o + 3, none⟩ = some (Value.int .i64 o1) ∧ w'.cell? ⟨b, o + 4, none⟩ = some (Value.int .i64 m1) ∧ w'.cell? ⟨b, o + 5, none⟩ = some (Value.slice A1 k1.len c1) ∧ w'.cell? ⟨b, o + 6, none⟩ = some (Value.int .i64 o2) ∧ w'.cell? ⟨b, o + 7, none⟩ = some (Value.int .i64 m2) ∧ w'.cell? ⟨b, o + 8, none⟩ = some (Value.slice A2 k2.len c2))
      (first | with_reducible exact y0 | with_reducible exact y2 | with_reducible exact y3 | with_reducible exact y4 | with_reducible exact y5 | fail)
      (first
        | (go_at_call 56
           with_reducible refine (HV2.out _ _ HBE3.out HO3.out).mono ?_
           rintro e u4 ⟨rfl, ⟨ms4, hbe, hg⟩, hon⟩
           have HBE4 := Lib.hid hbe
           have HG4 := Lib.hid (HG3.out.trans hg)
           have HO4 := Lib.hid (HO3.out.trans (hon.mono HO3.out.size))
           have HX4 := Lib.hid (HX3.out.only hon HX3.out.size (Nat.ne_of_gt HZ.out))
           have HY4 := Lib.hid (HY3.out.only hon HY3.out.size (by have := HZ.out; omega))
           have y4 := HSS.out _ HO4.out HX4.out HY4.out
           clear hbe hg hon)
        | (go_at_call 56
           with_reducible refine (HV1.out _ _ HBE2.out HO2.out).mono ?_
           rintro e u3 ⟨rfl, ⟨ms3, hbe, hg⟩, hon⟩
           have HBE3 := Lib.hid hbe
           have HG3 := Lib.hid (HG2.out.trans hg)
           have HO3 := Lib.hid (HO2.out.trans (hon.mono HO2.out.size))
           have HX3 := Lib.hid (HX2.out.only hon HX2.out.size (Nat.ne_of_gt HZ.out))
           have HY3 := Lib.hid (HY2.out.only hon HY2.out.size (by have := HZ.out; omega))
           have y3 := HSS.out _ HO3.out HX3.out HY3.out
           clear hbe hg hon)
        | (go_at_call 56
           with_reducible refine (HV0.out _ _ HBE.out HO.out).mono ?_
           rintro e u2 ⟨rfl, ⟨ms2, hbe, hg⟩, hon⟩
           have HBE2 := Lib.hid hbe
           have HG2 := Lib.hid (HG.out.trans hg)
           have HO2 := Lib.hid (HO.out.trans (hon.mono HO.out.size))
           have HX2 := Lib.hid (HX.out.only hon HX.out.size (Nat.ne_of_gt HZ.out))
           have HY2 := Lib.hid (HY.out.only hon HY.out.size (by have := HZ.out; omega))
           have y2 := HSS.out _ HO2.out HX2.out HY2.out
           clear hbe hg hon)
        | (go_at_call 81
           with_reducible refine (HSM.out _).mono ?_
           rintro e u5 ⟨rfl, hb5⟩
           have HBE5 := Lib.hid (HBE4.out.below hb5 (Nat.le_trans hBb (Nat.le_of_lt HBE4.out.memo.lt)))
           have HO5 := Lib.hid (HO4.out.trans (Only.of_below (hb5.mono HO4.out.size)))
           have HX5 := Lib.hid (HX4.out.below hb5 HX4.out.size)
           have HY5 := Lib.hid (HY4.out.below hb5 HY4.out.size)
           have y5 := HSS.out _ HO5.out HX5.out HY5.out
           clear hb5))
    all_goals
      clear y0 y2 y3 y4 y5 HSS HV0 HV1 HV2 HSM HX HY HX2 HY2 HX3 HY3 HX4 HY4 HX5 HY5 HO HO2 HO3 HO4 HBE HBE2 HBE3 HBE4 HG HG2 HG3
      go_wp2
      go_ret
      exact ⟨rfl, ⟨_, HBE5.out, HG4.out⟩, HO5.out⟩


set_option maxHeartbeats 4000000 in
theorem bound_call_any (ds : List De) (M L B rd rb : Nat) (es : IEnts) (hs : BS ds M L B rd rb) (m : Nat) (f : Nat) (k : Fo) (A : Option Addr) (c : Nat) (w : World) (ms : IEnts) (hok : BndOk ds M L B rd rb es m k.size) (hokb : ∀ m', m' < m → BndOk ds M L B rd rb es m' 1048577) (hw : wellN 3 (f : Int) k = true) (hlow : Lower ds m (callB ⟨3, (f : Int), k⟩)) (hbe : BE ds M L B rd rb es ms w) (hl : Lies w 0 rb A 0 k) (hsz : k.size ≤ 1048576) :
    Calls Try.prog 56 #[.agg #[.map (some rd), .map (some rb), .int .i64 (M : Int)], .agg #[.int .i64 3, .int .i64 (f : Int), .slice A k.len c]] w (BPost ds M L B rd rb es ms m (bnd (tabE ds M) M 3 (f : Int) k) w) := by
  have hlen := Fo.len_le_size k
  have hm := hs.m
  have hrbz := hbe.memo.lt
  have hBb := hs.b
  obtain ⟨hef, hbf, d, hd⟩ := hlow f (by unfold callB ownCall; simp)
  have HANS := Lib.hid (show bnd (tabE ds M) M 3 (f : Int) k = min (1 + min (tabE ds M (f : Int) + min (sumL (bndL (tabE ds M) M k)) M) M) M by rw [bnd_call]; omega)
  have htl : tabE ds M (f : Int) ≤ M := by rw [tabE_at hs.lib M hef hd]; exact bnd_le _ _ _ _ _
  obtain ⟨hb0, hr1, hr2⟩ := two_boxes w 77 40 #[Value.map (some rd), Value.map (some rb), Value.int .i64 (M : Int)] #[.int .i64 3, .int .i64 (f : Int), .slice A k.len c]
  have hb2 := hb0.drew
  have HB1 := Lib.hid hb2
  have HR1 := Lib.hid hr1.drew
  have HR2 := Lib.hid hr2.drew
  have HBE := Lib.hid (hbe.below hb2 (Nat.le_trans hBb (Nat.le_of_lt hrbz)))
  have HSS := Lib.hid (fun w' (hr1 : Row w' w.heap.size 77 #[Value.map (some rd), Value.map (some rb), Value.int .i64 (M : Int)]) (hr2 : Row w' (w.heap.size + 1) 40 #[Value.int .i64 3, Value.int .i64 (f : Int), Value.slice A k.len c]) => show w'.cell? ⟨w.heap.size, 0, none⟩ = some (Value.map (some rd)) ∧ w'.cell? ⟨w.heap.size, 1, none⟩ = some (Value.map (some rb)) ∧ w'.cell? ⟨w.heap.size, 2, none⟩ = some (Value.int .i64 (M : Int)) ∧ w'.cell? ⟨w.heap.size + 1, 0, none⟩ = some (Value.int .i64 3) ∧ w'.cell? ⟨w.heap.size + 1, 1, none⟩ = some (Value.int .i64 (f : Int)) ∧ w'.cell? ⟨w.heap.size + 1, 2, none⟩ = some (Value.slice A k.len c) from
    ⟨hr1.cell (i := 0) rfl, hr1.cell (i := 1) rfl, hr1.cell (i := 2) rfl, hr2.cell (i := 0) rfl, hr2.cell (i := 1) rfl, hr2.cell (i := 2) rfl⟩)
  have HBB := Lib.hid (fun W ms (hbe : BE ds M L B rd rb es ms W) => boundOfBody_any ds M L B rd rb es hs f hef d hd (hokb _ hbf) W ms hbe)
  have HBA := Lib.hid (fun W ms (hbe : BE ds M L B rd rb es ms W) (h : Only rb w.heap.size w W) => boundOfAll_any ds M L B rd rb es hs m k.size hok k A c W ms (Nat.le_refl _) (wellN_kids hw) hlow.kids hbe (hl.only h (Nat.le_of_lt hrbz) (.inr (Nat.le_refl _))) hsz)
  have hal : min (sumL (bndL (tabE ds M) M k)) M ≤ M := Nat.min_le_right _ _
  generalize tabE ds M (f : Int) = tf at HBB HANS htl
  generalize min (sumL (bndL (tabE ds M) M k)) M = sa at HBA HANS hal
  have HS1 := Lib.hid (fun W => sum_any rd rb M tf sa W (by omega) (by omega))
  have hsl : min (tf + sa) M ≤ M := Nat.min_le_right _ _
  generalize hz1 : min (tf + sa) M = z1 at HS1 HANS hsl
  have HS2 := Lib.hid (fun W => show Calls Try.prog 81 #[.agg #[.map (some rd), .map (some rb), .int .i64 (M : Int)], .int .i64 1, .int .i64 (z1 : Int)] W (Gives (.int .i64 (min (1 + z1) M : Nat)) W) from sum_any rd rb M 1 z1 W (by omega) (by omega))
  generalize hz2 : min (1 + z1) M = z2 at HS2 HANS
  rw [HANS.out]
  have HZ := Lib.hid hrbz
  have HBF := Lib.hid hbf
  have HG := Lib.hid (Grow.refl ds m ms)
  have HO := Lib.hid (Only.of_below (g := rb) HB1.out)
  have y1 := HSS.out _ HR1.out HR2.out
  clear HB1 hbe hl hlow hw hok hokb hb0 hr1 hr2 hb2 hz1 hz2 hd hef hbf htl hal hsl
  go_enter Try.func56, Try.ntmps56
  go_wp2_with fail
  go_region_held3 (fun w' => w'.cell? ⟨w.heap.size, 0, none⟩ = some (Value.map (some rd)) ∧ w'.cell? ⟨w.heap.size, 1, none⟩ = some (Value.map (some rb)) ∧ w'.cell? ⟨w.heap.size, 2, none⟩ = some (Value.int .i64 (M : Int)) ∧ w'.cell? ⟨w.heap.size + 1, 0, none⟩ = some (Value.int .i64 3) ∧ w'.cell? ⟨w.heap.size + 1, 1, none⟩ = some (Value.int .i64 (f : Int)) ∧ w'.cell? ⟨w.heap.size + 1, 2, none⟩ = some (Value.slice A k.len c))
    (first | with_reducible exact y1 | with_reducible exact y2 | with_reducible exact y3 | with_reducible exact y4 | with_reducible exact y5 | fail)
    (first
      | (go_at_call 82
         with_reducible refine (HBB.out _ _ HBE.out).mono ?_
         rintro e u2 ⟨rfl, ⟨ms2, hbe, hg⟩, hon⟩
         have HBE2 := Lib.hid hbe
         have HG2 := Lib.hid (hg.more (m' := m) HBF.out)
         have HO2 := Lib.hid (HO.out.trans (hon.mono HO.out.size))
         have HX2 := Lib.hid (HR1.out.only hon HR1.out.size (Nat.ne_of_gt HZ.out))
         have HY2 := Lib.hid (HR2.out.only hon HR2.out.size (by have := HZ.out; omega))
         have y2 := HSS.out _ HX2.out HY2.out
         clear hbe hg hon)
      | (go_at_call 83
         with_reducible refine (HBA.out _ _ HBE2.out HO2.out).mono ?_
         rintro e u3 ⟨rfl, ⟨ms3, hbe, hg⟩, hon⟩
         have HBE3 := Lib.hid hbe
         have HG3 := Lib.hid (HG2.out.trans hg)
         have HO3 := Lib.hid (HO2.out.trans (hon.mono HO2.out.size))
         have HX3 := Lib.hid (HX2.out.only hon HX2.out.size (Nat.ne_of_gt HZ.out))
         have HY3 := Lib.hid (HY2.out.only hon HY2.out.size (by have := HZ.out; omega))
         have y3 := HSS.out _ HX3.out HY3.out
         clear hbe hg hon)
      | (go_at_call 81
         with_reducible refine (HS2.out _).mono ?_
         rintro e u5 ⟨rfl, hb5⟩
         have HBE5 := Lib.hid (HBE4.out.below hb5 (Nat.le_trans hBb (Nat.le_of_lt HBE4.out.memo.lt)))
         have HO5 := Lib.hid (HO4.out.trans (Only.of_below (hb5.mono HO4.out.size)))
         have HX5 := Lib.hid (HX4.out.below hb5 HX4.out.size)
         have HY5 := Lib.hid (HY4.out.below hb5 HY4.out.size)
         have y5 := HSS.out _ HX5.out HY5.out
         clear hb5)
      | (go_at_call 81
         with_reducible refine (HS1.out _).mono ?_
         rintro e u4 ⟨rfl, hb4⟩
         have HBE4 := Lib.hid (HBE3.out.below hb4 (Nat.le_trans hBb (Nat.le_of_lt HBE3.out.memo.lt)))
         have HO4 := Lib.hid (HO3.out.trans (Only.of_below (hb4.mono HO3.out.size)))
         have HX4 := Lib.hid (HX3.out.below hb4 HX3.out.size)
         have HY4 := Lib.hid (HY3.out.below hb4 HY3.out.size)
         have y4 := HSS.out _ HX4.out HY4.out
         clear hb4))
  all_goals
    clear y1 y2 y3 y4 y5 HSS HBB HBA HS1 HS2 HR1 HR2 HX2 HY2 HX3 HY3 HX4 HY4 HX5 HY5 HO HO2 HO3 HO4 HBE HBE2 HBE3 HBE4 HG HG2
    go_wp2
    go_ret
    exact ⟨rfl, ⟨_, HBE5.out, HG3.out⟩, HO5.out⟩

set_option maxHeartbeats 2000000 in
theorem bound_other_any (ds : List De) (M L B rd rb : Nat) (es : IEnts) (hs : BS ds M L B rd rb) (m : Nat) (op n : Int) (k : Fo) (A : Option Addr) (c : Nat) (w : World) (ms : IEnts) (h6 : op ≠ 6) (h3 : op ≠ 3) (hok : BndOk ds M L B rd rb es m k.size) (hw : wellN op n k = true) (hlow : Lower ds m (callF k)) (hbe : BE ds M L B rd rb es ms w) (hl : Lies w 0 rb A 0 k) (hsz : k.size ≤ 1048576) :
    Calls Try.prog 56 #[.agg #[.map (some rd), .map (some rb), .int .i64 (M : Int)], .agg #[.int .i64 op, .int .i64 n, .slice A k.len c]] w (BPost ds M L B rd rb es ms m (bnd (tabE ds M) M op n k) w) := by
  have hlen := Fo.len_le_size k
  have hm := hs.m
  have hrbz := hbe.memo.lt
  have hBb := hs.b
  obtain ⟨hb0, hr1, hr2⟩ := two_boxes w 77 40 #[Value.map (some rd), Value.map (some rb), Value.int .i64 (M : Int)] #[.int .i64 op, .int .i64 n, .slice A k.len c]
  have HC := Lib.hid (boundOfAll_any ds M L B rd rb es hs m k.size hok k A c _ ms (Nat.le_refl _) (wellN_kids hw) hlow (hbe.below hb0 (Nat.le_trans hBb (Nat.le_of_lt hrbz))) (hl.below (hb0.mono (Nat.le_of_lt hrbz))) hsz)
  rw [← bnd_other h6 h3 (n := n)] at HC
  have p0 := hr1.cell (i := 0) rfl
  have p1 := hr1.cell (i := 1) rfl
  have p2 := hr1.cell (i := 2) rfl
  have q0 := hr2.cell (i := 0) rfl
  have q2 := hr2.cell (i := 2) rfl
  have t6 : (op == 6) = false := by simpa using h6
  have t3 : (op == 3) = false := by simpa using h3
  have HB0 := Lib.hid hb0
  clear hb0 hr1 hr2 hok hw hlow hbe hl h6 h3
  go_enter Try.func56, Try.ntmps56
  go_wp2_with fail
  with_reducible refine HC.out.mono ?_
  rintro e w2 ⟨rfl, ⟨ms2, hbe, hg⟩, hon⟩
  have HBE := Lib.hid hbe
  have HG := Lib.hid hg
  have HO := Lib.hid ((Only.of_below HB0.out).trans (hon.mono HB0.out.size))
  clear hbe hg hon HC HB0 p0 p1 p2 q0 q2
  go_wp2
  go_ret
  exact ⟨rfl, ⟨_, HBE.out, HG.out⟩, HO.out⟩

theorem bound_any (ds : List De) (M L B rd rb : Nat) (es : IEnts) (hs : BS ds M L B rd rb) (m : Nat) : ∀ s, s ≤ 1048577 → BndOk ds M L B rd rb es m s := by
  induction m using Nat.strongRecOn with
  | _ m ihm =>
    intro s
    induction s with
    | zero => intro _ op n k A c w ms hks; omega
    | succ s ihs =>
      intro hsb op n k A c w ms hks hw hlow hbe hl hk1 hk2 hsz
      have hok : BndOk ds M L B rd rb es m k.size := fun op n k' A c w ms h1 h2 h3 h4 h5 h6 h7 h8 => ihs (by omega) op n k' A c w ms (by omega) h2 h3 h4 h5 h6 h7 h8
      by_cases h6 : op = 6
      · subst h6
        exact bound_if ds M L B rd rb es hs m n k A c w ms hok hw hlow.kids hbe hl hsz
      by_cases h3 : op = 3
      · subst h3
        have hn := inVar_nat (wellN_call hw)
        rw [← hn.1] at hw hlow ⊢
        exact bound_call_any ds M L B rd rb es hs m n.toNat k A c w ms hok (fun m' hm' => ihm m' hm' 1048577 (Nat.le_refl _)) hw hlow hbe hl hsz
      exact bound_other_any ds M L B rd rb es hs m op n k A c w ms h6 h3 hok hw hlow.kids hbe hl hsz

end Go.Proofs.Ytbpcggbmlaomjaa

namespace Go.Proofs.Ytbpcggbmlaomjaa
open Go.RowKit Go.Shelf
set_option maxRecDepth 100000

theorem makeMapI_run (w : World) : (Instr.makeMap 75 none).run Try.prog w = .ok (.map (some w.heap.size)) (w.alloc (.map #[] 0)) := by kernel_rfl

set_option maxHeartbeats 4000000 in
theorem implBound_any (ds : List De) (DA : Option Addr) (DC : Nat) (op n : Int) (k : Fo) (A : Option Addr) (c : Nat) (most : Int) (LD BD L B : Nat) (w : World) (hd : LiesD w LD BD DA ds) (hBD : BD ≤ w.heap.size) (hald : AllRows w LD BD) (hl : Lies w L B A 0 k) (hB : B ≤ w.heap.size) (hal : AllRows w L B) (hdz : sizeD ds ≤ 1048576) (hk1 : k.len ≤ c) (hk2 : c ≤ maxLen) (hsz : k.size ≤ 1048576) :
    Calls Try.prog 28 #[.slice DA ds.length DC, .agg #[.int .i64 op, .int .i64 n, .slice A k.len c], .int .i64 most] w (Gives (boundR ds op n k most) w) := by
  have hds := Nat.le_trans (sizeD_len ds) hdz
  obtain ⟨hb1, hr1⟩ := one_box w 40 #[Value.int IntKind.i64 op, Value.int IntKind.i64 n, Value.slice A k.len c]
  have HB1 := Lib.hid hb1
  have HR1 := Lib.hid hr1
  have HD := Lib.hid hd
  have HL := Lib.hid hl
  have HAL := Lib.hid hal
  have HALD := Lib.hid hald
  clear hb1 hr1 hd hl hald hal
  by_cases m0 : most < 0
  · have HZ := Lib.hid (boundR_no (ds := ds) (op := op) (n := n) (k := k) (most := most) (by unfold boundOk; rw [decide_eq_false (show ¬ 0 ≤ most by omega)]; simp))
    have t0 : decide (most < 0) = true := by simpa using m0
    go_enter Try.func28, Try.ntmps28
    go_wp2
    go_ret2
    exact ⟨by rw [HZ.out]; rfl, HB1.out⟩
  have t0 : decide (most < 0) = false := by simpa using m0
  by_cases m2 : 200 < most
  · have HZ := Lib.hid (boundR_no (ds := ds) (op := op) (n := n) (k := k) (most := most) (by unfold boundOk; rw [decide_eq_false (show ¬ most ≤ 200 by omega)]; simp))
    have t2 : decide (200 < most) = true := by simpa using m2
    go_enter Try.func28, Try.ntmps28
    go_wp2
    go_ret2
    exact ⟨by rw [HZ.out]; rfl, HB1.out⟩
  have t2 : decide (200 < most) = false := by simpa using m2
  have HA := Lib.hid (fun W (hb : Below w.heap.size w W) => implLibValid_any ds DA DC LD BD W (HD.out.below (hb.mono hBD)) (Nat.le_trans hBD hb.size) (HALD.out.below hb hBD) hdz)
  cases hv : libOk ds with
  | false =>
    rw [hv] at HA
    have HZ := Lib.hid (boundR_no (ds := ds) (op := op) (n := n) (k := k) (most := most) (by unfold boundOk; rw [hv]; rfl))
    clear hv
    go_enter Try.func28, Try.ntmps28
    go_wp2_with fail
    refine (HA.out _ HB1.out).mono ?_
    rintro e w3 ⟨rfl, hb3⟩
    have HB3 := Lib.hid (HB1.out.trans (hb3.mono HB1.out.size))
    clear hb3 HA HB1 HR1
    go_wp2
    go_ret2
    exact ⟨by rw [HZ.out]; rfl, HB3.out⟩
  | true =>
    rw [hv] at HA
    have HC := Lib.hid (fun W (hb : Below w.heap.size w W) => implCallsFit_any ds DA DC op n k A c L B W ((HD.out.mono_ (Nat.zero_le _) hBD).up hb) (HL.out.below (hb.mono hB)) (Nat.le_trans hB hb.size) (HAL.out.below hb hB) hds hk1 hk2 hsz)
    cases hf : callsFitB ds op n k with
    | false =>
      rw [hf] at HC
      have HZ := Lib.hid (boundR_no (ds := ds) (op := op) (n := n) (k := k) (most := most) (by unfold boundOk; rw [hv, hf]; rfl))
      clear hv hf
      go_enter Try.func28, Try.ntmps28
      go_wp2_with fail
      refine (HA.out _ HB1.out).mono ?_
      rintro e w3 ⟨rfl, hb3⟩
      have HB3 := Lib.hid (HB1.out.trans (hb3.mono HB1.out.size))
      have hr3 := HR1.out.below hb3 HR1.out.size
      have z0 := hr3.cell (i := 0) rfl
      have z1 := hr3.cell (i := 1) rfl
      have z2 := hr3.cell (i := 2) rfl
      clear hb3 HA HB1 HR1 hr3
      go_wp2_with fail
      refine (HC.out w3 HB3.out).mono ?_
      rintro e w4 ⟨rfl, hb4⟩
      have HB4 := Lib.hid (HB3.out.trans (hb4.mono HB3.out.size))
      clear hb4 HC HB3 z0 z1 z2
      go_wp2
      go_ret2
      exact ⟨by rw [HZ.out]; rfl, HB4.out⟩
    | true =>
      rw [hf] at HC
      obtain ⟨mo, hmo⟩ : ∃ mo : Nat, most = (mo : Int) := ⟨most.toNat, by omega⟩
      subst hmo
      have hm200 : mo ≤ 200 := by omega
      obtain ⟨zs, hzs⟩ : ∃ zs, zs = numsUpto (callB ⟨op, n, k⟩) 8 := ⟨_, rfl⟩
      have hend := ends_is hv hf
      rw [← hzs] at hend
      have HV := Lib.hid (show ∀ x ∈ zs, inVar x = true by rw [hzs]; exact nums_vars _)
      have HI := Lib.hid (show ∀ x ∈ zs, I64 x by rw [hzs]; exact fun x hx => numsUpto_small _ 8 x (Nat.le_refl _) hx)
      have HLEN := Lib.hid (show zs.length ≤ 8 by rw [hzs]; exact numsUpto_len _ 8)
      have HCO := Lib.hid (fun W (hb : Below w.heap.size w W) => hzs ▸ implCalls_any op n k A c L B W (HL.out.below (Below.mono hb hB)) (Nat.le_trans hB (Below.size hb)) (HAL.out.below hb hB) hk1 hk2 hsz)
      have HPF := Lib.hid (fun W (hb : Below w.heap.size w W) => show Calls Try.prog 41 _ W (Gives (.agg #[.bool (endingT ds 0), .bool (endingT ds 1), .bool (endingT ds 2), .bool (endingT ds 3), .bool (endingT ds 4), .bool (endingT ds 5), .bool (endingT ds 6), .bool (endingT ds 7)]) W) from
        endingFuns_any ds DA DC LD BD W (HD.out.below (hb.mono hBD)) (Nat.le_trans hBD hb.size) (HALD.out.below hb hBD) hdz hv)
      have HHA := Lib.hid (fun W A5 c5 (h : LiesI W 0 W.heap.size A5 zs) => show Calls Try.prog 53 #[.agg #[.bool (endingT ds 0), .bool (endingT ds 1), .bool (endingT ds 2), .bool (endingT ds 3), .bool (endingT ds 4), .bool (endingT ds 5), .bool (endingT ds 6), .bool (endingT ds 7)], .slice A5 zs.length c5] W (Gives (.bool (endsB ds op n k)) W) by
        rw [hend]
        exact hasAll_any (endingT ds) zs A5 c5 W h (by have := HLEN.out; omega) HV.out)
      generalize endingT ds = T at HPF HHA
      have HFIT := Lib.hid (And.intro hv hf)
      clear hzs hend hv hf
      generalize hez : endsB ds op n k = ez at HHA
      have HEZ := Lib.hid hez
      clear hez
      have HSS := Lib.hid (fun w' (hr : Row w' w.heap.size 40 #[Value.int IntKind.i64 op, Value.int IntKind.i64 n, Value.slice A k.len c]) => hr.three)
      go_enter Try.func28, Try.ntmps28
      go_wp2_with fail
      refine (HA.out _ HB1.out).mono ?_
      rintro e w3 ⟨rfl, hb3⟩
      have HB3 := Lib.hid (HB1.out.trans (hb3.mono HB1.out.size))
      have HR3 := Lib.hid (HR1.out.below hb3 HR1.out.size)
      obtain ⟨z0, z1, z2⟩ := HR3.out.three
      clear hb3 HA HB1 HR1
      go_wp2_with fail
      refine (HC.out w3 HB3.out).mono ?_
      rintro e w4 ⟨rfl, hb4⟩
      have HB4 := Lib.hid (HB3.out.trans (hb4.mono HB3.out.size)).drew
      have HR4 := Lib.hid (HR3.out.below hb4 HR3.out.size).drew
      clear hb4 HC HB3 HR3 z0 z1 z2
      have s4 := HSS.out _ HR4.out
      go_wp2_with fail
      go_region_held3 (fun w' => w'.cell? ⟨w.heap.size, 0, none⟩ = some (.int .i64 op) ∧ w'.cell? ⟨w.heap.size, 1, none⟩ = some (.int .i64 n) ∧ w'.cell? ⟨w.heap.size, 2, none⟩ = some (.slice A k.len c))
        (first | with_reducible exact s4 | with_reducible exact s5 | with_reducible exact s6 | with_reducible exact s7 | fail)
        (first
          | (go_at_call 41
             with_reducible refine (HPF.out _ HB4.out).mono ?_
             rintro e w5 ⟨rfl, hb5⟩
             have HB5 := Lib.hid (HB4.out.trans (hb5.mono HB4.out.size))
             have HR5 := Lib.hid (HR4.out.below hb5 HR4.out.size)
             have s5 := HSS.out _ HR5.out
             clear hb5)
          | (go_at_call 54
             with_reducible refine (HCO.out _ HB5.out).mono ?_
             rintro e w6 ⟨v6, rfl, hown6, hb6⟩
             obtain ⟨A6, c6, rfl, hi6⟩ := own_ints hown6 HI.out
             have HB6 := Lib.hid (HB5.out.trans (hb6.mono HB5.out.size))
             have HR6 := Lib.hid (HR5.out.below hb6 HR5.out.size)
             have HI6 := Lib.hid (hi6.mono_ (Nat.zero_le _) (Nat.le_refl _))
             have s6 := HSS.out _ HR6.out
             clear hb6 hown6 hi6)
          | (go_at_call 53
             with_reducible refine (HHA.out _ _ _ HI6.out).mono ?_
             rintro e w7 ⟨rfl, hb7⟩
             have HB7 := Lib.hid (HB6.out.trans (hb7.mono HB6.out.size))
             have HR7 := Lib.hid (HR6.out.below hb7 HR6.out.size)
             have s7 := HSS.out _ HR7.out
             clear hb7))
      all_goals
        clear s4 s5 s6 s7 HPF HCO HHA HB4 HR4 HB5 HR5 HB6 HR6 HI6
        cases ez with
        | false =>
          have HZ := Lib.hid (boundR_no (ds := ds) (op := op) (n := n) (k := k) (most := (mo : Int)) (by unfold boundOk; rw [HEZ.out]; simp))
          go_wp2
          go_ret2
          exact ⟨by rw [HZ.out]; rfl, HB7.out⟩
        | true =>
          go_wp2_with fail
          refine (defsByName_any ds DA DC w7 LD BD (HD.out.below (HB7.out.mono hBD)) (Nat.le_trans hBD HB7.out.size) hds).mono ?_
          rintro e w8 ⟨es, rfl, hm8, hent8, hb8, hlt8⟩
          have hmm := makeMapI_run w8
          obtain ⟨M, hM⟩ : ∃ M : Nat, M = mo + 1 := ⟨_, rfl⟩
          have hw9 : IntKind.i64.wrap ((mo : Int) + 1) = (M : Int) := (IntWalk.i64_in _ (by omega)).trans (by omega)
          have HM := Lib.hid hM
          have hb9 : Below w8.heap.size w8 ((w8.alloc (Obj.map #[] 0)).alloc (Obj.cells #[Value.map (some w7.heap.size), Value.map (some w8.heap.size), Value.int .i64 (M : Int)] 77)) := ((Below.refl _ _).alloc (Nat.le_refl _) _).alloc (by simp) _
          have hbw8 : Below w.heap.size w w8 := HB7.out.trans (hb8.mono HB7.out.size)
          have hbd8 : BD ≤ w8.heap.size := Nat.le_trans hBD hbw8.size
          have hs : BS ds M LD BD w7.heap.size w8.heap.size := ⟨HFIT.out.1, hdz, by omega, hlt8, hbd8⟩
          have hbe : BE ds M LD BD w7.heap.size w8.heap.size es [] ((w8.alloc (Obj.map #[] 0)).alloc (Obj.cells #[Value.map (some w7.heap.size), Value.map (some w8.heap.size), Value.int .i64 (M : Int)] 77)) :=
            ⟨hm8.below hb9 hlt8, hent8.below (hb9.mono hbd8), ⟨#[], 0, (Below.heap_alloc _ _ _ (by simp)).trans (heap_alloc_new w8 _), rfl⟩, fun x u hx => by simp [ilook] at hx⟩
          have hlow : Lower ds ds.length (callB ⟨op, n, k⟩) := fun c hc => by
            have h1 := (ends_iff HFIT.out.1 HFIT.out.2).1 HEZ.out c hc
            have h2 := rch_there HFIT.out.1 HFIT.out.2 c (.base hc)
            exact ⟨h1, behind_len HFIT.out.1 h1 h2, h2⟩
          have hr9 : Row ((w8.alloc (Obj.map #[] 0)).alloc (Obj.cells #[Value.map (some w7.heap.size), Value.map (some w8.heap.size), Value.int .i64 (M : Int)] 77)) (w8.heap.size + 1) 77 #[Value.map (some w7.heap.size), Value.map (some w8.heap.size), Value.int .i64 (M : Int)] := by
            have := Row.fresh (w8.alloc (Obj.map #[] 0)) 77 #[Value.map (some w7.heap.size), Value.map (some w8.heap.size), Value.int .i64 (M : Int)]
            rw [World.size_alloc] at this
            exact this
          have hre := (HR7.out.below hb8 HR7.out.size).below hb9 (HR7.out.below hb8 HR7.out.size).size
          have HC := Lib.hid (bound_any ds M LD BD w7.heap.size w8.heap.size es hs ds.length (k.size + 1) (by omega) op n k A c _ [] (Nat.lt_succ_self _) (well_fit HFIT.out.2) hlow hbe ((HL.out.below (hbw8.mono hB)).below (hb9.mono (Nat.le_trans hB hbw8.size)) |>.mono_ (Nat.zero_le _) (Nat.le_trans hB hbw8.size)) hk1 hk2 hsz)
          have HOK := Lib.hid (show boundOk ds op n k (mo : Int) = decide (bnd (tabE ds M) M op n k ≤ mo) by
            unfold boundOk
            rw [HFIT.out.1, HFIT.out.2, HEZ.out, decide_eq_true (show (0 : Int) ≤ (mo : Int) by omega), decide_eq_true (show (mo : Int) ≤ 200 by omega), Int.toNat_natCast, hM]
            rfl)
          have HVL := Lib.hid (show boundOk ds op n k (mo : Int) = true → boundV ds op n k (mo : Int) = bnd (tabE ds M) M op n k by
            intro h
            unfold boundV
            rw [if_pos h, Int.toNat_natCast, hM])
          have hbl := bnd_le (tabE ds M) M op n k
          generalize bnd (tabE ds M) M op n k = a at HC HOK HVL hbl
          obtain ⟨p0, p1, p2⟩ := hr9.three
          obtain ⟨z0, z1, z2⟩ := hre.three
          have HR9 := Lib.hid hr9
          have HBW := Lib.hid hbw8
          have HB9 := Lib.hid hb9
          clear hM
          clear hb8 hm8 hent8 hlt8 hb9 hbw8 hbd8 hs hbe hlow hr9 hre HB7 HR7
          go_wp2_with fail
          with_reducible refine HC.out.mono ?_
          rintro e w11 ⟨rfl, _, hon⟩
          have hb11 := HBW.out.trans ((HB9.out.mono HBW.out.size).trans ((hon.mono (B' := w8.heap.size) HB9.out.size).below (Nat.le_refl _) |>.mono HBW.out.size))
          have hr11 := HR9.out.only hon HR9.out.size (by omega)
          have r2 := hr11.cell (i := 2) rfl
          have HB11 := Lib.hid hb11
          clear hb11 hr11 hon HC HR9 HBW HB9 p0 p1 p2 z0 z1 z2 hmm hw9
          have hM := HM.out
          by_cases ha : a = M
          · have HZ := Lib.hid (boundR_no (ds := ds) (op := op) (n := n) (k := k) (most := (mo : Int)) (by rw [HOK.out]; exact decide_eq_false (by omega)))
            have t1 : ((a : Int) == (M : Int)) = true := by simp; omega
            clear ha HOK HVL hM
            go_wp2
            go_ret2
            exact ⟨by rw [HZ.out]; rfl, HB11.out⟩
          · have h1 : boundOk ds op n k (mo : Int) = true := by rw [HOK.out]; exact decide_eq_true (by omega)
            have HZ := Lib.hid (show boundR ds op n k (mo : Int) = .tuple #[.int .i64 (a : Int), .bool true] by unfold boundR; rw [HVL.out h1, h1])
            have t1 : ((a : Int) == (M : Int)) = false := by simp; omega
            clear ha HOK HVL h1 hM
            go_wp2
            go_ret2
            exact ⟨by rw [HZ.out]; rfl, HB11.out⟩
theorem implBound_t (ds : List De) (DA : Option Addr) (DC : Nat) (op n : Int) (k : Fo) (A : Option Addr) (c : Nat) (most : Int) (LD BD L B : Nat) (w : World) (hd : LiesD w LD BD DA ds) (hBD : BD ≤ w.heap.size) (hald : AllRows w LD BD) (hl : Lies w L B A 0 k) (hB : B ≤ w.heap.size) (hal : AllRows w L B) (hdz : sizeD ds ≤ 1048576) (hk1 : k.len ≤ c) (hk2 : c ≤ maxLen) (hsz : k.size ≤ 1048576) :
    Calls Try.prog 28 #[.slice DA ds.length DC, .agg #[.int .i64 op, .int .i64 n, .slice A k.len c], .int .i64 most] w (Gives (.tuple #[.int .i64 ((boundV ds op n k most : Nat) : Int), .bool (boundOk ds op n k most)]) w) :=
  implBound_any ds DA DC op n k A c most LD BD L B w hd hBD hald hl hB hal hdz hk1 hk2 hsz

end Go.Proofs.Ytbpcggbmlaomjaa

namespace Go.Proofs.Ytbpcggbmlaomjaa
open Go.RowKit
set_option maxRecDepth 100000

/-- The table as numbers: the bounds of the functions at their places. -/
def tabL (tb : Int → Nat) (ds : List De) : List Int := ds.map fun d => (tb d.nm : Int)
theorem tabL_len (tb : Int → Nat) (ds : List De) : (tabL tb ds).length = ds.length := List.length_map _
theorem tabL_at {tb : Int → Nat} {ds : List De} {j : Nat} {d : De} (h : ds[j]? = some d) : (tabL tb ds)[j]? = some (tb d.nm : Int) := by unfold tabL; rw [List.getElem?_map, h]; rfl
/-- The place of a function that is there. -/
theorem place_at {ds : List De} {x : Int} {d : De} (h : fnd x ds = some d) : plc x ds < ds.length ∧ ds[plc x ds]? = some d := by
  have hp := plc_fnd x ds
  by_cases hl : plc x ds < ds.length
  · obtain ⟨e, e1, e2⟩ := hp.1 hl
    rw [h] at e2
    cases e2
    exact ⟨hl, e1⟩
  · have := hp.2 hl
    rw [h] at this
    cases this

/-- The sums of the model: all Kids of a node that is no OpIf; the first one, and the greatest of the others, of an OpIf. -/
def accN (op : Int) (zs : List Nat) : Nat := if op = 6 then zs.getD 0 0 else sumL zs
def accW (op : Int) : List Nat → Nat
  | [] => 0
  | _ :: r => if op = 6 then r.foldl max 0 else 0
theorem sumL_take_succ {zs : List Nat} {j a : Nat} (h : zs[j]? = some a) : sumL (zs.take (j + 1)) = sumL (zs.take j) + a := by
  rw [List.take_add_one, h]
  exact sumL_snoc _ _
theorem bndL_len (tb : Int → Nat) (M : Nat) : ∀ k : Fo, (bndL tb M k).length = k.len
  | .nil => rfl
  | .cons _ _ _ r => by rw [bndL_cons rfl, List.length_cons, bndL_len tb M r]; rfl
theorem bndL_get {tb : Int → Nat} {M : Nat} {k : Fo} {j : Nat} {o m : Int} {k' r : Fo} (h : k.drop j = .cons o m k' r) : (bndL tb M k)[j]? = some (bnd tb M o m k') := by
  have h1 := bndL_at (tb := tb) (M := M) h
  rw [List.getD_eq_getElem?_getD] at h1
  have h2 : j < (bndL tb M k).length := by
    rw [bndL_len]
    exact Classical.byContradiction fun hn => by
      have : k.drop j = .nil := by
        have h3 : ∀ (k : Fo) (j : Nat), k.len ≤ j → k.drop j = .nil := by
          intro k
          induction k with
          | nil => intro j _; exact Fo.drop_nil j
          | cons o m kk rr _ ih =>
            intro j hj
            cases j with
            | zero => simp [Fo.len] at hj
            | succ j => exact ih j (by simp only [Fo.len] at hj; omega)
        exact h3 k j (by omega)
      rw [this] at h
      cases h
  rw [List.getElem?_eq_getElem h2] at h1 ⊢
  simpa using h1
theorem sumL_le {M : Nat} : ∀ (zs : List Nat), (∀ z ∈ zs, z ≤ M) → sumL zs ≤ zs.length * M
  | [], _ => by simp [sumL]
  | a :: r, h => by
    have h1 := sumL_le r (fun z hz => h z (List.mem_cons_of_mem _ hz))
    have h2 := h a (List.mem_cons_self ..)
    rw [sumL_cons, List.length_cons, Nat.succ_mul]
    omega
theorem bndL_small (tb : Int → Nat) (M : Nat) : ∀ (k : Fo), ∀ z ∈ bndL tb M k, z ≤ M
  | .nil, z, h => by simp [bndL] at h
  | .cons op n k r, z, h => by
    rw [bndL_cons rfl] at h
    rcases List.mem_cons.1 h with rfl | h
    · exact bnd_le _ _ _ _ _
    · exact bndL_small tb M r z h

def madeT (n : Nat) : Array Value := madeCells #[Value.int IntKind.i64 0] (n * 1)
theorem madeT_run (n : Nat) (hn : n ≤ 3518437208883) (w : World) : (Instr.makeSlice 24 (.int .i64 (n : Int)) (.int .i64 (n : Int))).run Try.prog w = .ok (.slice (some ⟨w.heap.size, 0, Option.none⟩) n n) (w.alloc (.cells (madeT n) 3)) := by
  obtain ⟨i, hi, hz0, hz1, hz2⟩ := info_parts (show (Try.prog.info? 3).map (fun i => (i.zero, i.size, i.bytes)) = some (some (.int .i64 0), 1, 8) by kernel_rfl)
  have h := run_make (P := Try.prog) w 24 3 i _ Try.underlying24 hi hz0 .i64 .i64 (n : Int) (n : Int) (by omega) (by omega) (by rw [hz2]; omega) (by omega)
  rw [Int.toNat_natCast, hz1] at h
  exact h
theorem madeT_get (n i : Nat) (h : i < n) : (madeT n)[i]? = some (.int .i64 0) := by
  have h1 : (madeT n).size = n := by simp [madeT, size_madeCells]
  have h2 := Array.getElem?_eq_getElem (xs := madeT n) (i := i) (by omega)
  rw [h2]
  simp [madeT, madeCells, Nat.mod_one]

/-- Kids are three at the most. -/
theorem well_three {op n : Int} {k : Fo} (h : wellN op n k = true) : k.len ≤ 3 := by
  have h1 := wellN_ok h
  unfold kidsOk at h1
  split at h1
  · simp at h1; omega
  · split at h1
    · simp at h1; omega
    · split at h1
      · simp at h1; omega
      · split at h1
        · simp at h1; omega
        · split at h1
          · simp at h1; omega
          · cases h1
theorem sumL_take_le {M : Nat} {zs : List Nat} (h : ∀ z ∈ zs, z ≤ M) (j : Nat) (hj : zs.length ≤ 3) : sumL (zs.take j) ≤ 3 * M := by
  have h1 := sumL_le (zs.take j) (fun z hz => h z (List.mem_of_mem_take hz))
  have h2 : (zs.take j).length ≤ 3 := by rw [List.length_take]; omega
  exact Nat.le_trans h1 (Nat.mul_le_mul_right M h2)

/-- What l5Bound has to do at smaller trees. -/
def BdsOk (ds : List De) (DA : Option Addr) (DC : Nat) (tb : Int → Nat) (mo s : Nat) : Prop := ∀ (op n : Int) (k : Fo) (A : Option Addr) (c : Nat) (TA : Option Addr) (TC : Nat) (w : World), k.size < s → wellN op n k = true → fitN (ariS ds) op n k = true → LiesD w 0 w.heap.size DA ds → Lies w 0 w.heap.size A 0 k → LiesI w 0 w.heap.size TA (tabL tb ds) → k.size ≤ 1048576 →
    Calls Try.prog 51 #[.slice DA ds.length DC, .agg #[.int .i64 op, .int .i64 n, .slice A k.len c], .slice TA ds.length TC, .int .i64 (mo : Int)] w (Gives (.int .i64 (bnd tb (mo + 1) op n k : Nat)) w)

/-- What stands behind the loop: the worst, the call, the cap. -/
theorem min_cap (x mo : Nat) : min x (mo + 1) = if mo < x then mo + 1 else x := by split <;> omega

set_option maxHeartbeats 4000000 in
theorem l5Bound_other (ds : List De) (DA : Option Addr) (DC : Nat) (tb : Int → Nat) (mo : Nat) (hmo : mo ≤ 200) (htb : ∀ x, tb x ≤ 1000) (hds : ds.length ≤ 1048576) (op n : Int) (k : Fo) (A : Option Addr) (c : Nat) (TA : Option Addr) (TC : Nat) (w : World) (h6 : op ≠ 6) (hw : wellN op n k = true) (hf : fitN (ariS ds) op n k = true) (hd : LiesD w 0 w.heap.size DA ds) (hl : Lies w 0 w.heap.size A 0 k) (ht : LiesI w 0 w.heap.size TA (tabL tb ds)) (hsz : k.size ≤ 1048576)
    (hok : BdsOk ds DA DC tb mo k.size) : Calls Try.prog 51 #[.slice DA ds.length DC, .agg #[.int .i64 op, .int .i64 n, .slice A k.len c], .slice TA ds.length TC, .int .i64 (mo : Int)] w (Gives (.int .i64 (bnd tb (mo + 1) op n k : Nat)) w) := by
  have h3k := well_three hw
  have hfk : fitF (ariS ds) k = true := (Bool.and_eq_true_iff.1 hf).2
  obtain ⟨hb0, hr0⟩ := one_box w 40 #[Value.int .i64 op, Value.int .i64 n, Value.slice A k.len c]
  have HB0 := Lib.hid hb0
  have HR0 := Lib.hid hr0
  have HD := Lib.hid hd
  have HL := Lib.hid hl
  have HT := Lib.hid ht
  have hzl := bndL_len tb (mo + 1) k
  have HSMALL := Lib.hid (bndL_small tb (mo + 1) k)
  clear hb0 hr0 hd hl ht

  have t6 : (op == 6) = false := by simpa using h6
  have H6 := Lib.hid h6
  clear h6
  go_enter Try.func51, Try.ntmps51
  go_wp2_with fail
  go_loopw [9, 10, 11] (fun x y i wr => ∃ (j N W : Nat), j ≤ k.len ∧ i = .int .i64 j ∧ x = .int .i64 (N : Int) ∧ y = .int .i64 (W : Int) ∧ W = 0 ∧ N = sumL ((bndL tb (mo + 1) k).take j) ∧ Row wr w.heap.size 40 #[Value.int .i64 op, Value.int .i64 n, Value.slice A k.len c] ∧ Below w.heap.size w wr)
    (fun _ _ i _ => k.len - (intOf i).toNat)
  case atStart => exact ⟨0, 0, 0, Nat.zero_le _, rfl, rfl, rfl, rfl, rfl, HR0.out, HB0.out⟩
  case round =>
    clear HB0 HR0
    obtain ⟨j, N, W, hj, rfl, rfl, rfl, rfl, hN, hr, hb⟩ := hrel
    have r0 := hr.cell (i := 0) rfl
    have r2 := hr.cell (i := 2) rfl
    by_cases hlt : j < k.len
    · obtain ⟨o1, m1, k1, e1, s1, _⟩ := Fo.drop_of_lt k j hlt
      have wl := well_kid (wellN_kids hw) e1
      have fl := fit_kid hfk e1
      have hl1 := (HL.out.up hb).at_ j
      rw [Nat.zero_add, e1] at hl1
      obtain ⟨⟨b, o, A1, c1, hA, _, _, _, _, g1, g2, g3, h1, h2, l1⟩, _⟩ := hl1
      subst hA
      have HC := Lib.hid (hok o1 m1 k1 A1 c1 TA TC wr s1 wl fl (HD.out.up hb) l1 (HT.out.up hb) (by omega))
      have hget := bndL_get (tb := tb) (M := mo + 1) e1
      have hbl := bnd_le tb (mo + 1) o1 m1 k1
      generalize bnd tb (mo + 1) o1 m1 k1 = bz at HC hget hbl
      have HGET := Lib.hid hget
      have HR := Lib.hid hr
      have HB := Lib.hid hb
      clear wl fl s1 e1 l1 hr hb h1 h2 hget
      go_wp2_with fail
      with_reducible refine HC.out.mono ?_
      rintro e w2 ⟨rfl, hb2⟩
      have HB2 := Lib.hid (HB.out.trans (hb2.mono HB.out.size))
      have HR2 := Lib.hid (HR.out.below hb2 HR.out.size)
      have z0 := HR2.out.cell (i := 0) rfl
      clear hb2 HC HR HB g1 g2 g3 r0 r2

      have hNl : N ≤ 3 * (mo + 1) := by rw [hN]; exact sumL_take_le HSMALL.out j (by omega)
      have hN2 := Lib.hid (show N + bz = sumL ((bndL tb (mo + 1) k).take (j + 1)) by rw [sumL_take_succ HGET.out, hN])
      have hw1 : IntKind.i64.wrap ((N : Int) + (bz : Int)) = ((N + bz : Nat) : Int) := (IntWalk.i64_in _ (by omega)).trans (by omega)
      clear hN
      go_wp2
      go_roundw
      case rel => exact ⟨j + 1, N + bz, 0, hlt, by go_num, rfl, rfl, rfl, hN2.out, HR2.out, HB2.out⟩
      case measure => simp [intOf]; omega
    · have e9 : j = k.len := by omega
      have hN2 : N = sumL (bndL tb (mo + 1) k) := by rw [hN, e9, ← hzl, List.take_length]
      have hNl : N ≤ 3 * (mo + 1) := by rw [hN]; exact sumL_take_le HSMALL.out j (by omega)
      have HN := Lib.hid hN2
      have r1 := hr.cell (i := 1) rfl
      have HB := Lib.hid hb
      have HR := Lib.hid hr
      clear hN hN2 hr hb
      have hw1 : IntKind.i64.wrap ((N : Int) + 0) = (N : Int) := (IntWalk.i64_in _ (by omega)).trans (by omega)
      by_cases h3 : op = 3
      · have t3 : (op == 3) = true := by simpa using h3
        have hfc : ∃ d, fnd n ds = some d := by
          have h4 := (Bool.and_eq_true_iff.1 hf).1
          unfold okCall at h4
          rw [if_pos h3] at h4
          have h5 := of_decide_eq_true h4
          unfold ariS at h5
          cases hq : fnd n ds with
          | none => rw [hq] at h5; cases h5
          | some d => exact ⟨d, rfl⟩
        obtain ⟨d, hfd⟩ := hfc
        obtain ⟨hpl, hpd⟩ := place_at hfd
        have hdn : d.nm = n := (fnd_mem hfd).2
        have hP := place_any ds DA DC wr n (HD.out.up HB.out) hds
        unfold plcI at hP
        rw [if_pos hpl] at hP
        have HP := Lib.hid hP
        have htat := tabL_at (tb := tb) hpd
        rw [hdn] at htat
        have HTAT := Lib.hid htat
        generalize plc n ds = p at HP hpl HTAT
        have htn := htb n
        have HANS := Lib.hid (show bnd tb (mo + 1) op n k = min (N + 1 + tb n) (mo + 1) by rw [h3, bnd_call, HN.out]; omega)
        generalize tb n = tn at HTAT htn HANS
        clear hP htat hpd hfd hdn h3
        have hw2 : IntKind.i64.wrap ((N : Int) + 1) = ((N + 1 : Nat) : Int) := (IntWalk.i64_in _ (by omega)).trans (by omega)
        have hw3 : IntKind.i64.wrap (((N + 1 : Nat) : Int) + (tn : Int)) = ((N + 1 + tn : Nat) : Int) := (IntWalk.i64_in _ (by omega)).trans (by omega)
        have hw4 : IntKind.i64.wrap ((mo : Int) + 1) = ((mo + 1 : Nat) : Int) := (IntWalk.i64_in _ (by omega)).trans (by omega)
        go_wp2_with fail
        with_reducible refine HP.out.mono ?_
        rintro e w2 ⟨rfl, hb2⟩
        obtain ⟨tbk, tof, hTA, _, _, _, gt⟩ := (HT.out.up (HB.out.trans (hb2.mono HB.out.size))) p (tn : Int) HTAT.out
        subst hTA
        have HB2 := Lib.hid (HB.out.trans (hb2.mono HB.out.size))
        have hpi : (p : Int) < (ds.length : Int) := by omega
        clear hb2 HB HP HTAT
        by_cases hcap : mo < N + 1 + tn
        · have HF := Lib.hid (HANS.out.trans ((min_cap _ _).trans (if_pos hcap)))
          have tc : (mo : Int) < ((N + 1 + tn : Nat) : Int) := by omega
          clear hcap HANS
          go_wp2
          go_ret
          exact ⟨by rw [HF.out]; rfl, HB2.out⟩
        · have HF := Lib.hid (HANS.out.trans ((min_cap _ _).trans (if_neg hcap)))
          have tc : ¬ (mo : Int) < ((N + 1 + tn : Nat) : Int) := by omega
          clear hcap HANS
          go_wp2
          go_ret
          exact ⟨by rw [HF.out]; rfl, HB2.out⟩
      · have t3 : (op == 3) = false := by simpa using h3
        have HANS := Lib.hid (show bnd tb (mo + 1) op n k = min N (mo + 1) by rw [bnd_other H6.out h3, HN.out])
        have hw4 : IntKind.i64.wrap ((mo : Int) + 1) = ((mo + 1 : Nat) : Int) := (IntWalk.i64_in _ (by omega)).trans (by omega)
        clear h3
        by_cases hcap : mo < N
        · have HF := Lib.hid (HANS.out.trans ((min_cap _ _).trans (if_pos hcap)))
          have tc : (mo : Int) < (N : Int) := by omega
          clear HANS
          go_wp2
          go_ret
          exact ⟨by rw [HF.out]; rfl, HB.out⟩
        · have HF := Lib.hid (HANS.out.trans ((min_cap _ _).trans (if_neg hcap)))
          have tc : ¬ (mo : Int) < (N : Int) := by omega
          clear HANS
          go_wp2
          go_ret
          exact ⟨by rw [HF.out]; rfl, HB.out⟩

set_option maxHeartbeats 4000000 in
theorem l5Bound_if (ds : List De) (DA : Option Addr) (DC : Nat) (tb : Int → Nat) (mo : Nat) (hmo : mo ≤ 200) (_hds : ds.length ≤ 1048576) (n : Int) (k : Fo) (A : Option Addr) (c : Nat) (TA : Option Addr) (TC : Nat) (w : World) (hw : wellN 6 n k = true) (hf : fitN (ariS ds) 6 n k = true) (hd : LiesD w 0 w.heap.size DA ds) (hl : Lies w 0 w.heap.size A 0 k) (ht : LiesI w 0 w.heap.size TA (tabL tb ds)) (hsz : k.size ≤ 1048576)
    (hok : BdsOk ds DA DC tb mo k.size) : Calls Try.prog 51 #[.slice DA ds.length DC, .agg #[.int .i64 6, .int .i64 n, .slice A k.len c], .slice TA ds.length TC, .int .i64 (mo : Int)] w (Gives (.int .i64 (bnd tb (mo + 1) 6 n k : Nat)) w) := by
  have h3k := well_three hw
  have hfk : fitF (ariS ds) k = true := (Bool.and_eq_true_iff.1 hf).2
  obtain ⟨hb0, hr0⟩ := one_box w 40 #[Value.int .i64 6, Value.int .i64 n, Value.slice A k.len c]
  have HB0 := Lib.hid hb0
  have HR0 := Lib.hid hr0
  have HD := Lib.hid hd
  have HL := Lib.hid hl
  have HT := Lib.hid ht
  have hzl := bndL_len tb (mo + 1) k
  have HSMALL := Lib.hid (bndL_small tb (mo + 1) k)
  clear hb0 hr0 hd hl ht

  have HK3 := Lib.hid (wellN_if hw)
  go_enter Try.func51, Try.ntmps51
  go_wp2_with fail
  go_loopw [9, 10, 11] (fun x y i wr => ∃ (j N W : Nat), j ≤ k.len ∧ i = .int .i64 j ∧ x = .int .i64 (N : Int) ∧ y = .int .i64 (W : Int) ∧ Hid (N = (if j = 0 then 0 else (bndL tb (mo + 1) k).getD 0 0)) ∧ Hid (W = ((bndL tb (mo + 1) k).take j).tail.foldl max 0) ∧ Row wr w.heap.size 40 #[Value.int .i64 6, Value.int .i64 n, Value.slice A k.len c] ∧ Below w.heap.size w wr)
    (fun _ _ i _ => k.len - (intOf i).toNat)
  case atStart => exact ⟨0, 0, 0, Nat.zero_le _, rfl, rfl, rfl, Lib.hid rfl, Lib.hid rfl, HR0.out, HB0.out⟩
  case round =>
    clear HB0 HR0
    obtain ⟨j, N, W, hj, rfl, rfl, rfl, HNN, HWW, hr, hb⟩ := hrel
    have r0 := hr.cell (i := 0) rfl
    have r2 := hr.cell (i := 2) rfl
    by_cases hlt : j < k.len
    · obtain ⟨o1, m1, k1, e1, s1, _⟩ := Fo.drop_of_lt k j hlt
      have wl := well_kid (wellN_kids hw) e1
      have fl := fit_kid hfk e1
      have hl1 := (HL.out.up hb).at_ j
      rw [Nat.zero_add, e1] at hl1
      obtain ⟨⟨b, o, A1, c1, hA, _, _, _, _, g1, g2, g3, h1, h2, l1⟩, _⟩ := hl1
      subst hA
      have HC := Lib.hid (hok o1 m1 k1 A1 c1 TA TC wr s1 wl fl (HD.out.up hb) l1 (HT.out.up hb) (by omega))
      have hget := bndL_get (tb := tb) (M := mo + 1) e1
      have hbl := bnd_le tb (mo + 1) o1 m1 k1
      generalize bnd tb (mo + 1) o1 m1 k1 = bz at HC hget hbl
      have HGET := Lib.hid hget
      have HR := Lib.hid hr
      have HB := Lib.hid hb
      clear wl fl s1 e1 l1 hr hb h1 h2 hget
      go_wp2_with fail
      with_reducible refine HC.out.mono ?_
      rintro e w2 ⟨rfl, hb2⟩
      have HB2 := Lib.hid (HB.out.trans (hb2.mono HB.out.size))
      have HR2 := Lib.hid (HR.out.below hb2 HR.out.size)
      have z0 := HR2.out.cell (i := 0) rfl
      clear hb2 HC HR HB g1 g2 g3 r0 r2

      have hN := HNN.out
      have hW := HWW.out
      by_cases hj0 : j = 0
      · have hN1 := Lib.hid (show bz = (if j + 1 = 0 then 0 else (bndL tb (mo + 1) k).getD 0 0) by
          rw [if_neg (by omega)]
          have := HGET.out
          rw [hj0] at this
          rw [List.getD_eq_getElem?_getD, this]
          simp)
        have hW1 := Lib.hid (show 0 = ((bndL tb (mo + 1) k).take (j + 1)).tail.foldl max 0 by
          have := HGET.out
          rw [hj0] at this ⊢
          rw [List.take_add_one, this]
          rfl)
        have hN0 : N = 0 := by rw [hN, if_pos hj0]
        have hW0 : W = 0 := by rw [hW, hj0]; rfl
        subst hN0 hW0
        have tj : decide ((0 : Int) < (j : Int)) = false := by simp [hj0]
        have tj2 : decide (0 < j) = false := by simp [hj0]
        have hw1b : IntKind.i64.wrap ((0 : Int) + (bz : Int)) = (bz : Int) := (IntWalk.i64_in _ (by omega)).trans (by omega)
        clear hN hW hj0 HNN HWW
        go_wp2
        go_roundw
        case rel => exact ⟨j + 1, bz, 0, hlt, by go_num, (by first | rfl | simp), rfl, hN1, hW1, HR2.out, HB2.out⟩
        case measure => simp [intOf]; omega
      · have hN1 := Lib.hid (show N = (if j + 1 = 0 then 0 else (bndL tb (mo + 1) k).getD 0 0) by rw [if_neg (by omega), hN, if_neg hj0])
        have hW1 := Lib.hid (show max W bz = ((bndL tb (mo + 1) k).take (j + 1)).tail.foldl max 0 by
          have h2 := HGET.out
          rw [List.take_add_one, h2, List.tail_append_of_ne_nil (by
            intro h3
            have h4 := congrArg List.length h3
            rw [List.length_take, List.length_nil] at h4
            omega), List.foldl_append, ← hW]
          rfl)
        have tj : decide ((0 : Int) < (j : Int)) = true := by simp; omega
        have tj2 : decide (0 < j) = true := by simp; omega
        clear hN hW hj0 HNN HWW
        by_cases hc : W < bz
        · have hmx := Lib.hid (show max W bz = bz from Nat.max_eq_right (Nat.le_of_lt hc))
          have tc : decide ((W : Int) < (bz : Int)) = true := by simp; omega
          have tc2 : decide (W < bz) = true := by simpa using hc
          rw [hmx.out] at hW1
          clear hc
          go_wp2
          go_roundw
          case rel => exact ⟨j + 1, N, bz, hlt, by go_num, rfl, rfl, hN1, hW1, HR2.out, HB2.out⟩
          case measure => simp [intOf]; omega
        · have hmx := Lib.hid (show max W bz = W from Nat.max_eq_left (by omega))
          have tc : decide ((W : Int) < (bz : Int)) = false := by simp; omega
          have tc2 : decide (W < bz) = false := by simpa using hc
          rw [hmx.out] at hW1
          clear hc
          go_wp2
          go_roundw
          case rel => exact ⟨j + 1, N, W, hlt, by go_num, rfl, rfl, hN1, hW1, HR2.out, HB2.out⟩
          case measure => simp [intOf]; omega
    · have hN := HNN.out
      have hW := HWW.out
      have hk3 := HK3.out
      have e9 : j = 3 := by omega
      have hzs : ∃ a b c, bndL tb (mo + 1) k = [a, b, c] := by
        have h1 : (bndL tb (mo + 1) k).length = 3 := by rw [hzl, hk3]
        match h2 : bndL tb (mo + 1) k with
        | [a, b, c] => exact ⟨a, b, c, rfl⟩
        | [] => rw [h2] at h1; simp at h1
        | [_] => rw [h2] at h1; simp at h1
        | [_, _] => rw [h2] at h1; simp at h1
        | _ :: _ :: _ :: _ :: _ => rw [h2] at h1; simp at h1
      obtain ⟨za, zb, zc, hz⟩ := hzs
      have hsm := HSMALL.out
      rw [hz] at hN hW hsm
      have l0 := hsm za (by simp)
      have l1 := hsm zb (by simp)
      have l2 := hsm zc (by simp)
      have hN2 : N = za := by rw [hN, e9]; rfl
      have hW2 : W = max zb zc := by rw [hW, e9]; simp
      have HANS := Lib.hid (show bnd tb (mo + 1) 6 n k = min (N + W) (mo + 1) by rw [bnd, bndN, if_pos rfl, hz, hN2, hW2]; rfl)
      have hwl : W ≤ mo + 1 := by omega
      have hnl : N ≤ mo + 1 := by omega
      have HB := Lib.hid hb
      have HR := Lib.hid hr
      clear hN hW HNN HWW hN2 hW2 hsm hz l0 l1 l2 hr hb e9 hk3
      have hw1 : IntKind.i64.wrap ((N : Int) + (W : Int)) = ((N + W : Nat) : Int) := (IntWalk.i64_in _ (by omega)).trans (by omega)
      have hw4 : IntKind.i64.wrap ((mo : Int) + 1) = ((mo + 1 : Nat) : Int) := (IntWalk.i64_in _ (by omega)).trans (by omega)
      by_cases hcap : mo < N + W
      · have HF := Lib.hid (HANS.out.trans ((min_cap _ _).trans (if_pos hcap)))
        have tc : (mo : Int) < ((N + W : Nat) : Int) := by omega
        clear hcap HANS
        go_wp2
        go_ret
        exact ⟨by rw [HF.out]; rfl, HB.out⟩
      · have HF := Lib.hid (HANS.out.trans ((min_cap _ _).trans (if_neg hcap)))
        have tc : ¬ (mo : Int) < ((N + W : Nat) : Int) := by omega
        clear hcap HANS
        go_wp2
        go_ret
        exact ⟨by rw [HF.out]; rfl, HB.out⟩

theorem l5Bound_any (ds : List De) (DA : Option Addr) (DC : Nat) (tb : Int → Nat) (mo : Nat) (hmo : mo ≤ 200) (htb : ∀ x, tb x ≤ 1000) (hds : ds.length ≤ 1048576) (m : Nat) : BdsOk ds DA DC tb mo m := by
  induction m with
  | zero => intro op n k A c TA TC w hs; omega
  | succ m ih =>
    intro op n k A c TA TC w hs hw hf hd hl ht hsz
    have hok : BdsOk ds DA DC tb mo k.size := fun op n k' A c TA TC w h1 h2 h3 h4 h5 h6 h7 => ih op n k' A c TA TC w (by omega) h2 h3 h4 h5 h6 h7
    by_cases h6 : op = 6
    · subst h6
      exact l5Bound_if ds DA DC tb mo hmo hds n k A c TA TC w hw hf hd hl ht hsz hok
    · exact l5Bound_other ds DA DC tb mo hmo htb hds op n k A c TA TC w h6 hw hf hd hl ht hsz hok

end Go.Proofs.Ytbpcggbmlaomjaa

namespace Go.Proofs.Ytbpcggbmlaomjaa
open Go.RowKit Go.Shelf
set_option maxRecDepth 100000

theorem tabR_le (ds : List De) (M : Nat) : ∀ (r : Nat) (x : Int), tabR ds M r x ≤ M
  | 0, x => Nat.zero_le _
  | r + 1, x => by
    unfold tabR
    split
    · exact bnd_le _ _ _ _ _
    · exact Nat.zero_le _
/-- A table in memory. -/
def TabAt (w : World) (g : Nat) (ds : List De) (tb : Int → Nat) : Prop := ∃ cs : Array Value, Row w g 3 cs ∧ cs.size = ds.length ∧ ∀ (i : Nat) (d : De), ds[i]? = some d → cs[i]? = some (Value.int IntKind.i64 (tb d.nm : Int))
theorem TabAt.below {w w' : World} {g : Nat} {ds : List De} {tb : Int → Nat} (h : TabAt w g ds tb) (hb : Below w.heap.size w w') : TabAt w' g ds tb :=
  let ⟨cs, h1, h2, h3⟩ := h; ⟨cs, h1.below hb h1.size, h2, h3⟩
theorem TabAt.size {w : World} {g : Nat} {ds : List De} {tb : Int → Nat} (h : TabAt w g ds tb) : g < w.heap.size := let ⟨_, h1, _, _⟩ := h; h1.size
theorem TabAt.apart {w : World} {g : Nat} {ds : List De} {tb : Int → Nat} (h : TabAt w g ds tb) {p : Addr} (hp : g ≠ p.block) (v : Value) : TabAt (w.setCell p v) g ds tb :=
  let ⟨cs, h1, h2, h3⟩ := h; ⟨cs, h1.apart hp v, h2, h3⟩
theorem TabAt.lies {w : World} {g : Nat} {ds : List De} {tb : Int → Nat} (h : TabAt w g ds tb) (hs : ∀ x, tb x ≤ 1000) : LiesI w 0 w.heap.size (some ⟨g, 0, none⟩) (tabL tb ds) := by
  obtain ⟨cs, h1, h2, h3⟩ := h
  intro i x hx
  unfold tabL at hx
  rw [List.getElem?_map] at hx
  cases hd : ds[i]? with
  | none => rw [hd] at hx; cases hx
  | some d =>
    rw [hd] at hx
    simp at hx
    subst hx
    have := hs d.nm
    exact ⟨g, 0, rfl, Nat.zero_le _, h1.size, by unfold I64; omega, by rw [Nat.zero_add]; exact h1.cell (h3 i d hd)⟩

def TablePost (ds : List De) (tb : Int → Nat) (w : World) (e : Ending) (w' : World) : Prop := ∃ g, e = .returned (.slice (some ⟨g, 0, none⟩) ds.length ds.length) ∧ TabAt w' g ds tb ∧ Below w.heap.size w w'

set_option maxHeartbeats 4000000 in
theorem l5Table_any (ds : List De) (DA : Option Addr) (DC : Nat) (mo : Nat) (hmo : mo ≤ 200) (hdz : sizeD ds ≤ 1048576) (hok : libOk ds = true) (w : World) (hd : LiesD w 0 w.heap.size DA ds) :
    Calls Try.prog 52 #[.slice DA ds.length DC, .int .i64 (mo : Int)] w (TablePost ds (tabE ds (mo + 1)) w) := by
  have hds := Nat.le_trans (sizeD_len ds) hdz
  have hmk := madeT_run ds.length (by omega)
  have hz0 : ∀ i, i < ds.length → (madeT ds.length)[i]? = some (.int .i64 0) := fun i h => madeT_get _ _ h
  have hzs : (madeT ds.length).size = ds.length := by simp [madeT, size_madeCells]
  have HT0 := Lib.hid (show TabAt (w.alloc (.cells (madeT ds.length) 3)) w.heap.size ds (tabR ds (mo + 1) 0) from ⟨_, Row.fresh w _ _, hzs, fun i d hd => by rw [hz0 i (List.getElem?_eq_some_iff.1 hd).1]; rfl⟩)
  have HB0 := Lib.hid ((Below.refl w.heap.size w).alloc (Nat.le_refl _) (.cells (madeT ds.length) 3))
  have HZ0 := Lib.hid hz0
  have HZS := Lib.hid hzs
  have HD := Lib.hid hd
  have HOK := Lib.hid hok
  have HMK := Lib.hid hmk
  clear hz0 hzs hd hok
  go_enter Try.func52, Try.ntmps52
  go_wp2_with fail
  clear hmk
  go_loopw [5, 6] (fun t x wr => ∃ (r g : Nat), r ≤ ds.length ∧ x = .int .i64 r ∧ t = .slice (some ⟨g, 0, none⟩) ds.length ds.length ∧ w.heap.size ≤ g ∧ TabAt wr g ds (tabR ds (mo + 1) r) ∧ Below w.heap.size w wr)
    (fun _ x _ => ds.length - (intOf x).toNat)
  case atStart => exact ⟨0, _, Nat.zero_le _, rfl, rfl, Nat.le_refl _, HT0.out, HB0.out⟩
  case round =>
    clear HT0 HB0
    obtain ⟨r, g, hr, rfl, rfl, hg, htab, hb⟩ := hrel
    by_cases hlt : r < ds.length
    · obtain ⟨wo, rfl⟩ : ∃ wo : World, wo = wr := ⟨_, rfl⟩
      have hmk := HMK.out
      have hgz := htab.size
      have HTAB := Lib.hid (htab.below ((Below.refl _ wo).alloc (Nat.le_refl _) (.cells (madeT ds.length) 3)))
      have HBN := Lib.hid (hb.alloc hb.size (.cells (madeT ds.length) 3))
      have HRN := Lib.hid (Row.fresh wo 3 (madeT ds.length))
      have HGG := Lib.hid (And.intro hgz hb.size)
      clear htab hb hgz
      go_wp2_with fail
      clear hmk
      go_loopw [8] (fun x wr => ∃ (j : Nat) (cs : Array Value), j ≤ ds.length ∧ x = .int .i64 j ∧ Row wr wo.heap.size 3 cs ∧ Hid (cs.size = ds.length ∧ ∀ (i : Nat) (d : De), i < j → ds[i]? = some d → cs[i]? = some (Value.int IntKind.i64 (tabR ds (mo + 1) (r + 1) d.nm : Int))) ∧ TabAt wr g ds (tabR ds (mo + 1) r) ∧ Below w.heap.size w wr)
        (fun x _ => ds.length - (intOf x).toNat)
      case atStart => exact ⟨0, _, Nat.zero_le _, rfl, HRN.out, Lib.hid ⟨HZS.out, fun i d h => absurd h (Nat.not_lt_zero _)⟩, HTAB.out, HBN.out⟩
      case round =>
        clear HTAB HBN HRN
        obtain ⟨j, cs, hj, rfl, hrow, HCS, htab, hb⟩ := hrel
        by_cases hltj : j < ds.length
        · have e1 := List.getElem?_eq_getElem hltj
          generalize ds[j] = d at e1
          have hdm := List.mem_of_getElem? e1
          have hnm := libOk_named HOK.out d hdm
          obtain ⟨b, o, A', c', hA, _, hbb, hf', g1, g2, g3, g4, g5, g6, h7, h8, h9⟩ := HD.out.below hb j d e1
          have hks : d.k.size ≤ 1048576 := by have := sizeD_at e1; omega
          have HC := Lib.hid (l5Bound_any ds DA DC (tabR ds (mo + 1) r) mo hmo (fun x => by have := tabR_le ds (mo + 1) r x; omega) hds (d.k.size + 1) d.op d.n d.k A' c' (some ⟨g, 0, none⟩) ds.length wr (Nat.lt_succ_self _) (lib_well HOK.out hdm) (libOk_body HOK.out d hdm) (HD.out.up hb) (h9.mono_ (Nat.le_refl _) hb.size) (htab.lies (fun x => by have := tabR_le ds (mo + 1) r x; omega)) hks)
          have HTR := Lib.hid (show tabR ds (mo + 1) (r + 1) d.nm = bnd (tabR ds (mo + 1) r) (mo + 1) d.op d.n d.k from tabR_at hnm.2)
          generalize bnd (tabR ds (mo + 1) r) (mo + 1) d.op d.n d.k = bz at HC HTR
          subst hA
          have HROW := Lib.hid hrow
          have HTAB := Lib.hid htab
          have HB := Lib.hid hb
          have HE := Lib.hid e1
          clear hrow htab hb e1 hdm hnm hf' g1 g2 g3 h9
          go_wp2_with fail
          with_reducible refine HC.out.mono ?_
          rintro e w2 ⟨rfl, hb2⟩
          have hr2 := HROW.out.below hb2 HROW.out.size
          have hcj : cs[j]? = some cs[j]! := by
            have := HCS.out.1
            rw [Array.getElem?_eq_getElem (by omega)]
            simp [show j < cs.size by omega]
          have qj := hr2.cell hcj
          have fj := hr2.free j
          have HP := Lib.hid (hr2.put j (Value.int IntKind.i64 (bz : Int)))
          have hgn : g ≠ wo.heap.size := by have := HGG.out.1; omega
          have HT2 := Lib.hid ((HTAB.out.below hb2).apart (p := ⟨wo.heap.size, j, none⟩) hgn (Value.int IntKind.i64 (bz : Int)))
          have HB2 := Lib.hid ((HB.out.trans (hb2.mono HB.out.size)).setCell (p := ⟨wo.heap.size, j, none⟩) HGG.out.2 (Value.int IntKind.i64 (bz : Int)))
          have HC2 := Lib.hid (show (cs.setIfInBounds j (Value.int IntKind.i64 (bz : Int))).size = ds.length ∧ ∀ (i : Nat) (d : De), i < j + 1 → ds[i]? = some d → (cs.setIfInBounds j (Value.int IntKind.i64 (bz : Int)))[i]? = some (Value.int IntKind.i64 (tabR ds (mo + 1) (r + 1) d.nm : Int)) from by
            have h1 := HCS.out
            refine ⟨by simp [h1.1], fun i d' hi hd' => ?_⟩
            by_cases hij : i = j
            · subst hij
              rw [HE.out] at hd'
              cases hd'
              rw [Array.getElem?_setIfInBounds_self_of_lt (by omega), HTR.out]
            · rw [Array.getElem?_setIfInBounds_ne (by omega)]
              exact h1.2 i d' (by omega) hd')
          clear hb2 hr2 hcj HROW HTAB HB HC HCS g4 g5 g6
          go_wp2
          go_roundw
          case rel => exact ⟨j + 1, _, hltj, by go_num, HP.out, HC2, HT2.out, HB2.out⟩
          case measure => simp [intOf]; omega
        · have e9 : j = ds.length := by omega
          have HTF := Lib.hid (show TabAt wr wo.heap.size ds (tabR ds (mo + 1) (r + 1)) from ⟨cs, hrow, HCS.out.1, fun i d hd => HCS.out.2 i d (by have := (List.getElem?_eq_some_iff.1 hd).1; omega) hd⟩)
          have HB := Lib.hid hb
          have hwg := HGG.out.2
          clear hrow HCS htab hb
          go_wp2
          go_roundw
          case rel => exact ⟨r + 1, wo.heap.size, hlt, by go_num, rfl, hwg, HTF.out, HB.out⟩
          case measure => simp [intOf]; omega
    · have e9 : r = ds.length := by omega
      subst e9
      have HTAB := Lib.hid htab
      have HB := Lib.hid hb
      clear htab hb
      go_wp2
      go_ret
      exact ⟨g, rfl, HTAB.out, HB.out⟩


set_option maxHeartbeats 4000000 in
theorem specBound_any (ds : List De) (DA : Option Addr) (DC : Nat) (op n : Int) (k : Fo) (A : Option Addr) (c : Nat) (most : Int) (w : World) (hd : LiesD w 0 w.heap.size DA ds) (hl : Lies w 0 w.heap.size A 0 k) (hdz : sizeD ds ≤ 1048576) (hlen : k.len ≤ maxLen) (hsz : k.size ≤ 1048576) :
    Calls Try.prog 27 #[.slice DA ds.length DC, .agg #[.int .i64 op, .int .i64 n, .slice A k.len c], .int .i64 most] w (Gives (boundR ds op n k most) w) := by
  have hds := Nat.le_trans (sizeD_len ds) hdz
  obtain ⟨hb1, hr1⟩ := one_box w 40 #[Value.int IntKind.i64 op, Value.int IntKind.i64 n, Value.slice A k.len c]
  have HA := Lib.hid (l5Right_any ds DA DC op n k A c _ (hd.up hb1) (hl.up hb1) hdz hlen hsz)
  have q0 := hr1.cell (i := 0) rfl
  have q1 := hr1.cell (i := 1) rfl
  have q2 := hr1.cell (i := 2) rfl
  have HB1 := Lib.hid hb1
  have HR1 := Lib.hid hr1
  have HD := Lib.hid hd
  have HL := Lib.hid hl
  clear hb1 hr1 hd hl
  cases hv : (libOk ds && callsFitB ds op n k) with
  | false =>
    rw [hv] at HA
    have HZ := Lib.hid (boundR_no (ds := ds) (op := op) (n := n) (k := k) (most := most) (by unfold boundOk; rw [hv]; rfl))
    clear hv
    go_enter Try.func27, Try.ntmps27
    go_wp2_with fail
    refine HA.out.mono ?_
    rintro e w2 ⟨rfl, hb2⟩
    have HB2 := Lib.hid (HB1.out.trans (hb2.mono HB1.out.size))
    clear hb2 HA HB1 HR1 q0 q1 q2
    go_wp2
    go_ret2
    exact ⟨by rw [HZ.out]; rfl, HB2.out⟩
  | true =>
    rw [hv] at HA
    by_cases m0 : most < 0
    · have HZ := Lib.hid (boundR_no (ds := ds) (op := op) (n := n) (k := k) (most := most) (by unfold boundOk; rw [decide_eq_false (show ¬ 0 ≤ most by omega)]; simp))
      have t0 : decide (most < 0) = true := by simpa using m0
      clear hv
      go_enter Try.func27, Try.ntmps27
      go_wp2_with fail
      refine HA.out.mono ?_
      rintro e w2 ⟨rfl, hb2⟩
      have HB2 := Lib.hid (HB1.out.trans (hb2.mono HB1.out.size))
      clear hb2 HA HB1 HR1 q0 q1 q2
      go_wp2
      go_ret2
      exact ⟨by rw [HZ.out]; rfl, HB2.out⟩
    have t0 : decide (most < 0) = false := by simpa using m0
    by_cases m2 : 200 < most
    · have HZ := Lib.hid (boundR_no (ds := ds) (op := op) (n := n) (k := k) (most := most) (by unfold boundOk; rw [decide_eq_false (show ¬ most ≤ 200 by omega)]; simp))
      have t2 : decide (200 < most) = true := by simpa using m2
      clear hv
      go_enter Try.func27, Try.ntmps27
      go_wp2_with fail
      refine HA.out.mono ?_
      rintro e w2 ⟨rfl, hb2⟩
      have HB2 := Lib.hid (HB1.out.trans (hb2.mono HB1.out.size))
      clear hb2 HA HB1 HR1 q0 q1 q2
      go_wp2
      go_ret2
      exact ⟨by rw [HZ.out]; rfl, HB2.out⟩
    have t2 : decide (200 < most) = false := by simpa using m2
    obtain ⟨mo, hmo⟩ : ∃ mo : Nat, most = (mo : Int) := ⟨most.toNat, by omega⟩
    subst hmo
    have hm200 : mo ≤ 200 := by omega
    have HFIT := Lib.hid (Bool.and_eq_true_iff.1 hv)
    clear hv
    obtain ⟨F, hF⟩ : ∃ F, F = fromS ds op n k := ⟨_, rfl⟩
    have HQ := Lib.hid (show endsB ds op n k = ds.all fun d => !(F d.nm.toNat && !endingS ds d.nm) by rw [hF]; rfl)
    have HC := Lib.hid (fun W (hb : Below w.heap.size w W) => show Calls Try.prog 50 #[.slice DA ds.length DC, .agg #[.int .i64 op, .int .i64 n, .slice A k.len c]] W (FromPost F W) from hF ▸ l2From_any ds DA DC op n k A c W (HD.out.up hb) (HL.out.up hb) hdz hsz)
    clear hF
    go_enter Try.func27, Try.ntmps27
    go_wp2_with fail
    refine HA.out.mono ?_
    rintro e w2 ⟨rfl, hb2⟩
    have HB2 := Lib.hid (HB1.out.trans (hb2.mono HB1.out.size))
    have HR2 := Lib.hid (HR1.out.below hb2 HR1.out.size)
    have z0 := HR2.out.cell (i := 0) rfl
    have z1 := HR2.out.cell (i := 1) rfl
    have z2 := HR2.out.cell (i := 2) rfl
    clear hb2 HA HB1 HR1 q0 q1 q2
    go_wp2_with fail
    refine (HC.out w2 HB2.out).mono ?_
    rintro e w3 ⟨g, rfl, hrow, hg, hb3⟩
    have HW3 := Lib.hid hrow
    have HR3 := Lib.hid (HR2.out.below hb3 HR2.out.size)
    have HB3 := Lib.hid (HB2.out.trans (hb3.mono HB2.out.size))
    clear hrow hb3 HC HB2 HR2 z0 z1 z2 hg
    go_wp2_with fail
    go_loopw [9] (fun i wr => ∃ (j : Nat), j ≤ ds.length ∧ i = .int .i64 j ∧ (ds.take j).all (fun d => !(F d.nm.toNat && !endingS ds d.nm)) = true ∧ Row wr g 4 (cells8 F) ∧ Row wr w.heap.size 40 #[Value.int IntKind.i64 op, Value.int IntKind.i64 n, Value.slice A k.len c] ∧ Below w.heap.size w wr)
      (fun i _ => ds.length - (intOf i).toNat)
    case atStart => exact ⟨0, by omega, rfl, rfl, HW3.out, HR3.out, HB3.out⟩
    case round =>
      clear HW3 HR3 HB3
      obtain ⟨j, hj, rfl, hall, hrow, hre, hb⟩ := hrel
      by_cases hlt : j < ds.length
      · have e1 := List.getElem?_eq_getElem hlt
        generalize ds[j] = d at e1
        have hdm := List.mem_of_getElem? e1
        obtain ⟨b, o, A', c', hA, _, hbb, hf, g1, g2, g3, g4, g5, g6, h7, h8, h9⟩ := HD.out.below hb j d e1
        subst hA
        obtain ⟨en, e8⟩ := inVar_nat (libOk_named HFIT.out.1 d hdm).1
        have hst := all_take_succ (p := fun d : De => !(F d.nm.toNat && !endingS ds d.nm)) e1
        rw [hall, Bool.true_and] at hst
        have HST := Lib.hid hst
        have HALL := Lib.hid (fun h => all_take_false (p := fun d : De => !(F d.nm.toNat && !endingS ds d.nm)) hdm h)
        have HROW := Lib.hid hrow
        have HRE := Lib.hid hre
        have HB := Lib.hid hb
        have HE := Lib.hid (l5Ending_any ds (some ⟨b, o, none⟩) DC d.nm wr (HD.out.up hb) hdz (fun d hd => (libOk_named HFIT.out.1 d hd).1))
        generalize hy : endingS ds d.nm = y at HE HST
        have HY := Lib.hid hy
        obtain ⟨v, hv⟩ : ∃ v : Nat, v = d.nm.toNat := ⟨_, rfl⟩
        rw [← hv] at en e8 HST HALL
        rw [← en] at g1 HE
        have qv := hrow.cell (cells8_at F e8)
        clear hst hall hrow hre hb e1 h9 hf g2 g3 g4 g5 g6 hv en hdm h7 h8 hy
        cases hU : F v with
        | false =>
          rw [hU] at qv
          have HF := Lib.hid (show (ds.take (j + 1)).all (fun d => !(F d.nm.toNat && !endingS ds d.nm)) = true by rw [HST.out, hU]; rfl)
          clear hU HST HALL HE HY
          go_wp2
          go_roundw
          case rel => exact ⟨j + 1, hlt, by go_num, HF.out, HROW.out, HRE.out, HB.out⟩
          case measure => simp [intOf]; omega
        | true =>
          rw [hU] at qv
          go_wp2_with fail
          refine HE.out.mono ?_
          rintro e w4 ⟨rfl, hb4⟩
          have HR4 := Lib.hid (HROW.out.below hb4 HROW.out.size)
          have HE4 := Lib.hid (HRE.out.below hb4 HRE.out.size)
          have HB4 := Lib.hid (HB.out.trans (hb4.mono HB.out.size))
          clear hb4 HROW HRE HB HE qv g1
          cases y with
          | false =>
            have HF := Lib.hid (boundR_no (ds := ds) (op := op) (n := n) (k := k) (most := (mo : Int)) (by unfold boundOk; rw [HQ.out, HALL.out (by rw [hU, HY.out]; rfl)]; simp))
            clear hU HST HALL HY
            go_wp2
            go_ret2
            exact ⟨by rw [HF.out]; rfl, HB4.out⟩
          | true =>
            have HF := Lib.hid (show (ds.take (j + 1)).all (fun d => !(F d.nm.toNat && !endingS ds d.nm)) = true by rw [HST.out, hU]; rfl)
            clear hU HST HALL HY
            go_wp2
            go_roundw
            case rel => exact ⟨j + 1, hlt, by go_num, HF.out, HR4.out, HE4.out, HB4.out⟩
            case measure => simp [intOf]; omega
      · have e9 : j = ds.length := by omega
        subst e9
        rw [List.take_length] at hall
        have HEND := Lib.hid (HQ.out.trans hall)
        obtain ⟨M, hM⟩ : ∃ M : Nat, M = mo + 1 := ⟨_, rfl⟩
        have HM := Lib.hid hM
        have HTB := Lib.hid (fun W (hb : Below w.heap.size w W) => show Calls Try.prog 52 #[.slice DA ds.length DC, .int .i64 (mo : Int)] W (TablePost ds (tabE ds M) W) by rw [hM]; exact l5Table_any ds DA DC mo hm200 hdz HFIT.out.1 W (HD.out.up hb))
        have HBD := Lib.hid (fun (W : World) (TA : Option Addr) (hb : Below w.heap.size w W) (ht : LiesI W 0 W.heap.size TA (tabL (tabE ds M) ds)) =>
          show Calls Try.prog 51 #[.slice DA ds.length DC, .agg #[.int .i64 op, .int .i64 n, .slice A k.len c], .slice TA ds.length ds.length, .int .i64 (mo : Int)] W (Gives (.int .i64 (bnd (tabE ds M) M op n k : Nat)) W) by
            rw [hM] at ht ⊢
            exact l5Bound_any ds DA DC (tabE ds (mo + 1)) mo hm200 (fun x => by have := tabR_le ds (mo + 1) ds.length x; unfold tabE; omega) hds (k.size + 1) op n k A c TA ds.length W (Nat.lt_succ_self _) (well_fit HFIT.out.2) (by have h := HFIT.out.2; unfold callsFitB at h; rw [Bool.and_eq_true] at h; exact h.2) (HD.out.up hb) (HL.out.up hb) ht hsz)
        have HOK := Lib.hid (show boundOk ds op n k (mo : Int) = decide (bnd (tabE ds M) M op n k ≤ mo) by
          unfold boundOk
          rw [HFIT.out.1, HFIT.out.2, HEND.out, decide_eq_true (show (0 : Int) ≤ (mo : Int) by omega), decide_eq_true (show (mo : Int) ≤ 200 by omega), Int.toNat_natCast, hM]
          rfl)
        have HVL := Lib.hid (show boundOk ds op n k (mo : Int) = true → boundV ds op n k (mo : Int) = bnd (tabE ds M) M op n k by
          intro h
          unfold boundV
          rw [if_pos h, Int.toNat_natCast, hM])
        have HTL := Lib.hid (fun (W : World) (g : Nat) (h : TabAt W g ds (tabE ds M)) => h.lies (fun x => by have := tabR_le ds M ds.length x; unfold tabE; omega))
        have hbl := bnd_le (tabE ds M) M op n k
        generalize tabE ds M = tb at *
        generalize bnd tb M op n k = a at HBD HOK HVL hbl
        have HRE := Lib.hid hre.drew
        have HB := Lib.hid hb.drew
        have HSS := Lib.hid (fun w' (hr : Row w' w.heap.size 40 #[Value.int IntKind.i64 op, Value.int IntKind.i64 n, Value.slice A k.len c]) => hr.three)
        have s4 := HSS.out _ HRE.out
        clear hall hrow hre hb hM HQ
        go_wp2_with fail
        go_region_held3 (fun w' => w'.cell? ⟨w.heap.size, 0, none⟩ = some (.int .i64 op) ∧ w'.cell? ⟨w.heap.size, 1, none⟩ = some (.int .i64 n) ∧ w'.cell? ⟨w.heap.size, 2, none⟩ = some (.slice A k.len c))
          (first | with_reducible exact s4 | with_reducible exact s5 | with_reducible exact s6 | fail)
          (first
            | (go_at_call 52
               with_reducible refine (HTB.out _ HB.out).mono ?_
               rintro e w5 ⟨g5, rfl, htab5, hb5⟩
               have HB5 := Lib.hid (HB.out.trans (hb5.mono HB.out.size))
               have HR5 := Lib.hid (HRE.out.below hb5 HRE.out.size)
               have HT5 := Lib.hid (HTL.out _ _ htab5)
               have s5 := HSS.out _ HR5.out
               clear hb5 htab5)
            | (go_at_call 51
               with_reducible refine (HBD.out _ _ HB5.out HT5.out).mono ?_
               rintro e w6 ⟨rfl, hb6⟩
               have HB6 := Lib.hid (HB5.out.trans (hb6.mono HB5.out.size))
               have HR6 := Lib.hid (HR5.out.below hb6 HR5.out.size)
               have s6 := HSS.out _ HR6.out
               clear hb6))
        all_goals
          clear s4 s5 s6 HB HRE HTB HBD HTL HB5 HR5 HT5 HR6
          have hM := HM.out
          by_cases ha : mo < a
          · have HZ := Lib.hid (boundR_no (ds := ds) (op := op) (n := n) (k := k) (most := (mo : Int)) (by rw [HOK.out]; exact decide_eq_false (by omega)))
            have t1 : (mo : Int) < (a : Int) := by omega
            clear ha HOK HVL hM
            go_wp2
            go_ret2
            exact ⟨by rw [HZ.out]; rfl, HB6.out⟩
          · have h1 : boundOk ds op n k (mo : Int) = true := by rw [HOK.out]; exact decide_eq_true (by omega)
            have HZ := Lib.hid (show boundR ds op n k (mo : Int) = .tuple #[.int .i64 (a : Int), .bool true] by unfold boundR; rw [HVL.out h1, h1])
            have t1 : ¬ (mo : Int) < (a : Int) := by omega
            clear ha HOK HVL h1 hM
            go_wp2
            go_ret2
            exact ⟨by rw [HZ.out]; rfl, HB6.out⟩

theorem specBound_t (ds : List De) (DA : Option Addr) (DC : Nat) (op n : Int) (k : Fo) (A : Option Addr) (c : Nat) (most : Int) (w : World) (hd : LiesD w 0 w.heap.size DA ds) (hl : Lies w 0 w.heap.size A 0 k) (hdz : sizeD ds ≤ 1048576) (hlen : k.len ≤ maxLen) (hsz : k.size ≤ 1048576) :
    Calls Try.prog 27 #[.slice DA ds.length DC, .agg #[.int .i64 op, .int .i64 n, .slice A k.len c], .int .i64 most] w (Gives (.tuple #[.int .i64 ((boundV ds op n k most : Nat) : Int), .bool (boundOk ds op n k most)]) w) :=
  specBound_any ds DA DC op n k A c most w hd hl hdz hlen hsz

end Go.Proofs.Ytbpcggbmlaomjaa
