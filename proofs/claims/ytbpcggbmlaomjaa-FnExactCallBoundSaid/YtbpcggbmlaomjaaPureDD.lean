/-
  Purity, as data: by the nodes (the model), and by what is called (the program).
  Trees whose nodes have the right number of Kids, and whose calls are of functions. What comes first, as data.
-/
import Derived.Test.YtbpcggbmlaomjaaEffD
namespace Go.Proofs.Ytbpcggbmlaomjaa
open Go.RowKit
set_option maxRecDepth 100000

/-- Is the node itself no obstacle? -/
def pureOwn (ds : List De) (op n : Int) : Bool := !(decide (op = 9) || (decide (op = 3) && (!quietS ds n || !endingS ds n)))
def pureF (ds : List De) : Fo → Bool
  | .nil => true
  | .cons op n k r => (pureOwn ds op n && pureF ds k) && pureF ds r
def pureS (ds : List De) (op n : Int) (k : Fo) : Bool := pureOwn ds op n && pureF ds k
theorem pureF_cons {ds : List De} {f : Fo} {op n : Int} {k r : Fo} (e : f = .cons op n k r) : pureF ds f = (pureS ds op n k && pureF ds r) := by subst e; rfl
def isPureB (ds : List De) (op n : Int) (k : Fo) : Bool := (libOk ds && callsFitB ds op n k) && pureS ds op n k

/-- The sets of the program. -/
def endingT (ds : List De) (i : Nat) : Bool := ds.any fun d => decide (d.nm.toNat = i) && endingS ds d.nm
def quietT (ds : List De) (i : Nat) : Bool := ds.any fun d => decide (d.nm.toNat = i) && quietS ds d.nm
def pureT (ds : List De) (i : Nat) : Bool := endingT ds i && quietT ds i
theorem nat_inj {x y : Int} (hx : inVar x = true) (hy : inVar y = true) (h : x.toNat = y.toNat) : x = y := by
  have h1 := inVar_true hx
  have h2 := inVar_true hy
  omega
theorem endingT_at {ds : List De} (h : libOk ds = true) {d : De} (hd : d ∈ ds) : endingT ds d.nm.toNat = endingS ds d.nm := by
  unfold endingT
  cases hq : endingS ds d.nm with
  | true => exact List.any_eq_true.2 ⟨d, hd, by simp [hq]⟩
  | false =>
    rw [Bool.eq_false_iff]
    intro hn
    obtain ⟨e, he, h2⟩ := List.any_eq_true.1 hn
    rw [Bool.and_eq_true, decide_eq_true_iff] at h2
    rw [nat_inj (libOk_named h e he).1 (libOk_named h d hd).1 h2.1, hq] at h2
    cases h2.2
theorem quietT_at {ds : List De} (h : libOk ds = true) {d : De} (hd : d ∈ ds) : quietT ds d.nm.toNat = quietS ds d.nm := by
  unfold quietT
  cases hq : quietS ds d.nm with
  | true => exact List.any_eq_true.2 ⟨d, hd, by simp [hq]⟩
  | false =>
    rw [Bool.eq_false_iff]
    intro hn
    obtain ⟨e, he, h2⟩ := List.any_eq_true.1 hn
    rw [Bool.and_eq_true, decide_eq_true_iff] at h2
    rw [nat_inj (libOk_named h e he).1 (libOk_named h d hd).1 h2.1, hq] at h2
    cases h2.2

/-- Pure, where these functions are. -/
def pureW (T : Nat → Bool) (op n : Int) (k : Fo) : Bool := !outsB op n k && allT T (numsUpto (callB ⟨op, n, k⟩) 8)

/-- A call that fits is one of a function of the library. -/
theorem call_in {ds : List De} (_h : libOk ds = true) {n : Int} {l : Nat} (hf : okCall (ariS ds) 3 n l = true) : ∃ d ∈ ds, d.nm = n := by
  unfold okCall at hf
  rw [if_pos rfl] at hf
  have ha := of_decide_eq_true hf
  unfold ariS at ha
  cases hq : fnd n ds with
  | none => rw [hq] at ha; cases ha
  | some d => exact ⟨d, (fnd_mem hq).1, (fnd_mem hq).2⟩
theorem pureOwn_at {ds : List De} (h : libOk ds = true) {n : Int} {l : Nat} (hf : okCall (ariS ds) 3 n l = true) : pureOwn ds 3 n = pureT ds n.toNat := by
  obtain ⟨d, hd, rfl⟩ := call_in h hf
  unfold pureOwn pureT
  rw [endingT_at h hd, quietT_at h hd]
  simp [Bool.and_comm]
theorem pureF_iff {ds : List De} (h : libOk ds = true) : ∀ (k : Fo), fitF (ariS ds) k = true → (pureF ds k = true ↔ outsF k = false ∧ ∀ c : Nat, callF k c = true → pureT ds c = true)
  | .nil, _ => by simp [pureF, outsF, hasF, callF]
  | .cons op n k r, hf => by
    rw [fitF_cons rfl, Bool.and_eq_true] at hf
    obtain ⟨hf1, hf2⟩ := hf
    unfold fitN at hf1
    rw [Bool.and_eq_true] at hf1
    have ih1 := pureF_iff h k hf1.2
    have ih2 := pureF_iff h r hf2
    rw [pureF_cons rfl, outsF_cons rfl]
    unfold pureS
    rw [Bool.and_eq_true, Bool.and_eq_true, ih1, ih2, Bool.or_eq_false_iff]
    by_cases h9 : op = 9
    · subst h9
      rw [outsB_yes]
      simp [pureOwn]
    · rw [outsB_no n k h9]
      by_cases h3 : op = 3
      · subst h3
        rw [pureOwn_at h hf1.1]
        obtain ⟨d, hd, hdn⟩ := call_in h hf1.1
        have hn := inVar_nat (libOk_named h d hd).1
        rw [hdn] at hn
        constructor
        · rintro ⟨⟨h1, h2, h3⟩, h4, h5⟩
          refine ⟨⟨h2, h4⟩, fun c hc => ?_⟩
          rw [callF_cons rfl, Bool.or_eq_true] at hc
          rcases hc with hc | hc
          · unfold callB at hc
            rw [Bool.or_eq_true] at hc
            rcases hc with hc | hc
            · unfold ownCall at hc
              rw [Bool.and_eq_true, decide_eq_true_iff, decide_eq_true_iff] at hc
              have : c = n.toNat := by have := hc.2; dsimp only at this; omega
              rw [this]; exact h1
            · exact h3 c hc
          · exact h5 c hc
        · rintro ⟨⟨h2, h4⟩, h5⟩
          refine ⟨⟨h5 n.toNat ?_, h2, fun c hc => h5 c ?_⟩, h4, fun c hc => h5 c ?_⟩
          · rw [callF_cons rfl]
            unfold callB ownCall
            simp [hn.1]
          · rw [callF_cons rfl]; unfold callB; simp [hc]
          · rw [callF_cons rfl]; simp [hc]
      · have ho : pureOwn ds op n = true := by simp [pureOwn, h9, h3]
        rw [ho]
        have hc : ∀ c, callF (.cons op n k r) c = (callF k c || callF r c) := fun c => by
          rw [callF_cons rfl]
          unfold callB ownCall
          simp [h3]
        constructor
        · rintro ⟨⟨_, h2, h3⟩, h4, h5⟩
          refine ⟨⟨h2, h4⟩, fun c hh => ?_⟩
          rw [hc, Bool.or_eq_true] at hh
          rcases hh with hh | hh
          · exact h3 c hh
          · exact h5 c hh
        · rintro ⟨⟨h2, h4⟩, h5⟩
          exact ⟨⟨rfl, h2, fun c hh => h5 c (by rw [hc, hh]; rfl)⟩, h4, fun c hh => h5 c (by rw [hc, hh]; exact Bool.or_true _)⟩
theorem callF_lt {ds : List De} (h : libOk ds = true) {k : Fo} (hf : fitF (ariS ds) k = true) {c : Nat} (hc : callF k c = true) : c < 8 := by
  obtain ⟨a, ha⟩ := fit_calls k c hf hc
  obtain ⟨d, hd⟩ := ari_there ha
  obtain ⟨hm, hx⟩ := there_mem h hd
  have := (inVar_nat (libOk_named h d hm).1).2
  omega
/-- The model's word and the program's. -/
theorem pureN_is {ds : List De} (h : libOk ds = true) {op n : Int} {k : Fo} (hf : fitN (ariS ds) op n k = true) : pureS ds op n k = pureW (pureT ds) op n k := by
  have hf2 : fitF (ariS ds) (.cons op n k .nil) = true := by rw [fitF_cons rfl, hf]; rfl
  have h1 := pureF_iff h _ hf2
  have h2 : pureF ds (.cons op n k .nil) = pureS ds op n k := by rw [pureF_cons rfl]; exact Bool.and_true _
  have h3 : outsF (.cons op n k .nil) = outsB op n k := by rw [outsF_cons rfl]; exact Bool.or_false _
  have h4 : ∀ c, callF (.cons op n k .nil) c = callB ⟨op, n, k⟩ c := fun c => by rw [callF_cons rfl]; exact Bool.or_false _
  rw [h2, h3] at h1
  rw [Bool.eq_iff_iff, h1]
  unfold pureW
  rw [Bool.and_eq_true, allT_iff]
  constructor
  · rintro ⟨a, b⟩
    exact ⟨by rw [a]; rfl, fun c _ hc => b c (by rw [h4]; exact hc)⟩
  · rintro ⟨a, b⟩
    refine ⟨by simpa using a, fun c hc => b c (callF_lt h hf2 hc) (by rw [← h4]; exact hc)⟩
theorem pure_is {ds : List De} {op n : Int} {k : Fo} (h : libOk ds = true) (hf : callsFitB ds op n k = true) : pureS ds op n k = pureW (pureT ds) op n k := by
  unfold callsFitB at hf
  rw [Bool.and_eq_true] at hf
  exact pureN_is h hf.2
end Go.Proofs.Ytbpcggbmlaomjaa

namespace Go.Proofs.Ytbpcggbmlaomjaa
open Go.RowKit
set_option maxRecDepth 100000

def wellOwn (op n : Int) (l : Nat) : Bool := kidsOk op l && (!decide (op = 3) || inVar n)
def wellF : Fo → Bool
  | .nil => true
  | .cons op n k r => (wellOwn op n k.len && wellF k) && wellF r
def wellN (op n : Int) (k : Fo) : Bool := wellOwn op n k.len && wellF k
theorem wellF_cons {f : Fo} {op n : Int} {k r : Fo} (e : f = .cons op n k r) : wellF f = (wellN op n k && wellF r) := by subst e; rfl
theorem well_own {op n : Int} {l : Nat} {S : Nat → Bool} (hk : kidsOk op l = true) (ho : ownOk op n S = true) : wellOwn op n l = true := by
  unfold wellOwn
  rw [hk, Bool.true_and]
  by_cases h3 : op = 3
  · subst h3
    have : inVar n = true := by simpa [ownOk] using ho
    simp [this]
  · simp [h3]
theorem well_shape : ∀ (f : Fo) (op n : Int) (i : Nat) (S : Nat → Bool) (d : Nat), shapeF op n i S d f = true → wellF f = true
  | .nil, _, _, _, _, _, _ => rfl
  | .cons o m k r, op, n, i, S, d, h => by
    simp only [shapeF, Bool.and_eq_true] at h
    obtain ⟨⟨⟨⟨_, h2⟩, h3⟩, h4⟩, h5⟩ := h
    have e1 := well_shape k o m 0 _ _ h4
    have e2 := well_shape r op n (i + 1) S d h5
    rw [wellF_cons rfl]
    unfold wellN
    rw [well_own h2 h3, e1, e2]
    rfl
theorem well_is {op n : Int} {k : Fo} {S : Nat → Bool} (h : nodeIs op n k S = true) : wellN op n k = true := by
  unfold nodeIs nodeShape at h
  simp only [Bool.and_eq_true] at h
  obtain ⟨⟨⟨⟨_, h2⟩, h3⟩, h4⟩, _⟩ := h
  unfold wellN
  rw [well_own h2 h3, well_shape k op n 0 S _ h4]
  rfl
theorem well_fit {ds : List De} {op n : Int} {k : Fo} (h : callsFitB ds op n k = true) : wellN op n k = true := by
  unfold callsFitB at h
  rw [Bool.and_eq_true] at h
  exact well_is h.1
theorem well_kid : ∀ {k : Fo} {j : Nat} {o m : Int} {k' r : Fo}, wellF k = true → k.drop j = .cons o m k' r → wellN o m k' = true
  | .nil, j, _, _, _, _, _, h => by rw [Fo.drop_nil] at h; cases h
  | .cons o' m' k2 r2, 0, o, m, k', r, hs, h => by
    simp only [Fo.drop, Fo.cons.injEq] at h
    obtain ⟨rfl, rfl, rfl, rfl⟩ := h
    rw [wellF_cons rfl, Bool.and_eq_true] at hs
    exact hs.1
  | .cons o' m' k2 r2, j + 1, o, m, k', r, hs, h => by
    rw [wellF_cons rfl, Bool.and_eq_true] at hs
    exact well_kid hs.2 (by simpa [Fo.drop] using h)
theorem wellN_kids {op n : Int} {k : Fo} (h : wellN op n k = true) : wellF k = true := (Bool.and_eq_true_iff.1 h).2
theorem wellN_ok {op n : Int} {k : Fo} (h : wellN op n k = true) : kidsOk op k.len = true := by
  unfold wellN wellOwn at h
  rw [Bool.and_eq_true, Bool.and_eq_true] at h
  exact h.1.1
theorem wellN_if {n : Int} {k : Fo} (h : wellN 6 n k = true) : k.len = 3 := by simpa [kidsOk] using wellN_ok h
theorem wellN_let {n : Int} {k : Fo} (h : wellN 7 n k = true) : k.len = 2 := by simpa [kidsOk] using wellN_ok h
theorem wellN_var {n : Int} {k : Fo} (h : wellN 2 n k = true) : k.len = 0 := by simpa [kidsOk] using wellN_ok h
theorem wellN_call {n : Int} {k : Fo} (h : wellN 3 n k = true) : inVar n = true := by
  unfold wellN wellOwn at h
  simp at h
  exact h.1.2
theorem fit_kid {ari : Int → Option Int} : ∀ {k : Fo} {j : Nat} {o m : Int} {k' r : Fo}, fitF ari k = true → k.drop j = .cons o m k' r → fitN ari o m k' = true
  | .nil, j, _, _, _, _, _, h => by rw [Fo.drop_nil] at h; cases h
  | .cons o' m' k2 r2, 0, o, m, k', r, hs, h => by
    simp only [Fo.drop, Fo.cons.injEq] at h
    obtain ⟨rfl, rfl, rfl, rfl⟩ := h
    rw [fitF_cons rfl, Bool.and_eq_true] at hs
    exact hs.1
  | .cons o' m' k2 r2, j + 1, o, m, k', r, hs, h => by
    rw [fitF_cons rfl, Bool.and_eq_true] at hs
    exact fit_kid hs.2 (by simpa [Fo.drop] using h)

/-- The first that says something. -/
def firstNZ : List Nat → Nat
  | [] => 0
  | a :: r => if a = 0 then firstNZ r else a
/-- What a node says behind its Kids: 1 first, 2 not first, 0 nothing. -/
def behindN (pq : Int → Bool) (v op n : Int) : Nat := if op = 2 ∧ n = v then 1 else if op = 9 ∨ (op = 3 ∧ pq n = false) then 2 else 0
def second (pp : Int → Int → Fo → Bool) : Fo → Bool
  | .cons _ _ _ (.cons o m k _) => pp o m k
  | _ => false
def ansN (pq : Int → Bool) (pp : Int → Int → Fo → Bool) (v op n : Int) (k : Fo) (zs : List Nat) : Nat :=
  if op = 6 then (if zs.getD 0 0 = 0 then (if zs.getD 1 0 = zs.getD 2 0 then zs.getD 1 0 else 2) else zs.getD 0 0)
  else if op = 7 ∧ n = v then (if zs.getD 0 0 = 0 then (if second pp k = true then 0 else 2) else zs.getD 0 0)
  else if firstNZ zs = 0 then behindN pq v op n else firstNZ zs
def ansL (pq : Int → Bool) (pp : Int → Int → Fo → Bool) (v : Int) : Fo → List Nat
  | .nil => []
  | .cons op n k r => ansN pq pp v op n k (ansL pq pp v k) :: ansL pq pp v r
def ans (pq : Int → Bool) (pp : Int → Int → Fo → Bool) (v op n : Int) (k : Fo) : Nat := ansN pq pp v op n k (ansL pq pp v k)
theorem ansL_cons {pq : Int → Bool} {pp : Int → Int → Fo → Bool} {v : Int} {f : Fo} {op n : Int} {k r : Fo} (e : f = .cons op n k r) : ansL pq pp v f = ans pq pp v op n k :: ansL pq pp v r := by subst e; rfl
theorem ansL_at {pq : Int → Bool} {pp : Int → Int → Fo → Bool} {v : Int} : ∀ {k : Fo} {j : Nat} {o m : Int} {k' r : Fo}, k.drop j = .cons o m k' r → (ansL pq pp v k).getD j 0 = ans pq pp v o m k'
  | .nil, j, _, _, _, _, h => by rw [Fo.drop_nil] at h; cases h
  | .cons o' m' k2 r2, 0, o, m, k', r, h => by
    simp only [Fo.drop, Fo.cons.injEq] at h
    obtain ⟨rfl, rfl, rfl, rfl⟩ := h
    rfl
  | .cons o' m' k2 r2, j + 1, o, m, k', r, h => by
    have := ansL_at (pq := pq) (pp := pp) (v := v) (k := r2) (j := j) (by simpa [Fo.drop] using h)
    rw [ansL_cons rfl]
    simpa using this
theorem second_at {pp : Int → Int → Fo → Bool} : ∀ {k : Fo} {o m : Int} {k' r : Fo}, k.drop 1 = .cons o m k' r → second pp k = pp o m k'
  | .nil, _, _, _, _, h => by simp [Fo.drop] at h
  | .cons _ _ _ r2, o, m, k', r, h => by
    have h2 : r2 = .cons o m k' r := by simpa [Fo.drop, Fo.drop_zero] using h
    subst h2
    rfl
theorem firstNZ_cons {pq : Int → Bool} {pp : Int → Int → Fo → Bool} {v : Int} {f : Fo} {op n : Int} {k r : Fo} (e : f = .cons op n k r) : firstNZ (ansL pq pp v f) = if ans pq pp v op n k = 0 then firstNZ (ansL pq pp v r) else ans pq pp v op n k := by
  rw [ansL_cons e]; rfl
theorem firstNZ_nil {pq : Int → Bool} {pp : Int → Int → Fo → Bool} {v : Int} : firstNZ (ansL pq pp v .nil) = 0 := rfl
theorem ans_if {pq : Int → Bool} {pp : Int → Int → Fo → Bool} {v n : Int} {k : Fo} {o0 m0 o1 m1 o2 m2 : Int} {k0 k1 k2 r0 r1 r2 : Fo} (e0 : k.drop 0 = .cons o0 m0 k0 r0) (e1 : k.drop 1 = .cons o1 m1 k1 r1) (e2 : k.drop 2 = .cons o2 m2 k2 r2) :
    ans pq pp v 6 n k = if ans pq pp v o0 m0 k0 = 0 then (if ans pq pp v o1 m1 k1 = ans pq pp v o2 m2 k2 then ans pq pp v o1 m1 k1 else 2) else ans pq pp v o0 m0 k0 := by
  rw [ans, ansN, if_pos rfl, ansL_at e0, ansL_at e1, ansL_at e2]
theorem ans_let {pq : Int → Bool} {pp : Int → Int → Fo → Bool} {v : Int} {k : Fo} {o0 m0 o1 m1 : Int} {k0 k1 r0 r1 : Fo} (e0 : k.drop 0 = .cons o0 m0 k0 r0) (e1 : k.drop 1 = .cons o1 m1 k1 r1) :
    ans pq pp v 7 v k = if ans pq pp v o0 m0 k0 = 0 then (if pp o1 m1 k1 = true then 0 else 2) else ans pq pp v o0 m0 k0 := by
  rw [ans, ansN, if_neg (by decide), if_pos ⟨rfl, rfl⟩, ansL_at e0, second_at e1]
theorem ans_other {pq : Int → Bool} {pp : Int → Int → Fo → Bool} {v op n : Int} {k : Fo} (h6 : op ≠ 6) (h7 : ¬ (op = 7 ∧ n = v)) : ans pq pp v op n k = if firstNZ (ansL pq pp v k) = 0 then behindN pq v op n else firstNZ (ansL pq pp v k) := by
  rw [ans, ansN, if_neg h6, if_neg h7]

/-- Two ways to say what is pure that agree on what fits. -/
theorem ansL_congr {ds : List De} {pq pq' : Int → Bool} {pp pp' : Int → Int → Fo → Bool} {v : Int} (hq : ∀ (n : Int) (l : Nat), okCall (ariS ds) 3 n l = true → pq n = pq' n) (hp : ∀ op n k, fitN (ariS ds) op n k = true → pp op n k = pp' op n k) :
    ∀ (k : Fo), fitF (ariS ds) k = true → wellF k = true → ansL pq pp v k = ansL pq' pp' v k
  | .nil, _, _ => rfl
  | .cons op n k r, hf, hw => by
    rw [fitF_cons rfl, Bool.and_eq_true] at hf
    rw [wellF_cons rfl, Bool.and_eq_true] at hw
    have hf1 := hf.1
    unfold fitN at hf1
    rw [Bool.and_eq_true] at hf1
    have ih1 := ansL_congr (v := v) hq hp k hf1.2 (wellN_kids hw.1)
    have ih2 := ansL_congr (v := v) hq hp r hf.2 hw.2
    rw [ansL_cons rfl, ansL_cons rfl, ih2]
    congr 1
    unfold ans
    rw [ih1]
    unfold ansN
    by_cases h6 : op = 6
    · rw [if_pos h6, if_pos h6]
    · rw [if_neg h6, if_neg h6]
      by_cases h7 : op = 7 ∧ n = v
      · rw [if_pos h7, if_pos h7]
        obtain ⟨rfl, rfl⟩ := h7
        have h2 := wellN_let hw.1
        obtain ⟨o1, m1, k1, e1, _, _⟩ := Fo.drop_of_lt k 1 (by omega)
        rw [second_at e1, second_at e1, hp _ _ _ (fit_kid hf1.2 e1)]
      · rw [if_neg h7, if_neg h7]
        have hb : behindN pq v op n = behindN pq' v op n := by
          unfold behindN
          by_cases h3 : op = 3
          · subst h3
            rw [hq n k.len hf1.1]
          · simp [h3]
        rw [hb]
theorem ans_congr {ds : List De} {pq pq' : Int → Bool} {pp pp' : Int → Int → Fo → Bool} {v op n : Int} {k : Fo} (hq : ∀ (n : Int) (l : Nat), okCall (ariS ds) 3 n l = true → pq n = pq' n) (hp : ∀ op n k, fitN (ariS ds) op n k = true → pp op n k = pp' op n k)
    (hf : fitN (ariS ds) op n k = true) (hw : wellN op n k = true) : ans pq pp v op n k = ans pq' pp' v op n k := by
  have h := ansL_congr (v := v) hq hp (.cons op n k .nil) (by rw [fitF_cons rfl, hf]; rfl) (by rw [wellF_cons rfl, hw]; rfl)
  rw [ansL_cons rfl, ansL_cons rfl] at h
  exact (List.cons.inj h).1

/-- The model's way, and the program's. -/
def ansS (ds : List De) (v op n : Int) (k : Fo) : Nat := ans (fun n => quietS ds n && endingS ds n) (pureS ds) v op n k
def ansI (T : Nat → Bool) (v op n : Int) (k : Fo) : Nat := ans (fun n => T n.toNat) (pureW T) v op n k
theorem ans_is {ds : List De} {v op n : Int} {k : Fo} (h : libOk ds = true) (hf : callsFitB ds op n k = true) : ansS ds v op n k = ansI (pureT ds) v op n k := by
  have hw := well_fit hf
  unfold callsFitB at hf
  rw [Bool.and_eq_true] at hf
  refine ans_congr (fun n l ho => ?_) (fun op n k hf => pureN_is h hf) hf.2 hw
  have h1 := pureOwn_at h ho
  show (quietS ds n && endingS ds n) = pureT ds n.toNat
  rw [← h1]
  simp [pureOwn]
def firstB (ds : List De) (op n : Int) (k : Fo) (v : Int) : Bool := ((libOk ds && callsFitB ds op n k) && inVar v) && decide (ansS ds v op n k = 1)
end Go.Proofs.Ytbpcggbmlaomjaa
