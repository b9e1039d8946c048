/-
  Purity, as data: by the nodes (the model), and by what is called (the program).
-/
import Derived.Test.YtbpcggbmlaomjaaEffD
namespace Go.Proofs.Ytbpcggbmlaomjaa
open Go.RowKit
set_option maxRecDepth 100000

/-- Is the node itself no obstacle? -/
def pureOwn (ds : List De) (op n : Int) : Bool := !(decide (op = 9) || (decide (op = 3) && (!quietS ds n || !endingS ds n)))
def pureF (ds : List De) : Fo → Bool
  | .nil => true
  | .cons op n k r => (pureOwn ds op n && pureF ds k) && pureF ds r
def pureS (ds : List De) (op n : Int) (k : Fo) : Bool := pureOwn ds op n && pureF ds k
theorem pureF_cons {ds : List De} {f : Fo} {op n : Int} {k r : Fo} (e : f = .cons op n k r) : pureF ds f = (pureS ds op n k && pureF ds r) := by subst e; rfl
def isPureB (ds : List De) (op n : Int) (k : Fo) : Bool := (libOk ds && callsFitB ds op n k) && pureS ds op n k

/-- The sets of the program. -/
def endingT (ds : List De) (i : Nat) : Bool := ds.any fun d => decide (d.nm.toNat = i) && endingS ds d.nm
def quietT (ds : List De) (i : Nat) : Bool := ds.any fun d => decide (d.nm.toNat = i) && quietS ds d.nm
def pureT (ds : List De) (i : Nat) : Bool := endingT ds i && quietT ds i
theorem nat_inj {x y : Int} (hx : inVar x = true) (hy : inVar y = true) (h : x.toNat = y.toNat) : x = y := by
  have h1 := inVar_true hx
  have h2 := inVar_true hy
  omega
theorem endingT_at {ds : List De} (h : libOk ds = true) {d : De} (hd : d ∈ ds) : endingT ds d.nm.toNat = endingS ds d.nm := by
  unfold endingT
  cases hq : endingS ds d.nm with
  | true => exact List.any_eq_true.2 ⟨d, hd, by simp [hq]⟩
  | false =>
    rw [Bool.eq_false_iff]
    intro hn
    obtain ⟨e, he, h2⟩ := List.any_eq_true.1 hn
    rw [Bool.and_eq_true, decide_eq_true_iff] at h2
    rw [nat_inj (libOk_named h e he).1 (libOk_named h d hd).1 h2.1, hq] at h2
    cases h2.2
theorem quietT_at {ds : List De} (h : libOk ds = true) {d : De} (hd : d ∈ ds) : quietT ds d.nm.toNat = quietS ds d.nm := by
  unfold quietT
  cases hq : quietS ds d.nm with
  | true => exact List.any_eq_true.2 ⟨d, hd, by simp [hq]⟩
  | false =>
    rw [Bool.eq_false_iff]
    intro hn
    obtain ⟨e, he, h2⟩ := List.any_eq_true.1 hn
    rw [Bool.and_eq_true, decide_eq_true_iff] at h2
    rw [nat_inj (libOk_named h e he).1 (libOk_named h d hd).1 h2.1, hq] at h2
    cases h2.2

/-- Pure, where these functions are. -/
def pureW (T : Nat → Bool) (op n : Int) (k : Fo) : Bool := !outsB op n k && allT T (numsUpto (callB ⟨op, n, k⟩) 8)

/-- A call that fits is one of a function of the library. -/
theorem call_in {ds : List De} (_h : libOk ds = true) {n : Int} {l : Nat} (hf : okCall (ariS ds) 3 n l = true) : ∃ d ∈ ds, d.nm = n := by
  unfold okCall at hf
  rw [if_pos rfl] at hf
  have ha := of_decide_eq_true hf
  unfold ariS at ha
  cases hq : fnd n ds with
  | none => rw [hq] at ha; cases ha
  | some d => exact ⟨d, (fnd_mem hq).1, (fnd_mem hq).2⟩
theorem pureOwn_at {ds : List De} (h : libOk ds = true) {n : Int} {l : Nat} (hf : okCall (ariS ds) 3 n l = true) : pureOwn ds 3 n = pureT ds n.toNat := by
  obtain ⟨d, hd, rfl⟩ := call_in h hf
  unfold pureOwn pureT
  rw [endingT_at h hd, quietT_at h hd]
  simp [Bool.and_comm]
theorem pureF_iff {ds : List De} (h : libOk ds = true) : ∀ (k : Fo), fitF (ariS ds) k = true → (pureF ds k = true ↔ outsF k = false ∧ ∀ c : Nat, callF k c = true → pureT ds c = true)
  | .nil, _ => by simp [pureF, outsF, hasF, callF]
  | .cons op n k r, hf => by
    rw [fitF_cons rfl, Bool.and_eq_true] at hf
    obtain ⟨hf1, hf2⟩ := hf
    unfold fitN at hf1
    rw [Bool.and_eq_true] at hf1
    have ih1 := pureF_iff h k hf1.2
    have ih2 := pureF_iff h r hf2
    rw [pureF_cons rfl, outsF_cons rfl]
    unfold pureS
    rw [Bool.and_eq_true, Bool.and_eq_true, ih1, ih2, Bool.or_eq_false_iff]
    by_cases h9 : op = 9
    · subst h9
      rw [outsB_yes]
      simp [pureOwn]
    · rw [outsB_no n k h9]
      by_cases h3 : op = 3
      · subst h3
        rw [pureOwn_at h hf1.1]
        obtain ⟨d, hd, hdn⟩ := call_in h hf1.1
        have hn := inVar_nat (libOk_named h d hd).1
        rw [hdn] at hn
        constructor
        · rintro ⟨⟨h1, h2, h3⟩, h4, h5⟩
          refine ⟨⟨h2, h4⟩, fun c hc => ?_⟩
          rw [callF_cons rfl, Bool.or_eq_true] at hc
          rcases hc with hc | hc
          · unfold callB at hc
            rw [Bool.or_eq_true] at hc
            rcases hc with hc | hc
            · unfold ownCall at hc
              rw [Bool.and_eq_true, decide_eq_true_iff, decide_eq_true_iff] at hc
              have : c = n.toNat := by have := hc.2; dsimp only at this; omega
              rw [this]; exact h1
            · exact h3 c hc
          · exact h5 c hc
        · rintro ⟨⟨h2, h4⟩, h5⟩
          refine ⟨⟨h5 n.toNat ?_, h2, fun c hc => h5 c ?_⟩, h4, fun c hc => h5 c ?_⟩
          · rw [callF_cons rfl]
            unfold callB ownCall
            simp [hn.1]
          · rw [callF_cons rfl]; unfold callB; simp [hc]
          · rw [callF_cons rfl]; simp [hc]
      · have ho : pureOwn ds op n = true := by simp [pureOwn, h9, h3]
        rw [ho]
        have hc : ∀ c, callF (.cons op n k r) c = (callF k c || callF r c) := fun c => by
          rw [callF_cons rfl]
          unfold callB ownCall
          simp [h3]
        constructor
        · rintro ⟨⟨_, h2, h3⟩, h4, h5⟩
          refine ⟨⟨h2, h4⟩, fun c hh => ?_⟩
          rw [hc, Bool.or_eq_true] at hh
          rcases hh with hh | hh
          · exact h3 c hh
          · exact h5 c hh
        · rintro ⟨⟨h2, h4⟩, h5⟩
          exact ⟨⟨rfl, h2, fun c hh => h5 c (by rw [hc, hh]; rfl)⟩, h4, fun c hh => h5 c (by rw [hc, hh]; exact Bool.or_true _)⟩
theorem callF_lt {ds : List De} (h : libOk ds = true) {k : Fo} (hf : fitF (ariS ds) k = true) {c : Nat} (hc : callF k c = true) : c < 8 := by
  obtain ⟨a, ha⟩ := fit_calls k c hf hc
  obtain ⟨d, hd⟩ := ari_there ha
  obtain ⟨hm, hx⟩ := there_mem h hd
  have := (inVar_nat (libOk_named h d hm).1).2
  omega
/-- The model's word and the program's. -/
theorem pureN_is {ds : List De} (h : libOk ds = true) {op n : Int} {k : Fo} (hf : fitN (ariS ds) op n k = true) : pureS ds op n k = pureW (pureT ds) op n k := by
  have hf2 : fitF (ariS ds) (.cons op n k .nil) = true := by rw [fitF_cons rfl, hf]; rfl
  have h1 := pureF_iff h _ hf2
  have h2 : pureF ds (.cons op n k .nil) = pureS ds op n k := by rw [pureF_cons rfl]; exact Bool.and_true _
  have h3 : outsF (.cons op n k .nil) = outsB op n k := by rw [outsF_cons rfl]; exact Bool.or_false _
  have h4 : ∀ c, callF (.cons op n k .nil) c = callB ⟨op, n, k⟩ c := fun c => by rw [callF_cons rfl]; exact Bool.or_false _
  rw [h2, h3] at h1
  rw [Bool.eq_iff_iff, h1]
  unfold pureW
  rw [Bool.and_eq_true, allT_iff]
  constructor
  · rintro ⟨a, b⟩
    exact ⟨by rw [a]; rfl, fun c _ hc => b c (by rw [h4]; exact hc)⟩
  · rintro ⟨a, b⟩
    refine ⟨by simpa using a, fun c hc => b c (callF_lt h hf2 hc) (by rw [← h4]; exact hc)⟩
theorem pure_is {ds : List De} {op n : Int} {k : Fo} (h : libOk ds = true) (hf : callsFitB ds op n k = true) : pureS ds op n k = pureW (pureT ds) op n k := by
  unfold callsFitB at hf
  rw [Bool.and_eq_true] at hf
  exact pureN_is h hf.2
end Go.Proofs.Ytbpcggbmlaomjaa
