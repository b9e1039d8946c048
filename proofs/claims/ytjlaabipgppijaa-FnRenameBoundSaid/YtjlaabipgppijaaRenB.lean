/-
  A bound variable renamed, as data: it is the same but for names, it is valid, and its free variables are those that they were.
-/
import Derived.Test.YtjlaabipgppijaaPutD
import Derived.Test.YtjlaabipgppijaaSubC
import Derived.Test.YtjlaabipgppijaaValD
import Derived.Test.YtjlaabipgppijaaReb
import Derived.Test.YtjlaabipgppijaaNamesD
namespace Go.Proofs.Ytjlaabipgppijaa
open Go.RowKit
set_option maxRecDepth 100000

theorem varSame_head (x y : Int) (L R : List Int) : varSame x y (x :: L) (y :: R) = true := by
  unfold varSame depR
  rw [if_pos rfl, if_pos rfl]
  simp
theorem varSame_cons {m m2 x y : Int} {L R : List Int} (h1 : ¬ m = x) (h2 : ¬ m2 = y) (h : varSame x y L R = true) : varSame x y (m :: L) (m2 :: R) = true := by
  unfold varSame at h ⊢
  simp only [Bool.and_eq_true, Bool.or_eq_true, decide_eq_true_iff] at h ⊢
  have e1 : depR (m :: L) x = if depR L x < 0 then -1 else depR L x + 1 := by rw [depR]; rw [if_neg h1]
  have e2 : depR (m2 :: R) y = if depR R y < 0 then -1 else depR R y + 1 := by rw [depR]; rw [if_neg h2]
  obtain ⟨g1, g2⟩ := h
  rw [e1, e2, g1]
  refine ⟨rfl, ?_⟩
  rcases g2 with g2 | g2
  · left
    rw [if_neg (by omega)]
    omega
  · exact .inr g2

/-- What lies around the operand i: the free variables of the operand stand there as they do outside, or are bound by the node itself. -/
theorem bound_same {o m x : Int} {i : Nat} {L R : List Int} (h : ¬ (o = 7 ∧ i = 1 ∧ m = x) → varSame x x L R = true) : varSame x x (bound o m i L) (bound o m i R) = true := by
  unfold bound
  by_cases hb : o = 7 ∧ i = 1
  · rw [if_pos hb, if_pos hb]
    by_cases e : m = x
    · subst e
      exact varSame_head m m L R
    · exact varSame_cons e e (h fun g => e g.2.2)
  · rw [if_neg hb, if_neg hb]
    exact h fun g => hb ⟨g.1, g.2.1⟩

theorem alikeF_self : ∀ (f : Fo) (op n : Int) (i : Nat) (L R : List Int), FitF f → (∀ x : Int, cntL x (decide (op = 7 ∧ n = x)) i f ≠ 0 → varSame x x L R = true) → alikeF op n n i f f L R = true
  | .nil, _, _, _, _, _, _, _ => rfl
  | .cons o m k r, op, n, i, L, R, hf, h => by
    rw [fitP_cons] at hf
    rw [alikeF_cons rfl rfl, Bool.and_eq_true]
    refine ⟨?_, alikeF_self r op n (i + 1) L R hf.2 fun x hx => h x (by rw [cntL_cons rfl]; omega)⟩
    have hk : ∀ x : Int, cntN x o m k ≠ 0 → varSame x x (bound op n i L) (bound op n i R) = true := fun x hx => bound_same fun g => h x (by
      rw [cntL_cons rfl, if_neg (by simp only [decide_eq_true_iff]; exact fun g2 => g ⟨g2.1.1, g2.2, g2.1.2⟩)]
      omega)
    unfold alikeN
    simp only [decide_true, Bool.true_and]
    by_cases h2 : o = 2
    · rw [if_pos h2]
      refine hk m ?_
      unfold cntN ownVar
      rw [if_pos ⟨h2, rfl⟩]
      omega
    · rw [if_neg h2]
      simp only [Bool.or_true, Bool.true_and]
      refine alikeF_self k o m 0 _ _ hf.1.2 fun x hx => hk x ?_
      unfold cntN
      omega
theorem alikeN_self {p : Nd} {L R : List Int} (hf : FitN p) (h : ∀ x : Int, cntP x p ≠ 0 → varSame x x L R = true) : alikeN p.op p.n p.k p.op p.n p.k L R = true := by
  unfold alikeN
  simp only [decide_true, Bool.true_and]
  by_cases h2 : p.op = 2
  · rw [if_pos h2]
    refine h p.n ?_
    unfold cntP cntN ownVar
    rw [if_pos ⟨h2, rfl⟩]
    omega
  · rw [if_neg h2]
    simp only [Bool.or_true, Bool.true_and]
    refine alikeF_self p.k p.op p.n 0 _ _ hf.2 fun x hx => h x ?_
    unfold cntP cntN
    omega

/-- The operands that a renaming makes, against those that were. -/
theorem kidsP_alike {g : Nd → Option Nd} {s : Bool} {op n : Int} {L R : List Int} : ∀ (k : Fo) (i : Nat) (t : Fo),
    (∀ (j : Nat) (o m : Int) (k1 : Fo) (b : Nd), k.drop j = .cons o m k1 (k.drop (j + 1)) → (if s = true ∧ i + j = 1 then some (⟨o, m, k1⟩ : Nd) else g ⟨o, m, k1⟩) = some b → alikeN o m k1 b.op b.n b.k (bound op n (i + j) L) (bound op n (i + j) R) = true) →
    kidsP g s i k = some t → alikeF op n n i k t L R = true
  | .nil, _, _, _, h => by cases h; rfl
  | .cons o m k r, i, t, hg, h => by
    obtain ⟨a, t', h1, h2, rfl⟩ := kidsP_some h
    rw [alikeF_cons rfl rfl, Bool.and_eq_true]
    refine ⟨hg 0 o m k a (by simp only [Fo.drop_zero, Fo.drop]) (by simpa using h1), ?_⟩
    refine kidsP_alike r (i + 1) t' (fun j o' m' k' b e e2 => ?_) h2
    have := hg (j + 1) o' m' k' b (by simpa only [Fo.drop] using e) (by rw [show i + (j + 1) = i + 1 + j by omega]; exact e2)
    rw [show i + (j + 1) = i + 1 + j by omega] at this
    exact this

theorem cnt_kid {x : Int} {s : Bool} : ∀ (k : Fo) (i j : Nat) {o m : Int} {k1 : Fo}, k.drop j = .cons o m k1 (k.drop (j + 1)) → ¬ (s = true ∧ i + j = 1) → cntN x o m k1 ≠ 0 → cntL x s i k ≠ 0
  | .nil, _, j, _, _, _, e, _, _ => by rw [Fo.drop_nil] at e; cases e
  | .cons o' m' k' r, i, 0, o, m, k1, e, hs, h => by
    rw [Fo.drop_zero] at e
    injection e with e1 e2 e3 e4
    subst e1 e2 e3
    rw [cntL_cons rfl, if_neg (by simpa using hs)]
    omega
  | .cons o' m' k' r, i, j + 1, o, m, k1, e, hs, h => by
    have := cnt_kid r (i + 1) j (by simpa only [Fo.drop] using e) (by rw [show i + 1 + j = i + (j + 1) by omega]; exact hs) h
    rw [cntL_cons rfl]
    omega
theorem has_kid {w : Nat} : ∀ (k : Fo) (j : Nat) {o m : Int} {k1 : Fo}, k.drop j = .cons o m k1 (k.drop (j + 1)) → hasF ownVL k w = false → hasB ownVL ⟨o, m, k1⟩ w = false
  | .nil, j, _, _, _, e, _ => by rw [Fo.drop_nil] at e; cases e
  | .cons o' m' k' r, 0, o, m, k1, e, h => by
    rw [Fo.drop_zero] at e
    injection e with e1 e2 e3 e4
    subst e1 e2 e3
    rw [hasF_cons rfl, Bool.or_eq_false_iff] at h
    exact h.1
  | .cons o' m' k' r, j + 1, o, m, k1, e, h => by
    rw [hasF_cons rfl, Bool.or_eq_false_iff] at h
    exact has_kid r j (by simpa only [Fo.drop] using e) h.2
theorem fit_kidA : ∀ (k : Fo) (j : Nat) {o m : Int} {k1 : Fo}, k.drop j = .cons o m k1 (k.drop (j + 1)) → FitF k → FitN ⟨o, m, k1⟩
  | .nil, j, _, _, _, e, _ => by rw [Fo.drop_nil] at e; cases e
  | .cons o' m' k' r, 0, o, m, k1, e, h => by
    rw [Fo.drop_zero] at e
    injection e with e1 e2 e3 e4
    subst e1 e2 e3
    exact (fitP_cons.1 h).1
  | .cons o' m' k' r, j + 1, o, m, k1, e, h => fit_kidA r j (by simpa only [Fo.drop] using e) (fitP_cons.1 h).2

theorem putN_alike {n : Int} {w : Nat} (hw8 : w < 8) : ∀ (f : Nat) (p b : Nd) (L R : List Int), FitN p → hasB ownVL p w = false → (∀ x : Int, cntP x p ≠ 0 → if x = n then varSame n w L R = true else varSame x x L R = true) → putN f p n ⟨2, w, .nil⟩ = some b → alikeN p.op p.n p.k b.op b.n b.k L R = true
  | 0, _, _, _, _, _, _, _, h => by cases h
  | f + 1, p, b, L, R, hf, hh, hc, h => by
    have hb0 := hh
    unfold hasB at hh
    rw [Bool.or_eq_false_iff] at hh
    unfold putN at h
    split at h
    · rename_i hv
      cases h
      have hk := hf.var hv.1
      have c1 := hc n (by unfold cntP cntN ownVar; rw [if_pos hv]; omega)
      rw [if_pos rfl] at c1
      unfold alikeN
      rw [hk, hv.1, hv.2]
      simp [Fo.len, c1]
    · rename_i hv
      split at h
      · rename_i hcp
        have h3 := hcp.2
        unfold capt at h3
        simp only [Bool.and_eq_true, decide_eq_true_iff] at h3
        have h4 := freeP_leaf h3.2
        exfalso
        have h5 := hh.1
        unfold ownVL at h5
        simp [hcp.1, h4] at h5
      · cases e : kidsP (fun y => putN f y n ⟨2, w, .nil⟩) (stays p n) 0 p.k with
        | none => rw [e] at h; cases h
        | some t =>
          rw [e] at h
          cases h
          have hr := kidsP_ren (n := n) (w := w) (fun y b hy hb he => putN_ren hw8 f y b hy hb he) p.k 0 t hf.2 hh.2 e
          unfold alikeN
          dsimp only
          rw [hr.len]
          simp only [decide_true, Bool.true_and]
          by_cases h2 : p.op = 2
          · rw [if_pos h2]
            have hn : ¬ p.n = n := fun e => hv ⟨h2, e⟩
            have c1 := hc p.n (by unfold cntP cntN ownVar; rw [if_pos ⟨h2, rfl⟩]; omega)
            rw [if_neg hn] at c1
            exact c1
          · rw [if_neg h2]
            simp only [Bool.or_true, Bool.true_and]
            refine kidsP_alike p.k 0 t (fun j o m k1 b ej eb => ?_) e
            rw [Nat.zero_add] at eb ⊢
            have hkf := fit_kidA p.k j ej hf.2
            have hkw := has_kid p.k j ej hh.2
            have hout : ∀ x : Int, cntN x o m k1 ≠ 0 → ¬ (p.op = 7 ∧ j = 1 ∧ p.n = x) → cntP x p ≠ 0 := fun x hx hne => by
              have := cnt_kid (s := decide (p.op = 7 ∧ p.n = x)) p.k 0 j ej (by simp only [decide_eq_true_iff]; exact fun g => hne ⟨g.1.1, by omega, g.1.2⟩) hx
              unfold cntP cntN
              omega
            have hpw : p.op = 7 → ¬ p.n = (w : Int) := fun h7 g => by
              have h5 := hh.1
              unfold ownVL at h5
              simp [h7, g] at h5
            by_cases hst : stays p n = true ∧ j = 1
            · rw [if_pos hst] at eb
              cases eb
              have hs := hst.1
              unfold stays reach at hs
              simp only [Bool.and_eq_true, decide_eq_true_iff, Bool.not_eq_true', Bool.and_eq_false_iff, Bool.not_eq_false'] at hs
              obtain ⟨h7, hs⟩ := hs
              obtain ⟨o1, m1, l1, o2, m2, l2, ek⟩ := hf.two h7
              have e2 : (⟨o, m, k1⟩ : Nd) = kid2 p.k := by
                rw [ek, hst.2] at ej
                simp only [Fo.drop] at ej
                injection ej with g1 g2 g3 g4
                rw [ek, g1, g2, g3]
                rfl
              refine alikeN_self (p := ⟨o, m, k1⟩) hkf fun x hx => bound_same fun hne => ?_
              have c1 := hc x (hout x hx hne)
              by_cases hxn : x = n
              · exfalso
                rcases hs with hs | hs
                · exact hne ⟨h7, hst.2, hs.trans hxn.symm⟩
                · rw [← e2, ← hxn] at hs
                  exact hx hs
              · rw [if_neg hxn] at c1
                exact c1
            · rw [if_neg hst] at eb
              refine putN_alike hw8 f ⟨o, m, k1⟩ b _ _ hkf hkw (fun x hx => ?_) eb
              by_cases hb7 : p.op = 7 ∧ j = 1
              · have hrn : ¬ p.n = n := fun g => hst ⟨by unfold stays reach; simp [hb7.1, g], hb7.2⟩
                have eL : ∀ Q : List Int, bound p.op p.n j Q = p.n :: Q := fun Q => by unfold bound; rw [if_pos hb7]
                rw [eL, eL]
                by_cases hxp : p.n = x
                · rw [if_neg (fun g => hrn (hxp.trans g)), hxp]
                  exact varSame_head x x L R
                · have c1 := hc x (hout x hx fun g => hxp g.2.2)
                  by_cases hxn : x = n
                  · rw [if_pos hxn] at c1 ⊢
                    exact varSame_cons hrn (hpw hb7.1) c1
                  · rw [if_neg hxn] at c1 ⊢
                    exact varSame_cons hxp hxp c1
              · have eL : ∀ Q : List Int, bound p.op p.n j Q = Q := fun Q => by unfold bound; rw [if_neg hb7]
                rw [eL, eL]
                exact hc x (hout x hx fun g => hb7 ⟨g.1, g.2.1⟩)

/-- A renamed valid tree is valid. -/
def allS : Nat → Bool := fun _ => true
theorem inner_all (op n : Int) (i : Nat) : inner op n i allS = allS := by
  unfold inner setS allS
  split
  · funext j
    split <;> rfl
  · rfl
theorem vpF_cons (op n : Int) (i : Nat) (o m : Int) (k r : Fo) : vpF op n i allS (.cons o m k r) = (nodeVp o m k allS && vpF op n (i + 1) allS r) := by
  unfold nodeVp
  simp only [vpF, inner_all]
theorem kidsP_vp {g : Nd → Option Nd} {s : Bool} {op n op2 n2 : Int} (hg : ∀ y b, nodeVp y.op y.n y.k allS = true → g y = some b → nodeVp b.op b.n b.k allS = true) : ∀ (k : Fo) (i : Nat) (t : Fo), vpF op n i allS k = true → kidsP g s i k = some t → vpF op2 n2 i allS t = true ∧ t.len = k.len
  | .nil, _, _, _, h => by cases h; exact ⟨rfl, rfl⟩
  | .cons o m k r, i, t, hv, h => by
    obtain ⟨a, t', h1, h2, rfl⟩ := kidsP_some h
    rw [vpF_cons, Bool.and_eq_true] at hv
    obtain ⟨e1, e2⟩ := kidsP_vp hg r (i + 1) t' hv.2 h2
    have ha : nodeVp a.op a.n a.k allS = true := by
      split at h1
      · cases h1; exact hv.1
      · exact hg _ _ hv.1 h1
    rw [vpF_cons, ha, e1]
    exact ⟨rfl, by simp only [Fo.len, e2]⟩
theorem putN_vp {n : Int} {w : Nat} (hw8 : w < 8) : ∀ (f : Nat) (p b : Nd), nodeVp p.op p.n p.k allS = true → putN f p n ⟨2, w, .nil⟩ = some b → nodeVp b.op b.n b.k allS = true
  | 0, _, _, _, h => by cases h
  | f + 1, p, b, hv, h => by
    unfold putN at h
    split at h
    · cases h
      have hin : inVar (w : Int) = true := by unfold inVar; simp; omega
      unfold nodeVp ownOk kidsOk
      simp [hin, Fo.len, vpF, allS]
    · split at h
      · rename_i hc
        cases e : newOf p n ⟨2, (w : Int), .nil⟩ with
        | none => rw [e] at h; cases h
        | some w2 =>
          rw [e] at h
          dsimp only at h
          obtain ⟨w28, -, -, -⟩ := newOf_new e
          cases e2 : putN f (kid2 p.k) p.n ⟨2, w2, .nil⟩ with
          | none => rw [e2] at h; cases h
          | some q =>
            rw [e2] at h
            dsimp only at h
            cases e3 : kidsP (fun y => putN f y n ⟨2, (w : Int), .nil⟩) false 0 (pair (kid1 p.k) q) with
            | none => rw [e3] at h; cases h
            | some t =>
              rw [e3] at h
              cases h
              have hv2 := hv
              unfold nodeVp at hv
              simp only [Bool.and_eq_true] at hv
              obtain ⟨⟨g1, g2⟩, g3⟩ := hv
              have hl : p.k.len = 2 := by
                rw [hc.1] at g1
                simpa [kidsOk] using g1
              have hk : ∃ o m k o' m' k', p.k = .cons o m k (.cons o' m' k' .nil) := by
                cases e5 : p.k with
                | nil => rw [e5] at hl; simp [Fo.len] at hl
                | cons o m k r =>
                  cases e6 : r with
                  | nil => rw [e5, e6] at hl; simp [Fo.len] at hl
                  | cons o' m' k' r' =>
                    cases e7 : r' with
                    | nil => exact ⟨_, _, _, _, _, _, rfl⟩
                    | cons _ _ _ _ => rw [e5, e6, e7] at hl; simp [Fo.len] at hl
              obtain ⟨o, m, k, o', m', k', ek⟩ := hk
              rw [ek, vpF_cons, vpF_cons, Bool.and_eq_true, Bool.and_eq_true] at g3
              have hq := putN_vp w28 f (kid2 p.k) q (by rw [ek]; exact g3.2.1) e2
              obtain ⟨r1, r2⟩ := kidsP_vp (op2 := 7) (n2 := (w2 : Int)) (op := 7) (n := (w2 : Int)) (fun y b hy he => putN_vp hw8 f y b hy he) _ 0 t (by
                unfold pair
                rw [vpF_cons, vpF_cons, hq, show nodeVp (kid1 p.k).op (kid1 p.k).n (kid1 p.k).k allS = true by rw [ek]; exact g3.1]
                rfl) e3
              have hin : inVar (w2 : Int) = true := by unfold inVar; simp; omega
              unfold nodeVp
              rw [r1, r2]
              unfold ownOk kidsOk pair
              simp [hin, Fo.len]
      · cases e : kidsP (fun y => putN f y n ⟨2, w, .nil⟩) (stays p n) 0 p.k with
        | none => rw [e] at h; cases h
        | some t =>
          rw [e] at h
          cases h
          unfold nodeVp at hv ⊢
          simp only [Bool.and_eq_true] at hv ⊢
          obtain ⟨⟨g1, g2⟩, g3⟩ := hv
          obtain ⟨r1, r2⟩ := kidsP_vp (op2 := p.op) (n2 := p.n) (fun y b hy he => putN_vp hw8 f y b hy he) p.k 0 t g3 e
          exact ⟨⟨by rw [r2]; exact g1, g2⟩, r1⟩

/-- Where RenameBound answers: what the law asks. -/
theorem ren_all {p y : Nd} {u : Int} (h : renB p u = some y) : y.n = u ∧ namesB p.op p.n p.k y.op y.n y.k = true ∧ (∀ i : Nat, i < 8 → cntN (i : Int) y.op y.n y.k = cntN (i : Int) p.op p.n p.k) ∧ y.k.size = p.k.size ∧ p.k.size ≤ 80 := by
  have hok : renOk p u = true := by
    cases e : renOk p u with
    | true => rfl
    | false => rw [renB_no e] at h; cases h
  obtain ⟨oa, ma, ka, ob, mb, kb, v, q, h7, ek, hv8, rfl, hn, hh, hfit, hq, hy⟩ := renB_yes hok
  rw [hy] at h
  cases h
  have hff := hfit.2
  rw [ek, fitP_cons, fitP_cons] at hff
  have hr := putN_ren hv8 _ _ q hff.2.1 hh hq
  have hs1 := hr.size
  have hs2 := hr.dep
  dsimp only at hs1 hs2
  have hin : inVar (v : Int) = true := inVar_mk (by omega) (by omega)
  have habs : cntN (v : Int) ob mb kb = 0 := cnt_absent (p := ⟨ob, mb, kb⟩) hh
  have hfs : ∀ j : Nat, j < 8 → firstS 8 j = true := fun j hj => by unfold firstS; exact decide_eq_true hj
  have hnd : nodeIs 7 (v : Int) (pair ⟨oa, ma, ka⟩ q) (firstS 8) = true := by
    have h1 := hn
    rw [nodeIs_eq, Bool.and_eq_true] at h1 ⊢
    obtain ⟨hs, hvp⟩ := h1
    refine ⟨?_, ?_⟩
    · rw [ek] at hs
      have d1 : (Fo.cons oa ma ka (.cons q.op q.n q.k .nil)).dep = (Fo.cons oa ma ka (.cons ob mb kb .nil)).dep := by simp only [Fo.dep, hs2]
      have d2 : (Fo.cons oa ma ka (.cons q.op q.n q.k .nil)).size = (Fo.cons oa ma ka (.cons ob mb kb .nil)).size := by simp only [Fo.size, hs1]
      show smallOk (Fo.cons oa ma ka (.cons q.op q.n q.k .nil)) 14 80 = true
      unfold smallOk at hs ⊢
      rw [d1, d2]
      exact hs
    · refine nodeVp_up (S := allS) (fun j hj _ => hfs j hj) ?_
      have h2 := nodeVp_up (T := allS) (fun _ _ _ => rfl) hvp
      unfold nodeVp at h2
      simp only [Bool.and_eq_true] at h2
      have h3 := h2.2
      rw [ek, vpF_cons, vpF_cons, Bool.and_eq_true, Bool.and_eq_true] at h3
      have hqv := putN_vp hv8 _ ⟨ob, mb, kb⟩ q h3.2.1 hq
      have hle : vpF 7 (v : Int) 0 allS (pair ⟨oa, ma, ka⟩ q) = true := by
        unfold pair
        rw [vpF_cons, vpF_cons, hqv, h3.1]
        rfl
      unfold nodeVp
      rw [hle]
      unfold ownOk kidsOk pair
      simp [hin, Fo.len]
  refine ⟨rfl, ?_, fun i hi => ?_, ?_, by have := small_is hn; omega⟩
  · unfold namesB
    rw [hn, hnd, Bool.true_and, Bool.true_and, ek, h7]
    unfold alikeN
    simp only [pair, Fo.len, decide_true, Bool.true_and, show ¬ ((7 : Int) = 2) by decide, if_false, Bool.true_or]
    rw [alikeF_cons rfl rfl, alikeF_cons rfl rfl]
    have e1 : alikeN oa ma ka oa ma ka (bound 7 p.n 0 []) (bound 7 (v : Int) 0 []) = true := alikeN_self (p := ⟨oa, ma, ka⟩) hff.1 fun x _ => by
      unfold bound
      rw [if_neg (by omega), if_neg (by omega)]
      simp [varSame]
    have e2 : alikeN ob mb kb q.op q.n q.k (bound 7 p.n (0 + 1) []) (bound 7 (v : Int) (0 + 1) []) = true := by
      refine putN_alike hv8 _ ⟨ob, mb, kb⟩ q _ _ hff.2.1 hh (fun x hx => ?_) hq
      have eL : ∀ z : Int, bound 7 z (0 + 1) [] = [z] := fun z => rfl
      rw [eL, eL]
      by_cases hxn : x = p.n
      · rw [if_pos hxn]
        exact varSame_head _ _ _ _
      · rw [if_neg hxn]
        have hxv : ¬ (v : Int) = x := fun g => hx (by unfold cntP; rw [← g]; exact habs)
        exact varSame_cons (fun g => hxn g.symm) hxv (by simp [varSame])
    rw [e1, e2]
    rfl
  · have hc := putN_cnt _ ⟨ob, mb, kb⟩ q p.n ⟨2, (v : Int), .nil⟩ (i : Int) (inVar_mk (by omega) (by omega)) hff.2.1 hq
    rw [cnt_leaf] at hc
    unfold cntP at hc
    dsimp only at hc
    have cl : ∀ z : Int, cntN (i : Int) 7 z (pair ⟨oa, ma, ka⟩ q) = cntN (i : Int) oa ma ka + (if z = (i : Int) then 0 else cntN (i : Int) q.op q.n q.k) := fun z => by
      rw [show cntN (i : Int) 7 z (pair ⟨oa, ma, ka⟩ q) = ownVar (i : Int) 7 z + cntL (i : Int) (decide ((7 : Int) = 7 ∧ z = (i : Int))) 0 (pair ⟨oa, ma, ka⟩ q) from rfl, show ownVar (i : Int) 7 z = 0 by unfold ownVar; rw [if_neg (by omega)]]
      unfold pair
      rw [cntL_cons rfl, cntL_cons rfl]
      simp [cntL]
    have cr : ∀ z : Int, cntN (i : Int) 7 z (.cons oa ma ka (.cons ob mb kb .nil)) = cntN (i : Int) oa ma ka + (if z = (i : Int) then 0 else cntN (i : Int) ob mb kb) := fun z => by
      rw [show cntN (i : Int) 7 z (.cons oa ma ka (.cons ob mb kb .nil)) = ownVar (i : Int) 7 z + cntL (i : Int) (decide ((7 : Int) = 7 ∧ z = (i : Int))) 0 (.cons oa ma ka (.cons ob mb kb .nil)) from rfl, show ownVar (i : Int) 7 z = 0 by unfold ownVar; rw [if_neg (by omega)]]
      rw [cntL_cons rfl, cntL_cons rfl]
      simp [cntL]
    rw [cl, h7, ek, cr, hc]
    by_cases hiv : (v : Int) = (i : Int)
    · rw [if_pos hiv, ← hiv, habs]
      split <;> rfl
    · rw [if_neg hiv, if_neg (fun g => hiv g.symm), Nat.mul_zero, Nat.zero_add]
      by_cases hpi : (i : Int) = p.n
      · rw [if_pos hpi, if_pos hpi.symm]
      · rw [if_neg hpi, if_neg (fun g => hpi g.symm)]
  · rw [ek]
    unfold pair
    simp only [Fo.size]
    rw [hs1]
end Go.Proofs.Ytjlaabipgppijaa
