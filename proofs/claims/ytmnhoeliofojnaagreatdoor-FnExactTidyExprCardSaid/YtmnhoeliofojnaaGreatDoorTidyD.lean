import Derived.Test.YtmnhoeliofojnaaGreatDoorFoldD
import Derived.Test.YtmnhoeliofojnaaGreatDoorAtomsD
import Derived.Test.YtmnhoeliofojnaaGreatDoorOnceD
namespace Go.Proofs.YtmnhoeliofojnaaGreatDoor
open Go.RowKit Go.Shelf
open Go.Lib (hid)
set_option maxRecDepth 100000
def LessSt (T : Int -> Int -> Nat -> Prop) (g : Nat -> Nd -> Nd) : Prop := ∀ L p,St T L p -> g L p = p ∨ (g L p).k.size < p.k.size
theorem chgF_less {T : Int -> Int -> Nat -> Prop} {g : Nat -> Nd -> Nd} (hk : KeepsSt T g) (hl : LessSt T g) : ∀ (k : Fo) (L : Nat),allF T k -> k.dep <= L -> L <= 14 -> k.size <= 80 -> chgF g L k = k ∨ (chgF g L k).size < k.size
 | .nil,_,_,_,_,_ => .inl rfl
 | .cons op n k r,L,⟨h1,h2,h3⟩,hd,hL,hz => by
  simp only [Fo.dep] at hd
  simp only [Fo.size] at hz
  have e1 := chgF_less hk hl k (L - 1) h2 (by omega) (by omega) (by omega)
  have e2 := chgF_less hk hl r L h3 (by omega) hL (by omega)
  have hr := (chgF_keeps hk r L h3 (by omega) hL (by omega)).2.2
  obtain ⟨k1,k2,k3⟩ := chgF_keeps hk k (L - 1) h2 (by omega) (by omega) (by omega)
  have hst : St T L ⟨op,n,chgF g (L - 1) k⟩ := ⟨⟨by show T op n (chgF g (L - 1) k).len; rw [chgF_len]; exact h1,k1⟩,by show (chgF g (L - 1) k).dep + 1 <= L; omega,hL,by show (chgF g (L - 1) k).size + 1 <= 80; omega⟩
  have e3 := hl L _ hst
  have e4 := (hk L _ hst).2
  rw [chgF_cons]
  have eN : chgN g L ⟨op,n,k⟩ = g L ⟨op,n,chgF g (L - 1) k⟩ := rfl
  rw [eN]
  rcases e3 with e3 | e3
  ·rw [e3]
   rcases e1 with e1 | e1
   ·rw [e1]
    rcases e2 with e2 | e2
    ·rw [e2]; exact .inl rfl
    ·exact .inr (by simp only [Fo.size]; omega)
   ·exact .inr (by simp only [Fo.size]; omega)
  ·exact .inr (by simp only [Fo.size] at e3 e4 ⊢; omega)
theorem chgN_less {T : Int -> Int -> Nat -> Prop} {g : Nat -> Nd -> Nd} (hk : KeepsSt T g) (hl : LessSt T g) {L : Nat} {p : Nd} (h : St T L p) : chgN g L p = p ∨ (chgN g L p).k.size < p.k.size := by
 have hd := h.dep
 have hz := h.size
 have hv := h.lv
 have e1 := chgF_less hk hl p.k (L - 1) h.all.2 (by omega) (by omega) (by omega)
 have hm := midN_st hk h
 have e2 := hl L _ hm.1
 have e3 := (hk L _ hm.1).2
 have e4 : chgN g L p = g L (midN g L p) := rfl
 rw [e4]
 rcases e2 with e2 | e2
 ·rw [e2]
  rcases e1 with e1 | e1
  ·left; unfold midN; rw [e1]
  ·right; unfold midN; exact e1
 ·right; exact Nat.lt_of_lt_of_le e2 hm.2
theorem less_fold {T : Int -> Int -> Nat -> Prop} (hT : LocalT T) : LessSt T gFold := by
 intro L p h
 by_cases h45 : p.op = 4 ∨ p.op = 5
 ·by_cases hn : (kid1 p.k).op = 1 /\ (kid2 p.k).op = 1
  ·rw [gFold_num h45 hn.1 hn.2]
   obtain ⟨o,m,k,o',m',k',ek,ha,hb,hs⟩ := two_kids h (kids_two (hT.kids h.all.1) (by omega))
   right; simp only [Fo.size]; omega
  ·left; exact gFold_arith h45 hn
 ·by_cases h6 : p.op = 6
  ·rw [gFold_if h6]
   have hk := hT.kids h.all.1
   rw [h6] at hk
   obtain ⟨o,m,k,o',m',k',o2,m2,k2,ek,ha,hb,hc,hs⟩ := three_kids h (kids_three hk)
   split
   ·split
    ·right; rw [ek] at hs ⊢; simp only [kid2,kid1,Fo.size] at hs ⊢; omega
    ·right; rw [ek] at hs ⊢; simp only [kid3,Fo.size] at hs ⊢; omega
   ·exact .inl rfl
  ·by_cases h8 : p.op = 8
   ·rw [gFold_seq h8]
    obtain ⟨o,m,k,o',m',k',ek,ha,hb,hs⟩ := two_kids h (kids_two (hT.kids h.all.1) (by omega))
    split
    ·right; rw [ek] at hs ⊢; simp only [kid2,kid1,Fo.size] at hs ⊢; omega
    ·exact .inl rfl
   ·left; exact gFold_other (by omega) (by omega) h6 h8
theorem less_atoms {T : Int -> Int -> Nat -> Prop} (hT : LocalT T) : LessSt T gAtoms := by
 intro L p h
 cases h0 : atomsOk p with
 | false => exact .inl (gAtoms_no h0)
 | true =>
  rw [gAtoms_yes h0]
  unfold atomsOk at h0
  simp only [Bool.and_eq_true,decide_eq_true_iff] at h0
  obtain ⟨o,m,k,o',m',k',ek,ha,hb,hs⟩ := let_two hT h h0.1
  rw [ek] at h0
  have hk : k = .nil := atom_nil h0.2
  cases e : putK p with
  | none => exact .inl rfl
  | some y =>
   simp only [Option.getD_some]
   unfold putK at e
   rw [ek] at e
   have y3 := putN_size _ _ _ (all_fitN hT hb.all) e
   simp only [kid1,hk,Fo.size,Nat.mul_zero,Nat.add_zero] at y3
   right; omega
theorem less_drop {T : Int -> Int -> Nat -> Prop} (hT : LocalT T) (P : Int -> Int -> Fo -> Bool) : LessSt T (gDrop P) := by
 intro L p h
 cases h0 : dropOk P p with
 | false => exact .inl (gDrop_no h0)
 | true =>
  rw [gDrop_yes h0]
  unfold dropOk at h0
  simp only [Bool.and_eq_true,decide_eq_true_iff] at h0
  obtain ⟨o,m,k,o',m',k',ek,ha,hb,hs⟩ := two_kids h (kids_two (hT.kids h.all.1) (.inr (.inr h0.1.1)))
  rw [ek] at hs ⊢
  simp only [kid1,kid2,Fo.size] at hs ⊢
  right; omega
theorem less_once {T : Int -> Int -> Nat -> Prop} (hT : LocalT T) (F : Int -> Int -> Int -> Fo -> Nat) : LessSt T (gOnce F) := by
 intro L p h
 cases h0 : onceOk F p with
 | false => exact .inl (gOnce_no h0)
 | true =>
  rw [gOnce_yes h0]
  unfold onceOk at h0
  simp only [Bool.and_eq_true,decide_eq_true_iff] at h0
  obtain ⟨o,m,k,o',m',k',ek,ha,hb,hs⟩ := let_two hT h h0.1
  have hc := h0.2.1
  rw [ek] at hc
  cases e : putK p with
  | none => exact .inl rfl
  | some y =>
   unfold keepL
   by_cases hd : y.k.dep + 1 <= L
   ·dsimp only
    rw [if_pos hd]
    unfold putK at e
    rw [ek] at e
    have y3 := putN_size _ _ _ (all_fitN hT hb.all) e
    simp only [kid1,kid2] at y3 hc
    rw [hc,Nat.one_mul] at y3
    right; omega
   ·dsimp only
    rw [if_neg hd]
    exact .inl rfl
theorem same_refl : ∀ (f : Fo),sameFo f f = true
 | .nil => rfl
 | .cons _ _ k r => by simp [sameFo,same_refl k,same_refl r]
def sameQ (y p : Nd) : Bool := sameN y.op y.n y.k p.op p.n p.k
theorem sameQ_refl (p : Nd) : sameQ p p = true := by unfold sameQ sameN; simp [same_refl]
def tidy1 (P : Int -> Int -> Fo -> Bool) (F : Int -> Int -> Int -> Fo -> Nat) (p : Nd) : Nd := chgN (gOnce F) 14 (chgN (gDrop P) 14 (chgN gAtoms 14 (chgN gFold 14 p)))
def tidyN (P : Int -> Int -> Fo -> Bool) (F : Int -> Int -> Int -> Fo -> Nat) : Nat -> Nd -> Nd
 | 0,p => p
 | f + 1,p => if sameQ (tidy1 P F p) p = true then tidy1 P F p else tidyN P F f (tidy1 P F p)
section
variable {ds : List De}
theorem libT_form {op n : Int} {l : Nat} (h : libT ds op n l) : formT op n l := h.1
theorem libT_num (v : Int) (h0 : 0 <= v) (h1 : v <= 99) : libT ds 1 v 0 := ⟨⟨rfl,by unfold ownOk; simp; omega⟩,by unfold okCall; simp⟩
theorem kF : KeepsSt (libT ds) gFold := keeps_fold (libT_local ds) libT_form libT_num
theorem kA : KeepsSt (libT ds) gAtoms := keeps_atoms (libT_local ds)
theorem kD (P : Int -> Int -> Fo -> Bool) : KeepsSt (libT ds) (gDrop P) := keeps_drop (libT_local ds) P
theorem kO (F : Int -> Int -> Int -> Fo -> Nat) : KeepsSt (libT ds) (gOnce F) := keeps_once (libT_local ds) F
theorem tidy1_st (P : Int -> Int -> Fo -> Bool) (F : Int -> Int -> Int -> Fo -> Nat) {p : Nd} (h : St (libT ds) 14 p) :
  St (libT ds) 14 (chgN gFold 14 p) /\ St (libT ds) 14 (chgN gAtoms 14 (chgN gFold 14 p)) /\ St (libT ds) 14 (chgN (gDrop P) 14 (chgN gAtoms 14 (chgN gFold 14 p))) /\ St (libT ds) 14 (tidy1 P F p) := by
 have h1 := (chgN_st kF h).1
 have h2 := (chgN_st kA h1).1
 have h3 := (chgN_st (kD P) h2).1
 exact ⟨h1,h2,h3,(chgN_st (kO F) h3).1⟩
theorem tidy1_less (P : Int -> Int -> Fo -> Bool) (F : Int -> Int -> Int -> Fo -> Nat) {p : Nd} (h : St (libT ds) 14 p) : tidy1 P F p = p ∨ (tidy1 P F p).k.size < p.k.size := by
 obtain ⟨h1,h2,h3,h4⟩ := tidy1_st P F h
 have l1 := chgN_less kF (less_fold (libT_local ds)) h
 have l2 := chgN_less kA (less_atoms (libT_local ds)) h1
 have l3 := chgN_less (kD P) (less_drop (libT_local ds) P) h2
 have l4 := chgN_less (kO F) (less_once (libT_local ds) F) h3
 unfold tidy1
 generalize chgN gFold 14 p = a at *
 generalize chgN gAtoms 14 a = b at *
 generalize chgN (gDrop P) 14 b = c at *
 generalize chgN (gOnce F) 14 c = d at *
 rcases l1 with rfl | l1
 ·rcases l2 with rfl | l2
  ·rcases l3 with rfl | l3
   ·exact l4
   ·rcases l4 with rfl | l4
    ·exact .inr l3
    ·exact .inr (by omega)
  ·right
   have : c.k.size <= b.k.size := by rcases l3 with rfl | l3 <;> omega
   have : d.k.size <= c.k.size := by rcases l4 with rfl | l4 <;> omega
   omega
 ·right
  have : b.k.size <= a.k.size := by rcases l2 with rfl | l2 <;> omega
  have : c.k.size <= b.k.size := by rcases l3 with rfl | l3 <;> omega
  have : d.k.size <= c.k.size := by rcases l4 with rfl | l4 <;> omega
  omega
theorem tidyN_stop {P : Int -> Int -> Fo -> Bool} {F : Int -> Int -> Int -> Fo -> Nat} {f : Nat} {p : Nd} (h : sameQ (tidy1 P F p) p = true) : tidyN P F (f + 1) p = tidy1 P F p := by rw [tidyN,if_pos h]
theorem tidyN_on {P : Int -> Int -> Fo -> Bool} {F : Int -> Int -> Int -> Fo -> Nat} {f : Nat} {p : Nd} (h : sameQ (tidy1 P F p) p = false) : tidyN P F (f + 1) p = tidyN P F f (tidy1 P F p) := by rw [tidyN,if_neg (by rw [h]; simp)]
theorem tidyN_st (P : Int -> Int -> Fo -> Bool) (F : Int -> Int -> Int -> Fo -> Nat) : ∀ (f : Nat) {p : Nd},St (libT ds) 14 p -> St (libT ds) 14 (tidyN P F f p)
 | 0,_,h => h
 | f + 1,p,h => by
  rw [tidyN]
  split
  ·exact (tidy1_st P F h).2.2.2
  ·exact tidyN_st P F f (tidy1_st P F h).2.2.2
theorem tidy1_same (h : libOk ds = true) {p : Nd} (hp : St (libT ds) 14 p) : tidy1 (pureW (pureT ds)) (ansI (pureT ds)) p = tidy1 (pureS ds) (ansS ds) p := by
 obtain ⟨h1,h2,h3,h4⟩ := tidy1_st (pureS ds) (ansS ds) hp
 unfold tidy1
 rw [chgN_same (kD (pureS ds)) (drop_same h) h2,chgN_same (kO (ansS ds)) (once_same h) h3]
theorem tidyN_same (h : libOk ds = true) : ∀ (f : Nat) {p : Nd},St (libT ds) 14 p -> tidyN (pureW (pureT ds)) (ansI (pureT ds)) f p = tidyN (pureS ds) (ansS ds) f p
 | 0,_,_ => rfl
 | f + 1,p,hp => by
  rw [tidyN,tidyN,tidy1_same h hp]
  rw [tidyN_same h f (tidy1_st (pureS ds) (ansS ds) hp).2.2.2]
end
end Go.Proofs.YtmnhoeliofojnaaGreatDoor
