import Derived.Test.YtmnhoeliofojnaaGreatDoorDropD
namespace Go.Proofs.YtmnhoeliofojnaaGreatDoor
open Go.RowKit Go.Shelf
open Go.Lib (hid)
set_option maxRecDepth 100000
def onceOk (F : Int -> Int -> Int -> Fo -> Nat) (p : Nd) : Bool := decide (p.op = 7) && (decide (cntP p.n (kid2 p.k) = 1) && decide (F p.n (kid2 p.k).op (kid2 p.k).n (kid2 p.k).k = 1))
def keepL (L : Nat) (p : Nd) : Option Nd -> Nd
 | none => p
 | some y => if y.k.dep + 1 <= L then y else p
def gOnce (F : Int -> Int -> Int -> Fo -> Nat) (L : Nat) (p : Nd) : Nd := if onceOk F p = true then keepL L p (putK p) else p
theorem gOnce_no {F : Int -> Int -> Int -> Fo -> Nat} {L : Nat} {p : Nd} (h : onceOk F p = false) : gOnce F L p = p := by unfold gOnce; rw [if_neg (by rw [h]; simp)]
theorem gOnce_yes {F : Int -> Int -> Int -> Fo -> Nat} {L : Nat} {p : Nd} (h : onceOk F p = true) : gOnce F L p = keepL L p (putK p) := by unfold gOnce; rw [if_pos h]
theorem keeps_once {T : Int -> Int -> Nat -> Prop} (hT : LocalT T) (F : Int -> Int -> Int -> Fo -> Nat) : KeepsSt T (gOnce F) := by
 intro L p h
 cases h0 : onceOk F p with
 | false => rw [gOnce_no h0]; exact ⟨h,Nat.le_refl _⟩
 | true =>
  rw [gOnce_yes h0]
  unfold onceOk at h0
  simp only [Bool.and_eq_true,decide_eq_true_iff] at h0
  obtain ⟨o,m,k,o',m',k',ek,ha,hb,hs⟩ := let_two hT h h0.1
  have hc := h0.2.1
  rw [ek] at hc
  cases e : putK p with
  | none => exact ⟨h,Nat.le_refl _⟩
  | some y =>
   unfold keepL
   by_cases hd : y.k.dep + 1 <= L
   ·dsimp only
    rw [if_pos hd]
    unfold putK at e
    rw [ek] at e
    obtain ⟨y1,y2⟩ := putN_all hT _ _ _ _ _ hb.all ha.all e
    have y3 := putN_size _ _ _ (all_fitN hT hb.all) e
    simp only [kid1,kid2] at y3 hc
    rw [hc,Nat.one_mul] at y3
    have hz := h.size
    exact ⟨⟨y1,hd,h.lv,by omega⟩,by omega⟩
   ·dsimp only
    rw [if_neg hd]
    exact ⟨h,Nat.le_refl _⟩
theorem own_big {o m : Int} {S : Nat -> Bool} (hS : ∀ j,j < 8 -> S j = true) (h : ownOk o m (firstS 8) = true) : ownOk o m S = true := by
 unfold ownOk at h ⊢
 by_cases h1 : o = 1
 ·rw [if_pos h1] at h ⊢; exact h
 ·rw [if_neg h1] at h ⊢
  by_cases h2 : o = 2
  ·rw [if_pos h2,Bool.and_eq_true] at h ⊢
   have h3 := h.2
   unfold firstS at h3
   exact ⟨h.1,hS _ (by simpa using h3)⟩
  ·rw [if_neg h2] at h ⊢; exact h
theorem shapeF_of : ∀ (f : Fo) (op n : Int) (i : Nat) (S : Nat -> Bool) (d : Nat),(∀ j,j < 8 -> S j = true) -> allF formT f -> f.dep <= d -> shapeF op n i S d f = true
 | .nil,_,_,_,_,_,_,_,_ => rfl
 | .cons o m k r,op,n,i,S,d,hS,⟨h1,h2,h3⟩,hd => by
  simp only [Fo.dep] at hd
  have hS2 : ∀ j,j < 8 -> inner op n i S j = true := by
   intro j hj
   unfold inner
   split
   ·unfold setS
    split
    ·rfl
    ·exact hS j hj
   ·exact hS j hj
  simp only [shapeF,Bool.and_eq_true,decide_eq_true_iff]
  exact ⟨⟨⟨⟨by omega,h1.1⟩,own_big hS2 h1.2⟩,shapeF_of k o m 0 _ _ hS2 h2 (by omega)⟩,shapeF_of r op n (i + 1) S d hS h3 (by omega)⟩
theorem first_all : ∀ j,j < 8 -> firstS 8 j = true := fun j hj => by unfold firstS; simpa using hj
theorem shape_all {p : Nd} (h : allN formT p) (L : Nat) : nodeShape p.op p.n p.k (firstS 8) L = decide (p.k.dep + 1 <= L) := by
 unfold nodeShape
 rw [h.1.1,h.1.2]
 by_cases hd : p.k.dep + 1 <= L
 ·rw [shapeF_of p.k p.op p.n 0 _ _ first_all h.2 (by omega)]
  simp [hd]
  omega
 ·simp only [hd,decide_false,Bool.and_true]
  cases e : shapeF p.op p.n 0 (firstS 8) (L - 1) p.k with
  | false => simp
  | true =>
   have h9 := (shapeF_all _ _ _ _ _ _ e).2
   have : ¬ 1 <= L := by omega
   simp [this]
theorem lib_form {ds : List De} : ∀ {k : Fo},allF (libT ds) k -> allF formT k
 | .nil,_ => trivial
 | .cons _ _ _ _,⟨h1,h2,h3⟩ => ⟨h1.1,lib_form h2,lib_form h3⟩
theorem form_well : ∀ {k : Fo},allF formT k -> wellF k = true
 | .nil,_ => rfl
 | .cons _ _ _ _,⟨h1,h2,h3⟩ => by
  rw [wellF_cons rfl]
  unfold wellN
  rw [well_own h1.1 h1.2,form_well h2,form_well h3]
  rfl
theorem st_well {ds : List De} {L : Nat} {p : Nd} (h : St (libT ds) L p) : wellN p.op p.n p.k = true := by
 unfold wellN
 rw [well_own h.all.1.1.1 h.all.1.1.2,form_well (lib_form h.all.2)]
 rfl
theorem ans_st {ds : List De} (h : libOk ds = true) {L : Nat} {p : Nd} (hp : St (libT ds) L p) (v : Int) : ansS ds v p.op p.n p.k = ansI (pureT ds) v p.op p.n p.k := by
 refine ans_congr (fun n l ho => ?_) (fun op n k hf => pureN_is h hf) (all_fits hp.all) (st_well hp)
 have h1 := pureOwn_at h ho
 show (quietS ds n && endingS ds n) = pureT ds n.toNat
 rw [<- h1]
 simp [pureOwn]
theorem once_same {ds : List De} (h : libOk ds = true) (L : Nat) (p : Nd) (hp : St (libT ds) L p) : gOnce (ansI (pureT ds)) L p = gOnce (ansS ds) L p := by
 have : onceOk (ansI (pureT ds)) p = onceOk (ansS ds) p := by
  unfold onceOk
  by_cases h0 : p.op = 7
  ·obtain ⟨o,m,k,o',m',k',ek,ha,hb,hs⟩ := let_two (libT_local ds) hp h0
   have e : kid2 p.k = ⟨o',m',k'⟩ := by rw [ek]; rfl
   have hh := ans_st h hb p.n
   simp only at hh
   simp only [e,hh]
  ·simp [h0]
 unfold gOnce
 rw [this]
end Go.Proofs.YtmnhoeliofojnaaGreatDoor
