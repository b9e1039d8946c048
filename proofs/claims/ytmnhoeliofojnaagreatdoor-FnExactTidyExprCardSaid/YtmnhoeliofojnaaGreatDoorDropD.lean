import Derived.Test.YtmnhoeliofojnaaGreatDoorChgD
import Derived.Test.YtmnhoeliofojnaaGreatDoorEffD
namespace Go.Proofs.YtmnhoeliofojnaaGreatDoor
open Go.RowKit Go.Shelf
open Go.Lib (hid)
set_option maxRecDepth 100000
def dropOk (P : Int -> Int -> Fo -> Bool) (p : Nd) : Bool := (decide (p.op = 7 ∨ p.op = 8) && P (kid1 p.k).op (kid1 p.k).n (kid1 p.k).k) && (decide (p.op = 8) || decide (cntP p.n (kid2 p.k) = 0))
def gDrop (P : Int -> Int -> Fo -> Bool) (_ : Nat) (p : Nd) : Nd := if dropOk P p = true then kid2 p.k else p
theorem gDrop_no {P : Int -> Int -> Fo -> Bool} {L : Nat} {p : Nd} (h : dropOk P p = false) : gDrop P L p = p := by unfold gDrop; rw [if_neg (by rw [h]; simp)]
theorem gDrop_yes {P : Int -> Int -> Fo -> Bool} {L : Nat} {p : Nd} (h : dropOk P p = true) : gDrop P L p = kid2 p.k := by unfold gDrop; rw [if_pos h]
theorem keeps_drop {T : Int -> Int -> Nat -> Prop} (hT : LocalT T) (P : Int -> Int -> Fo -> Bool) : KeepsSt T (gDrop P) := by
 intro L p h
 cases h0 : dropOk P p with
 | false => rw [gDrop_no h0]; exact ⟨h,Nat.le_refl _⟩
 | true =>
  rw [gDrop_yes h0]
  unfold dropOk at h0
  simp only [Bool.and_eq_true,decide_eq_true_iff] at h0
  obtain ⟨o,m,k,o',m',k',ek,ha,hb,hs⟩ := two_kids h (kids_two (hT.kids h.all.1) (.inr (.inr h0.1.1)))
  rw [ek]
  refine ⟨hb, ?_⟩
  rw [ek] at hs
  simp only [kid1,kid2,Fo.size] at hs ⊢
  omega
def libT (ds : List De) (op n : Int) (l : Nat) : Prop := formT op n l /\ okCall (ariS ds) op n l = true
theorem libT_local (ds : List De) : LocalT (libT ds) :=
 ⟨fun h => h.1.1,fun h => formT_local.name h.1,fun w hw => ⟨formT_local.lets w hw,by unfold okCall; simp⟩,fun w hw => ⟨formT_local.var w hw,by unfold okCall; simp⟩⟩
theorem fitF_all {ds : List De} : ∀ {k : Fo},allF formT k -> fitF (ariS ds) k = true -> allF (libT ds) k
 | .nil,_,_ => trivial
 | .cons _ _ _ _,⟨h1,h2,h3⟩,h => by
  simp only [fitF,Bool.and_eq_true] at h
  exact ⟨⟨h1,h.1.1⟩,fitF_all h2 h.1.2,fitF_all h3 h.2⟩
theorem all_fitsF {ds : List De} : ∀ {k : Fo},allF (libT ds) k -> fitF (ariS ds) k = true
 | .nil,_ => rfl
 | .cons _ _ _ _,⟨h1,h2,h3⟩ => by simp only [fitF,h1.2,all_fitsF h2,all_fitsF h3,Bool.and_self]
theorem all_fits {ds : List De} {op n : Int} {k : Fo} (h : allN (libT ds) ⟨op,n,k⟩) : fitN (ariS ds) op n k = true := by unfold fitN; rw [h.1.2,all_fitsF h.2]; rfl
theorem fits_st {ds : List De} {op n : Int} {k : Fo} (h : callsFitB ds op n k = true) : St (libT ds) 14 ⟨op,n,k⟩ := by
 unfold callsFitB at h
 rw [Bool.and_eq_true] at h
 have h1 := nodeIs_st h.1
 have h2 := h.2
 unfold fitN at h2
 rw [Bool.and_eq_true] at h2
 exact ⟨⟨⟨h1.all.1,h2.1⟩,fitF_all h1.all.2 h2.2⟩,h1.dep,h1.lv,h1.size⟩
theorem drop_same {ds : List De} (h : libOk ds = true) (L : Nat) (p : Nd) (hp : St (libT ds) L p) : gDrop (pureW (pureT ds)) L p = gDrop (pureS ds) L p := by
 have : dropOk (pureW (pureT ds)) p = dropOk (pureS ds) p := by
  unfold dropOk
  by_cases h0 : p.op = 7 ∨ p.op = 8
  ·obtain ⟨o,m,k,o',m',k',ek,ha,hb,hs⟩ := two_kids hp (kids_two ((libT_local ds).kids hp.all.1) (.inr (.inr h0)))
   rw [ek]
   dsimp only [kid1]
   rw [pureN_is h (all_fits ha.all)]
  ·simp [h0]
 unfold gDrop
 rw [this]
end Go.Proofs.YtmnhoeliofojnaaGreatDoor
