import Derived.Test.YtmnhoeliofojnaaGreatDoorChgD
import Derived.Test.YtmnhoeliofojnaaGreatDoorAtom
namespace Go.Proofs.YtmnhoeliofojnaaGreatDoor
open Go.RowKit Go.Shelf
open Go.Lib (hid)
set_option maxRecDepth 100000
def atomsOk (p : Nd) : Bool := decide (p.op = 7) && atomB (kid1 p.k).op (kid1 p.k).k
def gAtoms (_ : Nat) (p : Nd) : Nd := if atomsOk p = true then (putK p).getD p else p
theorem gAtoms_no {L : Nat} {p : Nd} (h : atomsOk p = false) : gAtoms L p = p := by unfold gAtoms; rw [if_neg (by rw [h]; simp)]
theorem gAtoms_yes {L : Nat} {p : Nd} (h : atomsOk p = true) : gAtoms L p = (putK p).getD p := by unfold gAtoms; rw [if_pos h]
theorem atom_nil {op : Int} {k : Fo} (h : atomB op k = true) : k = .nil := by
 unfold atomB at h
 simp only [Bool.and_eq_true,decide_eq_true_iff] at h
 cases k with
 | nil => rfl
 | cons _ _ _ _ => simp [Fo.len] at h
theorem keeps_atoms {T : Int -> Int -> Nat -> Prop} (hT : LocalT T) : KeepsSt T gAtoms := by
 intro L p h
 cases h0 : atomsOk p with
 | false => rw [gAtoms_no h0]; exact ⟨h,Nat.le_refl _⟩
 | true =>
  rw [gAtoms_yes h0]
  unfold atomsOk at h0
  simp only [Bool.and_eq_true,decide_eq_true_iff] at h0
  obtain ⟨o,m,k,o',m',k',ek,ha,hb,hs⟩ := let_two hT h h0.1
  rw [ek] at h0
  have hk : k = .nil := atom_nil h0.2
  cases e : putK p with
  | none => exact ⟨h,Nat.le_refl _⟩
  | some y =>
   simp only [Option.getD_some]
   unfold putK at e
   rw [ek] at e
   obtain ⟨y1,y2⟩ := putN_all hT _ _ _ _ _ hb.all ha.all e
   have y3 := putN_size _ _ _ (all_fitN hT hb.all) e
   simp only [kid1,hk,Fo.dep,Fo.size,Nat.mul_zero,Nat.add_zero] at y2 y3
   have := hb.dep
   have := hb.size
   dsimp only at *
   exact ⟨⟨y1,by omega,h.lv,by omega⟩,by omega⟩
end Go.Proofs.YtmnhoeliofojnaaGreatDoor
