import Derived.Test.YtmnhoeliofojnaaGreatDoorChgD
import Derived.Test.YtmnhoeliofojnaaGreatDoorAtom
namespace Go.Proofs.YtmnhoeliofojnaaGreatDoor
open Go.RowKit Go.Shelf
open Go.Lib (hid)
set_option maxRecDepth 100000
def kid3 : Fo -> Nd
 | .cons _ _ _ (.cons _ _ _ (.cons op n k _)) => ⟨op,n,k⟩
 | _ => ⟨0,0,.nil⟩
theorem three_kids {T : Int -> Int -> Nat -> Prop} {L : Nat} {p : Nd} (h : St T L p) (h2 : p.k.len = 3) : ∃ o m k o' m' k' o2 m2 k2,p.k = .cons o m k (.cons o' m' k' (.cons o2 m2 k2 .nil)) /\ St T L ⟨o,m,k⟩ /\ St T L ⟨o',m',k'⟩ /\ St T L ⟨o2,m2,k2⟩ /\ k.size + k'.size + k2.size + 3 = p.k.size := by
 have ha := h.all.2
 have hd := h.dep
 have hs := h.size
 have hl := h.lv
 cases ek : p.k with
 | nil => rw [ek] at h2; simp [Fo.len] at h2
 | cons o m k r =>
  cases er : r with
  | nil => rw [ek,er] at h2; simp [Fo.len] at h2
  | cons o' m' k' r' =>
   cases e3 : r' with
   | nil => rw [ek,er,e3] at h2; simp [Fo.len] at h2
   | cons o2 m2 k2 r2 =>
    cases e4 : r2 with
    | cons _ _ _ _ => rw [ek,er,e3,e4] at h2; simp [Fo.len] at h2
    | nil =>
     rw [ek,er,e3,e4] at ha hd hs
     simp only [Fo.dep,Fo.size] at hd hs
     obtain ⟨a1,a2,b1,b2,c1,c2,_⟩ := ha
     exact ⟨o,m,k,o',m',k',o2,m2,k2,rfl,⟨⟨a1,a2⟩,by dsimp only; omega,hl,by dsimp only; omega⟩,⟨⟨b1,b2⟩,by dsimp only; omega,hl,by dsimp only; omega⟩,⟨⟨c1,c2⟩,by dsimp only; omega,hl,by dsimp only; omega⟩,by simp only [Fo.size]; omega⟩
theorem kids_three {l : Nat} (h : kidsOk 6 l = true) : l = 3 := by simpa [kidsOk] using h
theorem num_own {n : Int} {l : Nat} (h : formT 1 n l) : 0 <= n /\ n <= 99 := by
 have := h.2
 unfold ownOk at this
 simpa using this
def foldV (op a b : Int) : Int := if op = 4 then (a + b) % 100 else if a < b then 1 else 0
theorem foldV_ok {op a b : Int} (ha : 0 <= a) (hb : 0 <= b) : 0 <= foldV op a b /\ foldV op a b <= 99 := by
 unfold foldV
 split
 ·omega
 ·split <;> omega
def gFold (_ : Nat) (p : Nd) : Nd :=
 if (p.op = 4 ∨ p.op = 5) /\ (kid1 p.k).op = 1 /\ (kid2 p.k).op = 1 then ⟨1,foldV p.op (kid1 p.k).n (kid2 p.k).n,.nil⟩
 else if p.op = 6 /\ (kid1 p.k).op = 1 then (if (kid1 p.k).n ≠ 0 then kid2 p.k else kid3 p.k)
 else if p.op = 8 /\ atomB (kid1 p.k).op (kid1 p.k).k = true then kid2 p.k else p
theorem gFold_num {L : Nat} {p : Nd} (h : p.op = 4 ∨ p.op = 5) (h1 : (kid1 p.k).op = 1) (h2 : (kid2 p.k).op = 1) : gFold L p = ⟨1,foldV p.op (kid1 p.k).n (kid2 p.k).n,.nil⟩ := by
 unfold gFold; rw [if_pos ⟨h,h1,h2⟩]
theorem gFold_arith {L : Nat} {p : Nd} (h : p.op = 4 ∨ p.op = 5) (h1 : ¬ ((kid1 p.k).op = 1 /\ (kid2 p.k).op = 1)) : gFold L p = p := by
 unfold gFold; rw [if_neg (fun h2 => h1 h2.2),if_neg (by omega),if_neg (by omega)]
theorem gFold_if {L : Nat} {p : Nd} (h : p.op = 6) : gFold L p = if (kid1 p.k).op = 1 then (if (kid1 p.k).n ≠ 0 then kid2 p.k else kid3 p.k) else p := by
 unfold gFold
 rw [if_neg (by omega)]
 by_cases h1 : (kid1 p.k).op = 1
 ·rw [if_pos ⟨h,h1⟩,if_pos h1]
 ·rw [if_neg (fun h2 => h1 h2.2),if_neg (by omega),if_neg h1]
theorem gFold_seq {L : Nat} {p : Nd} (h : p.op = 8) : gFold L p = if atomB (kid1 p.k).op (kid1 p.k).k = true then kid2 p.k else p := by
 unfold gFold
 rw [if_neg (by omega),if_neg (by omega)]
 by_cases h1 : atomB (kid1 p.k).op (kid1 p.k).k = true
 ·rw [if_pos ⟨h,h1⟩,if_pos h1]
 ·rw [if_neg (fun h2 => h1 h2.2),if_neg h1]
theorem gFold_other {L : Nat} {p : Nd} (h4 : p.op ≠ 4) (h5 : p.op ≠ 5) (h6 : p.op ≠ 6) (h8 : p.op ≠ 8) : gFold L p = p := by
 unfold gFold
 rw [if_neg (by omega),if_neg (by omega),if_neg (by omega)]
theorem keeps_fold {T : Int -> Int -> Nat -> Prop} (hT : LocalT T) (hF : ∀ {op n : Int} {l : Nat},T op n l -> formT op n l) (hN : ∀ v : Int,0 <= v -> v <= 99 -> T 1 v 0) : KeepsSt T gFold := by
 intro L p h
 by_cases h45 : p.op = 4 ∨ p.op = 5
 ·by_cases hn : (kid1 p.k).op = 1 /\ (kid2 p.k).op = 1
  ·rw [gFold_num h45 hn.1 hn.2]
   obtain ⟨o,m,k,o',m',k',ek,ha,hb,hs⟩ := two_kids h (kids_two (hT.kids h.all.1) (by omega))
   rw [ek] at hn ⊢
   simp only [kid1,kid2] at hn ⊢
   obtain ⟨rfl,rfl⟩ := hn
   have hv := foldV_ok (op := p.op) (num_own (hF ha.all.1)).1 (num_own (hF hb.all.1)).1
   have h1 := h.dep
   rw [ek] at h1 hs
   simp only [Fo.dep] at h1
   exact ⟨⟨⟨hN _ hv.1 hv.2,trivial⟩,by simp only [Fo.dep]; omega,h.lv,by simp [Fo.size]⟩,by simp [Fo.size]⟩
  ·rw [gFold_arith h45 hn]; exact ⟨h,Nat.le_refl _⟩
 ·by_cases h6 : p.op = 6
  ·rw [gFold_if h6]
   have hk := hT.kids h.all.1
   rw [h6] at hk
   obtain ⟨o,m,k,o',m',k',o2,m2,k2,ek,ha,hb,hc,hs⟩ := three_kids h (kids_three hk)
   split
   ·split
    ·rw [ek] at hs ⊢; simp only [kid2,kid1,Fo.size] at hs ⊢; exact ⟨hb,by omega⟩
    ·rw [ek] at hs ⊢; simp only [kid3,Fo.size] at hs ⊢; exact ⟨hc,by omega⟩
   ·exact ⟨h,Nat.le_refl _⟩
  ·by_cases h8 : p.op = 8
   ·rw [gFold_seq h8]
    obtain ⟨o,m,k,o',m',k',ek,ha,hb,hs⟩ := two_kids h (kids_two (hT.kids h.all.1) (by omega))
    split
    ·rw [ek] at hs ⊢; simp only [kid2,kid1,Fo.size] at hs ⊢; exact ⟨hb,by omega⟩
    ·exact ⟨h,Nat.le_refl _⟩
   ·rw [gFold_other (by omega) (by omega) h6 h8]; exact ⟨h,Nat.le_refl _⟩
end Go.Proofs.YtmnhoeliofojnaaGreatDoor
