import Derived.Test.YtmnhoeliofojnaaGreatDoorShape
import Derived.Test.YtmnhoeliofojnaaGreatDoorCntVar
import Derived.Test.YtmnhoeliofojnaaGreatDoorTree
import Derived.Test.YtmnhoeliofojnaaGreatDoorSameD
import Derived.Test.YtmnhoeliofojnaaGreatDoorFresh
namespace Go.Proofs.YtmnhoeliofojnaaGreatDoor
open Go.RowKit
open Go.Lib (hid)
set_option maxRecDepth 100000
set_option maxRecDepth 100000
def updN (nu : Nat -> Int) (v : Nat) (x : Int) : Nat -> Int := fun i => if i = v then x else nu i
def nameOk (op n : Int) (l : Nat) : Bool := (!(decide (op = 2) || decide (op = 7)) || inVar n) && (!decide (op = 2) || decide (l = 0))
theorem nameOk_var {n : Int} {op : Int} {l : Nat} (h : nameOk op n l = true) (h2 : op = 2 ∨ op = 7) : inVar n = true := by
 unfold nameOk at h
 simp only [Bool.and_eq_true] at h
 rcases h2 with rfl | rfl <;> simpa using h.1
theorem nameOk_nil {n : Int} {op : Int} {l : Nat} (h : nameOk op n l = true) (h2 : op = 2) : l = 0 := by
 unfold nameOk at h
 simp only [Bool.and_eq_true] at h
 subst h2
 simpa using h.2
def namesOkF : Fo -> Bool
 | .nil => true
 | .cons op n k r => (nameOk op n k.len && namesOkF k) && namesOkF r
theorem nameOk_own {op n : Int} {S : Nat -> Bool} {l : Nat} (hk : kidsOk op l = true) (h : ownOk op n S = true) : nameOk op n l = true := by
 unfold nameOk
 by_cases h2 : op = 2
 ·subst h2
  have h3 : inVar n = true := by
   have h' : (inVar n && S n.toNat) = true := by simpa [ownOk] using h
   simp only [Bool.and_eq_true] at h'
   exact h'.1
  have h4 : l = 0 := by simpa [kidsOk] using hk
  simp [h3,h4]
 ·by_cases h7 : op = 7
  ·subst h7
   have : inVar n = true := by simpa [ownOk] using h
   simp [this]
  ·simp [h2,h7]
set_option maxRecDepth 100000
def numR : List Int -> Nat -> Int
 | [],v => v
 | x :: L,v => if x = (v : Int) then 8 + (L.length : Int) else numR L v
def letOk (op : Int) (l : Nat) : Bool := !decide (op = 7) || decide (l = 2)
def letsOkF : Fo -> Bool
 | .nil => true
 | .cons op _ k r => (letOk op k.len && letsOkF k) && letsOkF r
theorem letOk_kids {op : Int} {l : Nat} (hk : kidsOk op l = true) : letOk op l = true := by
 unfold letOk
 by_cases h7 : op = 7
 ·subst h7
  have : l = 2 := by simpa [kidsOk] using hk
  simp [this]
 ·simp [h7]
theorem letOk_two {op : Int} {l : Nat} (h : letOk op l = true) (h7 : op = 7) : l = 2 := by
 subst h7
 simpa [letOk] using h
def bound (op n : Int) (i : Nat) (L : List Int) : List Int := if op = 7 /\ i = 1 then n :: L else L
def NumOf (L : List Int) (nu : Nat -> Int) (nx : Int) : Prop := nx = 8 + (L.length : Int) /\ ∀ v,v < 8 -> nu v = numR L v
theorem NumOf.bind {L : List Int} {nu : Nat -> Int} {nx n : Int} (h : NumOf L nu nx) (hn : inVar n = true) : NumOf (n :: L) (updN nu n.toNat nx) (nx + 1) := by
 obtain ⟨h1,h2⟩ := h
 obtain ⟨n0,n8⟩ := inVar_true hn
 refine ⟨by rw [List.length_cons]; omega,fun v hv => ?_⟩
 unfold updN numR
 by_cases e : v = n.toNat
 ·rw [if_pos e,if_pos (by omega)]
  exact h1
 ·rw [if_neg e,if_neg (by omega)]
  exact h2 v hv
theorem NumOf.inner {op n : Int} {l i : Nat} {L : List Int} {nu : Nat -> Int} {nx : Int} (h : NumOf L nu nx) (hn : nameOk op n l = true) :
  NumOf (bound op n i L) (if binds op (i : Int) = true then updN nu n.toNat nx else nu) (if binds op (i : Int) = true then nx + 1 else nx) := by
 unfold bound
 by_cases hb : op = 7 /\ i = 1
 ·have e : binds op (i : Int) = true := by unfold binds; simp [hb.1,hb.2]
  rw [if_pos hb,if_pos e,if_pos e]
  exact h.bind (nameOk_var hn (.inr hb.1))
 ·have e : ¬ binds op (i : Int) = true := by
   unfold binds
   simp
   intro h7 h1
   exact hb ⟨h7,by omega⟩
  rw [if_neg hb,if_neg e,if_neg e]
  exact h
theorem fo_nil {k : Fo} (h : k.len = 0) : k = .nil := by
 cases k with
 | nil => rfl
 | cons _ _ _ _ => simp [Fo.len] at h
set_option maxRecDepth 100000
def kid1 : Fo -> Nd
 | .cons o m k _ => ⟨o,m,k⟩
 | .nil => ⟨0,0,.nil⟩
def kid2 : Fo -> Nd
 | .cons _ _ _ r => kid1 r
 | .nil => ⟨0,0,.nil⟩
def pair (a b : Nd) : Fo := .cons a.op a.n a.k (.cons b.op b.n b.k .nil)
def cntP (v : Int) (p : Nd) : Nat := cntN v p.op p.n p.k
def freeP (x : Nd) : List Int := freeUpto x.op x.n x.k 8
def varsP (p : Nd) : List Int := numsUpto (hasB ownVL p) 8
def reach (p : Nd) (v : Int) : Bool := !decide (p.n = v) && !decide (cntP v (kid2 p.k) = 0)
def capt (p : Nd) (v : Int) (x : Nd) : Bool := reach p v && decide (p.n ∈ freeP x)
def newOf (p : Nd) (v : Int) (x : Nd) : Option Nat := freshV (freeP x ++ varsP (kid2 p.k) ++ [v])
def kidsP (g : Nd -> Option Nd) (s : Bool) : Nat -> Fo -> Option Fo
 | _,.nil => some .nil
 | i,.cons o m k r => match (if s = true /\ i = 1 then some ⟨o,m,k⟩ else g ⟨o,m,k⟩) with
  | none => none
  | some a => match kidsP g s (i + 1) r with
   | none => none
   | some t => some (.cons a.op a.n a.k t)
def stays (p : Nd) (v : Int) : Bool := decide (p.op = 7) && !reach p v
def putN : Nat -> Nd -> Int -> Nd -> Option Nd
 | 0,_,_,_ => none
 | f + 1,p,v,x =>
  if p.op = 2 /\ p.n = v then some x
  else if p.op = 7 /\ capt p v x = true then
   match newOf p v x with
   | none => none
   | some w => match putN f (kid2 p.k) p.n ⟨2,w,.nil⟩ with
    | none => none
    | some b => match kidsP (fun y => putN f y v x) false 0 (pair (kid1 p.k) b) with
     | none => none
     | some t => some ⟨7,w,t⟩
  else match kidsP (fun y => putN f y v x) (stays p v) 0 p.k with
   | none => none
   | some t => some ⟨p.op,p.n,t⟩
theorem putN_succ (f : Nat) (p : Nd) (v : Int) (x : Nd) : putN (f + 1) p v x = (if p.op = 2 /\ p.n = v then some x
  else if p.op = 7 /\ capt p v x = true then
   match newOf p v x with
   | none => none
   | some w => match putN f (kid2 p.k) p.n ⟨2,w,.nil⟩ with
    | none => none
    | some b => match kidsP (fun y => putN f y v x) false 0 (pair (kid1 p.k) b) with
     | none => none
     | some t => some ⟨7,w,t⟩
  else match kidsP (fun y => putN f y v x) (stays p v) 0 p.k with
   | none => none
   | some t => some ⟨p.op,p.n,t⟩) := rfl
theorem putN_capt {f : Nat} {p : Nd} {v : Int} {x : Nd} (h7 : p.op = 7) (hc : capt p v x = true) : putN (f + 1) p v x = (match newOf p v x with
   | none => none
   | some w => match putN f (kid2 p.k) p.n ⟨2,w,.nil⟩ with
    | none => none
    | some b => match kidsP (fun y => putN f y v x) false 0 (pair (kid1 p.k) b) with
     | none => none
     | some t => some ⟨7,w,t⟩) := by
 rw [putN_succ,if_neg (by intro h; have := h7.symm.trans h.1; omega),if_pos ⟨h7,hc⟩]
theorem putN_var {f : Nat} {p : Nd} {v : Int} {x : Nd} (h : p.op = 2 /\ p.n = v) : putN (f + 1) p v x = some x := by rw [putN_succ,if_pos h]
theorem putN_other {f : Nat} {p : Nd} {v : Int} {x : Nd} (h : ¬ (p.op = 2 /\ p.n = v)) (hc : (decide (p.op = 7) && capt p v x) = false) : putN (f + 1) p v x = (match kidsP (fun y => putN f y v x) (stays p v) 0 p.k with
   | none => none
   | some t => some ⟨p.op,p.n,t⟩) := by
 rw [putN_succ,if_neg h,if_neg (by intro h2; rw [h2.2,Bool.and_true] at hc; exact absurd h2.1 (of_decide_eq_false hc))]
theorem kidsP_cons {g : Nd -> Option Nd} {s : Bool} {i : Nat} {o m : Int} {k r : Fo} : kidsP g s i (.cons o m k r) = (match (if s = true /\ i = 1 then some ⟨o,m,k⟩ else g ⟨o,m,k⟩) with
  | none => none
  | some a => match kidsP g s (i + 1) r with
   | none => none
   | some t => some (.cons a.op a.n a.k t)) := rfl
theorem kidsP_some {g : Nd -> Option Nd} {s : Bool} {i : Nat} {o m : Int} {k r t : Fo} (h : kidsP g s i (.cons o m k r) = some t) :
  ∃ a t',(if s = true /\ i = 1 then some ⟨o,m,k⟩ else g ⟨o,m,k⟩) = some a /\ kidsP g s (i + 1) r = some t' /\ t = .cons a.op a.n a.k t' := by
 rw [kidsP_cons] at h
 cases e1 : (if s = true /\ i = 1 then some (⟨o,m,k⟩ : Nd) else g ⟨o,m,k⟩) with
 | none => rw [e1] at h; cases h
 | some a =>
  rw [e1] at h
  cases e2 : kidsP g s (i + 1) r with
  | none => rw [e2] at h; cases h
  | some t' => rw [e2] at h; cases h; exact ⟨a,t',rfl,rfl,rfl⟩
theorem kidsP_some2 {g : Nd -> Option Nd} {s : Bool} {i : Nat} {o m : Int} {k r : Fo} {a : Nd} {t : Fo} (h1 : (if s = true /\ i = 1 then some ⟨o,m,k⟩ else g ⟨o,m,k⟩) = some a) (h2 : kidsP g s (i + 1) r = some t) :
  kidsP g s i (.cons o m k r) = some (.cons a.op a.n a.k t) := by
 rw [kidsP_cons,h1,h2]
def FitF (k : Fo) : Prop := namesOkF k = true /\ letsOkF k = true
def FitN (p : Nd) : Prop := (nameOk p.op p.n p.k.len = true /\ letOk p.op p.k.len = true) /\ FitF p.k
theorem FitF.nil : FitF .nil := ⟨rfl,rfl⟩
theorem fitP_cons {o m : Int} {k r : Fo} : FitF (.cons o m k r) ↔ FitN ⟨o,m,k⟩ /\ FitF r := by
 unfold FitN FitF
 simp only [namesOkF,letsOkF,Bool.and_eq_true]
 constructor
 ·rintro ⟨⟨⟨h1,h2⟩,h3⟩,⟨h4,h5⟩,h6⟩; exact ⟨⟨⟨h1,h4⟩,h2,h5⟩,h3,h6⟩
 ·rintro ⟨⟨⟨h1,h4⟩,h2,h5⟩,h3,h6⟩; exact ⟨⟨⟨h1,h2⟩,h3⟩,⟨h4,h5⟩,h6⟩
theorem FitN.two {p : Nd} (h : FitN p) (h7 : p.op = 7) : ∃ o m k o' m' k',p.k = .cons o m k (.cons o' m' k' .nil) := by
 have h2 := letOk_two h.1.2 h7
 cases e : p.k with
 | nil => rw [e] at h2; simp [Fo.len] at h2
 | cons o m k r =>
  cases e2 : r with
  | nil => rw [e,e2] at h2; simp [Fo.len] at h2
  | cons o' m' k' r' =>
   cases e3 : r' with
   | nil => exact ⟨o,m,k,o',m',k',rfl⟩
   | cons _ _ _ _ => rw [e,e2,e3] at h2; simp [Fo.len] at h2
theorem FitN.var {p : Nd} (h : FitN p) (h2 : p.op = 2) : p.k = .nil := fo_nil (nameOk_nil h.1.1 h2)
theorem FitN.name {p : Nd} (h : FitN p) (h7 : p.op = 7) : inVar p.n = true := nameOk_var h.1.1 (.inr h7)
theorem freeP_leaf {w : Nat} {m : Int} (h : m ∈ freeP ⟨2,w,.nil⟩) : m = (w : Int) := by
 unfold freeP at h
 have : ∀ j,m ∈ freeUpto 2 (w : Int) .nil j -> m = (w : Int) := by
  intro j
  induction j with
  | zero => intro h; simp [freeUpto] at h
  | succ j ih =>
   intro h
   rcases List.mem_append.1 h with h | h
   ·exact ih h
   ·split at h
    ·simp at h
    ·rename_i hc
     rw [List.mem_singleton.1 h]
     unfold cntN ownVar cntL at hc
     simp at hc
     exact hc.symm
 exact this 8 h
structure RenP (n : Int) (w : Nat) (p b : Nd) : Prop where
 op : b.op = p.op
 len : b.k.len = p.k.len
 size : b.k.size = p.k.size
 dep : b.k.dep = p.k.dep
 fit : FitN b
 cnt : ∀ u : Int,u ≠ n -> u ≠ (w : Int) -> cntP u b = cntP u p
structure RenF (n : Int) (w : Nat) (i : Nat) (k t : Fo) : Prop where
 len : t.len = k.len
 size : t.size = k.size
 dep : t.dep = k.dep
 fit : FitF t
 cnt : ∀ u : Int,u ≠ n -> u ≠ (w : Int) -> ∀ s,cntL u s i t = cntL u s i k
theorem kidsP_ren {g : Nd -> Option Nd} {s : Bool} {n : Int} {w : Nat} (hg : ∀ y b,FitN y -> hasB ownVL y w = false -> g y = some b -> RenP n w y b) : ∀ (k : Fo) (i : Nat) (t : Fo),FitF k -> hasF ownVL k w = false -> kidsP g s i k = some t -> RenF n w i k t
 | .nil,_,_,_,_,h => by cases h; exact ⟨rfl,rfl,rfl,FitF.nil,fun _ _ _ _ => rfl⟩
 | .cons o m k r,i,t,hf,hh,h => by
  obtain ⟨a,t',h1,h2,rfl⟩ := kidsP_some h
  rw [fitP_cons] at hf
  rw [hasF_cons rfl,Bool.or_eq_false_iff] at hh
  have hr := kidsP_ren hg r (i + 1) t' hf.2 hh.2 h2
  have ha : RenP n w ⟨o,m,k⟩ a := by
   split at h1
   ·cases h1; exact ⟨rfl,rfl,rfl,rfl,hf.1,fun _ _ _ => rfl⟩
   ·exact hg _ _ hf.1 hh.1 h1
  have e1 := ha.len; have e2 := ha.size; have e3 := ha.dep
  dsimp only at e1 e2 e3
  refine ⟨?_, ?_, ?_,fitP_cons.2 ⟨ha.fit,hr.fit⟩,fun u hu hw s' => ?_⟩
  ·simp only [Fo.len,hr.len]
  ·simp only [Fo.size,hr.size,e2]
  ·simp only [Fo.dep,hr.dep,e3]
  ·rw [cntL_cons rfl,cntL_cons rfl,hr.cnt u hu hw s']
   have := ha.cnt u hu hw
   unfold cntP at this
   rw [this]
theorem putN_ren {n : Int} {w : Nat} (hw8 : w < 8) : ∀ (f : Nat) (p b : Nd),FitN p -> hasB ownVL p w = false -> putN f p n ⟨2,w,.nil⟩ = some b -> RenP n w p b
 | 0,_,_,_,_,h => by cases h
 | f + 1,p,b,hf,hh,h => by
  have hin : inVar (w : Int) = true := by unfold inVar; simp; omega
  unfold putN at h
  split at h
  ·rename_i hv
   cases h
   have hk := hf.var hv.1
   refine ⟨hv.1.symm,by rw [hk],by rw [hk],by rw [hk],⟨⟨by simp [nameOk,hin,Fo.len],rfl⟩,FitF.nil⟩,fun u hu hw => ?_⟩
   have h1 : ¬ (w : Int) = u := fun e => hw e.symm
   have h2 : ¬ p.n = u := fun e => hu (e.symm.trans hv.2)
   unfold cntP cntN ownVar
   rw [hk,hv.1]
   simp [h1,h2,cntL]
  ·split at h
   ·rename_i hv hc
    have h3 := hc.2
    unfold capt at h3
    simp only [Bool.and_eq_true,decide_eq_true_iff] at h3
    have h4 := freeP_leaf h3.2
    exfalso
    unfold hasB at hh
    rw [Bool.or_eq_false_iff] at hh
    have h5 := hh.1
    unfold ownVL at h5
    simp [hc.1,h4] at h5
   ·cases e : kidsP (fun y => putN f y n ⟨2,w,.nil⟩) (stays p n) 0 p.k with
    | none => rw [e] at h; cases h
    | some t =>
     rw [e] at h
     cases h
     unfold hasB at hh
     rw [Bool.or_eq_false_iff] at hh
     have hr := kidsP_ren (n := n) (w := w) (fun y b hy hb he => putN_ren hw8 f y b hy hb he) p.k 0 t hf.2 hh.2 e
     refine ⟨rfl,hr.len,hr.size,hr.dep,⟨⟨by rw [hr.len]; exact hf.1.1,by rw [hr.len]; exact hf.1.2⟩,hr.fit⟩,fun u hu hw => ?_⟩
     unfold cntP cntN
     dsimp only
     rw [hr.cnt u hu hw]
theorem kidsP_is {g : Nd -> Option Nd} {s : Bool} {w f : Nat} (hg : ∀ y,FitN y -> hasB ownVL y w = false -> y.k.size < f -> (g y).isSome = true) : ∀ (k : Fo) (i : Nat),FitF k -> hasF ownVL k w = false -> k.size <= f -> (kidsP g s i k).isSome = true
 | .nil,_,_,_,_ => rfl
 | .cons o m k r,i,hf,hh,hs => by
  rw [fitP_cons] at hf
  rw [hasF_cons rfl,Bool.or_eq_false_iff] at hh
  simp only [Fo.size] at hs
  have hr := kidsP_is (s := s) hg r (i + 1) hf.2 hh.2 (by omega)
  obtain ⟨t,ht⟩ := Option.isSome_iff_exists.1 hr
  have ha : ∃ a,(if s = true /\ i = 1 then some (⟨o,m,k⟩ : Nd) else g ⟨o,m,k⟩) = some a := by
   split
   ·exact ⟨_,rfl⟩
   ·exact Option.isSome_iff_exists.1 (hg ⟨o,m,k⟩ hf.1 hh.1 (by dsimp only; omega))
  obtain ⟨a,ha⟩ := ha
  rw [kidsP_some2 ha ht]; rfl
theorem putN_is {n : Int} {w : Nat} : ∀ (f : Nat) (p : Nd),FitN p -> hasB ownVL p w = false -> p.k.size < f -> (putN f p n ⟨2,w,.nil⟩).isSome = true
 | 0,_,_,_,h => by omega
 | f + 1,p,hf,hh,hs => by
  unfold putN
  split
  ·rfl
  ·split
   ·rename_i hv hc
    have h3 := hc.2
    unfold capt at h3
    simp only [Bool.and_eq_true,decide_eq_true_iff] at h3
    have h4 := freeP_leaf h3.2
    exfalso
    unfold hasB at hh
    rw [Bool.or_eq_false_iff] at hh
    have h5 := hh.1
    unfold ownVL at h5
    simp [hc.1,h4] at h5
   ·unfold hasB at hh
    rw [Bool.or_eq_false_iff] at hh
    have := kidsP_is (s := stays p n) (fun y h1 h2 h3 => putN_is (n := n) f y h1 h2 h3) p.k 0 hf.2 hh.2 (by omega)
    obtain ⟨t,ht⟩ := Option.isSome_iff_exists.1 this
    rw [ht]; rfl
theorem numsUpto_at {S : Nat -> Bool} {v : Nat} : ∀ {j : Nat},(v : Int) ∈ numsUpto S j ↔ v < j /\ S v = true
 | 0 => by simp [numsUpto]
 | j + 1 => by
  unfold numsUpto
  rw [List.mem_append,numsUpto_at]
  constructor
  ·rintro (⟨h1,h2⟩ | h)
   ·exact ⟨by omega,h2⟩
   ·split at h
    ·rename_i hs
     have := List.mem_singleton.1 h
     have e : v = j := by omega
     subst e
     exact ⟨by omega,hs⟩
    ·simp at h
  ·rintro ⟨h1,h2⟩
   by_cases e : v = j
   ·subst e; right; rw [if_pos h2]; simp
   ·left; exact ⟨by omega,h2⟩
theorem freeUpto_mem {op n : Int} {k : Fo} {v : Nat} : ∀ {j : Nat},(v : Int) ∈ freeUpto op n k j ↔ v < j /\ cntN (v : Int) op n k ≠ 0
 | 0 => by simp [freeUpto]
 | j + 1 => by
  unfold freeUpto
  rw [List.mem_append,freeUpto_mem]
  constructor
  ·rintro (⟨h1,h2⟩ | h)
   ·exact ⟨by omega,h2⟩
   ·split at h
    ·simp at h
    ·rename_i hs
     have := List.mem_singleton.1 h
     have e : v = j := by omega
     subst e
     exact ⟨by omega,hs⟩
  ·rintro ⟨h1,h2⟩
   by_cases e : v = j
   ·subst e; right; rw [if_neg h2]; simp
   ·left; exact ⟨by omega,h2⟩
theorem freeP_mem {x : Nd} {m : Int} (h : inVar m = true) : m ∈ freeP x ↔ cntP m x ≠ 0 := by
 obtain ⟨v,hv,rfl⟩ : ∃ v : Nat,v < 8 /\ m = (v : Int) := ⟨m.toNat,by unfold inVar at h; simp at h; omega,by unfold inVar at h; simp at h; omega⟩
 unfold freeP cntP
 rw [freeUpto_mem]
 constructor
 ·exact fun h => h.2
 ·exact fun h => ⟨hv,h⟩
theorem newOf_new {p x : Nd} {v : Int} {w : Nat} (h : newOf p v x = some w) : w < 8 /\ ¬ ((w : Int) ∈ freeP x) /\ hasB ownVL (kid2 p.k) w = false /\ (w : Int) ≠ v := by
 obtain ⟨h1,h2⟩ := freshV_lt h
 simp only [List.mem_append,List.mem_singleton,not_or] at h2
 refine ⟨h1,h2.1.1, ?_,h2.2⟩
 have h3 := h2.1.2
 unfold varsP at h3
 rw [numsUpto_at] at h3
 cases e : hasB ownVL (kid2 p.k) w with
 | false => rfl
 | true => exact absurd ⟨h1,e⟩ h3
theorem kidsP_size {g : Nd -> Option Nd} {v : Int} {X : Nat} (hg : ∀ y b,FitN y -> g y = some b -> b.k.size = y.k.size + cntP v y * X) : ∀ (k : Fo) (i : Nat) (t : Fo),FitF k -> kidsP g false i k = some t -> t.size = k.size + cntL v false i k * X
 | .nil,_,_,_,h => by cases h; simp [Fo.size,cntL]
 | .cons o m k r,i,t,hf,h => by
  obtain ⟨a,t',h1,h2,rfl⟩ := kidsP_some h
  rw [fitP_cons] at hf
  have hr := kidsP_size hg r (i + 1) t' hf.2 h2
  have ha := hg _ _ hf.1 (by simpa using h1)
  dsimp only at ha
  rw [cntL_cons rfl]
  simp only [Fo.size,hr,ha,Bool.false_eq_true,false_and,if_false]
  unfold cntP
  dsimp only
  rw [Nat.add_mul]
  omega
theorem putN_size {v : Int} {x : Nd} : ∀ (f : Nat) (p b : Nd),FitN p -> putN f p v x = some b -> b.k.size = p.k.size + cntP v p * x.k.size
 | 0,_,_,_,h => by cases h
 | f + 1,p,b,hf,h => by
  unfold putN at h
  split at h
  ·rename_i hv
   cases h
   rw [hf.var hv.1]
   unfold cntP cntN ownVar
   rw [if_pos hv,hf.var hv.1]
   simp [Fo.size,cntL]
  ·rename_i hv
   split at h
   ·rename_i hc
    have h3 := hc.2
    unfold capt reach at h3
    simp only [Bool.and_eq_true,Bool.not_eq_true',decide_eq_false_iff_not,decide_eq_true_iff] at h3
    obtain ⟨⟨h31,h32⟩,h33⟩ := h3
    cases e : newOf p v x with
    | none => rw [e] at h; cases h
    | some w =>
     rw [e] at h
     dsimp only at h
     obtain ⟨w8,n1,n2,n3⟩ := newOf_new e
     cases e2 : putN f (kid2 p.k) p.n ⟨2,w,.nil⟩ with
     | none => rw [e2] at h; cases h
     | some q =>
      rw [e2] at h
      dsimp only at h
      obtain ⟨o,m,k,o',m',k',ek⟩ := hf.two hc.1
      have hff := hf.2
      rw [ek,fitP_cons,fitP_cons] at hff
      have hq := putN_ren w8 f (kid2 p.k) q (by rw [ek]; exact hff.2.1) n2 e2
      have e3' : ∃ t,kidsP (fun y => putN f y v x) false 0 (pair (kid1 p.k) q) = some t /\ b = ⟨7,w,t⟩ := by
       cases e3 : kidsP (fun y => putN f y v x) false 0 (pair (kid1 p.k) q) with
       | none => rw [e3] at h; cases h
       | some t => rw [e3] at h; cases h; exact ⟨t,rfl,rfl⟩
      obtain ⟨t,e3,rfl⟩ := e3'
      have hs := kidsP_size (v := v) (X := x.k.size) (fun y b hy he => putN_size f y b hy he) _ 0 t (by
       unfold pair
       rw [fitP_cons,fitP_cons,ek]
       exact ⟨hff.1,hq.fit,FitF.nil⟩) e3
      dsimp only
      rw [hs]
      have c1 := hq.cnt v (fun e => h31 e.symm) n3.symm
      have c2 := hq.size
      rw [ek] at c1 c2 ⊢
      simp only [pair,kid1,kid2,Fo.size] at c2 ⊢
      have c3 : cntP v p = cntN v o m k + cntN v o' m' k' := by
       unfold cntP cntN
       rw [ek]
       have : decide (p.op = 7 /\ p.n = v) = false := by simp [h31]
       rw [this,cntL_cons rfl,cntL_cons rfl]
       unfold ownVar cntN cntL
       simp [hc.1,h31,ownVar]
      rw [c3,c2,cntL_cons rfl,cntL_cons rfl]
      unfold cntP kid2 kid1 at c1
      simp only at c1
      simp only [Bool.false_eq_true,false_and,if_false,c1,cntL,Nat.add_zero]
   ·rename_i hc
    have e3' : ∃ t,kidsP (fun y => putN f y v x) (stays p v) 0 p.k = some t /\ b = ⟨p.op,p.n,t⟩ := by
     cases e3 : kidsP (fun y => putN f y v x) (stays p v) 0 p.k with
     | none => rw [e3] at h; cases h
     | some t => rw [e3] at h; cases h; exact ⟨t,rfl,rfl⟩
    obtain ⟨t,e3,rfl⟩ := e3'
    dsimp only
    by_cases h7 : p.op = 7
    ·obtain ⟨o,m,k,o',m',k',ek⟩ := hf.two h7
     have hff := hf.2
     rw [ek,fitP_cons,fitP_cons] at hff
     rw [ek] at e3
     obtain ⟨a1,t1,g1,g2,rfl⟩ := kidsP_some e3
     obtain ⟨a2,t2,g3,g4,rfl⟩ := kidsP_some g2
     cases g4
     have s1 := putN_size f ⟨o,m,k⟩ a1 hff.1 (by simpa using g1)
     have hown : ownVar v p.op p.n = 0 := by unfold ownVar; rw [if_neg hv]
     have c3 : cntP v p = cntN v o m k + (if p.n = v then 0 else cntN v o' m' k') := by
      unfold cntP
      rw [show cntN v p.op p.n p.k = ownVar v p.op p.n + cntL v (decide (p.op = 7 /\ p.n = v)) 0 p.k from rfl,hown,ek,cntL_cons rfl,cntL_cons rfl]
      simp [h7,cntL]
     rw [ek,c3]
     simp only [Fo.size]
     cases hst : stays p v with
     | true =>
      rw [hst] at g3
      have g3' : a2 = ⟨o',m',k'⟩ := by simpa using g3.symm
      subst g3'
      unfold stays reach at hst
      simp only [h7,ek,kid2,kid1,decide_true,Bool.true_and,Bool.not_and,Bool.not_not,Bool.or_eq_true,decide_eq_true_iff] at hst
      have hz : (if p.n = v then 0 else cntN v o' m' k') = 0 := by
       rcases hst with e | e
       ·rw [if_pos e]
       ·split
        ·rfl
        ·exact e
      rw [hz,Nat.add_zero]
      dsimp only at s1 ⊢
      unfold cntP at s1
      dsimp only at s1
      rw [s1]
      simp only [Nat.add_zero]
      omega
     | false =>
      rw [hst] at g3
      have s2 := putN_size f ⟨o',m',k'⟩ a2 hff.2.1 (by simpa using g3)
      unfold stays reach at hst
      have hnv : ¬ p.n = v := fun e => by simp [h7,e] at hst
      rw [if_neg hnv,Nat.add_mul]
      dsimp only at s1 s2 ⊢
      unfold cntP at s1 s2
      dsimp only at s1 s2
      omega
    ·have hst : stays p v = false := by unfold stays; simp [h7]
     rw [hst] at e3
     have hs := kidsP_size (v := v) (X := x.k.size) (fun y b hy he => putN_size f y b hy he) _ 0 t hf.2 e3
     rw [hs]
     have hown : ownVar v p.op p.n = 0 := by unfold ownVar; rw [if_neg hv]
     unfold cntP
     rw [show cntN v p.op p.n p.k = ownVar v p.op p.n + cntL v (decide (p.op = 7 /\ p.n = v)) 0 p.k from rfl,hown]
     simp [h7]
theorem putN_i64 {v : Int} {x : Nd} : ∀ {f : Nat} {p b : Nd},(I64 p.op /\ I64 p.n) -> (I64 x.op /\ I64 x.n) -> putN f p v x = some b -> I64 b.op /\ I64 b.n
 | 0,_,_,_,_,h => by cases h
 | f + 1,p,b,hp,hx,h => by
  unfold putN at h
  split at h
  ·cases h; exact hx
  ·split at h
   ·cases e : newOf p v x with
    | none => rw [e] at h; cases h
    | some w =>
     rw [e] at h
     dsimp only at h
     have w8 := (newOf_new e).1
     cases e2 : putN f (kid2 p.k) p.n ⟨2,w,.nil⟩ with
     | none => rw [e2] at h; cases h
     | some q =>
      rw [e2] at h
      dsimp only at h
      split at h
      ·cases h
      ·cases h
       unfold I64
       dsimp only
       omega
   ·split at h
    ·cases h
    ·cases h; exact hp
def joinP (pre : Fo) : Option Fo -> Option Fo
 | none => none
 | some t => some (pre.app t)
theorem kids_start (g : Nd -> Option Nd) (s : Bool) (k : Fo) : kidsP g s 0 k = joinP .nil (kidsP g s 0 (k.drop 0)) := by
 rw [Fo.drop_zero]
 cases kidsP g s 0 k <;> rfl
theorem kids_step {g : Nd -> Option Nd} {s : Bool} {j : Nat} {o m : Int} {k r pre : Fo} {a : Nd} {T : Option Fo} (h1 : (if s = true /\ j = 1 then some ⟨o,m,k⟩ else g ⟨o,m,k⟩) = some a) (h : T = joinP pre (kidsP g s j (.cons o m k r))) :
  T = joinP (pre.snoc a.op a.n a.k) (kidsP g s (j + 1) r) := by
 rw [h,kidsP_cons,h1]
 cases kidsP g s (j + 1) r with
 | none => rfl
 | some t => simp only [joinP,Fo.snoc_app]
theorem kids_stop {g : Nd -> Option Nd} {s : Bool} {j : Nat} {o m : Int} {k r pre : Fo} {T : Option Fo} (h1 : (if s = true /\ j = 1 then some ⟨o,m,k⟩ else g ⟨o,m,k⟩) = none) (h : T = joinP pre (kidsP g s j (.cons o m k r))) : T = none := by
 rw [h,kidsP_cons,h1]; rfl
theorem kids_end {g : Nd -> Option Nd} {s : Bool} {j : Nat} {pre : Fo} {T : Option Fo} (h : T = joinP pre (kidsP g s j .nil)) : T = some pre := by
 rw [h]; simp only [kidsP,joinP,Fo.app_nil]
theorem let_none {f : Nat} {n v : Int} {a b x : Nd} (h : putN f a v x = none) : putN (f + 1) ⟨7,n,pair a b⟩ v x = none := by
 rw [putN_succ,if_neg (by simp)]
 split
 ·split
  ·rfl
  ·split
   ·rfl
   ·unfold pair kid1
    rw [kidsP_cons,if_neg (by simp)]
    dsimp only
    rw [show putN f ⟨a.op,a.n,a.k⟩ v x = none from h]
 ·unfold pair
  rw [kidsP_cons,if_neg (by simp)]
  rw [show putN f ⟨a.op,a.n,a.k⟩ v x = none from h]
theorem let_stays {f : Nat} {n v : Int} {a a' b x : Nd} (h : putN f a v x = some a') (hr : reach ⟨7,n,pair a b⟩ v = false) : putN (f + 1) ⟨7,n,pair a b⟩ v x = some ⟨7,n,pair a' b⟩ := by
 rw [putN_other (by simp) (by unfold capt; rw [hr]; simp)]
 have hs : stays ⟨7,n,pair a b⟩ v = true := by unfold stays; rw [hr]; rfl
 rw [hs]
 have : kidsP (fun y => putN f y v x) true 0 (pair a b) = some (pair a' b) := by
  unfold pair
  exact kidsP_some2 (by rw [if_neg (by simp)]; exact h) (kidsP_some2 (a := b) (by rw [if_pos ⟨rfl,rfl⟩]) rfl)
 dsimp only
 rw [this]
theorem pair_in {g : Nd -> Option Nd} {a a' b : Nd} (h : g a = some a') : kidsP g false 0 (pair a b) = (match g b with | none => none | some b' => some (pair a' b')) := by
 unfold pair
 rw [kidsP_cons,if_neg (by simp),show g ⟨a.op,a.n,a.k⟩ = some a' from h]
 dsimp only
 rw [kidsP_cons,if_neg (by simp)]
 rw [show g ⟨b.op,b.n,b.k⟩ = g b from rfl]
 cases g b <;> rfl
theorem let_in {f : Nat} {n v : Int} {a a' b x : Nd} (h : putN f a v x = some a') (hr : reach ⟨7,n,pair a b⟩ v = true) (hc : ¬ n ∈ freeP x) : putN (f + 1) ⟨7,n,pair a b⟩ v x = (match putN f b v x with | none => none | some b' => some ⟨7,n,pair a' b'⟩) := by
 rw [putN_other (by simp) (by unfold capt; rw [hr]; simp [hc])]
 have hs : stays ⟨7,n,pair a b⟩ v = false := by unfold stays; rw [hr]; rfl
 rw [hs]
 dsimp only
 rw [pair_in (g := fun y => putN f y v x) h]
 cases putN f b v x <;> rfl
theorem let_new {f : Nat} {n v : Int} {a a' b x : Nd} (h : putN f a v x = some a') (hr : reach ⟨7,n,pair a b⟩ v = true) (hc : n ∈ freeP x) : putN (f + 1) ⟨7,n,pair a b⟩ v x = (match freshV (freeP x ++ varsP b ++ [v]) with
  | none => none
  | some w => match putN f b n ⟨2,w,.nil⟩ with
   | none => none
   | some q => match putN f q v x with
    | none => none
    | some b' => some ⟨7,w,pair a' b'⟩) := by
 rw [putN_capt rfl (by unfold capt; rw [hr]; simp [hc])]
 show (match freshV (freeP x ++ varsP b ++ [v]) with
  | none => none
  | some w => match putN f b n ⟨2,w,.nil⟩ with
   | none => none
   | some q => match kidsP (fun y => putN f y v x) false 0 (pair a q) with
    | none => none
    | some t => some (⟨7,w,t⟩ : Nd)) = _
 cases freshV (freeP x ++ varsP b ++ [v]) with
 | none => rfl
 | some w =>
  dsimp only
  cases putN f b n ⟨2,w,.nil⟩ with
  | none => rfl
  | some q =>
   dsimp only
   rw [pair_in (g := fun y => putN f y v x) h]
   cases putN f q v x <;> rfl
end Go.Proofs.YtmnhoeliofojnaaGreatDoor
