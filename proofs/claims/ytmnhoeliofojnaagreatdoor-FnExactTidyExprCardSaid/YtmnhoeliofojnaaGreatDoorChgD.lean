import Derived.Test.YtmnhoeliofojnaaGreatDoorPutD
namespace Go.Proofs.YtmnhoeliofojnaaGreatDoor
open Go.RowKit Go.Shelf
open Go.Lib (hid)
set_option maxRecDepth 100000
def chgF (g : Nat -> Nd -> Nd) : Nat -> Fo -> Fo
 | _,.nil => .nil
 | L,.cons op n k r => .cons (g L ⟨op,n,chgF g (L - 1) k⟩).op (g L ⟨op,n,chgF g (L - 1) k⟩).n (g L ⟨op,n,chgF g (L - 1) k⟩).k (chgF g L r)
def midN (g : Nat -> Nd -> Nd) (L : Nat) (p : Nd) : Nd := ⟨p.op,p.n,chgF g (L - 1) p.k⟩
def chgN (g : Nat -> Nd -> Nd) (L : Nat) (p : Nd) : Nd := g L (midN g L p)
theorem chgF_len (g : Nat -> Nd -> Nd) : ∀ (k : Fo) (L : Nat),(chgF g L k).len = k.len
 | .nil,_ => rfl
 | .cons _ _ _ r,L => by simp only [chgF,Fo.len,chgF_len g r]
theorem chgF_cons (g : Nat -> Nd -> Nd) (L : Nat) (op n : Int) (k r : Fo) : chgF g L (.cons op n k r) = .cons (chgN g L ⟨op,n,k⟩).op (chgN g L ⟨op,n,k⟩).n (chgN g L ⟨op,n,k⟩).k (chgF g L r) := rfl
structure RuleD (g : Nat -> Nd -> Nd) (Fit Pre : Nat -> Nd -> Prop) : Prop where
 kid : ∀ {L : Nat} {p : Nd},Fit L p -> ∀ (j : Nat) (o m : Int) (k r : Fo),p.k.drop j = .cons o m k r -> Fit (L - 1) ⟨o,m,k⟩
 pre : ∀ {L : Nat} {p : Nd},Fit L p -> Pre L (midN g L p)
 size : ∀ {L : Nat} {p : Nd},Fit L p -> 1 <= L /\ L <= 14 /\ p.k.size <= 1048576
def Turns (y : Nd) (base : Nat) (w : World) (e : Ending) (w' : World) : Prop :=
 ∃ A c bs,e = .returned (.agg #[.int .i64 y.op,.int .i64 y.n,.slice A y.k.len c]) /\ Tree w' base (.slice A y.k.len c) y.k bs /\ Below w.heap.size w w' /\ (I64 y.op /\ I64 y.n)
def allF (T : Int -> Int -> Nat -> Prop) : Fo -> Prop
 | .nil => True
 | .cons op n k r => T op n k.len /\ allF T k /\ allF T r
def allN (T : Int -> Int -> Nat -> Prop) (p : Nd) : Prop := T p.op p.n p.k.len /\ allF T p.k
structure LocalT (T : Int -> Int -> Nat -> Prop) : Prop where
 kids : ∀ {op n : Int} {l : Nat},T op n l -> kidsOk op l = true
 name : ∀ {op n : Int} {l : Nat},T op n l -> nameOk op n l = true
 lets : ∀ w : Nat,w < 8 -> T 7 w 2
 var : ∀ w : Nat,w < 8 -> T 2 w 0
section
variable {T : Int -> Int -> Nat -> Prop}
theorem all_fitF (hT : LocalT T) : ∀ {k : Fo},allF T k -> FitF k
 | .nil,_ => FitF.nil
 | .cons _ _ _ _,⟨h1,h2,h3⟩ => fitP_cons.2 ⟨⟨⟨hT.name h1,letOk_kids (hT.kids h1)⟩,all_fitF hT h2⟩,all_fitF hT h3⟩
theorem all_fitN (hT : LocalT T) {p : Nd} (h : allN T p) : FitN p := ⟨⟨hT.name h.1,letOk_kids (hT.kids h.1)⟩,all_fitF hT h.2⟩
theorem all_at : ∀ {k : Fo} (_ : allF T k) (j : Nat) {o m : Int} {k1 r : Fo},k.drop j = .cons o m k1 r -> allN T ⟨o,m,k1⟩ /\ k1.dep + 1 <= k.dep /\ k1.size + 1 <= k.size
 | .nil,_,0,_,_,_,_,e => by cases e
 | .nil,_,_ + 1,_,_,_,_,e => by cases e
 | .cons _ _ _ _,⟨h1,h2,h3⟩,0,_,_,_,_,e => by
  cases e
  refine ⟨⟨h1,h2⟩, ?_, ?_⟩
  ·simp only [Fo.dep]; omega
  ·simp only [Fo.size]; omega
 | .cons _ _ _ r,⟨h1,h2,h3⟩,j + 1,_,_,_,_,e => by
  obtain ⟨e1,e2,e3⟩ := all_at h3 j e
  refine ⟨e1, ?_, ?_⟩
  ·simp only [Fo.dep]; omega
  ·simp only [Fo.size]; omega
theorem kidsP_all {X : Nat} {g : Nd -> Option Nd} {s : Bool} (hg : ∀ y b,allN T y -> g y = some b -> allN T b /\ b.k.dep <= y.k.dep + X) : ∀ (k : Fo) (i : Nat) (t : Fo),allF T k -> kidsP g s i k = some t -> allF T t /\ t.dep <= k.dep + X /\ t.len = k.len
 | .nil,_,_,_,h => by cases h; exact ⟨trivial,Nat.zero_le _,rfl⟩
 | .cons o m k r,i,t,hf,h => by
  obtain ⟨a,t',h1,h2,rfl⟩ := kidsP_some h
  obtain ⟨r1,r2,r3⟩ := kidsP_all hg r (i + 1) t' hf.2.2 h2
  have ha : allN T a /\ a.k.dep <= k.dep + X := by
   split at h1
   ·cases h1; exact ⟨⟨hf.1,hf.2.1⟩,Nat.le_add_right _ _⟩
   ·exact hg ⟨o,m,k⟩ a ⟨hf.1,hf.2.1⟩ h1
  refine ⟨⟨ha.1.1,ha.1.2,r1⟩, ?_,by simp only [Fo.len,r3]⟩
  simp only [Fo.dep]
  omega
theorem putN_all (hT : LocalT T) : ∀ (f : Nat) (p b : Nd) (v : Int) (x : Nd),allN T p -> allN T x -> putN f p v x = some b -> allN T b /\ b.k.dep <= p.k.dep + x.k.dep
 | 0,_,_,_,_,_,_,h => by cases h
 | f + 1,p,b,v,x,hp,hx,h => by
  unfold putN at h
  split at h
  ·cases h; exact ⟨hx,Nat.le_add_left _ _⟩
  ·split at h
   ·rename_i hc
    cases e : newOf p v x with
    | none => rw [e] at h; cases h
    | some w =>
     rw [e] at h
     dsimp only at h
     have w8 := (newOf_new e).1
     cases e2 : putN f (kid2 p.k) p.n ⟨2,w,.nil⟩ with
     | none => rw [e2] at h; cases h
     | some q =>
      rw [e2] at h
      dsimp only at h
      obtain ⟨o,m,k,o',m',k',ek⟩ := (all_fitN hT hp).two hc.1
      obtain ⟨hp1,hp2⟩ := hp
      rw [ek] at hp2 e2 h
      obtain ⟨a1,a2,b1,b2,_⟩ := hp2
      obtain ⟨q1,q2⟩ := putN_all hT f ⟨o',m',k'⟩ q p.n ⟨2,w,.nil⟩ ⟨b1,b2⟩ ⟨hT.var w w8,trivial⟩ e2
      cases e3 : kidsP (fun y => putN f y v x) false 0 (pair ⟨o,m,k⟩ q) with
      | none => simp only [kid1] at h; rw [e3] at h; cases h
      | some t =>
       simp only [kid1] at h
       rw [e3] at h
       cases h
       obtain ⟨t1,t2,t3⟩ := kidsP_all (fun y b hy he => putN_all hT f y b v x hy hx he) (pair ⟨o,m,k⟩ q) 0 t ⟨a1,a2,q1.1,q1.2,trivial⟩ e3
       refine ⟨⟨?_,t1⟩, ?_⟩
       ·show T 7 w t.len
        rw [t3]
        exact hT.lets w w8
       ·rw [ek]
        simp only [pair,Fo.dep] at t2 q2 ⊢
        omega
   ·cases e3 : kidsP (fun y => putN f y v x) (stays p v) 0 p.k with
    | none => rw [e3] at h; cases h
    | some t =>
     rw [e3] at h
     cases h
     obtain ⟨t1,t2,t3⟩ := kidsP_all (fun y b hy he => putN_all hT f y b v x hy hx he) p.k 0 t hp.2 e3
     refine ⟨⟨?_,t1⟩,t2⟩
     show T p.op p.n t.len
     rw [t3]
     exact hp.1
structure St (T : Int -> Int -> Nat -> Prop) (L : Nat) (p : Nd) : Prop where
 all : allN T p
 dep : p.k.dep + 1 <= L
 lv : L <= 14
 size : p.k.size + 1 <= 80
def KeepsSt (T : Int -> Int -> Nat -> Prop) (g : Nat -> Nd -> Nd) : Prop := ∀ L p,St T L p -> St T L (g L p) /\ (g L p).k.size <= p.k.size
theorem chgF_keeps {g : Nat -> Nd -> Nd} (hk : KeepsSt T g) : ∀ (k : Fo) (L : Nat),allF T k -> k.dep <= L -> L <= 14 -> k.size <= 80 -> allF T (chgF g L k) /\ (chgF g L k).dep <= L /\ (chgF g L k).size <= k.size
 | .nil,_,_,_,_,_ => ⟨trivial,Nat.zero_le _,Nat.le_refl _⟩
 | .cons op n k r,L,⟨h1,h2,h3⟩,hd,hL,hs => by
  simp only [Fo.dep] at hd
  simp only [Fo.size] at hs
  obtain ⟨k1,k2,k3⟩ := chgF_keeps hk k (L - 1) h2 (by omega) (by omega) (by omega)
  obtain ⟨r1,r2,r3⟩ := chgF_keeps hk r L h3 (by omega) hL (by omega)
  obtain ⟨g1,g2⟩ := hk L ⟨op,n,chgF g (L - 1) k⟩ ⟨⟨by show T op n (chgF g (L - 1) k).len; rw [chgF_len]; exact h1,k1⟩,by show (chgF g (L - 1) k).dep + 1 <= L; omega,hL,by show (chgF g (L - 1) k).size + 1 <= 80; omega⟩
  rw [chgF_cons]
  have g3 := g1.dep
  have g4 : (chgN g L ⟨op,n,k⟩).k.dep + 1 <= L := g3
  have g5 : (chgN g L ⟨op,n,k⟩).k.size <= (chgF g (L - 1) k).size := g2
  refine ⟨⟨g1.all.1,g1.all.2,r1⟩, ?_, ?_⟩
  ·simp only [Fo.dep]; omega
  ·simp only [Fo.size]; omega
theorem midN_st {g : Nat -> Nd -> Nd} (hk : KeepsSt T g) {L : Nat} {p : Nd} (h : St T L p) : St T L (midN g L p) /\ (midN g L p).k.size <= p.k.size := by
 obtain ⟨k1,k2,k3⟩ := chgF_keeps hk p.k (L - 1) h.all.2 (by have := h.dep; omega) (by have := h.lv; omega) (by have := h.size; omega)
 have hd := h.dep
 have hs := h.size
 exact ⟨⟨⟨by show T p.op p.n (chgF g (L - 1) p.k).len; rw [chgF_len]; exact h.all.1,k1⟩,by show (chgF g (L - 1) p.k).dep + 1 <= L; omega,h.lv,by show (chgF g (L - 1) p.k).size + 1 <= 80; omega⟩,k3⟩
theorem chgN_st {g : Nat -> Nd -> Nd} (hk : KeepsSt T g) {L : Nat} {p : Nd} (h : St T L p) : St T L (chgN g L p) /\ (chgN g L p).k.size <= p.k.size := by
 obtain ⟨h1,h2⟩ := midN_st hk h
 obtain ⟨h3,h4⟩ := hk L _ h1
 exact ⟨h3,Nat.le_trans h4 h2⟩
theorem st_rule {g : Nat -> Nd -> Nd} (hk : KeepsSt T g) : RuleD g (St T) (St T) :=
 ⟨fun h j o m k r e => by
  obtain ⟨h1,h2,h3⟩ := all_at h.all.2 j e
  have := h.dep
  have := h.lv
  have := h.size
  exact ⟨h1,by dsimp only; omega,by omega,by dsimp only; omega⟩,
  fun h => (midN_st hk h).1,fun h => ⟨by have := h.dep; omega,h.lv,by have := h.size; omega⟩⟩
end
theorem two_kids {T : Int -> Int -> Nat -> Prop} {L : Nat} {p : Nd} (h : St T L p) (h2 : p.k.len = 2) : ∃ o m k o' m' k',p.k = .cons o m k (.cons o' m' k' .nil) /\ St T L ⟨o,m,k⟩ /\ St T L ⟨o',m',k'⟩ /\ k.size + k'.size + 2 = p.k.size := by
 have ha := h.all.2
 have hd := h.dep
 have hs := h.size
 have hl := h.lv
 cases ek : p.k with
 | nil => rw [ek] at h2; simp [Fo.len] at h2
 | cons o m k r =>
  cases er : r with
  | nil => rw [ek,er] at h2; simp [Fo.len] at h2
  | cons o' m' k' r' =>
   cases e3 : r' with
   | cons _ _ _ _ => rw [ek,er,e3] at h2; simp [Fo.len] at h2
   | nil =>
    rw [ek,er,e3] at ha hd hs
    simp only [Fo.dep,Fo.size] at hd hs
    obtain ⟨a1,a2,b1,b2,_⟩ := ha
    exact ⟨o,m,k,o',m',k',rfl,⟨⟨a1,a2⟩,by dsimp only; omega,hl,by dsimp only; omega⟩,⟨⟨b1,b2⟩,by dsimp only; omega,hl,by dsimp only; omega⟩,by simp only [Fo.size]; omega⟩
theorem kids_two {op : Int} {l : Nat} (h : kidsOk op l = true) (ho : op = 4 ∨ op = 5 ∨ op = 7 ∨ op = 8) : l = 2 := by
 rcases ho with rfl | rfl | rfl | rfl <;> simpa [kidsOk] using h
theorem chgF_same {T : Int -> Int -> Nat -> Prop} {g g' : Nat -> Nd -> Nd} (hk : KeepsSt T g) (hs : ∀ L p,St T L p -> g' L p = g L p) : ∀ (k : Fo) (L : Nat),allF T k -> k.dep <= L -> L <= 14 -> k.size <= 80 -> chgF g' L k = chgF g L k
 | .nil,_,_,_,_,_ => rfl
 | .cons op n k r,L,⟨h1,h2,h3⟩,hd,hL,hz => by
  simp only [Fo.dep] at hd
  simp only [Fo.size] at hz
  have e1 := chgF_same hk hs k (L - 1) h2 (by omega) (by omega) (by omega)
  have e2 := chgF_same hk hs r L h3 (by omega) hL (by omega)
  obtain ⟨k1,k2,k3⟩ := chgF_keeps hk k (L - 1) h2 (by omega) (by omega) (by omega)
  have e3 := hs L ⟨op,n,chgF g (L - 1) k⟩ ⟨⟨by show T op n (chgF g (L - 1) k).len; rw [chgF_len]; exact h1,k1⟩,by show (chgF g (L - 1) k).dep + 1 <= L; omega,hL,by show (chgF g (L - 1) k).size + 1 <= 80; omega⟩
  rw [chgF_cons,chgF_cons,e2]
  unfold chgN midN
  dsimp only
  rw [e1,e3]
theorem chgN_same {T : Int -> Int -> Nat -> Prop} {g g' : Nat -> Nd -> Nd} (hk : KeepsSt T g) (hs : ∀ L p,St T L p -> g' L p = g L p) {L : Nat} {p : Nd} (h : St T L p) : chgN g' L p = chgN g L p := by
 have hd := h.dep
 have hz := h.size
 have hl := h.lv
 have e1 := chgF_same hk hs p.k (L - 1) h.all.2 (by omega) (by omega) (by omega)
 have e2 := hs L _ (midN_st hk h).1
 unfold chgN
 rw [<- e2]
 unfold midN
 rw [e1]
def formT (op n : Int) (l : Nat) : Prop := kidsOk op l = true /\ ownOk op n (firstS 8) = true
theorem firstS_in {w : Nat} (h : w < 8) : inVar (w : Int) = true /\ firstS 8 (w : Int).toNat = true := by
 constructor
 ·exact inVar_mk (by omega) (by omega)
 ·unfold firstS; simp; omega
theorem formT_local : LocalT formT :=
 ⟨fun h => h.1,fun h => nameOk_own h.1 h.2,fun w hw => ⟨rfl,by unfold ownOk; simp [(firstS_in hw).1]⟩,fun w hw => ⟨rfl,by unfold ownOk; simp [(firstS_in hw).1,firstS,hw]⟩⟩
theorem own_first {o m : Int} {S : Nat -> Bool} (h : ownOk o m S = true) : ownOk o m (firstS 8) = true := by
 unfold ownOk at h ⊢
 by_cases h1 : o = 1
 ·rw [if_pos h1] at h ⊢; exact h
 ·rw [if_neg h1] at h ⊢
  by_cases h2 : o = 2
  ·rw [if_pos h2,Bool.and_eq_true] at h ⊢
   have := inVar_true h.1
   refine ⟨h.1, ?_⟩
   unfold firstS
   simp
   omega
  ·rw [if_neg h2] at h ⊢; exact h
theorem shapeF_all : ∀ (f : Fo) (op n : Int) (i : Nat) (S : Nat -> Bool) (d : Nat),shapeF op n i S d f = true -> allF formT f /\ f.dep <= d
 | .nil,_,_,_,_,_,_ => ⟨trivial,Nat.zero_le _⟩
 | .cons o m k r,op,n,i,S,d,h => by
  simp only [shapeF,Bool.and_eq_true,decide_eq_true_iff] at h
  obtain ⟨⟨⟨⟨h1,h2⟩,h3⟩,h4⟩,h5⟩ := h
  obtain ⟨k1,k2⟩ := shapeF_all k o m 0 _ (d - 1) h4
  obtain ⟨r1,r2⟩ := shapeF_all r op n (i + 1) S d h5
  refine ⟨⟨⟨h2,own_first h3⟩,k1,r1⟩, ?_⟩
  simp only [Fo.dep]
  omega
theorem nodeIs_st {op n : Int} {k : Fo} {S : Nat -> Bool} (h : nodeIs op n k S = true) : St formT 14 ⟨op,n,k⟩ := by
 unfold nodeIs nodeShape at h
 simp only [Bool.and_eq_true,decide_eq_true_iff] at h
 obtain ⟨⟨⟨⟨_,h2⟩,h3⟩,h4⟩,h5⟩ := h
 obtain ⟨k1,k2⟩ := shapeF_all k op n 0 S _ h4
 exact ⟨⟨⟨h2,own_first h3⟩,k1⟩,by dsimp only; omega,Nat.le_refl _,h5⟩
theorem form_i64 {op n : Int} {l : Nat} (h : formT op n l) : I64 op /\ I64 n := by
 obtain ⟨h2,h3⟩ := h
 have ho : 1 <= op /\ op <= 9 := by
  rcases kinds op with h | h | h | h | h | h | h | h | h | h
  iterate 9
   ·omega
  ·exfalso
   unfold kidsOk at h2
   rw [if_neg (by omega),if_neg (by omega),if_neg (by omega),if_neg (by omega),if_neg (by omega)] at h2
   cases h2
 have hn : 0 <= n /\ n <= 99 := by
  unfold ownOk at h3
  split at h3
  ·simpa using h3
  ·split at h3
   ·simp [inVar] at h3; omega
   ·split at h3
    ·simp [inVar] at h3; omega
    ·simp at h3; omega
 unfold I64
 constructor <;> constructor <;> omega
theorem St.small {T : Int -> Int -> Nat -> Prop} {L : Nat} {p : Nd} (h : St T L p) : smallOk p.k 14 80 = true := by
 have := h.dep
 have := h.lv
 have := h.size
 unfold smallOk
 simp
 omega
def putK (p : Nd) : Option Nd := putN ((kid2 p.k).k.size + 1) (kid2 p.k) p.n (kid1 p.k)
theorem let_two {T : Int -> Int -> Nat -> Prop} (hT : LocalT T) {L : Nat} {p : Nd} (h : St T L p) (h7 : p.op = 7) : ∃ o m k o' m' k',p.k = .cons o m k (.cons o' m' k' .nil) /\ St T L ⟨o,m,k⟩ /\ St T L ⟨o',m',k'⟩ /\ k.size + k'.size + 2 = p.k.size :=
 two_kids h (kids_two (hT.kids h.all.1) (.inr (.inr (.inl h7))))
end Go.Proofs.YtmnhoeliofojnaaGreatDoor
