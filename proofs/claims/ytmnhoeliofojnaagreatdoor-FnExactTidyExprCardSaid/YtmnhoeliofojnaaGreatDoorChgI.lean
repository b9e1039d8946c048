import Derived.Test.YtmnhoeliofojnaaGreatDoorChgD
namespace Go.Proofs.YtmnhoeliofojnaaGreatDoor
open Go.RowKit Go.Shelf
open Go.Lib (hid)
set_option maxRecDepth 100000
def RuleC (K : FuncId) (F : Array Value) (g : Nat -> Nd -> Nd) (Pre : Nat -> Nd -> Prop) (w0 : World) : Prop :=
 ∀ (L : Nat) (p : Nd) (A : Option Addr) (c base : Nat) (bs : List Nat) (w : World),Below w0.heap.size w0 w -> Pre L p -> I64 p.op /\ I64 p.n -> Tree w base (.slice A p.k.len c) p.k bs -> base <= w.heap.size -> w0.heap.size <= base -> L <= 14 ->
  Calls Tryz.prog K (F ++ #[.agg #[.int .i64 p.op,.int .i64 p.n,.slice A p.k.len c],.int .i64 (L : Int)]) w (Turns (g L p) base w)
set_option maxHeartbeats 4000000 in
theorem change_any {K : FuncId} {F : Array Value} (eK : Enters Tryz.prog K) {g : Nat -> Nd -> Nd} {Fit Pre : Nat -> Nd -> Prop} (hd : RuleD g Fit Pre) (w0 : World) (hr : RuleC K F g Pre w0) (m : Nat) : ∀ (L : Nat) (op n : Int) (k : Fo) (A : Option Addr) (c : Nat) (w : World),k.size = m -> Fit L ⟨op,n,k⟩ -> Below w0.heap.size w0 w ->
  Lies w 0 w.heap.size A 0 k -> I64 op /\ I64 n ->
  Calls Tryz.prog 48 #[.func (.func K) F #[],.agg #[.int .i64 op,.int .i64 n,.slice A k.len c],.int .i64 (L : Int)] w (Turns (chgN g L ⟨op,n,k⟩) w.heap.size w) := by
 induction m using Nat.strongRecOn with
 | _ m ih =>
  intro L op n k A c w hm hfit hw0 hl hi
  have hsz : 1 <= L /\ L <= 14 /\ k.size <= 1048576 := hd.size hfit
  have hks := hsz.2.2
  have hlen := Fo.len_le_size k
  obtain ⟨W,hW⟩ : ∃ W,W = ((w.alloc (Obj.cells #[.int .i64 op,.int .i64 n,.slice A k.len c] 30)).alloc (Obj.cells #[.int .i64 0,.int .i64 0,.slice none 0 0] 30)).alloc (Obj.cells #[.int .i64 op,.int .i64 n,.slice none 0 0] 30) := ⟨_,rfl⟩
  have hr0 := (Row.fresh w 30 #[.int .i64 op,.int .i64 n,.slice A k.len c]).alloc (Obj.cells #[.int .i64 0,.int .i64 0,.slice none 0 0] 30)
  obtain ⟨q0,q1,q2⟩ := hr0.cells3 rfl rfl rfl
  have hr1 : Row W (w.heap.size + 1 + 1) 30 #[.int .i64 op,.int .i64 n,.slice none 0 0] := by
   rw [hW]
   have := Row.fresh ((w.alloc (Obj.cells #[.int .i64 op,.int .i64 n,.slice A k.len c] 30)).alloc (Obj.cells #[.int .i64 0,.int .i64 0,.slice none 0 0] 30)) 30 #[.int .i64 op,.int .i64 n,.slice none 0 0]
   simp only [World.size_alloc] at this
   exact this
  have hr2 : Row W (w.heap.size + 1) 30 #[.int .i64 0,.int .i64 0,.slice none 0 0] := by
   rw [hW]
   have := Row.fresh (w.alloc (Obj.cells #[.int .i64 op,.int .i64 n,.slice A k.len c] 30)) 30 #[.int .i64 0,.int .i64 0,.slice none 0 0]
   rw [World.size_alloc] at this
   exact this.alloc _
  have hbW : Below w.heap.size w W := by rw [hW]; exact (((Below.refl _ _).alloc (Nat.le_refl _) _).alloc (by simp) _).alloc (by simp; omega) _
  have HR1 := hid hr1
  have HR2 := hid hr2
  have HBW := hid hbW
  have HRU := hid hr
  have HW0 := hid hw0
  have HLC := hid (show ((L - 1 : Nat) : Int) = IntKind.i64.wrap ((L : Int) - 1) by rw [IntKind.wrap_i64] <;> omega)
  have HL14 := hid hsz
  clear hr1 hr2 hbW hr hw0
  go_enter Tryz.func48,Tryz.ntmps48
  go_wp2_with fail
  clear q0 q1 q2 hr0
  rw [<- hW]
  clear hW
  go_loopw [18] (fun i wr => Round k (chgF g (L - 1)) op n (w.heap.size + 1 + 1 + 1) (w.heap.size + 1 + 1) w i wr /\ Row wr (w.heap.size + 1) 30 #[.int .i64 0,.int .i64 0,.slice none 0 0])
   (fun i _ => k.len - (intOf i).toNat)
  case atStart => exact ⟨⟨0,.nil,none,0,[],Nat.zero_le _,rfl,rfl,by rw [Fo.drop_zero]; rfl,HR1.out,Tree.none _ _,HBW.out⟩,HR2.out⟩
  case round =>
   clear HR1 HR2 HBW
   obtain ⟨⟨j,pre,A1,c1',bs,hj,rfl,hpl,hpre,hrow,ht,hb⟩,hres⟩ := hrel
   have hwz := hrow.size
   by_cases hlt : j < k.len
   ·obtain ⟨o1,m1,k1,e1,e2,e3⟩ := Fo.drop_of_lt k j hlt
    have hj' := (hl.below hb).at_ j
    rw [Nat.zero_add,e1] at hj'
    obtain ⟨⟨b,o,A',c',hA,_,hbb,i1,i2,g1,g2,g3,h1,h2,h3⟩,_⟩ := hj'
    subst hA
    have hbb2 : b < wr.heap.size := Nat.lt_of_lt_of_le hbb hb.size
    obtain ⟨wa,hwa⟩ : ∃ wa,wa = wr.alloc (Obj.cells #[.int .i64 o1,.int .i64 m1,.slice A' k1.len c'] 30) := ⟨_,rfl⟩
    have hba : Below wr.heap.size wr wa := by rw [hwa]; exact (Below.refl _ _).alloc (Nat.le_refl _) _
    have hra : Row wa wr.heap.size 30 #[.int .i64 o1,.int .i64 m1,.slice A' k1.len c'] := by rw [hwa]; exact Row.fresh _ _ _
    have hrowa := hrow.below hba hrow.size
    have q0 : wa.drew.cell? ⟨wr.heap.size,0,none⟩ = some (.int .i64 o1) := hra.cell (i := 0) rfl
    have q1 : wa.drew.cell? ⟨wr.heap.size,1,none⟩ = some (.int .i64 m1) := hra.cell (i := 1) rfl
    have q2 : wa.drew.cell? ⟨wr.heap.size,2,none⟩ = some (.slice A' k1.len c') := hra.cell (i := 2) rfl
    have q3 : wa.drew.cell? ⟨w.heap.size + 1 + 1,2,none⟩ = some (.slice A1 pre.len c1') := hrowa.cell (i := 2) rfl
    have hza : w.heap.size + 1 + 1 < wa.drew.heap.size := hrowa.size
    have hza2 : wr.heap.size < wa.drew.heap.size := hra.size
    have hla : Lies wa.drew 0 wa.drew.heap.size A' 0 k1 := (h3.below ((hba.mono hb.size).drew)).mono_ (Nat.le_refl _) (Nat.le_trans hb.size hba.size)
    have hki := hd.kid hfit j o1 m1 k1 _ e1
    have hwk : Below w0.heap.size w0 wa.drew := HW0.out.trans ((hb.trans (hba.drew.mono hb.size)).mono HW0.out.size)
    obtain ⟨q,hq⟩ : ∃ q,q = chgN g (L - 1) ⟨o1,m1,k1⟩ := ⟨_,rfl⟩
    have hc := ih k1.size (by omega) (L - 1) o1 m1 k1 A' c' wa.drew rfl hki hwk hla ⟨i1,i2⟩
    rw [<- hq,HLC.out] at hc
    have HC := hid hc
    have HQ := hid hq
    have HT := hid ht
    have HBA := hid hba
    have HB := hid hb
    have HROW := hid hrowa
    have HRES := hid (hres.below hba hres.size)
    have HPRE := hid hpre
    have HPL := hid hpl
    have HRA := hid hra
    have HWR := hid (show w.heap.size + 1 + 1 + 1 <= wr.heap.size from hwz)
    have hbox : ∀ g,(Value.slice A1 pre.len c1').ownBlock = some g -> w.heap.size + 1 + 1 + 1 <= g /\ g < wr.heap.size := fun g hg => by
     obtain ⟨st,b1,k1',k2',rfl,_⟩ := ht
     exact blk_lt k1' (by unfold blkV; rw [hg]; simp)
    have HBOX := hid hbox
    have HE := hid e1
    have hpl2 : pre.len <= 1048576 := by omega
    have hL1 : 1 <= L := hsz.1
    have hL2 : L <= 14 := hsz.2.1
    clear hra hrowa hrow ht hba hb hres hpre hla h3 hl ih i1 i2 e1 hpl hbox hc hq hki hwk hfit hsz
    go_upto_region 5 with fail
    rw [<- hwa]
    clear hwa g1 g2 g3
    go_wp2_with fail
    go_region_law (first
      |(refine step_push rfl (.tmp 23) (.tmp 29) rfl (w.heap.size + 1 + 1 + 1) (.slice A1 pre.len c1') pre bs b5 q.op q.n q.k A5 c5 rfl rfl HT5.out HK5.out HI5.out HD5.out hpl2 HZ5.out ?_
        intro v6 w6 bs6 ht6 hg6 hin6
        obtain ⟨A6,c6,rfl,hc61,hc62⟩ := ht6.slice
        have hne : ∀ g,(g < w.heap.size + 1 + 1 + 1 ∨ wr.heap.size <= g) -> some g ≠ (Value.slice A1 pre.len c1').ownBlock := fun g hg e => by have := HBOX.out g e.symm; omega
        have hr6 := row_grown HROW5.out hg6 (hne _ (.inl (Nat.lt_succ_self _)))
        have hra6 := row_grown HRA5.out hg6 (hne _ (.inr (Nat.le_refl _)))
        have u0 : w6.cell? ⟨wr.heap.size,0,none⟩ = some (.int .i64 o1) := hra6.cell (i := 0) rfl
        have u1 : w6.cell? ⟨wr.heap.size,1,none⟩ = some (.int .i64 m1) := hra6.cell (i := 1) rfl
        have u2 : w6.cell? ⟨wr.heap.size,2,none⟩ = some (.slice A' k1.len c') := hra6.cell (i := 2) rfl
        have u3 : w6.cell? ⟨w.heap.size + 1 + 1,2,none⟩ = some (.slice A1 pre.len c1') := hr6.cell (i := 2) rfl
        have f3 := hr6.free 2
        have HR6 := hid hr6
        have HRES6 := hid (row_grown HRES5.out hg6 (hne _ (.inl (Nat.lt_succ_of_lt (Nat.lt_succ_self _)))))
        have HT6 := hid ht6
        have HB6 := hid (Below.grown HB5.out hg6 HB5.out.size (fun g' hg' => by have := HBOX.out g' hg'; omega))
        clear hr6 hra6 ht6 hg6 hin6 hne hc61 hc62)
      |(refine step_call (f := 48) rfl (by kernel_rfl) HC.out ?_
        rintro e w5 ⟨A5,c5,b5,rfl,ht5,hb5,hi5⟩
        refine ⟨_,rfl, ?_⟩
        have HI5 := hid hi5
        have y0 : w5.cell? ⟨wr.heap.size,0,none⟩ = some (.int .i64 o1) := (hb5.cell (p := ⟨wr.heap.size,0,none⟩) hza2).trans q0
        have y1 : w5.cell? ⟨wr.heap.size,1,none⟩ = some (.int .i64 m1) := (hb5.cell (p := ⟨wr.heap.size,1,none⟩) hza2).trans q1
        have y2 : w5.cell? ⟨wr.heap.size,2,none⟩ = some (.slice A' k1.len c') := (hb5.cell (p := ⟨wr.heap.size,2,none⟩) hza2).trans q2
        have y3 : w5.cell? ⟨w.heap.size + 1 + 1,2,none⟩ = some (.slice A1 pre.len c1') := (hb5.cell (p := ⟨w.heap.size + 1 + 1,2,none⟩) hza).trans q3
        have bz := (Below.refl w5.heap.size w5).alloc (Nat.le_refl _) (Obj.cells #[.int .i64 q.op,.int .i64 q.n,.slice A5 q.k.len c5] 30)
        have z0 : (w5.alloc (Obj.cells #[.int .i64 q.op,.int .i64 q.n,.slice A5 q.k.len c5] 30)).cell? ⟨wr.heap.size,0,none⟩ = some (.int .i64 o1) := (bz.cell (p := ⟨wr.heap.size,0,none⟩) (Nat.lt_of_lt_of_le hza2 hb5.size)).trans y0
        have z1 : (w5.alloc (Obj.cells #[.int .i64 q.op,.int .i64 q.n,.slice A5 q.k.len c5] 30)).cell? ⟨wr.heap.size,1,none⟩ = some (.int .i64 m1) := (bz.cell (p := ⟨wr.heap.size,1,none⟩) (Nat.lt_of_lt_of_le hza2 hb5.size)).trans y1
        have z2 : (w5.alloc (Obj.cells #[.int .i64 q.op,.int .i64 q.n,.slice A5 q.k.len c5] 30)).cell? ⟨wr.heap.size,2,none⟩ = some (.slice A' k1.len c') := (bz.cell (p := ⟨wr.heap.size,2,none⟩) (Nat.lt_of_lt_of_le hza2 hb5.size)).trans y2
        have z3 : (w5.alloc (Obj.cells #[.int .i64 q.op,.int .i64 q.n,.slice A5 q.k.len c5] 30)).cell? ⟨w.heap.size + 1 + 1,2,none⟩ = some (.slice A1 pre.len c1') := (bz.cell (p := ⟨w.heap.size + 1 + 1,2,none⟩) (Nat.lt_of_lt_of_le hza hb5.size)).trans y3
        have HT5 := hid (HT.out.over (HBA.out.drew.trans (hb5.mono HBA.out.size)))
        have HK5 := hid (ht5.lower (base' := w.heap.size + 1 + 1 + 1) (Nat.le_trans HWR.out HBA.out.size))
        have HD5 := hid (show ∀ b,b ∈ bs -> b ∈ b5 -> False from fun q h1 h2 => by
         have e1 := (HT.out.lt q h1).2
         have e2 := (ht5.lt q h2).1
         have e3 := HBA.out.size
         have e4 : wa.heap.size <= q := e2
         omega)
        have HZ5 := hid (Nat.le_trans HWR.out (Nat.le_trans HBA.out.size hb5.size))
        have HROW5 := hid ((HROW.out.drew).below hb5 hza)
        have HRES5 := hid ((HRES.out.drew).below hb5 (Nat.lt_of_lt_of_le HRES.out.size (Nat.le_refl _)))
        have HRA5 := hid ((HRA.out.drew).below hb5 hza2)
        have HB5 := hid (HB.out.trans ((HBA.out.drew.trans (hb5.mono HBA.out.size)).mono HB.out.size))
        clear ht5 hb5 bz hi5))
    all_goals
     go_wp2_with fail
     go_roundw
     case rel =>
      have hr7 := HR6.out.put 2 (.slice A6 (pre.snoc q.op q.n q.k).len c6)
      have ht7 : Tree (w6.setCell ⟨w.heap.size + 1 + 1,2,none⟩ (.slice A6 (pre.snoc q.op q.n q.k).len c6)) (w.heap.size + 1 + 1 + 1) (.slice A6 (pre.snoc q.op q.n q.k).len c6) (pre.snoc q.op q.n q.k) bs6 :=
       HT6.out.keep fun q hq => Below.heap_setCell w6 _ _ q (by have := (HT6.out.lt q hq).1; dsimp only; omega)
      refine ⟨⟨j + 1,pre.snoc q.op q.n q.k,A6,c6,bs6,hlt,by go_num,by rw [Fo.snoc_len,HPL.out], ?_,hr7,ht7,HB6.out.setCell (by dsimp only; omega) _⟩,HRES6.out.apart (by simp) _⟩
      have := HPRE.out
      rw [HE.out,chgF_cons, <- HQ.out] at this
      rw [Fo.snoc_app]
      exact this
     case measure => simp [intOf]; omega
   ·have e9 : j = k.len := by omega
    rw [e9,Fo.drop_len] at hpre
    have hpk : pre = chgF g (L - 1) k := (Fo.app_nil pre).symm.trans hpre
    obtain ⟨y,hy⟩ : ∃ y,y = g L ⟨op,n,pre⟩ := ⟨_,rfl⟩
    have hyy : y = chgN g L ⟨op,n,k⟩ := by rw [hy,hpk]; rfl
    have hprn := hd.pre hfit
    unfold midN at hprn
    dsimp only at hprn
    rw [<- hpk] at hprn
    obtain ⟨q0,q1,q2⟩ := hrow.cells3 rfl rfl rfl
    have hpl9 : pre.len = k.len := hpl.trans e9
    have HC := hid (show Calls Tryz.prog K (F ++ #[.agg #[.int .i64 op,.int .i64 n,.slice A1 k.len c1'],.int .i64 (L : Int)]) wr (Turns (g L ⟨op,n,pre⟩) (w.heap.size + 1 + 1 + 1) wr) by
     rw [<- hpl9]
     exact HRU.out L ⟨op,n,pre⟩ A1 c1' (w.heap.size + 1 + 1 + 1) bs wr (HW0.out.trans (hb.mono HW0.out.size)) hprn hi ht hwz (by have := HW0.out.size; omega) hsz.2.1)
    have HRES := hid hres
    have HB := hid hb
    have HYY := hid hyy
    have HY := hid hy
    rw [hpl9] at q2
    clear hrow ht hb hres hpre hpk hprn hl ih hfit hyy hy hpl hpl9
    go_wp2_with fail
    rw [eK,Oper.upon_enter]
    refine HC.out.mono ?_
    rintro e w5 ⟨A5,c5,b5,rfl,ht5,hb5,hi5⟩
    have hres5 := HRES.out.below hb5 HRES.out.size
    obtain ⟨c0,c1,c2⟩ := hres5.cells3 rfl rfl rfl
    obtain ⟨f0,f1,f2⟩ := hres5.frees3
    rw [<- HY.out] at ht5 hi5
    rw [<- HY.out]
    have hres3 := ((hres5.put 0 (.int .i64 y.op)).put 1 (.int .i64 y.n)).put 2 (.slice A5 y.k.len c5)
    have r0 := hres3.cell (i := 0) rfl
    have r1 := hres3.cell (i := 1) rfl
    have r2 := hres3.cell (i := 2) rfl
    have hle : ∀ i,w.heap.size <= (⟨w.heap.size + 1,i,none⟩ : Addr).block := fun i => Nat.le_succ _
    have HBZ := hid ((((HB.out.trans (hb5.mono HB.out.size)).setCell (hle 0) (.int .i64 y.op)).setCell (hle 1) (.int .i64 y.n)).setCell (hle 2) (.slice A5 y.k.len c5))
    have HTZ := hid (ht5.keep (w' := ((w5.setCell ⟨w.heap.size + 1,0,none⟩ (.int .i64 y.op)).setCell ⟨w.heap.size + 1,1,none⟩ (.int .i64 y.n)).setCell ⟨w.heap.size + 1,2,none⟩ (.slice A5 y.k.len c5)) fun q hq => by
     have := (ht5.lt q hq).1
     exact (Below.heap_setCell _ _ _ q (by dsimp only; omega)).trans ((Below.heap_setCell _ _ _ q (by dsimp only; omega)).trans (Below.heap_setCell _ _ _ q (by dsimp only; omega))))
    have HIZ := hid hi5
    clear hres5 ht5 hb5 hi5 hres3 hle q0 q1 q2
    go_wp2_with fail
    refine bodyPost_ret (v := .agg #[.int .i64 y.op,.int .i64 y.n,.slice A5 y.k.len c5]) ?_ rfl (by rw [<- HYY.out]; exact ⟨A5,c5,b5,rfl,HTZ.out.lower (by omega),HBZ.out,HIZ.out⟩)
    simp [results,Tryz.f48,go_sem,r0,r1,r2]
end Go.Proofs.YtmnhoeliofojnaaGreatDoor
