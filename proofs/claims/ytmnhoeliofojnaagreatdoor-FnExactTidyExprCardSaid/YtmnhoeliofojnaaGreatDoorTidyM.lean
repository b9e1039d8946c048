import Derived.Test.YtmnhoeliofojnaaGreatDoorTidyD
import Derived.Test.YtmnhoeliofojnaaGreatDoorFoldM
import Derived.Test.YtmnhoeliofojnaaGreatDoorAtomsM
import Derived.Test.YtmnhoeliofojnaaGreatDoorDropM
import Derived.Test.YtmnhoeliofojnaaGreatDoorOnceM
import Derived.Test.YtmnhoeliofojnaaGreatDoorISame
import Derived.Test.YtmnhoeliofojnaaGreatDoorOnceS
import Derived.Test.YtmnhoeliofojnaaGreatDoorSame
import Derived.Test.YtmnhoeliofojnaaGreatDoorLibVI
namespace Go.Proofs.YtmnhoeliofojnaaGreatDoor
open Go.RowKit Go.Shelf
open Go.Lib (hid)
set_option maxRecDepth 100000
set_option maxHeartbeats 8000000 in
theorem tidy_any (ds : List De) (Q : Nat -> Bool) (op n : Int) (k : Fo) (A : Option Addr) (c : Nat) (w : World) (hst : St (libT ds) 14 ⟨op,n,k⟩) (hl : Lies w 0 w.heap.size A 0 k) (hi : I64 op /\ I64 n) (hk : k.len <= c /\ c <= maxLen) :
  Calls Tryz.prog 24 #[.agg (cells8 Q),.agg #[.int .i64 op,.int .i64 n,.slice A k.len c]] w (Turns (tidyN (pureW Q) (ansI Q) (k.size + 1) ⟨op,n,k⟩) w.heap.size w) := by
 obtain ⟨GP,hGP⟩ : ∃ GP,GP = tidyN (pureW Q) (ansI Q) (k.size + 1) ⟨op,n,k⟩ := ⟨_,rfl⟩
 rw [<- hGP]
 obtain ⟨hb,r0,r1,r2⟩ := three_boxes w 56 30 30 (cells8 Q) #[Value.int .i64 op,Value.int .i64 n,Value.slice A k.len c] #[Value.int .i64 0,Value.int .i64 0,Value.slice none 0 0]
 obtain ⟨W0,hW0⟩ : ∃ W0,W0 = ((w.alloc (Obj.cells (cells8 Q) 56)).alloc (Obj.cells #[Value.int .i64 op,Value.int .i64 n,Value.slice A k.len c] 30)).alloc (Obj.cells #[Value.int .i64 0,Value.int .i64 0,Value.slice none 0 0] 30) := ⟨_,rfl⟩
 rw [<- hW0] at hb r0 r1 r2
 have hz0 : W0.heap.size = w.heap.size + 1 + 1 + 1 := by rw [hW0]; simp
 obtain ⟨W,hW⟩ : ∃ W,W = W0.alloc (Obj.cells #[Value.func (.func 44) #[] #[],Value.func (.func 45) #[] #[],Value.func (.func 46) #[.agg #[Value.bool (Q 0),Value.bool (Q 1),Value.bool (Q 2),Value.bool (Q 3),Value.bool (Q 4),Value.bool (Q 5),Value.bool (Q 6),Value.bool (Q 7)]] #[],Value.func (.func 47) #[.agg #[Value.bool (Q 0),Value.bool (Q 1),Value.bool (Q 2),Value.bool (Q 3),Value.bool (Q 4),Value.bool (Q 5),Value.bool (Q 6),Value.bool (Q 7)]] #[]] 72) := ⟨_,rfl⟩
 have hb1 : Below W0.heap.size W0 W := by rw [hW]; exact (Below.refl _ _).alloc (Nat.le_refl _) _
 have hrf : Row W (w.heap.size + 1 + 1 + 1) 72 #[Value.func (.func 44) #[] #[],Value.func (.func 45) #[] #[],Value.func (.func 46) #[.agg #[Value.bool (Q 0),Value.bool (Q 1),Value.bool (Q 2),Value.bool (Q 3),Value.bool (Q 4),Value.bool (Q 5),Value.bool (Q 6),Value.bool (Q 7)]] #[],Value.func (.func 47) #[.agg #[Value.bool (Q 0),Value.bool (Q 1),Value.bool (Q 2),Value.bool (Q 3),Value.bool (Q 4),Value.bool (Q 5),Value.bool (Q 6),Value.bool (Q 7)]] #[]] := by rw [hW, <- hz0]; exact Row.fresh _ _ _
 have hb2 := hb.trans (hb1.mono hb.size)
 have HGP := hid hGP
 have HB0 := hid hb2
 have HR0 := hid (r1.below hb1 r1.size)
 have HR1 := hid (r2.below hb1 r2.size)
 have HR2 := hid hrf
 have HST := hid hst
 have HL := hid ((hl.below hb2))
 have HWS := hid hb2.size
 have HI := hid hi
 have HK := hid hk
 obtain ⟨y0,y1,y2,y3,y4,y5,y6,y7⟩ := r0.eight
 have HZ0 := hid hz0
 clear hb r1 r2 hst hl hi hGP hb1 hrf hb2 hk r0
 unfold cells8 at hW0 ⊢
 go_enter Tryz.func24,Tryz.ntmps24
 go_upto_region 1 with fail
 rw [<- hW0]
 clear hW0
 go_upto_region 2 with fail
 skip
 rw [<- hW]
 clear hW y0 y1 y2 y3 y4 y5 y6 y7
 go_loopg [] k.size (fun gk wr => ∃ f p A c,gk = p.k.size /\ p.k.size <= f /\ Hid (St (libT ds) 14 p) /\ Hid (GP = tidyN (pureW Q) (ansI Q) (f + 1) p) /\ Row wr (w.heap.size + 1) 30 #[Value.int .i64 p.op,Value.int .i64 p.n,Value.slice A p.k.len c] /\ (Row wr (w.heap.size + 1 + 1) 30 #[Value.int .i64 0,Value.int .i64 0,Value.slice none 0 0] /\ Row wr (w.heap.size + 1 + 1 + 1) 72 #[Value.func (.func 44) #[] #[],Value.func (.func 45) #[] #[],Value.func (.func 46) #[.agg #[Value.bool (Q 0),Value.bool (Q 1),Value.bool (Q 2),Value.bool (Q 3),Value.bool (Q 4),Value.bool (Q 5),Value.bool (Q 6),Value.bool (Q 7)]] #[],Value.func (.func 47) #[.agg #[Value.bool (Q 0),Value.bool (Q 1),Value.bool (Q 2),Value.bool (Q 3),Value.bool (Q 4),Value.bool (Q 5),Value.bool (Q 6),Value.bool (Q 7)]] #[]]) /\ (∃ L0 B0,(B0 <= w.heap.size ∨ w.heap.size + 1 + 1 + 1 + 1 <= L0) /\ B0 <= wr.heap.size /\ Lies wr L0 B0 A 0 p.k) /\ (p.k.len <= c /\ c <= maxLen) /\ Hid (I64 p.op /\ I64 p.n) /\ Below w.heap.size w wr)
 case atStart => exact ⟨k.size,⟨op,n,k⟩,A,c,rfl,Nat.le_refl _,HST,HGP,HR0.out,⟨HR1.out,HR2.out⟩,⟨0,w.heap.size,.inl (Nat.le_refl _),HWS.out,HL.out⟩,HK.out,HI,HB0.out⟩
 case round =>
  clear HST HGP HR0 HR1 HR2 HL HI HB0 HK HZ0 HWS
  obtain ⟨wo,hwo⟩ : ∃ wo,wo = wr := ⟨_,rfl⟩
  subst hwo
  obtain ⟨f,p,A1,c1,rfl,hpf,HS0,HF,hr0,⟨hr1,hr2⟩,⟨L0,B0,hLB,hB0,hl⟩,hk1,HI1,hb⟩ := hrel
  have HLB := hid hLB
  have HB0 := hid hB0
  clear hLB hB0
  obtain ⟨st1,st2,st3,st4⟩ := tidy1_st (pureW Q) (ansI Q) HS0.out
  have hless := tidy1_less (pureW Q) (ansI Q) HS0.out
  obtain ⟨ga,hga⟩ : ∃ ga,ga = chgN gFold 14 p := ⟨_,rfl⟩
  obtain ⟨gb,hgb⟩ : ∃ gb,gb = chgN gAtoms 14 ga := ⟨_,rfl⟩
  obtain ⟨gc,hgc⟩ : ∃ gc,gc = chgN (gDrop (pureW Q)) 14 gb := ⟨_,rfl⟩
  obtain ⟨gd,hgd⟩ : ∃ gd,gd = chgN (gOnce (ansI Q)) 14 gc := ⟨_,rfl⟩
  have e1 : tidy1 (pureW Q) (ansI Q) p = gd := by rw [hgd,hgc,hgb,hga]; rfl
  rw [e1] at hless st4
  rw [<- hga] at st1 st2 st3
  rw [<- hgb] at st2 st3
  rw [<- hgc] at st3
  obtain ⟨sm,hsm⟩ : ∃ sm,sm = sameQ gd p := ⟨_,rfl⟩
  have HYES := hid (show sm = true -> GP = gd from fun h => by
   rw [HF.out,tidyN_stop (by rw [e1, <- hsm]; exact h),e1])
  have HNO := hid (show sm = false -> GP = tidyN (pureW Q) (ansI Q) (f - 1 + 1) gd /\ gd.k.size < p.k.size from fun h => by
   have h2 : gd.k.size < p.k.size := by
    rcases hless with h9 | h9
    ·rw [h9,sameQ_refl] at hsm; rw [hsm] at h; cases h
    ·exact h9
   refine ⟨?_,h2⟩
   rw [HF.out,tidyN_on (by rw [e1, <- hsm]; exact h),e1,Nat.sub_add_cancel (by omega)])
  have HG4 := hid e1
  clear hless e1
  obtain ⟨stg,hstg⟩ : ∃ stg : Nat -> Nd,stg = (fun j => if j = 0 then p else if j = 1 then ga else if j = 2 then gb else if j = 3 then gc else gd) := ⟨_,rfl⟩
  have s0 : stg 0 = p := by rw [hstg]; rfl
  have s1 : stg 1 = ga := by rw [hstg]; rfl
  have s2 : stg 2 = gb := by rw [hstg]; rfl
  have s3 : stg 3 = gc := by rw [hstg]; rfl
  have s4 : stg 4 = gd := by rw [hstg]; rfl
  have HC0 := hid (fun (w' : World) (A' : Option Addr) (c' : Nat) (hl' : Lies w' 0 w'.heap.size A' 0 p.k) (hi' : I64 p.op /\ I64 p.n) => show Calls Tryz.prog 48 #[.func (.func 44) #[] #[],.agg #[.int .i64 p.op,.int .i64 p.n,.slice A' p.k.len c'],.int .i64 14] w' (Turns ga w'.heap.size w') by
   rw [hga]
   refine change_any (K := 44) (enters_of Tryz.func44 (by kernel_rfl) rfl) (st_rule kF) w' ?_ p.k.size 14 p.op p.n p.k A' c' w' rfl HS0.out (Below.refl _ _) hl' hi'
   intro L p A c base bs w hb hst hi ht hbase hw0 hL
   exact foldNode_any (libT_local ds) (fun _ _ _ h => libT_form h) L p.op p.n p.k A c base bs w hst hi ht hbase)
  have HC1 := hid (fun (w' : World) (A' : Option Addr) (c' : Nat) (hl' : Lies w' 0 w'.heap.size A' 0 ga.k) (hi' : I64 ga.op /\ I64 ga.n) => show Calls Tryz.prog 48 #[.func (.func 45) #[] #[],.agg #[.int .i64 ga.op,.int .i64 ga.n,.slice A' ga.k.len c'],.int .i64 14] w' (Turns gb w'.heap.size w') by
   rw [hgb]
   refine change_any (K := 45) (enters_of Tryz.func45 (by kernel_rfl) rfl) (st_rule kA) w' ?_ ga.k.size 14 ga.op ga.n ga.k A' c' w' rfl st1 (Below.refl _ _) hl' hi'
   intro L p A c base bs w hb hst hi ht hbase hw0 hL
   exact putAtom_any (libT_local ds) L p.op p.n p.k A c base bs w hst hi ht hbase)
  have HC2 := hid (fun (w' : World) (A' : Option Addr) (c' : Nat) (hl' : Lies w' 0 w'.heap.size A' 0 gb.k) (hi' : I64 gb.op /\ I64 gb.n) => show Calls Tryz.prog 48 #[.func (.func 46) #[.agg #[Value.bool (Q 0),Value.bool (Q 1),Value.bool (Q 2),Value.bool (Q 3),Value.bool (Q 4),Value.bool (Q 5),Value.bool (Q 6),Value.bool (Q 7)]] #[],.agg #[.int .i64 gb.op,.int .i64 gb.n,.slice A' gb.k.len c'],.int .i64 14] w' (Turns gc w'.heap.size w') by
   rw [hgc]
   refine change_any (K := 46) (F := #[.agg (cells8 Q)]) (enters_of Tryz.func46 (by kernel_rfl) rfl) (st_rule (kD (pureW Q))) w' ?_ gb.k.size 14 gb.op gb.n gb.k A' c' w' rfl st2 (Below.refl _ _) hl' hi'
   intro L p A c base bs w hb hst hi ht hbase hw0 hL
   exact dropUnused_any (libT_local ds) Q L p.op p.n p.k A c base bs w hst hi ht hbase)
  have HC3 := hid (fun (w' : World) (A' : Option Addr) (c' : Nat) (hl' : Lies w' 0 w'.heap.size A' 0 gc.k) (hi' : I64 gc.op /\ I64 gc.n) => show Calls Tryz.prog 48 #[.func (.func 47) #[.agg #[Value.bool (Q 0),Value.bool (Q 1),Value.bool (Q 2),Value.bool (Q 3),Value.bool (Q 4),Value.bool (Q 5),Value.bool (Q 6),Value.bool (Q 7)]] #[],.agg #[.int .i64 gc.op,.int .i64 gc.n,.slice A' gc.k.len c'],.int .i64 14] w' (Turns gd w'.heap.size w') by
   rw [hgd]
   refine change_any (K := 47) (F := #[.agg (cells8 Q)]) (enters_of Tryz.func47 (by kernel_rfl) rfl) (st_rule (kO (ansI Q))) w' ?_ gc.k.size 14 gc.op gc.n gc.k A' c' w' rfl st3 (Below.refl _ _) hl' hi'
   intro L p A c base bs w hb hst hi ht hbase hw0 hL
   exact putOnce_any ds Q L p.op p.n p.k A c base bs w hst hi ht hbase)
  have HK1 := hid hk1
  have HR0 := hid hr0
  have HR1 := hid hr1
  have HR2 := hid hr2
  have HB := hid hb
  have HL := hid hl
  have HST4 := hid st4
  have HSM := hid hsm
  have HWR := hid (show w.heap.size + 1 + 1 + 1 < wo.heap.size from hr2.size)
  obtain ⟨ws,hws⟩ : ∃ ws,ws = wo.alloc (Obj.cells #[Value.int .i64 p.op,Value.int .i64 p.n,Value.slice A1 p.k.len c1] 30) := ⟨_,rfl⟩
  have hbs : Below wo.heap.size wo ws := by rw [hws]; exact (Below.refl _ _).alloc (Nat.le_refl _) _
  have hrb : Row ws wo.heap.size 30 #[Value.int .i64 p.op,Value.int .i64 p.n,Value.slice A1 p.k.len c1] := by rw [hws]; exact Row.fresh _ _ _
  have hwsz : wo.heap.size < ws.heap.size := by rw [hws]; simp
  have HHB := hid hrb
  have HHS := hid hbs
  have HHZ := hid hwsz
  obtain ⟨q0,q1,q2⟩ := hr0.cells3 rfl rfl rfl
  clear hr0 hr1 hr2 hb hl st1 st2 st3 st4 hga hgb hgc hgd hsm HF hk1 hstg hbs hrb hwsz
  have HS := hid (And.intro s0 (And.intro s1 (And.intro s2 (And.intro s3 s4))))
  clear s0 s1 s2 s3 s4
  go_upto_region 3 with fail
  rw [<- hws]
  clear hws q0 q1 q2
  go_wp2_with fail
  go_loopw [17] (fun i wr => ∃ j A c,j <= 4 /\ i = .int .i64 (j : Nat) /\ Row wr (w.heap.size + 1) 30 #[Value.int .i64 (stg j).op,Value.int .i64 (stg j).n,Value.slice A (stg j).k.len c] /\ Row wr wo.heap.size 30 #[Value.int .i64 p.op,Value.int .i64 p.n,Value.slice A1 p.k.len c1] /\ (Row wr (w.heap.size + 1 + 1) 30 #[Value.int .i64 0,Value.int .i64 0,Value.slice none 0 0] /\ Row wr (w.heap.size + 1 + 1 + 1) 72 #[Value.func (.func 44) #[] #[],Value.func (.func 45) #[] #[],Value.func (.func 46) #[.agg #[Value.bool (Q 0),Value.bool (Q 1),Value.bool (Q 2),Value.bool (Q 3),Value.bool (Q 4),Value.bool (Q 5),Value.bool (Q 6),Value.bool (Q 7)]] #[],Value.func (.func 47) #[.agg #[Value.bool (Q 0),Value.bool (Q 1),Value.bool (Q 2),Value.bool (Q 3),Value.bool (Q 4),Value.bool (Q 5),Value.bool (Q 6),Value.bool (Q 7)]] #[]]) /\ Lies wr 0 wr.heap.size A 0 (stg j).k /\ Hid (I64 (stg j).op /\ I64 (stg j).n) /\ (0 < j -> ∃ bs,Tree wr wo.heap.size (.slice A (stg j).k.len c) (stg j).k bs) /\ Lies wr L0 B0 A1 0 p.k /\ Below w.heap.size w wr /\ wo.heap.size < wr.heap.size) (fun i _ => 4 - (intOf i).toNat)
  case atStart =>
   exact ⟨0,A1,c1,by omega,rfl,by rw [HS.out.1]; exact HR0.out.below HHS.out HR0.out.size,HHB.out,⟨HR1.out.below HHS.out HR1.out.size,HR2.out.below HHS.out HR2.out.size⟩,by rw [HS.out.1]; exact (HL.out.below (HHS.out.mono HB0.out)).mono_ (Nat.zero_le _) (Nat.le_trans HB0.out HHS.out.size),by rw [HS.out.1]; exact HI1,fun h => absurd h (by omega),HL.out.below (HHS.out.mono HB0.out),HB.out.trans (HHS.out.mono HB.out.size),HHZ.out⟩
  case round =>
   clear HR0 HR1 HR2 HHB HHS HHZ HB HL HI1
   obtain ⟨j,A2,cc,hj,rfl,hr0,hrb,⟨hr1,hr2⟩,hl2,HI2,htr,hl1,hbi,hwi⟩ := hrel
   by_cases hlt : j < 4
   ·rcases (show j = 0 ∨ j = 1 ∨ j = 2 ∨ j = 3 by omega) with rfl | rfl | rfl | rfl
    ·rw [HS.out.1] at hr0 hl2 HI2
     have HR0 := hid (show Row wr (w.heap.size + 1) 30 #[Value.int .i64 p.op,Value.int .i64 p.n,Value.slice A2 p.k.len cc] from hr0)
     have HRB := hid hrb
     have HR1 := hid hr1
     have HR2 := hid hr2
     have HL1 := hid hl1
     have HBI := hid hbi
     have HWI := hid hwi
     have HH := hid (HC0.out wr A2 cc hl2 HI2.out)
     obtain ⟨q0,q1,q2⟩ := HR0.out.cells3 rfl rfl rfl
     have z0 := hr2.cell (i := 0) rfl
     clear hr0 hrb hr1 hr2 hl2 hl1 hbi hwi htr HI2 HC0 HC1 HC2 HC3
     go_wp2_with fail
     refine HH.out.mono ?_
     rintro e w5 ⟨A5,c5,b5,rfl,ht5,hb5,hi5⟩
     have HX0 := onR HR0 hb5
     have HXB := onR HRB hb5
     have HX1 := onR HR1 hb5
     have HX2 := onR HR2 hb5
     have HBX := onB HBI hb5
     have HT5 := hid (ht5.lower (base' := wo.heap.size) (Nat.le_of_lt HWI.out))
     have HL5 := hid (HL1.out.below (hb5.mono (Nat.le_of_lt (Nat.lt_of_le_of_lt HB0.out HWI.out))))
     have HW5 := hid (Nat.lt_of_lt_of_le HWI.out hb5.size)
     have HI5 := hid hi5
     obtain ⟨c0,c1,c2⟩ := HX0.out.cells3 rfl rfl rfl
     obtain ⟨f0,f1,f2⟩ := HX0.out.frees3
     clear ht5 hb5 hi5 HH q0 q1 q2 z0 HR0 HRB HR1 HR2 HBI HL1 HWI
     go_wp2_with fail
     go_roundw
     case rel =>
      have hx := HWR.out
      have hap : w.heap.size + 1 < L0 ∨ B0 <= w.heap.size + 1 := by rcases HLB.out with h | h <;> omega
      have ht := ((HT5.out.put (p := ⟨w.heap.size + 1,0,none⟩) (by dsimp only; omega) (.int .i64 ga.op)).put (p := ⟨w.heap.size + 1,1,none⟩) (by dsimp only; omega) (.int .i64 ga.n)).put (p := ⟨w.heap.size + 1,2,none⟩) (by dsimp only; omega) (.slice A5 ga.k.len c5)
      refine ⟨1,A5,c5,by omega,by go_num,by rw [HS.out.2.1]; exact ((HX0.out.put 0 _).put 1 _).put 2 _,((HXB.out.apart (by dsimp only; omega) _).apart (by dsimp only; omega) _).apart (by dsimp only; omega) _,⟨((HX1.out.apart (by dsimp only; omega) _).apart (by dsimp only; omega) _).apart (by dsimp only; omega) _,((HX2.out.apart (by dsimp only; omega) _).apart (by dsimp only; omega) _).apart (by dsimp only; omega) _⟩,by rw [HS.out.2.1]; exact ht.lies0,by rw [HS.out.2.1]; exact HI5,fun _ => by rw [HS.out.2.1]; exact ⟨b5,ht⟩, ?_, ?_,by simpa using HW5.out⟩
      ·exact ((HL5.out.set (p := ⟨w.heap.size + 1,0,none⟩) hap _).set (p := ⟨w.heap.size + 1,1,none⟩) hap _).set (p := ⟨w.heap.size + 1,2,none⟩) hap _
      ·exact ((HBX.out.setCell (p := ⟨w.heap.size + 1,0,none⟩) (by dsimp only; omega) _).setCell (p := ⟨w.heap.size + 1,1,none⟩) (by dsimp only; omega) _).setCell (p := ⟨w.heap.size + 1,2,none⟩) (by dsimp only; omega) _
     case measure => simp [intOf]
    ·rw [HS.out.2.1] at hr0 hl2 HI2
     have HR0 := hid (show Row wr (w.heap.size + 1) 30 #[Value.int .i64 ga.op,Value.int .i64 ga.n,Value.slice A2 ga.k.len cc] from hr0)
     have HRB := hid hrb
     have HR1 := hid hr1
     have HR2 := hid hr2
     have HL1 := hid hl1
     have HBI := hid hbi
     have HWI := hid hwi
     have HH := hid (HC1.out wr A2 cc hl2 HI2.out)
     obtain ⟨q0,q1,q2⟩ := HR0.out.cells3 rfl rfl rfl
     have z0 := hr2.cell (i := 1) rfl
     clear hr0 hrb hr1 hr2 hl2 hl1 hbi hwi htr HI2 HC0 HC1 HC2 HC3
     go_wp2_with fail
     refine HH.out.mono ?_
     rintro e w5 ⟨A5,c5,b5,rfl,ht5,hb5,hi5⟩
     have HX0 := onR HR0 hb5
     have HXB := onR HRB hb5
     have HX1 := onR HR1 hb5
     have HX2 := onR HR2 hb5
     have HBX := onB HBI hb5
     have HT5 := hid (ht5.lower (base' := wo.heap.size) (Nat.le_of_lt HWI.out))
     have HL5 := hid (HL1.out.below (hb5.mono (Nat.le_of_lt (Nat.lt_of_le_of_lt HB0.out HWI.out))))
     have HW5 := hid (Nat.lt_of_lt_of_le HWI.out hb5.size)
     have HI5 := hid hi5
     obtain ⟨c0,c1,c2⟩ := HX0.out.cells3 rfl rfl rfl
     obtain ⟨f0,f1,f2⟩ := HX0.out.frees3
     clear ht5 hb5 hi5 HH q0 q1 q2 z0 HR0 HRB HR1 HR2 HBI HL1 HWI
     go_wp2_with fail
     go_roundw
     case rel =>
      have hx := HWR.out
      have hap : w.heap.size + 1 < L0 ∨ B0 <= w.heap.size + 1 := by rcases HLB.out with h | h <;> omega
      have ht := ((HT5.out.put (p := ⟨w.heap.size + 1,0,none⟩) (by dsimp only; omega) (.int .i64 gb.op)).put (p := ⟨w.heap.size + 1,1,none⟩) (by dsimp only; omega) (.int .i64 gb.n)).put (p := ⟨w.heap.size + 1,2,none⟩) (by dsimp only; omega) (.slice A5 gb.k.len c5)
      refine ⟨2,A5,c5,by omega,by go_num,by rw [HS.out.2.2.1]; exact ((HX0.out.put 0 _).put 1 _).put 2 _,((HXB.out.apart (by dsimp only; omega) _).apart (by dsimp only; omega) _).apart (by dsimp only; omega) _,⟨((HX1.out.apart (by dsimp only; omega) _).apart (by dsimp only; omega) _).apart (by dsimp only; omega) _,((HX2.out.apart (by dsimp only; omega) _).apart (by dsimp only; omega) _).apart (by dsimp only; omega) _⟩,by rw [HS.out.2.2.1]; exact ht.lies0,by rw [HS.out.2.2.1]; exact HI5,fun _ => by rw [HS.out.2.2.1]; exact ⟨b5,ht⟩, ?_, ?_,by simpa using HW5.out⟩
      ·exact ((HL5.out.set (p := ⟨w.heap.size + 1,0,none⟩) hap _).set (p := ⟨w.heap.size + 1,1,none⟩) hap _).set (p := ⟨w.heap.size + 1,2,none⟩) hap _
      ·exact ((HBX.out.setCell (p := ⟨w.heap.size + 1,0,none⟩) (by dsimp only; omega) _).setCell (p := ⟨w.heap.size + 1,1,none⟩) (by dsimp only; omega) _).setCell (p := ⟨w.heap.size + 1,2,none⟩) (by dsimp only; omega) _
     case measure => simp [intOf]
    ·rw [HS.out.2.2.1] at hr0 hl2 HI2
     have HR0 := hid (show Row wr (w.heap.size + 1) 30 #[Value.int .i64 gb.op,Value.int .i64 gb.n,Value.slice A2 gb.k.len cc] from hr0)
     have HRB := hid hrb
     have HR1 := hid hr1
     have HR2 := hid hr2
     have HL1 := hid hl1
     have HBI := hid hbi
     have HWI := hid hwi
     have HH := hid (HC2.out wr A2 cc hl2 HI2.out)
     obtain ⟨q0,q1,q2⟩ := HR0.out.cells3 rfl rfl rfl
     have z0 := hr2.cell (i := 2) rfl
     clear hr0 hrb hr1 hr2 hl2 hl1 hbi hwi htr HI2 HC0 HC1 HC2 HC3
     go_wp2_with fail
     refine HH.out.mono ?_
     rintro e w5 ⟨A5,c5,b5,rfl,ht5,hb5,hi5⟩
     have HX0 := onR HR0 hb5
     have HXB := onR HRB hb5
     have HX1 := onR HR1 hb5
     have HX2 := onR HR2 hb5
     have HBX := onB HBI hb5
     have HT5 := hid (ht5.lower (base' := wo.heap.size) (Nat.le_of_lt HWI.out))
     have HL5 := hid (HL1.out.below (hb5.mono (Nat.le_of_lt (Nat.lt_of_le_of_lt HB0.out HWI.out))))
     have HW5 := hid (Nat.lt_of_lt_of_le HWI.out hb5.size)
     have HI5 := hid hi5
     obtain ⟨c0,c1,c2⟩ := HX0.out.cells3 rfl rfl rfl
     obtain ⟨f0,f1,f2⟩ := HX0.out.frees3
     clear ht5 hb5 hi5 HH q0 q1 q2 z0 HR0 HRB HR1 HR2 HBI HL1 HWI
     go_wp2_with fail
     go_roundw
     case rel =>
      have hx := HWR.out
      have hap : w.heap.size + 1 < L0 ∨ B0 <= w.heap.size + 1 := by rcases HLB.out with h | h <;> omega
      have ht := ((HT5.out.put (p := ⟨w.heap.size + 1,0,none⟩) (by dsimp only; omega) (.int .i64 gc.op)).put (p := ⟨w.heap.size + 1,1,none⟩) (by dsimp only; omega) (.int .i64 gc.n)).put (p := ⟨w.heap.size + 1,2,none⟩) (by dsimp only; omega) (.slice A5 gc.k.len c5)
      refine ⟨3,A5,c5,by omega,by go_num,by rw [HS.out.2.2.2.1]; exact ((HX0.out.put 0 _).put 1 _).put 2 _,((HXB.out.apart (by dsimp only; omega) _).apart (by dsimp only; omega) _).apart (by dsimp only; omega) _,⟨((HX1.out.apart (by dsimp only; omega) _).apart (by dsimp only; omega) _).apart (by dsimp only; omega) _,((HX2.out.apart (by dsimp only; omega) _).apart (by dsimp only; omega) _).apart (by dsimp only; omega) _⟩,by rw [HS.out.2.2.2.1]; exact ht.lies0,by rw [HS.out.2.2.2.1]; exact HI5,fun _ => by rw [HS.out.2.2.2.1]; exact ⟨b5,ht⟩, ?_, ?_,by simpa using HW5.out⟩
      ·exact ((HL5.out.set (p := ⟨w.heap.size + 1,0,none⟩) hap _).set (p := ⟨w.heap.size + 1,1,none⟩) hap _).set (p := ⟨w.heap.size + 1,2,none⟩) hap _
      ·exact ((HBX.out.setCell (p := ⟨w.heap.size + 1,0,none⟩) (by dsimp only; omega) _).setCell (p := ⟨w.heap.size + 1,1,none⟩) (by dsimp only; omega) _).setCell (p := ⟨w.heap.size + 1,2,none⟩) (by dsimp only; omega) _
     case measure => simp [intOf]
    ·rw [HS.out.2.2.2.1] at hr0 hl2 HI2
     have HR0 := hid (show Row wr (w.heap.size + 1) 30 #[Value.int .i64 gc.op,Value.int .i64 gc.n,Value.slice A2 gc.k.len cc] from hr0)
     have HRB := hid hrb
     have HR1 := hid hr1
     have HR2 := hid hr2
     have HL1 := hid hl1
     have HBI := hid hbi
     have HWI := hid hwi
     have HH := hid (HC3.out wr A2 cc hl2 HI2.out)
     obtain ⟨q0,q1,q2⟩ := HR0.out.cells3 rfl rfl rfl
     have z0 := hr2.cell (i := 3) rfl
     clear hr0 hrb hr1 hr2 hl2 hl1 hbi hwi htr HI2 HC0 HC1 HC2 HC3
     go_wp2_with fail
     refine HH.out.mono ?_
     rintro e w5 ⟨A5,c5,b5,rfl,ht5,hb5,hi5⟩
     have HX0 := onR HR0 hb5
     have HXB := onR HRB hb5
     have HX1 := onR HR1 hb5
     have HX2 := onR HR2 hb5
     have HBX := onB HBI hb5
     have HT5 := hid (ht5.lower (base' := wo.heap.size) (Nat.le_of_lt HWI.out))
     have HL5 := hid (HL1.out.below (hb5.mono (Nat.le_of_lt (Nat.lt_of_le_of_lt HB0.out HWI.out))))
     have HW5 := hid (Nat.lt_of_lt_of_le HWI.out hb5.size)
     have HI5 := hid hi5
     obtain ⟨c0,c1,c2⟩ := HX0.out.cells3 rfl rfl rfl
     obtain ⟨f0,f1,f2⟩ := HX0.out.frees3
     clear ht5 hb5 hi5 HH q0 q1 q2 z0 HR0 HRB HR1 HR2 HBI HL1 HWI
     go_wp2_with fail
     go_roundw
     case rel =>
      have hx := HWR.out
      have hap : w.heap.size + 1 < L0 ∨ B0 <= w.heap.size + 1 := by rcases HLB.out with h | h <;> omega
      have ht := ((HT5.out.put (p := ⟨w.heap.size + 1,0,none⟩) (by dsimp only; omega) (.int .i64 gd.op)).put (p := ⟨w.heap.size + 1,1,none⟩) (by dsimp only; omega) (.int .i64 gd.n)).put (p := ⟨w.heap.size + 1,2,none⟩) (by dsimp only; omega) (.slice A5 gd.k.len c5)
      refine ⟨4,A5,c5,by omega,by go_num,by rw [HS.out.2.2.2.2]; exact ((HX0.out.put 0 _).put 1 _).put 2 _,((HXB.out.apart (by dsimp only; omega) _).apart (by dsimp only; omega) _).apart (by dsimp only; omega) _,⟨((HX1.out.apart (by dsimp only; omega) _).apart (by dsimp only; omega) _).apart (by dsimp only; omega) _,((HX2.out.apart (by dsimp only; omega) _).apart (by dsimp only; omega) _).apart (by dsimp only; omega) _⟩,by rw [HS.out.2.2.2.2]; exact ht.lies0,by rw [HS.out.2.2.2.2]; exact HI5,fun _ => by rw [HS.out.2.2.2.2]; exact ⟨b5,ht⟩, ?_, ?_,by simpa using HW5.out⟩
      ·exact ((HL5.out.set (p := ⟨w.heap.size + 1,0,none⟩) hap _).set (p := ⟨w.heap.size + 1,1,none⟩) hap _).set (p := ⟨w.heap.size + 1,2,none⟩) hap _
      ·exact ((HBX.out.setCell (p := ⟨w.heap.size + 1,0,none⟩) (by dsimp only; omega) _).setCell (p := ⟨w.heap.size + 1,1,none⟩) (by dsimp only; omega) _).setCell (p := ⟨w.heap.size + 1,2,none⟩) (by dsimp only; omega) _
     case measure => simp [intOf]
   ·obtain rfl : j = 4 := by omega
    rw [HS.out.2.2.2.2] at hr0 hl2 HI2 htr
    obtain ⟨bs,ht⟩ := htr (by omega)
    have HH := hid (show Calls Tryz.prog 49 #[.agg #[.int .i64 gd.op,.int .i64 gd.n,.slice A2 gd.k.len cc],.agg #[.int .i64 p.op,.int .i64 p.n,.slice A1 p.k.len c1]] wr (Gives (.bool sm) wr) by
     rw [HSM.out]
     exact implSame_r gd.op gd.n p.op p.n gd.k p.k A2 A1 cc c1 wr hl2 (hl1.mono_ (Nat.zero_le _) (Nat.le_of_lt (Nat.lt_of_le_of_lt HB0.out hwi))) 0 wr.heap.size hl2 (Nat.le_refl _) (RowsIf.small HST4.out.small) ht.le.1 ht.le.2 HK1.out.1 HK1.out.2 (by have := HST4.out.size; omega))
    have HR0 := hid hr0
    have HR1 := hid hr1
    have HR2 := hid hr2
    have HT := hid ht
    have HBI := hid hbi
    have HWI := hid hwi
    have HI4 := hid HI2.out
    obtain ⟨q0,q1,q2⟩ := hr0.cells3 rfl rfl rfl
    obtain ⟨n0,n1,n2⟩ := hrb.cells3 rfl rfl rfl
    clear hr0 hrb hr1 hr2 hl2 hl1 ht htr hbi hwi hlt hj HI2 HC0 HC1 HC2 HC3
    go_wp2_with fail
    refine HH.out.mono ?_
    rintro e w6 ⟨rfl,hb6⟩
    have HX0 := onR HR0 hb6
    have HX1 := onR HR1 hb6
    have HX2 := onR HR2 hb6
    have HT6 := hid (HT.out.over hb6)
    have HBW := onB HBI hb6
    have HW6 := hid (Nat.lt_of_lt_of_le HWI.out hb6.size)
    clear hb6 HH q0 q1 q2 n0 n1 n2 HR0 HR1 HR2 HT HBI HWI
    obtain ⟨q0,q1,q2⟩ := HX0.out.cells3 rfl rfl rfl
    cases sm with
    | true =>
     have HGE := hid (HYES.out rfl)
     have HRR := HX1
     have HB7w := hid (Below.refl w6.heap.size w6)
     have hwr := HWR.out
     obtain ⟨bz,htz,hap⟩ := (show ∃ bz,Tree w6 w.heap.size (.slice A2 gd.k.len cc) gd.k bz /\ w.heap.size + 1 + 1 ∉ bz from ⟨bs,HT6.out.lower (by omega),fun hz => by have h1 := (HT6.out.lt _ hz).1; omega⟩)
     obtain ⟨⟨c0,c1,c2⟩,⟨f0,f1,f2⟩,⟨r0,r1,r2⟩,hbz,htz2⟩ := box3 (HRR.out.below HB7w.out HRR.out.size) (HBW.out) (by omega) (gd.op) (gd.n) (A2) (gd.k.len) (cc) htz hap
     have HBZ := hid hbz
     have HTZ := hid htz2
     clear hbz htz2 htz hap
     go_wp2_with fail
     refine bodyPost_ret (v := .agg #[.int .i64 gd.op,.int .i64 gd.n,.slice A2 gd.k.len cc]) ?_ rfl (by rw [HGE.out]; exact ⟨A2,cc,bz,rfl,HTZ.out,HBZ.out,HI4.out⟩)
     simp [results,Tryz.f24,go_sem,r0,r1,r2]
    | false =>
     have HNN := hid (HNO.out rfl)
     have hwr := HWR.out
     go_wp2_with fail
     go_roundg gd.k.size
     case measure => exact HNN.out.2
     case rel =>
      exact ⟨f - 1,gd,A2,cc,rfl,by have := HNN.out.2; omega,HST4,hid HNN.out.1,HX0.out,⟨HX1.out,HX2.out⟩,⟨wo.heap.size,w6.heap.size,.inr hwr,Nat.le_refl _,HT6.out.lies fun z hz => (HT6.out.lt z hz).2⟩,HT6.out.le,HI4,HBW.out⟩
end Go.Proofs.YtmnhoeliofojnaaGreatDoor

namespace Go.Proofs.YtmnhoeliofojnaaGreatDoor
open Go.RowKit Go.Shelf
open Go.Lib (hid)
set_option maxRecDepth 100000
set_option maxHeartbeats 4000000 in
theorem specTidy_any (ds : List De) (DA : Option Addr) (DC : Nat) (hdz : sizeD ds <= 1048576) (hnm : ∀ d ∈ ds,inVar d.nm = true) (op n : Int) (k : Fo) (A : Option Addr) (c : Nat) (w : World) (hst : St (libT ds) 14 ⟨op,n,k⟩) (hd : LiesD w 0 w.heap.size DA ds) (hl : Lies w 0 w.heap.size A 0 k) (hi : I64 op /\ I64 n) :
  Calls Tryz.prog 18 #[.slice DA ds.length DC,.agg #[.int .i64 op,.int .i64 n,.slice A k.len c]] w (Turns (tidyN (pureS ds) (ansS ds) (k.size + 1) ⟨op,n,k⟩) w.heap.size w) := by
 obtain ⟨hb,r0,r1⟩ := two_boxes w 30 30 #[Value.int .i64 op,Value.int .i64 n,Value.slice A k.len c] #[.int .i64 0,.int .i64 0,.slice none 0 0]
 obtain ⟨W,hW⟩ : ∃ W,W = (w.alloc (Obj.cells #[Value.int .i64 op,Value.int .i64 n,Value.slice A k.len c] 30)).alloc (Obj.cells #[.int .i64 0,.int .i64 0,.slice none 0 0] 30) := ⟨_,rfl⟩
 rw [<- hW] at hb r0 r1
 obtain ⟨GP,hGP⟩ : ∃ GP,GP = tidyN (pureS ds) (ansS ds) (k.size + 1) ⟨op,n,k⟩ := ⟨_,rfl⟩
 rw [<- hGP]
 have HGP := hid hGP
 have HB0 := hid hb
 have HR0 := hid r0
 have HR1 := hid r1
 have HST := hid hst
 have HL := hid ((hl.below hb).mono_ (Nat.le_refl _) hb.size)
 have HI := hid hi
 have HD := hid (fun (w' : World) (h : Below w.heap.size w w') => hd.up h)
 have HDZ := hid hdz
 have HNM := hid hnm
 clear hb r0 r1 hst hl hi hd hdz hnm hGP
 go_enter Tryz.func18,Tryz.ntmps18
 go_upto_region 1 with fail
 rw [<- hW]
 clear hW
 go_loopg [] k.size (fun gk wr => ∃ f p A c,gk = p.k.size /\ p.k.size <= f /\ Hid (St (libT ds) 14 p) /\ Hid (GP = tidyN (pureS ds) (ansS ds) (f + 1) p) /\ Row wr w.heap.size 30 #[.int .i64 p.op,.int .i64 p.n,.slice A p.k.len c] /\ Row wr (w.heap.size + 1) 30 #[.int .i64 0,.int .i64 0,.slice none 0 0] /\ Lies wr 0 wr.heap.size A 0 p.k /\ Hid (I64 p.op /\ I64 p.n) /\ Below w.heap.size w wr)
 case atStart => exact ⟨k.size,⟨op,n,k⟩,A,c,rfl,Nat.le_refl _,HST,HGP,HR0.out,HR1.out,HL.out,HI,HB0.out⟩
 case round =>
  clear HST HGP HR0 HR1 HL HI HB0
  obtain ⟨f,p,A1,c1,rfl,hpf,HS0,HF,hr0,hr1,hl,HI1,hb⟩ := hrel
  obtain ⟨st1,st2,st3,st4⟩ := tidy1_st (pureS ds) (ansS ds) HS0.out
  have hless := tidy1_less (pureS ds) (ansS ds) HS0.out
  obtain ⟨ga,hga⟩ : ∃ ga,ga = chgN gFold 14 p := ⟨_,rfl⟩
  obtain ⟨gb,hgb⟩ : ∃ gb,gb = chgN gAtoms 14 ga := ⟨_,rfl⟩
  obtain ⟨gc,hgc⟩ : ∃ gc,gc = chgN (gDrop (pureS ds)) 14 gb := ⟨_,rfl⟩
  obtain ⟨gd,hgd⟩ : ∃ gd,gd = chgN (gOnce (ansS ds)) 14 gc := ⟨_,rfl⟩
  have e1 : tidy1 (pureS ds) (ansS ds) p = gd := by rw [hgd,hgc,hgb,hga]; rfl
  rw [e1] at hless st4
  rw [<- hga] at st1 st2 st3
  rw [<- hgb] at st2 st3
  rw [<- hgc] at st3
  obtain ⟨sm,hsm⟩ : ∃ sm,sm = sameQ gd p := ⟨_,rfl⟩
  have HYES := hid (show sm = true -> GP = gd from fun h => by
   rw [HF.out,tidyN_stop (by rw [e1, <- hsm]; exact h),e1])
  have HNO := hid (show sm = false -> GP = tidyN (pureS ds) (ansS ds) (f - 1 + 1) gd /\ gd.k.size < p.k.size from fun h => by
   have h2 : gd.k.size < p.k.size := by
    rcases hless with h9 | h9
    ·rw [h9,sameQ_refl] at hsm; rw [hsm] at h; cases h
    ·exact h9
   refine ⟨?_,h2⟩
   rw [HF.out,tidyN_on (by rw [e1, <- hsm]; exact h),e1,Nat.sub_add_cancel (by omega)])
  clear hless e1
  have HC1 := hid (show Calls Tryz.prog 34 #[.agg #[.int .i64 p.op,.int .i64 p.n,.slice A1 p.k.len c1]] wr (Turns ga wr.heap.size wr) by
   rw [hga]
   exact specFold_any (libT_local ds) (fun _ _ _ h => libT_form h) libT_num p.k.size 14 p.op p.n p.k A1 c1 wr rfl HS0.out hl HI1.out)
  have HC2 := hid (fun (w' : World) (A' : Option Addr) (c' : Nat) (hl' : Lies w' 0 w'.heap.size A' 0 ga.k) (hi' : I64 ga.op /\ I64 ga.n) => show Calls Tryz.prog 33 #[.agg #[.int .i64 ga.op,.int .i64 ga.n,.slice A' ga.k.len c']] w' (Turns gb w'.heap.size w') by
   rw [hgb]
   exact specAtoms_any (libT_local ds) ga.k.size 14 ga.op ga.n ga.k A' c' w' rfl st1 hl' hi')
  have HC3 := hid (fun (w' : World) (A' : Option Addr) (c' : Nat) (hb' : Below w.heap.size w w') (hl' : Lies w' 0 w'.heap.size A' 0 gb.k) (hi' : I64 gb.op /\ I64 gb.n) => show Calls Tryz.prog 32 #[.slice DA ds.length DC,.agg #[.int .i64 gb.op,.int .i64 gb.n,.slice A' gb.k.len c']] w' (Turns gc w'.heap.size w') by
   rw [hgc]
   exact specDrop_any (libT_local ds) ds DA DC HDZ.out HNM.out gb.k.size 14 gb.op gb.n gb.k A' c' w' rfl st2 (HD.out w' hb') hl' hi')
  have HC4 := hid (fun (w' : World) (A' : Option Addr) (c' : Nat) (hb' : Below w.heap.size w w') (hl' : Lies w' 0 w'.heap.size A' 0 gc.k) (hi' : I64 gc.op /\ I64 gc.n) => show Calls Tryz.prog 31 #[.slice DA ds.length DC,.agg #[.int .i64 gc.op,.int .i64 gc.n,.slice A' gc.k.len c'],.int .i64 14] w' (Turns gd w'.heap.size w') by
   rw [hgd]
   exact specOnce_any ds DA DC HDZ.out HNM.out gc.k.size 14 gc.op gc.n gc.k A' c' w' rfl st3 (HD.out w' hb') hl' hi')
  have HC5 := hid (fun (w' : World) (A' : Option Addr) (c' : Nat) (hl' : Lies w' 0 w'.heap.size A' 0 gd.k) (hl1' : Lies w' 0 w'.heap.size A1 0 p.k) => show Calls Tryz.prog 35 #[.agg #[.int .i64 gd.op,.int .i64 gd.n,.slice A' gd.k.len c'],.agg #[.int .i64 p.op,.int .i64 p.n,.slice A1 p.k.len c1]] w' (Gives (.bool sm) w') by
   rw [hsm]
   exact specSame_any gd.k.size gd.op gd.n p.op p.n gd.k p.k A' A1 c' c1 w' rfl hl' hl1' (by have := st4.size; omega) (by have := HS0.out.size; omega))
  have HR0 := hid hr0
  have HR1 := hid hr1
  have HB := hid hb
  have HL := hid hl
  have HST4 := hid st4
  obtain ⟨q0,q1,q2⟩ := hr0.cells3 rfl rfl rfl
  clear hr0 hr1 hb hl st1 st2 st3 st4 hga hgb hgc hgd hsm HF HI1
  go_wp2_with fail
  refine HC1.out.mono ?_
  rintro e w1 ⟨A2,c2,b2,rfl,ht2,hb2,hi2⟩
  have HH2 := hid (HC2.out w1 A2 c2 ht2.lies0 hi2)
  have HB2 := hid hb2
  clear ht2 hb2 hi2 HC1 HC2 q0 q1 q2
  go_wp2_with fail
  refine HH2.out.mono ?_
  rintro e w2 ⟨A3,c3,b3,rfl,ht3,hb3,hi3⟩
  have HB3 := onB HB2 hb3
  have HH3 := hid (HC3.out w2 A3 c3 (HB.out.trans (HB3.out.mono HB.out.size)) ht3.lies0 hi3)
  clear ht3 hb3 hi3 HH2 HC3 HB2
  go_wp2_with fail
  refine HH3.out.mono ?_
  rintro e w3 ⟨A4,c4,b4,rfl,ht4,hb4,hi4⟩
  have HB4 := onB HB3 hb4
  have HH4 := hid (HC4.out w3 A4 c4 (HB.out.trans (HB4.out.mono HB.out.size)) ht4.lies0 hi4)
  clear ht4 hb4 hi4 HH3 HC4 HB3
  go_wp2_with fail
  refine HH4.out.mono ?_
  rintro e w4 ⟨A5,c5,b5,rfl,ht5,hb5,hi5⟩
  have HB5 := onB HB4 hb5
  have HT5 := hid (ht5.lower (base' := w.heap.size) (Nat.le_trans HB.out.size HB4.out.size))
  have HT5b := hid ht5
  have HB45 := hid HB4.out.size
  have HI5 := hid hi5
  clear ht5 hb5 hi5 HH4 HB4
  go_upto_region 2 with fail
  obtain ⟨w5,hw5⟩ : ∃ w5,w5 = w4.alloc (Obj.cells #[Value.int .i64 gd.op,Value.int .i64 gd.n,Value.slice A5 gd.k.len c5] 30) := ⟨_,rfl⟩
  rw [<- hw5]
  have hbx : Below w4.heap.size w4 w5 := by rw [hw5]; exact (Below.refl _ _).alloc (Nat.le_refl _) _
  have hrn : Row w5 w4.heap.size 30 #[Value.int .i64 gd.op,Value.int .i64 gd.n,Value.slice A5 gd.k.len c5] := by rw [hw5]; exact Row.fresh _ _ _
  have HB6 := onB HB5 hbx
  have HRN := hid hrn
  have HT6 := hid (HT5.out.over hbx)
  have HT6b := hid (HT5b.out.over hbx)
  have HX0 := onR HR0 HB6.out
  have HX1 := onR HR1 HB6.out
  have HH5 := hid (HC5.out w5 A5 c5 HT6.out.lies0 ((HL.out.below HB6.out).mono_ (Nat.le_refl _) HB6.out.size))
  obtain ⟨n0,n1,n2⟩ := hrn.cells3 rfl rfl rfl
  obtain ⟨q0,q1,q2⟩ := HX0.out.cells3 rfl rfl rfl
  clear hbx hrn hw5 HC5 HT5 HT5b HB5
  go_wp2_with fail
  refine HH5.out.mono ?_
  rintro e w6 ⟨rfl,hb6⟩
  have HB7 := onB HB6 hb6
  have HRN7 := onR HRN hb6
  have HX07 := onR HX0 hb6
  have HX17 := onR HX1 hb6
  have HT7 := hid (HT6.out.over hb6)
  have HT7b := hid (HT6b.out.over hb6)
  obtain ⟨m0,m1,m2⟩ := HRN7.out.cells3 rfl rfl rfl
  clear hb6 HH5 n0 n1 n2 q0 q1 q2 HB6 HRN HX0 HX1 HT6 HT6b
  have hwr : w.heap.size + 1 < wr.heap.size := HR1.out.size
  cases sm with
  | true =>
   have HGE := hid (HYES.out rfl)
   have HBW := hid (HB.out.trans (HB7.out.mono HB.out.size))
   have HB0 := hid (Below.refl w.heap.size w)
   have HRR := HX17
   have HB7w := hid (Below.refl w6.heap.size w6)
   obtain ⟨bz,htz,hap⟩ := (show ∃ bz,Tree w6 w.heap.size (.slice A5 gd.k.len c5) gd.k bz /\ w.heap.size + 1 ∉ bz from ⟨b5,HT7.out,fun hz => by have h1 := (HT7b.out.lt _ hz).1; have h2 := HB45.out; omega⟩)
   obtain ⟨⟨c0,c1,c2⟩,⟨f0,f1,f2⟩,⟨r0,r1,r2⟩,hbz,htz2⟩ := box3 (HRR.out.below HB7w.out HRR.out.size) (HBW.out) (by omega) (gd.op) (gd.n) (A5) (gd.k.len) (c5) htz hap
   have HBZ := hid hbz
   have HTZ := hid htz2
   clear hbz htz2 htz hap
   go_wp2_with fail
   refine bodyPost_ret (v := .agg #[.int .i64 gd.op,.int .i64 gd.n,.slice A5 gd.k.len c5]) ?_ rfl (by rw [HGE.out]; exact ⟨A5,c5,bz,rfl,HTZ.out,HBZ.out,HI5.out⟩)
   simp [results,Tryz.f18,go_sem,r0,r1,r2]
  | false =>
   obtain ⟨c0,c1,c2⟩ := HX07.out.cells3 rfl rfl rfl
   obtain ⟨f0,f1,f2⟩ := HX07.out.frees3
   have HNN := hid (HNO.out rfl)
   go_wp2_with fail
   go_roundg gd.k.size
   case measure => exact HNN.out.2
   case rel =>
    refine ⟨f - 1,gd,A5,c5,rfl,by have := HNN.out.2; omega,HST4,hid HNN.out.1,((HX07.out.put 0 _).put 1 _).put 2 _,((HX17.out.apart (by simp) _).apart (by simp) _).apart (by simp) _, ?_,HI5, ?_⟩
    ·exact (((HT7b.out.put (p := ⟨w.heap.size,0,none⟩) (by dsimp only; have := HB45.out; omega) _).put (p := ⟨w.heap.size,1,none⟩) (by dsimp only; have := HB45.out; omega) _).put (p := ⟨w.heap.size,2,none⟩) (by dsimp only; have := HB45.out; omega) _).lies0
    ·exact (((HB.out.trans (HB7.out.mono HB.out.size)).setCell (p := ⟨w.heap.size,0,none⟩) (Nat.le_refl _) _).setCell (p := ⟨w.heap.size,1,none⟩) (Nat.le_refl _) _).setCell (p := ⟨w.heap.size,2,none⟩) (Nat.le_refl _) _
end Go.Proofs.YtmnhoeliofojnaaGreatDoor

namespace Go.Proofs.YtmnhoeliofojnaaGreatDoor
open Go.RowKit Go.Shelf
open Go.Lib (hid)
set_option maxRecDepth 100000
def okLib (ds : List De) (p : Nd) : Bool := libOk ds && callsFitB ds p.op p.n p.k
def resTidy (ds : List De) (p : Nd) : Nd := if okLib ds p = true then tidyN (pureS ds) (ansS ds) (p.k.size + 1) p else nd0
theorem resTidy_le (ds : List De) (op n : Int) (k : Fo) : (resTidy ds ⟨op,n,k⟩).k.size <= 1048576 := by
 unfold resTidy
 split
 ·rename_i h
  have h1 : St (libT ds) 14 ⟨op,n,k⟩ := fits_st (Bool.and_eq_true_iff.1 h).2
  have h2 := tidyN_st (pureS ds) (ansS ds) (k.size + 1) h1
  have h3 := h2.size
  show (tidyN (pureS ds) (ansS ds) (k.size + 1) ⟨op,n,k⟩).k.size <= 1048576
  omega
 ·decide
set_option maxHeartbeats 2000000 in
theorem specTidyExpr_any (ds : List De) (DA : Option Addr) (DC : Nat) (op n : Int) (k : Fo) (A : Option Addr) (c : Nat) (w : World) (hd : LiesD w 0 w.heap.size DA ds) (hl : Lies w 0 w.heap.size A 0 k) (hdz : sizeD ds <= 1048576) (hlen : k.len <= maxLen) (hsz : k.size <= 1048576) :
  Calls Tryz.prog 6 #[.slice DA ds.length DC,.agg #[.int .i64 op,.int .i64 n,.slice A k.len c]] w (GivesN (resTidy ds ⟨op,n,k⟩) (okLib ds ⟨op,n,k⟩) w) := by
 obtain ⟨hb,r1,r2⟩ := two_boxes w 30 30 #[Value.int .i64 op,Value.int .i64 n,Value.slice A k.len c] #[.int .i64 0,.int .i64 0,.slice none 0 0]
 obtain ⟨W,hW⟩ : ∃ W,W = (w.alloc (Obj.cells #[Value.int .i64 op,Value.int .i64 n,Value.slice A k.len c] 30)).alloc (Obj.cells #[.int .i64 0,.int .i64 0,.slice none 0 0] 30) := ⟨_,rfl⟩
 rw [<- hW] at hb r1 r2
 have HB0 := hid hb
 have HRB := hid r1
 have HRR := hid r2
 have hds := Nat.le_trans (sizeD_len ds) hdz
 obtain ⟨q0,q1,q2⟩ : _ /\ _ /\ _ := ⟨r1.cell (i := 0) rfl,r1.cell (i := 1) rfl,r1.cell (i := 2) rfl⟩
 have HV := hid (l5Right_any ds DA DC op n k A c W (hd.up hb) (hl.up hb) hdz hlen hsz)
 have HD := hid (hd.up hb)
 have HL := hid (hl.up hb)
 obtain ⟨y,hy⟩ : ∃ y,y = resTidy ds ⟨op,n,k⟩ := ⟨_,rfl⟩
 obtain ⟨ok,hok⟩ : ∃ ok,ok = (libOk ds && callsFitB ds op n k) := ⟨_,rfl⟩
 have hok2 : okLib ds ⟨op,n,k⟩ = ok := hok.symm
 rw [hok2, <- hy]
 rw [<- hok] at HV
 have HY := hid hy
 have HOK := hid hok
 clear hb r1 r2 hd hl hy hok hok2
 go_enter Tryz.func6,Tryz.ntmps6
 go_upto_region 1 with fail
 rw [<- hW]
 clear hW
 go_wp2_with fail
 refine HV.out.mono ?_
 rintro e w1 ⟨rfl,hb1⟩
 have HB1 := onB HB0 hb1
 have HRB1 := onR HRB hb1
 have HRR1 := onR HRR hb1
 have HL1 := hid (HL.out.up hb1)
 have HD1 := hid (HD.out.up hb1)
 clear hb1 HV q0 q1 q2 HB0 HRB HRR HL HD
 cases ok with
 | false =>
  have hyn : y = nd0 := HY.out.trans (by unfold resTidy okLib; rw [<- HOK.out]; rfl)
  subst hyn
  obtain ⟨c0,c1,c2⟩ := HRR1.out.cells3 rfl rfl rfl
  obtain ⟨f0,f1,f2⟩ := HRR1.out.frees3
  have hr3 := ((HRR1.out.put 0 (.int .i64 0)).put 1 (.int .i64 0)).put 2 (.slice none 0 0)
  have r0 := hr3.cell (i := 0) rfl
  have r1 := hr3.cell (i := 1) rfl
  have r2 := hr3.cell (i := 2) rfl
  have hz1 := HRR1.out.size
  have HBC := hid (((HB1.out.setCell (p := ⟨w.heap.size + 1,0,none⟩) (by dsimp only; omega) (.int .i64 0)).setCell (p := ⟨w.heap.size + 1,1,none⟩) (by dsimp only; omega) (.int .i64 0)).setCell (p := ⟨w.heap.size + 1,2,none⟩) (by dsimp only; omega) (.slice none 0 0))
  skip
  clear hr3 hz1
  go_wp2_with fail
  refine bodyPost_ret (v := .tuple #[.agg #[.int .i64 0,.int .i64 0,.slice none 0 0],.bool false]) ?_ rfl (GivesN.zero HBC.out)
  simp [results,Tryz.f6,go_sem,r0,r1,r2]
 | true =>
  obtain ⟨hv,hf⟩ := Bool.and_eq_true_iff.1 HOK.out.symm
  have hst := fits_st hf
  have hii := form_i64 hst.all.1.1
  have hyy : y = tidyN (pureS ds) (ansS ds) (k.size + 1) ⟨op,n,k⟩ := HY.out.trans (by unfold resTidy okLib; rw [<- HOK.out]; rfl)
  have hnm : ∀ d ∈ ds,inVar d.nm = true := fun d hd => (libOk_named hv d hd).1
  have HC := hid (show Calls Tryz.prog 18 #[.slice DA ds.length DC,.agg #[.int .i64 op,.int .i64 n,.slice A k.len c]] w1 (Turns y w1.heap.size w1) by
   rw [hyy]
   exact specTidy_any ds DA DC hdz hnm op n k A c w1 hst HD1.out HL1.out hii)
  obtain ⟨q0,q1,q2⟩ : _ /\ _ /\ _ := ⟨HRB1.out.cell (i := 0) rfl,HRB1.out.cell (i := 1) rfl,HRB1.out.cell (i := 2) rfl⟩
  clear hst hii hyy HY hv hf
  go_wp2_with fail
  refine HC.out.mono ?_
  rintro e w5 ⟨A5,c5,b5,rfl,ht5,hb5,hi5⟩
  have HR5 := onR HRR1 hb5
  have HB5 := onB HB1 hb5
  have HBL := hid HB1.out.size
  have HT5 := hid ht5
  clear ht5 hb5 hi5 q0 q1 q2
  obtain ⟨c0,c1,c2⟩ := HR5.out.cells3 rfl rfl rfl
  obtain ⟨f0,f1,f2⟩ := HR5.out.frees3
  have hr3 := ((HR5.out.put 0 (.int .i64 y.op)).put 1 (.int .i64 y.n)).put 2 (.slice A5 y.k.len c5)
  have r0 := hr3.cell (i := 0) rfl
  have r1 := hr3.cell (i := 1) rfl
  have r2 := hr3.cell (i := 2) rfl
  have hz1 := HR5.out.size
  have HBC := hid (((HB5.out.setCell (p := ⟨w.heap.size + 1,0,none⟩) (by dsimp only; omega) (.int .i64 y.op)).setCell (p := ⟨w.heap.size + 1,1,none⟩) (by dsimp only; omega) (.int .i64 y.n)).setCell (p := ⟨w.heap.size + 1,2,none⟩) (by dsimp only; omega) (.slice A5 y.k.len c5))
  have hz9 := HRR1.out.size
  have HTC := hid ((((HT5.out.put (p := ⟨w.heap.size + 1,0,none⟩) hz9 (.int .i64 y.op)).put (p := ⟨w.heap.size + 1,1,none⟩) hz9 (.int .i64 y.n)).put (p := ⟨w.heap.size + 1,2,none⟩) hz9 (.slice A5 y.k.len c5)).lower HBL.out)
  clear hr3 hz1
  go_wp2_with fail
  refine bodyPost_ret (v := .tuple #[.agg #[.int .i64 y.op,.int .i64 y.n,.slice A5 y.k.len c5],.bool true]) ?_ rfl (⟨A5,c5,b5,rfl,HTC.out,HBC.out⟩)
  simp [results,Tryz.f6,go_sem,r0,r1,r2]
set_option maxHeartbeats 4000000 in
theorem implTidyExpr_any (ds : List De) (DA : Option Addr) (DC : Nat) (op n : Int) (k : Fo) (A : Option Addr) (c : Nat) (LD BD L B : Nat) (w : World) (hd : LiesD w LD BD DA ds) (hBD : BD <= w.heap.size) (hald : AllRows w LD BD) (hl : Lies w L B A 0 k) (hB : B <= w.heap.size) (hal : AllRows w L B) (hdz : sizeD ds <= 1048576) (hk1 : k.len <= c) (hk2 : c <= maxLen) (hsz : k.size <= 1048576) :
  Calls Tryz.prog 9 #[.slice DA ds.length DC,.agg #[.int .i64 op,.int .i64 n,.slice A k.len c]] w (GivesN (resTidy ds ⟨op,n,k⟩) (okLib ds ⟨op,n,k⟩) w) := by
 obtain ⟨hb,r1,r2⟩ := two_boxes w 30 30 #[Value.int .i64 op,Value.int .i64 n,Value.slice A k.len c] #[.int .i64 0,.int .i64 0,.slice none 0 0]
 obtain ⟨W,hW⟩ : ∃ W,W = (w.alloc (Obj.cells #[Value.int .i64 op,Value.int .i64 n,Value.slice A k.len c] 30)).alloc (Obj.cells #[.int .i64 0,.int .i64 0,.slice none 0 0] 30) := ⟨_,rfl⟩
 rw [<- hW] at hb r1 r2
 have HB0 := hid hb
 have HRB := hid r1
 have HRR := hid r2
 have hds := Nat.le_trans (sizeD_len ds) hdz
 obtain ⟨q0,q1,q2⟩ : _ /\ _ /\ _ := ⟨r1.cell (i := 0) rfl,r1.cell (i := 1) rfl,r1.cell (i := 2) rfl⟩
 have HV := hid (implLibValid_any ds DA DC LD BD W (hd.below (hb.mono hBD)) (Nat.le_trans hBD hb.size) (hald.below hb hBD) hdz)
 have HCF := hid (fun W' (hb' : Below w.heap.size w W') => implCallsFit_any ds DA DC op n k A c L B W' ((hd.mono_ (Nat.zero_le _) hBD).up hb') (hl.below (hb'.mono hB)) (Nat.le_trans hB hb'.size) (hal.below hb' hB) hds hk1 hk2 hsz)
 have HPF := hid (fun (hv : libOk ds = true) W' (hb' : Below w.heap.size w W') => pureFuns_any ds DA DC LD BD W' (hd.below (hb'.mono hBD)) (Nat.le_trans hBD hb'.size) (hald.below hb' hBD) hdz hv)
 have HL := hid (fun W' (hb' : Below w.heap.size w W') => (hl.below (hb'.mono hB)).mono_ (Nat.zero_le _) (Nat.le_trans hB hb'.size))
 obtain ⟨y,hy⟩ : ∃ y,y = resTidy ds ⟨op,n,k⟩ := ⟨_,rfl⟩
 rw [<- hy]
 have HY := hid hy
 clear hb r1 r2 hd hl hy hald hal
 go_enter Tryz.func9,Tryz.ntmps9
 go_upto_region 1 with fail
 rw [<- hW]
 clear hW
 go_wp2_with fail
 refine HV.out.mono ?_
 rintro e w1 ⟨rfl,hb1⟩
 have HB1 := onB HB0 hb1
 have HRB1 := onR HRB hb1
 have HRR1 := onR HRR hb1
 clear hb1 HV q0 q1 q2 HB0 HRB HRR
 cases hv : libOk ds with
 | false =>
  have hyn : y = nd0 := HY.out.trans (by unfold resTidy okLib; rw [hv]; rfl)
  have hok2 : okLib ds ⟨op,n,k⟩ = false := by unfold okLib; rw [hv]; rfl
  have HO1 := hid hok2
  subst hyn
  clear hv hok2
  obtain ⟨c0,c1,c2⟩ := HRR1.out.cells3 rfl rfl rfl
  obtain ⟨f0,f1,f2⟩ := HRR1.out.frees3
  have hr3 := ((HRR1.out.put 0 (.int .i64 0)).put 1 (.int .i64 0)).put 2 (.slice none 0 0)
  have r0 := hr3.cell (i := 0) rfl
  have r1 := hr3.cell (i := 1) rfl
  have r2 := hr3.cell (i := 2) rfl
  have hz1 := HRR1.out.size
  have HBC := hid (((HB1.out.setCell (p := ⟨w.heap.size + 1,0,none⟩) (by dsimp only; omega) (.int .i64 0)).setCell (p := ⟨w.heap.size + 1,1,none⟩) (by dsimp only; omega) (.int .i64 0)).setCell (p := ⟨w.heap.size + 1,2,none⟩) (by dsimp only; omega) (.slice none 0 0))
  skip
  clear hr3 hz1
  go_wp2_with fail
  refine bodyPost_ret (v := .tuple #[.agg #[.int .i64 0,.int .i64 0,.slice none 0 0],.bool false]) ?_ rfl (by rw [HO1.out]; exact GivesN.zero HBC.out)
  simp [results,Tryz.f9,go_sem,r0,r1,r2]
 | true =>
  have HVV := hid hv
  clear hv
  obtain ⟨q0,q1,q2⟩ : _ /\ _ /\ _ := ⟨HRB1.out.cell (i := 0) rfl,HRB1.out.cell (i := 1) rfl,HRB1.out.cell (i := 2) rfl⟩
  go_wp2_with fail
  refine (HCF.out _ HB1.out).mono ?_
  rintro e w2 ⟨rfl,hb2⟩
  have HB2 := onB HB1 hb2
  have HRB2 := onR HRB1 hb2
  have HRR2 := onR HRR1 hb2
  clear hb2 q0 q1 q2 HB1 HRB1 HRR1
  obtain ⟨ok,hok⟩ : ∃ ok,ok = callsFitB ds op n k := ⟨_,rfl⟩
  have hok2 : okLib ds ⟨op,n,k⟩ = ok := by unfold okLib; rw [HVV.out,hok]; rfl
  have HOK := hid hok
  rw [<- hok]
  have HO2 := hid hok2
  clear hok hok2
  cases ok with
  | false =>
   have hyn : y = nd0 := HY.out.trans (by unfold resTidy; rw [HO2.out]; rfl)
   subst hyn
   obtain ⟨c0,c1,c2⟩ := HRR2.out.cells3 rfl rfl rfl
   obtain ⟨f0,f1,f2⟩ := HRR2.out.frees3
   have hr3 := ((HRR2.out.put 0 (.int .i64 0)).put 1 (.int .i64 0)).put 2 (.slice none 0 0)
   have r0 := hr3.cell (i := 0) rfl
   have r1 := hr3.cell (i := 1) rfl
   have r2 := hr3.cell (i := 2) rfl
   have hz1 := HRR2.out.size
   have HBC := hid (((HB2.out.setCell (p := ⟨w.heap.size + 1,0,none⟩) (by dsimp only; omega) (.int .i64 0)).setCell (p := ⟨w.heap.size + 1,1,none⟩) (by dsimp only; omega) (.int .i64 0)).setCell (p := ⟨w.heap.size + 1,2,none⟩) (by dsimp only; omega) (.slice none 0 0))
   skip
   clear hr3 hz1
   go_wp2_with fail
   refine bodyPost_ret (v := .tuple #[.agg #[.int .i64 0,.int .i64 0,.slice none 0 0],.bool false]) ?_ rfl (by rw [HO2.out]; exact GivesN.zero HBC.out)
   simp [results,Tryz.f9,go_sem,r0,r1,r2]
  | true =>
   have hst := fits_st HOK.out.symm
   have hii := form_i64 hst.all.1.1
   have hyy : y = tidyN (pureS ds) (ansS ds) (k.size + 1) ⟨op,n,k⟩ := HY.out.trans (by unfold resTidy; rw [HO2.out]; rfl)
   obtain ⟨Q,hQ⟩ : ∃ Q,Q = pureT ds := ⟨_,rfl⟩
   have HPW := hid (fun (w' : World) (h : Below w.heap.size w w') => show Calls Tryz.prog 23 #[.slice DA ds.length DC] w' (Gives (.agg #[.bool (Q 0),.bool (Q 1),.bool (Q 2),.bool (Q 3),.bool (Q 4),.bool (Q 5),.bool (Q 6),.bool (Q 7)]) w') from by rw [hQ]; exact HPF.out HVV.out w' h)
   have HTI := hid (fun (w' : World) (h : Below w.heap.size w w') => show Calls Tryz.prog 24 #[.agg #[.bool (Q 0),.bool (Q 1),.bool (Q 2),.bool (Q 3),.bool (Q 4),.bool (Q 5),.bool (Q 6),.bool (Q 7)],.agg #[.int .i64 op,.int .i64 n,.slice A k.len c]] w' (Turns y w'.heap.size w') from by
    rw [hyy, <- tidyN_same HVV.out _ hst, <- hQ]
    exact tidy_any ds Q op n k A c w' hst (HL.out w' h) hii ⟨hk1,hk2⟩)
   have HSS := hid (fun (w' : World) (h : Row w' w.heap.size 30 #[Value.int .i64 op,Value.int .i64 n,Value.slice A k.len c]) => show w'.cell? ⟨w.heap.size,0,none⟩ = some (.int .i64 op) /\ w'.cell? ⟨w.heap.size,1,none⟩ = some (.int .i64 n) /\ w'.cell? ⟨w.heap.size,2,none⟩ = some (.slice A k.len c) from ⟨h.cell (i := 0) rfl,h.cell (i := 1) rfl,h.cell (i := 2) rfl⟩)
   have HBL := hid HB2.out.size
   have HB2d := hid HB2.out.drew
   have HRB2d := hid HRB2.out.drew
   have HRR2d := hid HRR2.out.drew
   clear hst hii hyy HY HCF HPF HL hQ
   go_upto_region 3 with fail
   have s0 := HSS.out _ HRB2d.out
   go_wp2_with fail
   go_region_held3 (fun w' => w'.cell? ⟨w.heap.size,0,none⟩ = some (.int .i64 op) /\ w'.cell? ⟨w.heap.size,1,none⟩ = some (.int .i64 n) /\ w'.cell? ⟨w.heap.size,2,none⟩ = some (.slice A k.len c))
    (first | with_reducible exact s0 | with_reducible exact s5 | with_reducible exact s6 | with_reducible exact s7 | fail)
    (first
     |(go_at_call 23
       with_reducible refine (HPW.out _ HB2d.out).mono ?_
       rintro e w5 ⟨rfl,hb5⟩
       have HB5 := onB HB2d hb5
       have HRB5 := onR HRB2d hb5
       have HRR5 := onR HRR2d hb5
       have s5 := HSS.out _ HRB5.out
       clear hb5)
     |(go_at_call 24
       with_reducible refine (HTI.out _ HB5.out).mono ?_
       rintro e w6 ⟨A5,c5,b5,rfl,ht6,hb6,hi6⟩
       have HB6 := onB HB5 hb6
       have HRB6 := onR HRB5 hb6
       have HRR6 := onR HRR5 hb6
       have HT6 := hid ht6
       have HBQ := hid HRR5.out.size
       have HBL5 := hid HB5.out.size
       have s6 := HSS.out _ HRB6.out
       have s7 := HSS.out _ (((HRB6.out.apart (p := ⟨w.heap.size + 1,0,none⟩) (by simp) (.int .i64 y.op)).apart (p := ⟨w.heap.size + 1,1,none⟩) (by simp) (.int .i64 y.n)).apart (p := ⟨w.heap.size + 1,2,none⟩) (by simp) (.slice A5 y.k.len c5))
       obtain ⟨c0,c1,c2⟩ := HRR6.out.cells3 rfl rfl rfl
       obtain ⟨f0,f1,f2⟩ := HRR6.out.frees3
       clear hb6 ht6 hi6)
     | fail)
   all_goals
    clear s0 s5 s6 s7
    have hr3 := ((HRR6.out.put 0 (.int .i64 y.op)).put 1 (.int .i64 y.n)).put 2 (.slice A5 y.k.len c5)
    have r0 := hr3.cell (i := 0) rfl
    have r1 := hr3.cell (i := 1) rfl
    have r2 := hr3.cell (i := 2) rfl
    have hz1 := HRR6.out.size
    have hz9 := HBQ.out
    have HBC := hid (((HB6.out.setCell (p := ⟨w.heap.size + 1,0,none⟩) (by dsimp only; omega) (.int .i64 y.op)).setCell (p := ⟨w.heap.size + 1,1,none⟩) (by dsimp only; omega) (.int .i64 y.n)).setCell (p := ⟨w.heap.size + 1,2,none⟩) (by dsimp only; omega) (.slice A5 y.k.len c5))
    have HTC := hid ((((HT6.out.put (p := ⟨w.heap.size + 1,0,none⟩) hz9 (.int .i64 y.op)).put (p := ⟨w.heap.size + 1,1,none⟩) hz9 (.int .i64 y.n)).put (p := ⟨w.heap.size + 1,2,none⟩) hz9 (.slice A5 y.k.len c5)).lower HBL5.out)
    clear hr3 hz1 hz9
    go_wp2_with fail
    refine bodyPost_ret (v := .tuple #[.agg #[.int .i64 y.op,.int .i64 y.n,.slice A5 y.k.len c5],.bool true]) ?_ rfl (by rw [HO2.out]; exact ⟨A5,c5,b5,rfl,HTC.out,HBC.out⟩)
    simp [results,Tryz.f9,go_sem,r0,r1,r2]
end Go.Proofs.YtmnhoeliofojnaaGreatDoor
