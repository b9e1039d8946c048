import Derived.Test.YtmnhoeliofojnaaGreatDoorDropD
import Derived.Test.YtmnhoeliofojnaaGreatDoorNodeM
import Derived.Test.YtmnhoeliofojnaaGreatDoorChgI
import Derived.Test.YtmnhoeliofojnaaGreatDoorPutI
import Derived.Test.YtmnhoeliofojnaaGreatDoorSets
import Derived.Test.YtmnhoeliofojnaaGreatDoorPureS
namespace Go.Proofs.YtmnhoeliofojnaaGreatDoor
open Go.RowKit Go.Shelf
open Go.Lib (hid)
set_option maxRecDepth 100000
set_option maxHeartbeats 4000000 in
theorem dropUnused_any {T : Int -> Int -> Nat -> Prop} (hT : LocalT T) (Q : Nat -> Bool) (L : Nat) (op n : Int) (k : Fo) (A : Option Addr) (c base : Nat) (bs : List Nat) (w : World) (hst : St T L ⟨op,n,k⟩) (hi : I64 op /\ I64 n) (ht : Tree w base (.slice A k.len c) k bs) (hbase : base <= w.heap.size) :
  Calls Tryz.prog 46 #[.agg (cells8 Q),.agg #[.int .i64 op,.int .i64 n,.slice A k.len c],.int .i64 (L : Int)] w (Turns (gDrop (pureW Q) L ⟨op,n,k⟩) base w) := by
 obtain ⟨hb,r0,r1,r2⟩ := three_boxes w 56 30 30 (cells8 Q) #[Value.int .i64 op,Value.int .i64 n,Value.slice A k.len c] #[.int .i64 0,.int .i64 0,.slice none 0 0]
 obtain ⟨W,hW⟩ : ∃ W,W = ((w.alloc (Obj.cells (cells8 Q) 56)).alloc (Obj.cells #[Value.int .i64 op,Value.int .i64 n,Value.slice A k.len c] 30)).alloc (Obj.cells #[.int .i64 0,.int .i64 0,.slice none 0 0] 30) := ⟨_,rfl⟩
 rw [<- hW] at hb r0 r1 r2
 have HB0 := hid hb
 have HRS := hid r0
 have HRB := hid r1
 have HRR := hid r2
 have HT := hid (ht.over hb)
 have HNB := hid (show w.heap.size + 1 + 1 ∉ bs from fun hz => by have := (ht.lt _ hz).2; omega)
 have HLOW := hid (show base <= base /\ base <= W.heap.size from ⟨Nat.le_refl _,Nat.le_trans hbase hb.size⟩)
 have HST := hid hst
 have HTT := hid hT
 have HI := hid hi
 obtain ⟨GP,hGP⟩ : ∃ GP,GP = gDrop (pureW Q) L ⟨op,n,k⟩ := ⟨_,rfl⟩
 rw [<- hGP]
 have HGP := hid hGP
 clear hb r0 r1 r2 ht hst hT hi hGP hbase
 unfold cells8 at hW ⊢
 go_enter Tryz.func46,Tryz.ntmps46
 go_upto_region 1 with fail
 rw [<- hW]
 clear hW
 by_cases h0 : op = 7 ∨ op = 8
 ·obtain ⟨oa,ma,ka,ob,mb,kb,ek,sta,stb,hss⟩ := two_kids HST.out (kids_two (HTT.out.kids HST.out.all.1) (.inr (.inr h0)))
  dsimp only at ek hss
  subst ek
  obtain ⟨g,X,cx,X',cx',b1,b2,cs,hA,_,hg0,hrg,k0,k1,k2,k3,k4,k5,hta,htb,hia,hib,hsa,hsb⟩ := HT.out.two
  subst hA
  have HRG := hid hrg
  have HTA := hid hta
  have HTB := hid htb
  have HTB2 := hid hsb
  have HK := hid (And.intro k0 (And.intro k1 (And.intro k2 (And.intro k3 (And.intro k4 k5)))))
  have HIA := hid (And.intro hia hib)
  have HSAB := hid (And.intro sta stb)
  obtain ⟨OP,hOP⟩ : ∃ OP,OP = op := ⟨_,rfl⟩
  rw [<- hOP] at HRB
  have hS : ∀ w' : World,Below W.heap.size W w' -> w'.cell? ⟨w.heap.size,0,none⟩ = some (.bool (Q 0)) /\ w'.cell? ⟨w.heap.size,1,none⟩ = some (.bool (Q 1)) /\ w'.cell? ⟨w.heap.size,2,none⟩ = some (.bool (Q 2)) /\ w'.cell? ⟨w.heap.size,3,none⟩ = some (.bool (Q 3)) /\ w'.cell? ⟨w.heap.size,4,none⟩ = some (.bool (Q 4)) /\ w'.cell? ⟨w.heap.size,5,none⟩ = some (.bool (Q 5)) /\ w'.cell? ⟨w.heap.size,6,none⟩ = some (.bool (Q 6)) /\ w'.cell? ⟨w.heap.size,7,none⟩ = some (.bool (Q 7)) /\ w'.cell? ⟨w.heap.size + 1,0,none⟩ = some (.int .i64 OP) /\ w'.cell? ⟨w.heap.size + 1,1,none⟩ = some (.int .i64 n) /\ w'.cell? ⟨w.heap.size + 1,2,none⟩ = some (.slice (some ⟨g,0,none⟩) 2 c) /\ w'.cell? ⟨g,0,none⟩ = some (.int .i64 oa) /\ w'.cell? ⟨g,1,none⟩ = some (.int .i64 ma) /\ w'.cell? ⟨g,2,none⟩ = some (.slice X ka.len cx) /\ w'.cell? ⟨g,3,none⟩ = some (.int .i64 ob) /\ w'.cell? ⟨g,4,none⟩ = some (.int .i64 mb) /\ w'.cell? ⟨g,5,none⟩ = some (.slice X' kb.len cx') := by
   intro w' hb'
   have hz1 := HRB.out.size
   have hz2 := HRG.out.size
   have hz3 := HRS.out.size
   obtain ⟨k0,k1,k2,k3,k4,k5⟩ := HK.out
   exact ⟨(hb'.cell (p := ⟨w.heap.size,0,none⟩) hz3).trans (HRS.out.cell (i := 0) rfl),(hb'.cell (p := ⟨w.heap.size,1,none⟩) hz3).trans (HRS.out.cell (i := 1) rfl),(hb'.cell (p := ⟨w.heap.size,2,none⟩) hz3).trans (HRS.out.cell (i := 2) rfl),(hb'.cell (p := ⟨w.heap.size,3,none⟩) hz3).trans (HRS.out.cell (i := 3) rfl),(hb'.cell (p := ⟨w.heap.size,4,none⟩) hz3).trans (HRS.out.cell (i := 4) rfl),(hb'.cell (p := ⟨w.heap.size,5,none⟩) hz3).trans (HRS.out.cell (i := 5) rfl),(hb'.cell (p := ⟨w.heap.size,6,none⟩) hz3).trans (HRS.out.cell (i := 6) rfl),(hb'.cell (p := ⟨w.heap.size,7,none⟩) hz3).trans (HRS.out.cell (i := 7) rfl),(hb'.cell (p := ⟨w.heap.size + 1,0,none⟩) hz1).trans (HRB.out.cell (i := 0) rfl),(hb'.cell (p := ⟨w.heap.size + 1,1,none⟩) hz1).trans (HRB.out.cell (i := 1) rfl),(hb'.cell (p := ⟨w.heap.size + 1,2,none⟩) hz1).trans (HRB.out.cell (i := 2) rfl),(hb'.cell (p := ⟨g,0,none⟩) hz2).trans (HRG.out.cell k0),(hb'.cell (p := ⟨g,1,none⟩) hz2).trans (HRG.out.cell k1),(hb'.cell (p := ⟨g,2,none⟩) hz2).trans (HRG.out.cell k2),(hb'.cell (p := ⟨g,3,none⟩) hz2).trans (HRG.out.cell k3),(hb'.cell (p := ⟨g,4,none⟩) hz2).trans (HRG.out.cell k4),(hb'.cell (p := ⟨g,5,none⟩) hz2).trans (HRG.out.cell k5)⟩
  have HS := hid hS
  obtain ⟨pz,hpz⟩ : ∃ pz,pz = pureW Q oa ma ka := ⟨_,rfl⟩
  have HPW := hid (show ∀ w' : World,Below W.heap.size W w' -> Calls Tryz.prog 76 #[.agg (cells8 Q),.agg #[.int .i64 oa,.int .i64 ma,.slice X ka.len cx]] w' (Gives (.bool pz) w') from fun w' hb' => by
   rw [hpz]
   have ha := HSAB.out.1
   exact isPureWith_r Q oa ma ka X cx 0 w'.heap.size w' (HTA.out.over hb').lies0 (Nat.le_refl _) (RowsIf.small ha.small) HTA.out.le.1 HTA.out.le.2 (Nat.le_trans (small_size ha.small) (by decide)))
  obtain ⟨cn,hcn⟩ : ∃ cn,cn = cntN n ob mb kb := ⟨_,rfl⟩
  have HCN := hid (show ∀ w' : World,Below W.heap.size W w' -> Calls Tryz.prog 77 #[.agg #[.int .i64 ob,.int .i64 mb,.slice X' kb.len cx'],.int .i64 n] w' (Gives (.int .i64 ((cn : Nat) : Int)) w') from fun w' hb' => by
   rw [hcn]
   have hb := HSAB.out.2
   exact implCount_r ob mb n kb X' cx' 0 w'.heap.size w' (HTB.out.over hb').lies0 (Nat.le_refl _) (RowsIf.small hb.small) HTB.out.le.1 HTB.out.le.2 (Nat.le_trans (small_size hb.small) (by decide)))
  have HDROP := hid (show dropOk (pureW Q) ⟨op,n,Fo.cons oa ma ka (Fo.cons ob mb kb Fo.nil)⟩ = ((decide (op = 7 ∨ op = 8) && pz) && (decide (op = 8) || decide (cn = 0))) from by rw [hpz,hcn]; rfl)
  clear hrg hta htb hia hib sta stb k0 k1 k2 k3 k4 k5 hss hsa hsb hS hpz hcn
  rcases h0 with h7 | h8
  ·subst h7
   subst hOP
   have HBS := hid (Below.refl W.heap.size W)
   obtain ⟨v0,v1,v2,v3,v4,v5,v6,v7,v8,v9,v10,v11,v12,v13,v14,v15,v16⟩ := HS.out _ HBS.out
   go_upto_region 2 with fail
   clear v0 v1 v2 v3 v4 v5 v6 v7 v8 v9 v10 v11 v12 v13 v14 v15 v16
   have HB0d := hid (show Below W.heap.size W W.drew from (Below.refl _ _).drew)
   have s0 := HS.out _ HB0d.out
   go_wp2_with fail
   go_region_held3 (fun w' => w'.cell? ⟨w.heap.size,0,none⟩ = some (.bool (Q 0)) /\ w'.cell? ⟨w.heap.size,1,none⟩ = some (.bool (Q 1)) /\ w'.cell? ⟨w.heap.size,2,none⟩ = some (.bool (Q 2)) /\ w'.cell? ⟨w.heap.size,3,none⟩ = some (.bool (Q 3)) /\ w'.cell? ⟨w.heap.size,4,none⟩ = some (.bool (Q 4)) /\ w'.cell? ⟨w.heap.size,5,none⟩ = some (.bool (Q 5)) /\ w'.cell? ⟨w.heap.size,6,none⟩ = some (.bool (Q 6)) /\ w'.cell? ⟨w.heap.size,7,none⟩ = some (.bool (Q 7)) /\ w'.cell? ⟨w.heap.size + 1,0,none⟩ = some (.int .i64 7) /\ w'.cell? ⟨w.heap.size + 1,1,none⟩ = some (.int .i64 n) /\ w'.cell? ⟨w.heap.size + 1,2,none⟩ = some (.slice (some ⟨g,0,none⟩) 2 c) /\ w'.cell? ⟨g,0,none⟩ = some (.int .i64 oa) /\ w'.cell? ⟨g,1,none⟩ = some (.int .i64 ma) /\ w'.cell? ⟨g,2,none⟩ = some (.slice X ka.len cx) /\ w'.cell? ⟨g,3,none⟩ = some (.int .i64 ob) /\ w'.cell? ⟨g,4,none⟩ = some (.int .i64 mb) /\ w'.cell? ⟨g,5,none⟩ = some (.slice X' kb.len cx'))
    (first | with_reducible exact s0 | with_reducible exact s5 | with_reducible exact s6 | fail)
    (first
     |(go_at_call 76
       refine (HPW.out _ HB0d.out).mono ?_
       rintro e w5 ⟨rfl,hb5⟩
       have HB5 := onB HB0d hb5
       have s5 := HS.out _ HB5.out
       clear hb5)
     | fail)
   all_goals
    clear s0 s5
    cases pz with
    | false =>
     have HGE := hid (show GP = ⟨7,n,Fo.cons oa ma ka (Fo.cons ob mb kb Fo.nil)⟩ from HGP.out.trans (gDrop_no (by rw [HDROP.out]; simp)))
     obtain ⟨v0,v1,v2,v3,v4,v5,v6,v7,v8,v9,v10,v11,v12,v13,v14,v15,v16⟩ := HS.out _ HB5.out
     obtain ⟨bz,htz,hap⟩ := (show ∃ bz,Tree _ base (.slice (some ⟨g,0,none⟩) (Fo.cons oa ma ka (Fo.cons ob mb kb Fo.nil)).len c) (Fo.cons oa ma ka (Fo.cons ob mb kb Fo.nil)) bz /\ w.heap.size + 1 + 1 ∉ bz from ⟨bs,(HT.out.over HB5.out).lower HLOW.out.1,HNB.out⟩)
     obtain ⟨⟨c0,c1,c2⟩,⟨f0,f1,f2⟩,⟨r0,r1,r2⟩,hbz,htz2⟩ := box3 (HRR.out.below HB5.out HRR.out.size) (HB0.out.trans (HB5.out.mono HB0.out.size)) (by omega) (7) (n) ((some ⟨g,0,none⟩)) (2) (c) htz hap
     have HBZ := hid hbz
     have HTZ := hid htz2
     clear hbz htz2 htz hap
     go_wp2_with fail
     refine bodyPost_ret (v := .agg #[.int .i64 7,.int .i64 n,.slice (some ⟨g,0,none⟩) 2 c]) ?_ rfl (by rw [HGE.out]; exact ⟨(some ⟨g,0,none⟩),c,bz,rfl,HTZ.out,HBZ.out,HI.out⟩)
     simp [results,Tryz.f46,go_sem,r0,r1,r2]
    | true =>
     obtain ⟨v0,v1,v2,v3,v4,v5,v6,v7,v8,v9,v10,v11,v12,v13,v14,v15,v16⟩ := HS.out _ HB5.out
     go_upto_region 4 with fail
     have HB5d := hid (show Below W.heap.size W w5.drew from HB5.out.drew)
     have s0 := HS.out _ HB5d.out
     clear v0 v1 v2 v3 v4 v5 v6 v7 v8 v9 v10 v11 v12 v13 v14 v15 v16
     go_wp2_with fail
     go_region_held3 (fun w' => w'.cell? ⟨w.heap.size,0,none⟩ = some (.bool (Q 0)) /\ w'.cell? ⟨w.heap.size,1,none⟩ = some (.bool (Q 1)) /\ w'.cell? ⟨w.heap.size,2,none⟩ = some (.bool (Q 2)) /\ w'.cell? ⟨w.heap.size,3,none⟩ = some (.bool (Q 3)) /\ w'.cell? ⟨w.heap.size,4,none⟩ = some (.bool (Q 4)) /\ w'.cell? ⟨w.heap.size,5,none⟩ = some (.bool (Q 5)) /\ w'.cell? ⟨w.heap.size,6,none⟩ = some (.bool (Q 6)) /\ w'.cell? ⟨w.heap.size,7,none⟩ = some (.bool (Q 7)) /\ w'.cell? ⟨w.heap.size + 1,0,none⟩ = some (.int .i64 7) /\ w'.cell? ⟨w.heap.size + 1,1,none⟩ = some (.int .i64 n) /\ w'.cell? ⟨w.heap.size + 1,2,none⟩ = some (.slice (some ⟨g,0,none⟩) 2 c) /\ w'.cell? ⟨g,0,none⟩ = some (.int .i64 oa) /\ w'.cell? ⟨g,1,none⟩ = some (.int .i64 ma) /\ w'.cell? ⟨g,2,none⟩ = some (.slice X ka.len cx) /\ w'.cell? ⟨g,3,none⟩ = some (.int .i64 ob) /\ w'.cell? ⟨g,4,none⟩ = some (.int .i64 mb) /\ w'.cell? ⟨g,5,none⟩ = some (.slice X' kb.len cx'))
      (first | with_reducible exact s0 | with_reducible exact s5 | with_reducible exact s6 | fail)
      (first
       |(go_at_call 77
         refine (HCN.out _ HB5d.out).mono ?_
         rintro e w6 ⟨rfl,hb6⟩
         have HB6 := onB HB5d hb6
         have s6 := HS.out _ HB6.out
         clear hb6)
       | fail)
     all_goals
      clear s0 s6
      obtain ⟨v0,v1,v2,v3,v4,v5,v6,v7,v8,v9,v10,v11,v12,v13,v14,v15,v16⟩ := HS.out _ HB6.out
      by_cases hc0 : cn = 0
      ·have HGE := hid (show GP = ⟨ob,mb,kb⟩ from HGP.out.trans (gDrop_yes (by rw [HDROP.out]; simp [hc0])))
       subst hc0
       obtain ⟨bz,htz,hap⟩ := (show ∃ bz,Tree _ base (.slice X' kb.len cx') kb bz /\ w.heap.size + 1 + 1 ∉ bz from ⟨b2,(HTB.out.over HB6.out).lower HLOW.out.1,fun hz => HNB.out (HTB2.out _ hz)⟩)
       obtain ⟨⟨c0,c1,c2⟩,⟨f0,f1,f2⟩,⟨r0,r1,r2⟩,hbz,htz2⟩ := box3 (HRR.out.below HB6.out HRR.out.size) (HB0.out.trans (HB6.out.mono HB0.out.size)) (by omega) (ob) (mb) (X') (kb.len) (cx') htz hap
       have HBZ := hid hbz
       have HTZ := hid htz2
       clear hbz htz2 htz hap
       go_wp2_with fail
       refine bodyPost_ret (v := .agg #[.int .i64 ob,.int .i64 mb,.slice X' kb.len cx']) ?_ rfl (by rw [HGE.out]; exact ⟨X',cx',bz,rfl,HTZ.out,HBZ.out,HIA.out.2⟩)
       simp [results,Tryz.f46,go_sem,r0,r1,r2]
      ·have HGE := hid (show GP = ⟨7,n,Fo.cons oa ma ka (Fo.cons ob mb kb Fo.nil)⟩ from HGP.out.trans (gDrop_no (by rw [HDROP.out]; simp [hc0])))
       have bc : (((cn : Nat) : Int) != 0) = true := by simp; omega
       clear hc0
       obtain ⟨bz,htz,hap⟩ := (show ∃ bz,Tree _ base (.slice (some ⟨g,0,none⟩) (Fo.cons oa ma ka (Fo.cons ob mb kb Fo.nil)).len c) (Fo.cons oa ma ka (Fo.cons ob mb kb Fo.nil)) bz /\ w.heap.size + 1 + 1 ∉ bz from ⟨bs,(HT.out.over HB6.out).lower HLOW.out.1,HNB.out⟩)
       obtain ⟨⟨c0,c1,c2⟩,⟨f0,f1,f2⟩,⟨r0,r1,r2⟩,hbz,htz2⟩ := box3 (HRR.out.below HB6.out HRR.out.size) (HB0.out.trans (HB6.out.mono HB0.out.size)) (by omega) (7) (n) ((some ⟨g,0,none⟩)) (2) (c) htz hap
       have HBZ := hid hbz
       have HTZ := hid htz2
       clear hbz htz2 htz hap
       go_wp2_with fail
       refine bodyPost_ret (v := .agg #[.int .i64 7,.int .i64 n,.slice (some ⟨g,0,none⟩) 2 c]) ?_ rfl (by rw [HGE.out]; exact ⟨(some ⟨g,0,none⟩),c,bz,rfl,HTZ.out,HBZ.out,HI.out⟩)
       simp [results,Tryz.f46,go_sem,r0,r1,r2]
  ·subst h8
   subst hOP
   have HBS := hid (Below.refl W.heap.size W)
   obtain ⟨v0,v1,v2,v3,v4,v5,v6,v7,v8,v9,v10,v11,v12,v13,v14,v15,v16⟩ := HS.out _ HBS.out
   go_upto_region 2 with fail
   clear v0 v1 v2 v3 v4 v5 v6 v7 v8 v9 v10 v11 v12 v13 v14 v15 v16
   have HB0d := hid (show Below W.heap.size W W.drew from (Below.refl _ _).drew)
   have s0 := HS.out _ HB0d.out
   go_wp2_with fail
   go_region_held3 (fun w' => w'.cell? ⟨w.heap.size,0,none⟩ = some (.bool (Q 0)) /\ w'.cell? ⟨w.heap.size,1,none⟩ = some (.bool (Q 1)) /\ w'.cell? ⟨w.heap.size,2,none⟩ = some (.bool (Q 2)) /\ w'.cell? ⟨w.heap.size,3,none⟩ = some (.bool (Q 3)) /\ w'.cell? ⟨w.heap.size,4,none⟩ = some (.bool (Q 4)) /\ w'.cell? ⟨w.heap.size,5,none⟩ = some (.bool (Q 5)) /\ w'.cell? ⟨w.heap.size,6,none⟩ = some (.bool (Q 6)) /\ w'.cell? ⟨w.heap.size,7,none⟩ = some (.bool (Q 7)) /\ w'.cell? ⟨w.heap.size + 1,0,none⟩ = some (.int .i64 8) /\ w'.cell? ⟨w.heap.size + 1,1,none⟩ = some (.int .i64 n) /\ w'.cell? ⟨w.heap.size + 1,2,none⟩ = some (.slice (some ⟨g,0,none⟩) 2 c) /\ w'.cell? ⟨g,0,none⟩ = some (.int .i64 oa) /\ w'.cell? ⟨g,1,none⟩ = some (.int .i64 ma) /\ w'.cell? ⟨g,2,none⟩ = some (.slice X ka.len cx) /\ w'.cell? ⟨g,3,none⟩ = some (.int .i64 ob) /\ w'.cell? ⟨g,4,none⟩ = some (.int .i64 mb) /\ w'.cell? ⟨g,5,none⟩ = some (.slice X' kb.len cx'))
    (first | with_reducible exact s0 | with_reducible exact s5 | with_reducible exact s6 | fail)
    (first
     |(go_at_call 76
       refine (HPW.out _ HB0d.out).mono ?_
       rintro e w5 ⟨rfl,hb5⟩
       have HB5 := onB HB0d hb5
       have s5 := HS.out _ HB5.out
       clear hb5)
     | fail)
   all_goals
    clear s0 s5
    cases pz with
    | false =>
     have HGE := hid (show GP = ⟨8,n,Fo.cons oa ma ka (Fo.cons ob mb kb Fo.nil)⟩ from HGP.out.trans (gDrop_no (by rw [HDROP.out]; simp)))
     obtain ⟨v0,v1,v2,v3,v4,v5,v6,v7,v8,v9,v10,v11,v12,v13,v14,v15,v16⟩ := HS.out _ HB5.out
     obtain ⟨bz,htz,hap⟩ := (show ∃ bz,Tree _ base (.slice (some ⟨g,0,none⟩) (Fo.cons oa ma ka (Fo.cons ob mb kb Fo.nil)).len c) (Fo.cons oa ma ka (Fo.cons ob mb kb Fo.nil)) bz /\ w.heap.size + 1 + 1 ∉ bz from ⟨bs,(HT.out.over HB5.out).lower HLOW.out.1,HNB.out⟩)
     obtain ⟨⟨c0,c1,c2⟩,⟨f0,f1,f2⟩,⟨r0,r1,r2⟩,hbz,htz2⟩ := box3 (HRR.out.below HB5.out HRR.out.size) (HB0.out.trans (HB5.out.mono HB0.out.size)) (by omega) (8) (n) ((some ⟨g,0,none⟩)) (2) (c) htz hap
     have HBZ := hid hbz
     have HTZ := hid htz2
     clear hbz htz2 htz hap
     go_wp2_with fail
     refine bodyPost_ret (v := .agg #[.int .i64 8,.int .i64 n,.slice (some ⟨g,0,none⟩) 2 c]) ?_ rfl (by rw [HGE.out]; exact ⟨(some ⟨g,0,none⟩),c,bz,rfl,HTZ.out,HBZ.out,HI.out⟩)
     simp [results,Tryz.f46,go_sem,r0,r1,r2]
    | true =>
     have HGE := hid (show GP = ⟨ob,mb,kb⟩ from HGP.out.trans (gDrop_yes (by rw [HDROP.out]; simp)))
     obtain ⟨v0,v1,v2,v3,v4,v5,v6,v7,v8,v9,v10,v11,v12,v13,v14,v15,v16⟩ := HS.out _ HB5.out
     go_upto_region 4 with fail
     go_wp2_with fail
     go_quiet (fail)
     have HB5d := hid (below_drewN HB5.out nq)
     clear v0 v1 v2 v3 v4 v5 v6 v7 v8 v9 v10 v11 v12 v13 v14 v15 v16
     obtain ⟨v0,v1,v2,v3,v4,v5,v6,v7,v8,v9,v10,v11,v12,v13,v14,v15,v16⟩ := HS.out _ HB5d.out
     obtain ⟨bz,htz,hap⟩ := (show ∃ bz,Tree _ base (.slice X' kb.len cx') kb bz /\ w.heap.size + 1 + 1 ∉ bz from ⟨b2,(HTB.out.over HB5d.out).lower HLOW.out.1,fun hz => HNB.out (HTB2.out _ hz)⟩)
     obtain ⟨⟨c0,c1,c2⟩,⟨f0,f1,f2⟩,⟨r0,r1,r2⟩,hbz,htz2⟩ := box3 (HRR.out.below HB5d.out HRR.out.size) (HB0.out.trans (HB5d.out.mono HB0.out.size)) (by omega) (ob) (mb) (X') (kb.len) (cx') htz hap
     have HBZ := hid hbz
     have HTZ := hid htz2
     clear hbz htz2 htz hap
     go_wp2_with fail
     refine bodyPost_ret (v := .agg #[.int .i64 ob,.int .i64 mb,.slice X' kb.len cx']) ?_ rfl (by rw [HGE.out]; exact ⟨X',cx',bz,rfl,HTZ.out,HBZ.out,HIA.out.2⟩)
     simp [results,Tryz.f46,go_sem,r0,r1,r2]
 ·have HGE := hid (show GP = ⟨op,n,k⟩ from HGP.out.trans (gDrop_no (by unfold dropOk; simp [h0])))
  have b7 : (op != 7) = true := by simp; omega
  have b8 : (op != 8) = true := by simp; omega
  have HBS := hid (Below.refl W.heap.size W)
  obtain ⟨q0,q1,q2⟩ := HRB.out.cells3 rfl rfl rfl
  obtain ⟨bz,htz,hap⟩ := (show ∃ bz,Tree _ base (.slice A k.len c) k bz /\ w.heap.size + 1 + 1 ∉ bz from ⟨bs,(HT.out.over HBS.out).lower HLOW.out.1,HNB.out⟩)
  obtain ⟨⟨c0,c1,c2⟩,⟨f0,f1,f2⟩,⟨r0,r1,r2⟩,hbz,htz2⟩ := box3 (HRR.out.below HBS.out HRR.out.size) (HB0.out.trans (HBS.out.mono HB0.out.size)) (by omega) (op) (n) (A) (k.len) (c) htz hap
  have HBZ := hid hbz
  have HTZ := hid htz2
  clear hbz htz2 htz hap
  go_wp2_with fail
  refine bodyPost_ret (v := .agg #[.int .i64 op,.int .i64 n,.slice A k.len c]) ?_ rfl (by rw [HGE.out]; exact ⟨A,c,bz,rfl,HTZ.out,HBZ.out,HI.out⟩)
  simp [results,Tryz.f46,go_sem,r0,r1,r2]
end Go.Proofs.YtmnhoeliofojnaaGreatDoor

namespace Go.Proofs.YtmnhoeliofojnaaGreatDoor
open Go.RowKit Go.Shelf
open Go.Lib (hid)
set_option maxRecDepth 100000
set_option maxHeartbeats 8000000 in
theorem specDrop_any {T : Int -> Int -> Nat -> Prop} (hT : LocalT T) (ds : List De) (DA : Option Addr) (DC : Nat) (hdz : sizeD ds <= 1048576) (hnm : ∀ d ∈ ds,inVar d.nm = true) (m : Nat) : ∀ (L : Nat) (op n : Int) (k : Fo) (A : Option Addr) (c : Nat) (w : World),k.size = m -> St T L ⟨op,n,k⟩ -> LiesD w 0 w.heap.size DA ds -> Lies w 0 w.heap.size A 0 k -> I64 op /\ I64 n ->
  Calls Tryz.prog 32 #[.slice DA ds.length DC,.agg #[.int .i64 op,.int .i64 n,.slice A k.len c]] w (Turns (chgN (gDrop (pureS ds)) L ⟨op,n,k⟩) w.heap.size w) := by
 induction m using Nat.strongRecOn with
 | _ m ih =>
  intro L op n k A c w hm hst hd hl hi
  have hlen := Fo.len_le_size k
  obtain ⟨W,hW⟩ : ∃ W,W = ((w.alloc (Obj.cells #[.int .i64 op,.int .i64 n,.slice A k.len c] 30)).alloc (Obj.cells #[.int .i64 0,.int .i64 0,.slice none 0 0] 30)).alloc (Obj.cells #[.int .i64 op,.int .i64 n,.slice none 0 0] 30) := ⟨_,rfl⟩
  have hr0 := (Row.fresh w 30 #[.int .i64 op,.int .i64 n,.slice A k.len c]).alloc (Obj.cells #[.int .i64 0,.int .i64 0,.slice none 0 0] 30)
  obtain ⟨q0,q1,q2⟩ := hr0.cells3 rfl rfl rfl
  have hr1 : Row W (w.heap.size + 1 + 1) 30 #[.int .i64 op,.int .i64 n,.slice none 0 0] := by
   rw [hW]
   have := Row.fresh ((w.alloc (Obj.cells #[.int .i64 op,.int .i64 n,.slice A k.len c] 30)).alloc (Obj.cells #[.int .i64 0,.int .i64 0,.slice none 0 0] 30)) 30 #[.int .i64 op,.int .i64 n,.slice none 0 0]
   simp only [World.size_alloc] at this
   exact this
  have hr2 : Row W (w.heap.size + 1) 30 #[.int .i64 0,.int .i64 0,.slice none 0 0] := by
   rw [hW]
   have := Row.fresh (w.alloc (Obj.cells #[.int .i64 op,.int .i64 n,.slice A k.len c] 30)) 30 #[.int .i64 0,.int .i64 0,.slice none 0 0]
   rw [World.size_alloc] at this
   exact this.alloc _
  have hbW : Below w.heap.size w W := by rw [hW]; exact (((Below.refl _ _).alloc (Nat.le_refl _) _).alloc (by simp) _).alloc (by simp; omega) _
  have HR1 := hid hr1
  have HR2 := hid hr2
  have HR0 := hid (show Row W w.heap.size 30 #[.int .i64 op,.int .i64 n,.slice A k.len c] by rw [hW]; exact hr0.alloc _)
  have HBW := hid hbW
  have HST0 := hid hst
  have HTT := hid hT
  have HDL := hid hd
  have HDZ := hid hdz
  have HNM := hid hnm
  have hks : k.size <= 1048576 := by have := hst.size; dsimp only at this; omega
  clear hr1 hr2 hbW
  go_enter Tryz.func32,Tryz.ntmps32
  go_wp2_with fail
  clear q0 q1 q2 hr0
  rw [<- hW]
  clear hW
  go_loopw [6] (fun i wr => Round k (chgF (gDrop (pureS ds)) (L - 1)) op n (w.heap.size + 1 + 1 + 1) (w.heap.size + 1 + 1) w i wr /\ Row wr (w.heap.size + 1) 30 #[.int .i64 0,.int .i64 0,.slice none 0 0] /\ Row wr w.heap.size 30 #[.int .i64 op,.int .i64 n,.slice A k.len c])
   (fun i _ => k.len - (intOf i).toNat)
  case atStart => exact ⟨⟨0,.nil,none,0,[],Nat.zero_le _,rfl,rfl,by rw [Fo.drop_zero]; rfl,HR1.out,Tree.none _ _,HBW.out⟩,HR2.out,HR0.out⟩
  case round =>
   clear HR1 HR2 HBW HR0
   obtain ⟨⟨j,pre,A1,c1',bs,hj,rfl,hpl,hpre,hrow,ht,hb⟩,hres,hre⟩ := hrel
   have hwz := hrow.size
   by_cases hlt : j < k.len
   ·obtain ⟨o1,m1,k1,e1,e2,e3⟩ := Fo.drop_of_lt k j hlt
    have hj' := (hl.below hb).at_ j
    rw [Nat.zero_add,e1] at hj'
    obtain ⟨⟨b,o,A',c',hA,_,hbb,i1,i2,g1,g2,g3,h1,h2,h3⟩,_⟩ := hj'
    subst hA
    have hbb2 : b < wr.heap.size := Nat.lt_of_lt_of_le hbb hb.size
    have hzr : w.heap.size < wr.heap.size := hre.size
    have q2 : wr.drew.cell? ⟨w.heap.size,2,none⟩ = some (.slice (some ⟨b,o,none⟩) k.len c) := hre.cell (i := 2) rfl
    have r2 : wr.cell? ⟨w.heap.size,2,none⟩ = some (.slice (some ⟨b,o,none⟩) k.len c) := hre.cell (i := 2) rfl
    have q3 : wr.drew.cell? ⟨w.heap.size + 1 + 1,2,none⟩ = some (.slice A1 pre.len c1') := hrow.cell (i := 2) rfl
    have hza : w.heap.size + 1 + 1 < wr.drew.heap.size := hrow.size
    have hla : Lies wr.drew 0 wr.drew.heap.size A' 0 k1 := (h3.below ((Below.refl wr.heap.size wr).drew.mono hb.size)).mono_ (Nat.le_refl _) hb.size
    have p1 : wr.drew.cell? ⟨b,o + j * 3,none⟩ = some (.int .i64 o1) := g1
    have p2 : wr.drew.cell? ⟨b,o + j * 3 + 1,none⟩ = some (.int .i64 m1) := g2
    have p3 : wr.drew.cell? ⟨b,o + j * 3 + 2,none⟩ = some (.slice A' k1.len c') := g3
    have hbd : Below w.heap.size w wr.drew := hb.drew
    obtain ⟨q,hq⟩ : ∃ q,q = chgN (gDrop (pureS ds)) (L - 1) ⟨o1,m1,k1⟩ := ⟨_,rfl⟩
    have hki := (st_rule (keeps_drop HTT.out (pureS ds))).kid HST0.out j o1 m1 k1 _ e1
    have hc := ih k1.size (by omega) (L - 1) o1 m1 k1 A' c' wr.drew rfl hki (hd.up hbd) hla ⟨i1,i2⟩
    rw [<- hq] at hc
    have HC := hid hc
    have HQ := hid hq
    have HT := hid ht
    have HB := hid hb
    have HROW := hid hrow
    have HRES := hid hres
    have HRE := hid hre
    have HPRE := hid hpre
    have HPL := hid hpl
    have HWR := hid (show w.heap.size + 1 + 1 + 1 <= wr.heap.size from hwz)
    have hbox : ∀ g,(Value.slice A1 pre.len c1').ownBlock = some g -> w.heap.size + 1 + 1 + 1 <= g /\ g < wr.heap.size := fun g hg => by
     obtain ⟨st,b1,k1',k2',rfl,_⟩ := ht
     exact blk_lt k1' (by unfold blkV; rw [hg]; simp)
    have HBOX := hid hbox
    have HE := hid e1
    have hpl2 : pre.len <= 1048576 := by omega
    clear hrow ht hb hres hre hpre hla h3 hl ih i1 i2 e1 hpl hbox g1 g2 g3 hc hq hbd hst hki hd
    go_wp2_with fail
    go_region_law (first
      |(refine step_push rfl (.tmp 20) (.tmp 28) rfl (w.heap.size + 1 + 1 + 1) (.slice A1 pre.len c1') pre bs b5 q.op q.n q.k A5 c5 rfl rfl HT5.out HK5.out HI5.out HD5.out hpl2 HZ5.out ?_
        intro v6 w6 bs6 ht6 hg6 hin6
        obtain ⟨A6,c6,rfl,hc61,hc62⟩ := ht6.slice
        have hne : ∀ g,(g < w.heap.size + 1 + 1 + 1 ∨ wr.heap.size <= g) -> some g ≠ (Value.slice A1 pre.len c1').ownBlock := fun g hg e => by have := HBOX.out g e.symm; omega
        have hr6 := row_grown HROW5.out hg6 (hne _ (.inl (Nat.lt_succ_self _)))
        have hre6 := row_grown HRE5.out hg6 (hne _ (.inl (by omega)))
        have u3 : w6.cell? ⟨w.heap.size + 1 + 1,2,none⟩ = some (.slice A1 pre.len c1') := hr6.cell (i := 2) rfl
        have f3 := hr6.free 2
        have HR6 := hid hr6
        have HRES6 := hid (row_grown HRES5.out hg6 (hne _ (.inl (Nat.lt_succ_of_lt (Nat.lt_succ_self _)))))
        have HT6 := hid ht6
        have HB6 := hid (Below.grown HB5.out hg6 HB5.out.size (fun g' hg' => by have := HBOX.out g' hg'; omega))
        have HRE6 := hid hre6
        clear hr6 hre6 ht6 hg6 hin6 hne hc61 hc62)
      |(refine step_call (f := 32) rfl (by kernel_rfl) HC.out ?_
        rintro e w5 ⟨A5,c5,b5,rfl,ht5,hb5,hi5⟩
        refine ⟨_,rfl, ?_⟩
        have HI5 := hid hi5
        have y3 : w5.cell? ⟨w.heap.size + 1 + 1,2,none⟩ = some (.slice A1 pre.len c1') := (hb5.cell (p := ⟨w.heap.size + 1 + 1,2,none⟩) hza).trans q3
        have bz := (Below.refl w5.heap.size w5).alloc (Nat.le_refl _) (Obj.cells #[.int .i64 q.op,.int .i64 q.n,.slice A5 q.k.len c5] 30)
        have z3 : (w5.alloc (Obj.cells #[.int .i64 q.op,.int .i64 q.n,.slice A5 q.k.len c5] 30)).cell? ⟨w.heap.size + 1 + 1,2,none⟩ = some (.slice A1 pre.len c1') := (bz.cell (p := ⟨w.heap.size + 1 + 1,2,none⟩) (Nat.lt_of_lt_of_le hza hb5.size)).trans y3
        have HT5 := hid (HT.out.over (((Below.refl _ _).drew).trans hb5))
        have HK5 := hid (ht5.lower (base' := w.heap.size + 1 + 1 + 1) HWR.out)
        have HD5 := hid (show ∀ b,b ∈ bs -> b ∈ b5 -> False from fun q h1 h2 => by
         have e1 := (HT.out.lt q h1).2
         have e2 := (ht5.lt q h2).1
         have e4 : wr.heap.size <= q := e2
         omega)
        have HZ5 := hid (Nat.le_trans HWR.out hb5.size)
        have HROW5 := hid ((HROW.out.drew).below hb5 hza)
        have HRES5 := hid ((HRES.out.drew).below hb5 (Nat.lt_of_lt_of_le HRES.out.size (Nat.le_refl _)))
        have HRE5 := hid ((HRE.out.drew).below hb5 (Nat.lt_of_lt_of_le HRE.out.size (Nat.le_refl _)))
        have HB5 := hid (HB.out.trans (((Below.refl _ _).drew.trans hb5).mono HB.out.size))
        clear ht5 hb5 bz hi5))
    all_goals
     go_wp2_with fail
     go_roundw
     case rel =>
      have hr7 := HR6.out.put 2 (.slice A6 (pre.snoc q.op q.n q.k).len c6)
      have ht7 : Tree (w6.setCell ⟨w.heap.size + 1 + 1,2,none⟩ (.slice A6 (pre.snoc q.op q.n q.k).len c6)) (w.heap.size + 1 + 1 + 1) (.slice A6 (pre.snoc q.op q.n q.k).len c6) (pre.snoc q.op q.n q.k) bs6 :=
       HT6.out.keep fun q hq => Below.heap_setCell w6 _ _ q (by have := (HT6.out.lt q hq).1; dsimp only; omega)
      refine ⟨⟨j + 1,pre.snoc q.op q.n q.k,A6,c6,bs6,hlt,by go_num,by rw [Fo.snoc_len,HPL.out], ?_,hr7,ht7,HB6.out.setCell (by dsimp only; omega) _⟩,HRES6.out.apart (by simp) _,HRE6.out.apart (by dsimp only; omega) _⟩
      have := HPRE.out
      rw [HE.out,chgF_cons, <- HQ.out] at this
      rw [Fo.snoc_app]
      exact this
     case measure => simp [intOf]; omega
   ·have e9 : j = k.len := by omega
    rw [e9,Fo.drop_len] at hpre
    have hpk : pre = (chgF (gDrop (pureS ds)) (L - 1)) k := (Fo.app_nil pre).symm.trans hpre
    have hpl9 : pre.len = k.len := hpl.trans e9
    have hq0 := (midN_st (keeps_drop HTT.out (pureS ds)) HST0.out).1
    unfold midN at hq0
    dsimp only at hq0
    rw [<- hpk] at hq0
    have HST := hid hq0
    have HRB := hid hrow
    have HRR := hid hres
    have HB0 := hid hb
    have HDR := hid (HDL.out.up hb)
    have HT := hid ht
    have HNB := hid (show w.heap.size + 1 ∉ bs from fun hz => by have := (ht.lt _ hz).1; omega)
    have HLOW := hid (show w.heap.size <= w.heap.size + 1 + 1 + 1 /\ w.heap.size <= wr.heap.size from ⟨by omega,hb.size⟩)
    have HI := hid hi
    have HEX := hid (show wr.cell? ⟨w.heap.size,2,none⟩ = some (.slice A k.len c) from hre.cell (i := 2) rfl)
    obtain ⟨GP,hGP⟩ : ∃ GP,GP = gDrop (pureS ds) L ⟨op,n,pre⟩ := ⟨_,rfl⟩
    have hGG : chgN (gDrop (pureS ds)) L ⟨op,n,k⟩ = GP := by rw [hGP,hpk]; rfl
    have HGG := hid hGG
    have HGP := hid hGP
    clear hrow ht hb hres hpre hpk hq0 hl ih hGP hGG hpl hpl9 hi
    have s2 := HEX.out
    go_upto_region 6 with fail
    clear s2 hlt e9 hj hre HEX
    by_cases h0 : op = 7 ∨ op = 8
    ·obtain ⟨oa,ma,ka,ob,mb,kb,ek,sta,stb,hss⟩ := two_kids HST.out (kids_two (HTT.out.kids HST.out.all.1) (.inr (.inr h0)))
     dsimp only at ek hss
     subst ek
     obtain ⟨g,X,cx,X',cx',b1,b2,cs,hA,_,hg0,hrg,k0,k1,k2,k3,k4,k5,hta,htb,hia,hib,hsa,hsb⟩ := HT.out.two
     subst hA
     have HRG := hid hrg
     have HTA := hid hta
     have HTB := hid htb
     have HTB2 := hid hsb
     have HK := hid (And.intro k0 (And.intro k1 (And.intro k2 (And.intro k3 (And.intro k4 k5)))))
     have HIA := hid (And.intro hia hib)
     have HSAB := hid (And.intro sta stb)
     obtain ⟨OP,hOP⟩ : ∃ OP,OP = op := ⟨_,rfl⟩
     rw [<- hOP] at HRB
     have hS : ∀ w' : World,Below wr.heap.size wr w' -> w'.cell? ⟨w.heap.size + 1 + 1,0,none⟩ = some (.int .i64 OP) /\ w'.cell? ⟨w.heap.size + 1 + 1,1,none⟩ = some (.int .i64 n) /\ w'.cell? ⟨w.heap.size + 1 + 1,2,none⟩ = some (.slice (some ⟨g,0,none⟩) 2 c1') /\ w'.cell? ⟨g,0,none⟩ = some (.int .i64 oa) /\ w'.cell? ⟨g,1,none⟩ = some (.int .i64 ma) /\ w'.cell? ⟨g,2,none⟩ = some (.slice X ka.len cx) /\ w'.cell? ⟨g,3,none⟩ = some (.int .i64 ob) /\ w'.cell? ⟨g,4,none⟩ = some (.int .i64 mb) /\ w'.cell? ⟨g,5,none⟩ = some (.slice X' kb.len cx') := by
      intro w' hb'
      have hz1 := HRB.out.size
      have hz2 := HRG.out.size
      skip
      obtain ⟨k0,k1,k2,k3,k4,k5⟩ := HK.out
      exact ⟨(hb'.cell (p := ⟨w.heap.size + 1 + 1,0,none⟩) hz1).trans (HRB.out.cell (i := 0) rfl),(hb'.cell (p := ⟨w.heap.size + 1 + 1,1,none⟩) hz1).trans (HRB.out.cell (i := 1) rfl),(hb'.cell (p := ⟨w.heap.size + 1 + 1,2,none⟩) hz1).trans (HRB.out.cell (i := 2) rfl),(hb'.cell (p := ⟨g,0,none⟩) hz2).trans (HRG.out.cell k0),(hb'.cell (p := ⟨g,1,none⟩) hz2).trans (HRG.out.cell k1),(hb'.cell (p := ⟨g,2,none⟩) hz2).trans (HRG.out.cell k2),(hb'.cell (p := ⟨g,3,none⟩) hz2).trans (HRG.out.cell k3),(hb'.cell (p := ⟨g,4,none⟩) hz2).trans (HRG.out.cell k4),(hb'.cell (p := ⟨g,5,none⟩) hz2).trans (HRG.out.cell k5)⟩
     have HS := hid hS
     obtain ⟨pz,hpz⟩ : ∃ pz,pz = pureS ds oa ma ka := ⟨_,rfl⟩
     have HPW := hid (show ∀ w' : World,Below wr.heap.size wr w' -> Calls Tryz.prog 58 #[.slice DA ds.length DC,.agg #[.int .i64 oa,.int .i64 ma,.slice X ka.len cx]] w' (Gives (.bool pz) w') from fun w' hb' => by
      rw [hpz]
      have ha := HSAB.out.1
      exact l5Pure_any ds DA DC HDZ.out HNM.out ka.size oa ma ka X cx w' rfl (HDR.out.up hb') (HTA.out.over hb').lies0 (Nat.le_trans (small_size ha.small) (by decide)))
     obtain ⟨cn,hcn⟩ : ∃ cn,cn = cntN n ob mb kb := ⟨_,rfl⟩
     have HCN := hid (show ∀ w' : World,Below wr.heap.size wr w' -> Calls Tryz.prog 54 #[.agg #[.int .i64 ob,.int .i64 mb,.slice X' kb.len cx'],.int .i64 n] w' (Gives (.int .i64 ((cn : Nat) : Int)) w') from fun w' hb' => by
      rw [hcn]
      have hb := HSAB.out.2
      exact specCount_any kb.size n ob mb kb X' cx' w' rfl (HTB.out.over hb').lies0 (Nat.le_trans (small_size hb.small) (by decide)))
     have HDROP := hid (show dropOk (pureS ds) ⟨op,n,Fo.cons oa ma ka (Fo.cons ob mb kb Fo.nil)⟩ = ((decide (op = 7 ∨ op = 8) && pz) && (decide (op = 8) || decide (cn = 0))) from by rw [hpz,hcn]; rfl)
     clear hrg hta htb hia hib sta stb k0 k1 k2 k3 k4 k5 hss hsa hsb hS hpz hcn
     have HBS := hid (Below.refl wr.heap.size wr)
     have HBSd := hid (show Below wr.heap.size wr wr.drew from (Below.refl _ _).drew)
     rcases h0 with h7 | h8
     ·subst h7
      subst hOP
      obtain ⟨v0,v1,v2,v3,v4,v5,v6,v7,v8⟩ := HS.out _ HBS.out
      go_upto_region 8 with fail
      clear v0 v1 v2 v3 v4 v5 v6 v7 v8
      have s0 := HS.out _ HBSd.out
      cases pz with
      | false =>
       go_wp2_with fail
       refine wp_region_held_drew (S := fun w' => w'.cell? ⟨w.heap.size + 1 + 1,0,none⟩ = some (.int .i64 7) /\ w'.cell? ⟨w.heap.size + 1 + 1,1,none⟩ = some (.int .i64 n) /\ w'.cell? ⟨w.heap.size + 1 + 1,2,none⟩ = some (.slice (some ⟨g,0,none⟩) 2 c1') /\ w'.cell? ⟨g,0,none⟩ = some (.int .i64 oa) /\ w'.cell? ⟨g,1,none⟩ = some (.int .i64 ma) /\ w'.cell? ⟨g,2,none⟩ = some (.slice X ka.len cx) /\ w'.cell? ⟨g,3,none⟩ = some (.int .i64 ob) /\ w'.cell? ⟨g,4,none⟩ = some (.int .i64 mb) /\ w'.cell? ⟨g,5,none⟩ = some (.slice X' kb.len cx')) (by kernel_rfl) s0 (fun hHeld => ?_)
       refine takeW 0 (v := ?vx1_0) rfl (by kernel_rfl) (fun _ _ _ h => h) (by rfl) (by assumption) ?yx1_0 ?rx1_0
       case yx1_0 => (intro w' hSw; (try dsimp only at hSw); go_simp; try with_reducible rfl)
       try simp only [Act.put,ars,List.getElem_toArray,List.getElem_cons_zero]
       refine takeW 1 (v := ?vx1_1) rfl (by kernel_rfl) (fun _ _ _ h => h) (by rfl) (by assumption) ?yx1_1 ?rx1_1
       case yx1_1 => (intro w' hSw; (try dsimp only at hSw); go_simp; try with_reducible rfl)
       try simp only [Act.put,ars,List.getElem_toArray,List.getElem_cons_succ,List.getElem_cons_zero]
       refine takeW 2 (v := ?vx1_2) rfl (by kernel_rfl) (fun _ _ _ h => h) (by rfl) (by assumption) ?yx1_2 ?rx1_2
       case yx1_2 => (intro w' hSw; (try dsimp only at hSw); go_simp; try with_reducible rfl)
       try simp only [Act.put,ars,List.getElem_toArray,List.getElem_cons_succ,List.getElem_cons_zero]
       refine takeW 3 (v := ?vx1_3) rfl (by kernel_rfl) (fun _ _ _ h => h) (by rfl) (by assumption) ?yx1_3 ?rx1_3
       case yx1_3 => (intro w' hSw; (try dsimp only at hSw); go_simp; try with_reducible rfl)
       try simp only [Act.put,ars,List.getElem_toArray,List.getElem_cons_succ,List.getElem_cons_zero]
       refine takeW 4 (v := ?vx1_4) rfl (by kernel_rfl) (fun _ _ _ h => h) (by rfl) (by assumption) ?yx1_4 ?rx1_4
       case yx1_4 => (intro w' hSw; (try dsimp only at hSw); go_simp; try with_reducible rfl)
       try simp only [Act.put,ars,List.getElem_toArray,List.getElem_cons_succ,List.getElem_cons_zero]
       refine takeW 5 (v := ?vx1_5) rfl (by kernel_rfl) (fun _ _ _ h => h) (by rfl) (by assumption) ?yx1_5 ?rx1_5
       case yx1_5 => (intro w' hSw; (try dsimp only at hSw); go_simp; try with_reducible rfl)
       try simp only [Act.put,ars,List.getElem_toArray,List.getElem_cons_succ,List.getElem_cons_zero]
       refine takeW 6 (v := ?vx1_6) rfl (by kernel_rfl) (fun _ _ _ h => h) (by rfl) (by assumption) ?yx1_6 ?rx1_6
       case yx1_6 => (intro w' hSw; (try dsimp only at hSw); go_simp; try with_reducible rfl)
       try simp only [Act.put,ars,List.getElem_toArray,List.getElem_cons_succ,List.getElem_cons_zero]
       refine takeW 7 (v := ?vx1_7) rfl (by kernel_rfl) (fun _ _ _ h => h) (by rfl) (by assumption) ?yx1_7 ?rx1_7
       case yx1_7 => (intro w' hSw; (try dsimp only at hSw); go_simp; try with_reducible rfl)
       try simp only [Act.put,ars,List.getElem_toArray,List.getElem_cons_succ,List.getElem_cons_zero]
       refine takeW 8 (v := ?vx1_8) rfl (by kernel_rfl) (fun _ _ _ h => h) (by rfl) (by assumption) ?yx1_8 ?rx1_8
       case yx1_8 => (intro w' hSw; (try dsimp only at hSw); go_simp; try with_reducible rfl)
       try simp only [Act.put,ars,List.getElem_toArray,List.getElem_cons_succ,List.getElem_cons_zero]
       refine wpAnyH_ready (rs := [9]) (by kernel_rfl) (by simp) ?_
       refine AllReadyH.cons rfl (fun K hK => ?_) AllReadyH.nil
       go_simp
       with_reducible refine (HPW.out _ HBSd.out).mono ?_
       rintro e w5 ⟨rfl,hb5⟩
       have HB5 := onB HBSd hb5
       clear hb5
       refine hK.out _ _ (HS.out _ HB5.out) (fun hHeld2 => ?_)
       clear hK K
       try simp only [Act.put,ars,List.getElem_toArray,List.getElem_cons_succ,List.getElem_cons_zero]
       refine takeW 10 (v := ?vx1_10) rfl (by kernel_rfl) (fun _ _ _ h => h) (by rfl) (by assumption) ?yx1_10 ?rx1_10
       case yx1_10 => (intro w' hSw; (try dsimp only at hSw); go_simp; try with_reducible rfl)
       try simp only [Act.put,ars,List.getElem_toArray,List.getElem_cons_succ,List.getElem_cons_zero]
       refine takeW 11 (v := ?vx1_11) rfl (by kernel_rfl) (fun _ _ _ h => h) (by rfl) (by assumption) ?yx1_11 ?rx1_11
       case yx1_11 => (intro w' hSw; (try dsimp only at hSw); go_simp; try with_reducible rfl)
       try simp only [Act.put,ars,List.getElem_toArray,List.getElem_cons_succ,List.getElem_cons_zero]
       refine takeN 12 rfl (by kernel_rfl) (fun _ _ _ h => h) (by rfl) (by assumption) ?rx1_12
       try simp only [Act.put,ars,List.getElem_toArray,List.getElem_cons_succ,List.getElem_cons_zero]
       refine takeN 13 rfl (by kernel_rfl) (fun _ _ _ h => h) (by rfl) (by assumption) ?rx1_13
       try simp only [Act.put,ars,List.getElem_toArray,List.getElem_cons_succ,List.getElem_cons_zero]
       refine takeN 14 rfl (by kernel_rfl) (fun _ _ _ h => h) (by rfl) (by assumption) ?rx1_14
       try simp only [Act.put,ars,List.getElem_toArray,List.getElem_cons_succ,List.getElem_cons_zero]
       refine takeN 15 rfl (by kernel_rfl) (fun _ _ _ h => h) (by rfl) (by assumption) ?rx1_15
       try simp only [Act.put,ars,List.getElem_toArray,List.getElem_cons_succ,List.getElem_cons_zero]
       refine takeN 16 rfl (by kernel_rfl) (fun _ _ _ h => h) (by rfl) (by assumption) ?rx1_16
       try simp only [Act.put,ars,List.getElem_toArray,List.getElem_cons_succ,List.getElem_cons_zero]
       refine takeN 17 rfl (by kernel_rfl) (fun _ _ _ h => h) (by rfl) (by assumption) ?rx1_17
       try simp only [Act.put,ars,List.getElem_toArray,List.getElem_cons_succ,List.getElem_cons_zero]
       refine takeN 18 rfl (by kernel_rfl) (fun _ _ _ h => h) (by rfl) (by assumption) ?rx1_18
       try simp only [Act.put,ars,List.getElem_toArray,List.getElem_cons_succ,List.getElem_cons_zero]
       refine takeN 19 rfl (by kernel_rfl) (fun _ _ _ h => h) (by rfl) (by assumption) ?rx1_19
       try simp only [Act.put,ars,List.getElem_toArray,List.getElem_cons_succ,List.getElem_cons_zero]
       refine takeW 20 (v := ?vx1_20) rfl (by kernel_rfl) (fun _ _ _ h => h) (by rfl) (by assumption) ?yx1_20 ?rx1_20
       case yx1_20 => (intro w' hSw; (try dsimp only at hSw); go_simp; try with_reducible rfl)
       try simp only [Act.put,ars,List.getElem_toArray,List.getElem_cons_succ,List.getElem_cons_zero]
       refine wpAnyH_done (by kernel_rfl) ?_ _
       have HGE := hid (show GP = ⟨7,n,Fo.cons oa ma ka (Fo.cons ob mb kb Fo.nil)⟩ from HGP.out.trans (gDrop_no (by rw [HDROP.out]; simp)))
       clear s0 hHeld hHeld2
       obtain ⟨v0,v1,v2,v3,v4,v5,v6,v7,v8⟩ := HS.out _ HB5.out
       obtain ⟨bz,htz,hap⟩ := (show ∃ bz,Tree _ w.heap.size (.slice (some ⟨g,0,none⟩) (Fo.cons oa ma ka (Fo.cons ob mb kb Fo.nil)).len c1') (Fo.cons oa ma ka (Fo.cons ob mb kb Fo.nil)) bz /\ w.heap.size + 1 ∉ bz from ⟨bs,(HT.out.over HB5.out).lower HLOW.out.1,HNB.out⟩)
       obtain ⟨⟨c0,c1,c2⟩,⟨f0,f1,f2⟩,⟨r0,r1,r2⟩,hbz,htz2⟩ := box3 (HRR.out.below HB5.out HRR.out.size) (HB0.out.trans (HB5.out.mono HB0.out.size)) (by omega) (7) (n) ((some ⟨g,0,none⟩)) (2) (c1') htz hap
       have HBZ := hid hbz
       have HTZ := hid htz2
       clear hbz htz2 htz hap
       go_wp2_with fail
       refine bodyPost_ret (v := .agg #[.int .i64 7,.int .i64 n,.slice (some ⟨g,0,none⟩) 2 c1']) ?_ rfl (by rw [HGG.out,HGE.out]; exact ⟨(some ⟨g,0,none⟩),c1',bz,rfl,HTZ.out,HBZ.out,HI.out⟩)
       simp [results,Tryz.f32,go_sem,r0,r1,r2]
      | true =>
       go_wp2_with fail
       go_region_held3 (fun w' => w'.cell? ⟨w.heap.size + 1 + 1,0,none⟩ = some (.int .i64 7) /\ w'.cell? ⟨w.heap.size + 1 + 1,1,none⟩ = some (.int .i64 n) /\ w'.cell? ⟨w.heap.size + 1 + 1,2,none⟩ = some (.slice (some ⟨g,0,none⟩) 2 c1') /\ w'.cell? ⟨g,0,none⟩ = some (.int .i64 oa) /\ w'.cell? ⟨g,1,none⟩ = some (.int .i64 ma) /\ w'.cell? ⟨g,2,none⟩ = some (.slice X ka.len cx) /\ w'.cell? ⟨g,3,none⟩ = some (.int .i64 ob) /\ w'.cell? ⟨g,4,none⟩ = some (.int .i64 mb) /\ w'.cell? ⟨g,5,none⟩ = some (.slice X' kb.len cx'))
        (first | with_reducible exact s0 | with_reducible exact s5 | with_reducible exact s6 | fail)
        (first
         |(go_at_call 58
           refine (HPW.out _ HBSd.out).mono ?_
           rintro e w5 ⟨rfl,hb5⟩
           have HB5 := onB HBSd hb5
           have s5 := HS.out _ HB5.out
           clear hb5)
         |(go_at_call 54
           refine (HCN.out _ HB5.out).mono ?_
           rintro e w6 ⟨rfl,hb6⟩
           have HB6 := onB HB5 hb6
           have s6 := HS.out _ HB6.out
           clear hb6)
         | fail)
       all_goals
        clear s0 s5 s6
        obtain ⟨v0,v1,v2,v3,v4,v5,v6,v7,v8⟩ := HS.out _ HB6.out
        by_cases hc0 : cn = 0
        ·have HGE := hid (show GP = ⟨ob,mb,kb⟩ from HGP.out.trans (gDrop_yes (by rw [HDROP.out]; simp [hc0])))
         subst hc0
         obtain ⟨bz,htz,hap⟩ := (show ∃ bz,Tree _ w.heap.size (.slice X' kb.len cx') kb bz /\ w.heap.size + 1 ∉ bz from ⟨b2,(HTB.out.over HB6.out).lower HLOW.out.1,fun hz => HNB.out (HTB2.out _ hz)⟩)
         obtain ⟨⟨c0,c1,c2⟩,⟨f0,f1,f2⟩,⟨r0,r1,r2⟩,hbz,htz2⟩ := box3 (HRR.out.below HB6.out HRR.out.size) (HB0.out.trans (HB6.out.mono HB0.out.size)) (by omega) (ob) (mb) (X') (kb.len) (cx') htz hap
         have HBZ := hid hbz
         have HTZ := hid htz2
         clear hbz htz2 htz hap
         go_wp2_with fail
         refine bodyPost_ret (v := .agg #[.int .i64 ob,.int .i64 mb,.slice X' kb.len cx']) ?_ rfl (by rw [HGG.out,HGE.out]; exact ⟨X',cx',bz,rfl,HTZ.out,HBZ.out,HIA.out.2⟩)
         simp [results,Tryz.f32,go_sem,r0,r1,r2]
        ·have HGE := hid (show GP = ⟨7,n,Fo.cons oa ma ka (Fo.cons ob mb kb Fo.nil)⟩ from HGP.out.trans (gDrop_no (by rw [HDROP.out]; simp [hc0])))
         have bc : (((cn : Nat) : Int) == 0) = false := by simp; omega
         clear hc0
         obtain ⟨bz,htz,hap⟩ := (show ∃ bz,Tree _ w.heap.size (.slice (some ⟨g,0,none⟩) (Fo.cons oa ma ka (Fo.cons ob mb kb Fo.nil)).len c1') (Fo.cons oa ma ka (Fo.cons ob mb kb Fo.nil)) bz /\ w.heap.size + 1 ∉ bz from ⟨bs,(HT.out.over HB6.out).lower HLOW.out.1,HNB.out⟩)
         obtain ⟨⟨c0,c1,c2⟩,⟨f0,f1,f2⟩,⟨r0,r1,r2⟩,hbz,htz2⟩ := box3 (HRR.out.below HB6.out HRR.out.size) (HB0.out.trans (HB6.out.mono HB0.out.size)) (by omega) (7) (n) ((some ⟨g,0,none⟩)) (2) (c1') htz hap
         have HBZ := hid hbz
         have HTZ := hid htz2
         clear hbz htz2 htz hap
         go_wp2_with fail
         refine bodyPost_ret (v := .agg #[.int .i64 7,.int .i64 n,.slice (some ⟨g,0,none⟩) 2 c1']) ?_ rfl (by rw [HGG.out,HGE.out]; exact ⟨(some ⟨g,0,none⟩),c1',bz,rfl,HTZ.out,HBZ.out,HI.out⟩)
         simp [results,Tryz.f32,go_sem,r0,r1,r2]
     ·subst h8
      subst hOP
      obtain ⟨v0,v1,v2,v3,v4,v5,v6,v7,v8⟩ := HS.out _ HBS.out
      go_wp2_with fail
      refine (HPW.out _ HBS.out).mono ?_
      rintro e w5 ⟨rfl,hb5⟩
      have HB5 := hid hb5
      clear v0 v1 v2 v3 v4 v5 v6 v7 v8 hb5
      obtain ⟨v0,v1,v2,v3,v4,v5,v6,v7,v8⟩ := HS.out _ HB5.out
      cases pz with
      | false =>
       have HGE := hid (show GP = ⟨8,n,Fo.cons oa ma ka (Fo.cons ob mb kb Fo.nil)⟩ from HGP.out.trans (gDrop_no (by rw [HDROP.out]; simp)))
       go_upto_region 8 with fail
       go_wp2_with fail
       go_quiet (fail)
       have HB5d := hid (below_drewN HB5.out nq)
       clear v0 v1 v2 v3 v4 v5 v6 v7 v8
       obtain ⟨v0,v1,v2,v3,v4,v5,v6,v7,v8⟩ := HS.out _ HB5d.out
       obtain ⟨bz,htz,hap⟩ := (show ∃ bz,Tree _ w.heap.size (.slice (some ⟨g,0,none⟩) (Fo.cons oa ma ka (Fo.cons ob mb kb Fo.nil)).len c1') (Fo.cons oa ma ka (Fo.cons ob mb kb Fo.nil)) bz /\ w.heap.size + 1 ∉ bz from ⟨bs,(HT.out.over HB5d.out).lower HLOW.out.1,HNB.out⟩)
       obtain ⟨⟨c0,c1,c2⟩,⟨f0,f1,f2⟩,⟨r0,r1,r2⟩,hbz,htz2⟩ := box3 (HRR.out.below HB5d.out HRR.out.size) (HB0.out.trans (HB5d.out.mono HB0.out.size)) (by omega) (8) (n) ((some ⟨g,0,none⟩)) (2) (c1') htz hap
       have HBZ := hid hbz
       have HTZ := hid htz2
       clear hbz htz2 htz hap
       go_wp2_with fail
       refine bodyPost_ret (v := .agg #[.int .i64 8,.int .i64 n,.slice (some ⟨g,0,none⟩) 2 c1']) ?_ rfl (by rw [HGG.out,HGE.out]; exact ⟨(some ⟨g,0,none⟩),c1',bz,rfl,HTZ.out,HBZ.out,HI.out⟩)
       simp [results,Tryz.f32,go_sem,r0,r1,r2]
      | true =>
       have HGE := hid (show GP = ⟨ob,mb,kb⟩ from HGP.out.trans (gDrop_yes (by rw [HDROP.out]; simp)))
       obtain ⟨bz,htz,hap⟩ := (show ∃ bz,Tree _ w.heap.size (.slice X' kb.len cx') kb bz /\ w.heap.size + 1 ∉ bz from ⟨b2,(HTB.out.over HB5.out).lower HLOW.out.1,fun hz => HNB.out (HTB2.out _ hz)⟩)
       obtain ⟨⟨c0,c1,c2⟩,⟨f0,f1,f2⟩,⟨r0,r1,r2⟩,hbz,htz2⟩ := box3 (HRR.out.below HB5.out HRR.out.size) (HB0.out.trans (HB5.out.mono HB0.out.size)) (by omega) (ob) (mb) (X') (kb.len) (cx') htz hap
       have HBZ := hid hbz
       have HTZ := hid htz2
       clear hbz htz2 htz hap
       go_wp2_with fail
       refine bodyPost_ret (v := .agg #[.int .i64 ob,.int .i64 mb,.slice X' kb.len cx']) ?_ rfl (by rw [HGG.out,HGE.out]; exact ⟨X',cx',bz,rfl,HTZ.out,HBZ.out,HIA.out.2⟩)
       simp [results,Tryz.f32,go_sem,r0,r1,r2]
    ·have HGE := hid (show GP = ⟨op,n,pre⟩ from HGP.out.trans (gDrop_no (by unfold dropOk; simp [h0])))
     have b7 : (op == 7) = false := by simp; omega
     have b8 : (op == 8) = false := by simp; omega
     obtain ⟨q0,q1,q2⟩ := HRB.out.cells3 rfl rfl rfl
     go_upto_region 8 with fail
     go_wp2_with fail
     go_quiet (fail)
     have HBSd := hid (below_drewN (Below.refl wr.heap.size wr) nq)
     clear q0 q1 q2
     have HRBd := onR HRB HBSd.out
     obtain ⟨q0,q1,q2⟩ := HRBd.out.cells3 rfl rfl rfl
     obtain ⟨bz,htz,hap⟩ := (show ∃ bz,Tree _ w.heap.size (.slice A1 pre.len c1') pre bz /\ w.heap.size + 1 ∉ bz from ⟨bs,(HT.out.over HBSd.out).lower HLOW.out.1,HNB.out⟩)
     obtain ⟨⟨c0,c1,c2⟩,⟨f0,f1,f2⟩,⟨r0,r1,r2⟩,hbz,htz2⟩ := box3 (HRR.out.below HBSd.out HRR.out.size) (HB0.out.trans (HBSd.out.mono HB0.out.size)) (by omega) (op) (n) (A1) (pre.len) (c1') htz hap
     have HBZ := hid hbz
     have HTZ := hid htz2
     clear hbz htz2 htz hap
     go_wp2_with fail
     refine bodyPost_ret (v := .agg #[.int .i64 op,.int .i64 n,.slice A1 pre.len c1']) ?_ rfl (by rw [HGG.out,HGE.out]; exact ⟨A1,c1',bz,rfl,HTZ.out,HBZ.out,HI.out⟩)
     simp [results,Tryz.f32,go_sem,r0,r1,r2]
end Go.Proofs.YtmnhoeliofojnaaGreatDoor
