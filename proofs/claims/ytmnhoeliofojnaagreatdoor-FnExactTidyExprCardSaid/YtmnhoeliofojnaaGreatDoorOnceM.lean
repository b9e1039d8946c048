import Derived.Test.YtmnhoeliofojnaaGreatDoorVisit
import Derived.Deep.CutRange
import Derived.Test.YtmnhoeliofojnaaGreatDoorOnceD
import Derived.Test.YtmnhoeliofojnaaGreatDoorNodeM
import Derived.Test.YtmnhoeliofojnaaGreatDoorPutI
import Derived.Test.YtmnhoeliofojnaaGreatDoorChgI
import Derived.Test.YtmnhoeliofojnaaGreatDoorDepth
namespace Go.Proofs.YtmnhoeliofojnaaGreatDoor
open Go.RowKit Go.Shelf
open Go.Lib (hid)
set_option maxRecDepth 100000
set_option maxHeartbeats 4000000 in
theorem comesFirst_any (Q : Nat -> Bool) (v op n : Int) (k : Fo) (A : Option Addr) (c L B : Nat) (w : World) (hl : Lies w L B A 0 k) (hB : B <= w.heap.size) (hal : Rr w L B k) (hk1 : k.len <= c) (hk2 : c <= maxLen) (hsz : k.size <= 1048576) (hw : wellN op n k = true) :
  Calls Tryz.prog 78 #[.agg (cells8 Q),.agg #[.int .i64 op,.int .i64 n,.slice A k.len c],.int .i64 v] w (Gives (.bool (decide (ansI Q v op n k = 1))) w) := by
 obtain ⟨hb,r0,r1⟩ := two_boxes w 53 30 (cells8 Q) #[Value.int .i64 op,Value.int .i64 n,Value.slice A k.len c]
 obtain ⟨W,hW⟩ : ∃ W,W = (w.alloc (Obj.cells (cells8 Q) 53)).alloc (Obj.cells #[Value.int .i64 op,Value.int .i64 n,Value.slice A k.len c] 30) := ⟨_,rfl⟩
 rw [<- hW] at hb r0 r1
 have HB0 := hid hb
 have HR0 := hid r0
 have HR1 := hid r1
 have HS := hid (show ∀ w' : World,Below W.heap.size W w' -> w'.cell? ⟨w.heap.size,0,none⟩ = some (.bool (Q 0)) /\ w'.cell? ⟨w.heap.size,1,none⟩ = some (.bool (Q 1)) /\ w'.cell? ⟨w.heap.size,2,none⟩ = some (.bool (Q 2)) /\ w'.cell? ⟨w.heap.size,3,none⟩ = some (.bool (Q 3)) /\ w'.cell? ⟨w.heap.size,4,none⟩ = some (.bool (Q 4)) /\ w'.cell? ⟨w.heap.size,5,none⟩ = some (.bool (Q 5)) /\ w'.cell? ⟨w.heap.size,6,none⟩ = some (.bool (Q 6)) /\ w'.cell? ⟨w.heap.size,7,none⟩ = some (.bool (Q 7)) /\ w'.cell? ⟨w.heap.size + 1,0,none⟩ = some (.int .i64 op) /\ w'.cell? ⟨w.heap.size + 1,1,none⟩ = some (.int .i64 n) /\ w'.cell? ⟨w.heap.size + 1,2,none⟩ = some (.slice A k.len c) from fun w' hb' => by
  have h0 := HR0.out.below hb' HR0.out.size
  have h1 := HR1.out.below hb' HR1.out.size
  exact ⟨h0.cell (i := 0) rfl,h0.cell (i := 1) rfl,h0.cell (i := 2) rfl,h0.cell (i := 3) rfl,h0.cell (i := 4) rfl,h0.cell (i := 5) rfl,h0.cell (i := 6) rfl,h0.cell (i := 7) rfl,h1.cell (i := 0) rfl,h1.cell (i := 1) rfl,h1.cell (i := 2) rfl⟩)
 have hVI : ∀ W' : World,Below W.heap.size W W' -> _ := fun W' hb' => visit_any Q v L B (k.size + 1) W' (by omega) (Nat.le_trans hB (Nat.le_trans hb.size hb'.size)) op n k A c W' (Nat.lt_succ_self _) hw (Below.refl _ _) (hl.below ((hb.trans (hb'.mono hb.size)).mono hB)) hk1 hk2 (hal.below (hb.trans (hb'.mono hb.size)) hB)
 have HVI := hid hVI
 obtain ⟨a,ha⟩ : ∃ a,a = ansI Q v op n k := ⟨_,rfl⟩
 rw [<- ha] at HVI ⊢
 clear hb r0 r1 hVI ha hl hal hw
 unfold cells8 at hW ⊢
 go_enter Tryz.func78,Tryz.ntmps78
 go_upto_region 1 with fail
 rw [<- hW]
 clear hW
 obtain ⟨v0,v1,v2,v3,v4,v5,v6,v7,v8,v9,v10⟩ := HS.out _ (Below.refl _ _)
 go_wp2_with fail
 refine (HVI.out _ (Below.refl _ _)).mono ?_
 rintro e w5 ⟨rfl,hb5⟩
 have HB5 := hid hb5
 clear hb5 HS HVI v0 v1 v2 v3 v4 v5 v6 v7 v8 v9 v10
 by_cases h1 : a = 1
 ·subst h1
  go_wp2
  go_ret
  exact ⟨rfl,HB0.out.trans (HB5.out.mono HB0.out.size)⟩
 ·have t1 : ((a : Int) == 1) = false := by simp; omega
  have HZ := hid (show decide (a = 1) = false by simpa using h1)
  rw [HZ.out]
  go_wp2
  go_ret
  exact ⟨ret_bool (by first | rfl | exact t1 | exact h1 | (simp; omega) | simpa using t1),HB0.out.trans (HB5.out.mono HB0.out.size)⟩
end Go.Proofs.YtmnhoeliofojnaaGreatDoor

namespace Go.Proofs.YtmnhoeliofojnaaGreatDoor
open Go.RowKit Go.Shelf
open Go.Lib (hid)
set_option maxRecDepth 100000
set_option maxHeartbeats 8000000 in
theorem putOnce_any (ds : List De) (Q : Nat -> Bool) (L : Nat) (op n : Int) (k : Fo) (A : Option Addr) (c base : Nat) (bs : List Nat) (w : World) (hst : St (libT ds) L ⟨op,n,k⟩) (hi : I64 op /\ I64 n) (ht : Tree w base (.slice A k.len c) k bs) (hbase : base <= w.heap.size) :
  Calls Tryz.prog 47 #[.agg (cells8 Q),.agg #[.int .i64 op,.int .i64 n,.slice A k.len c],.int .i64 (L : Int)] w (Turns (gOnce (ansI Q) L ⟨op,n,k⟩) base w) := by
 obtain ⟨hb,r0,r1,r2⟩ := three_boxes w 56 30 30 (cells8 Q) #[Value.int .i64 op,Value.int .i64 n,Value.slice A k.len c] #[.int .i64 0,.int .i64 0,.slice none 0 0]
 obtain ⟨W,hW⟩ : ∃ W,W = ((w.alloc (Obj.cells (cells8 Q) 56)).alloc (Obj.cells #[Value.int .i64 op,Value.int .i64 n,Value.slice A k.len c] 30)).alloc (Obj.cells #[.int .i64 0,.int .i64 0,.slice none 0 0] 30) := ⟨_,rfl⟩
 rw [<- hW] at hb r0 r1 r2
 have HB0 := hid hb
 have HRS := hid r0
 have HRB := hid r1
 have HRR := hid r2
 have HT := hid (ht.over hb)
 have HNB := hid (show w.heap.size + 1 + 1 ∉ bs from fun hz => by have := (ht.lt _ hz).2; omega)
 have HLOW := hid (show base <= base /\ base <= W.heap.size from ⟨Nat.le_refl _,Nat.le_trans hbase hb.size⟩)
 have HZW := hid (show w.heap.size + 1 + 1 + 1 <= W.heap.size by rw [hW]; simp)
 have HST := hid hst
 have HI := hid hi
 obtain ⟨GP,hGP⟩ : ∃ GP,GP = gOnce (ansI Q) L ⟨op,n,k⟩ := ⟨_,rfl⟩
 rw [<- hGP]
 have HGP := hid hGP
 clear hb r0 r1 r2 ht hst hi hGP hbase
 unfold cells8 at hW ⊢
 go_enter Tryz.func47,Tryz.ntmps47
 go_upto_region 1 with fail
 rw [<- hW]
 clear hW
 by_cases h7 : op = 7
 ·obtain ⟨oa,ma,ka,ob,mb,kb,ek,sta,stb,hss⟩ := let_two (libT_local ds) HST.out h7
  dsimp only at ek hss
  subst h7
  subst ek
  obtain ⟨g,X,cx,X',cx',b1,b2,cs,hA,_,hg0,hrg,k0,k1,k2,k3,k4,k5,hta,htb,hia,hib,hsa,hsb⟩ := HT.out.two
  subst hA
  have HRG := hid hrg
  have HTA := hid hta
  have HTB := hid htb
  have HK := hid (And.intro k0 (And.intro k1 (And.intro k2 (And.intro k3 (And.intro k4 k5)))))
  have HIA := hid (And.intro hia hib)
  have HSAB := hid (And.intro sta stb)
  have HSZ := hid hss
  have HPZ := hid HST.out.size
  have HS := hid (show ∀ w' : World,Below W.heap.size W w' -> w'.cell? ⟨w.heap.size,0,none⟩ = some (.bool (Q 0)) /\ w'.cell? ⟨w.heap.size,1,none⟩ = some (.bool (Q 1)) /\ w'.cell? ⟨w.heap.size,2,none⟩ = some (.bool (Q 2)) /\ w'.cell? ⟨w.heap.size,3,none⟩ = some (.bool (Q 3)) /\ w'.cell? ⟨w.heap.size,4,none⟩ = some (.bool (Q 4)) /\ w'.cell? ⟨w.heap.size,5,none⟩ = some (.bool (Q 5)) /\ w'.cell? ⟨w.heap.size,6,none⟩ = some (.bool (Q 6)) /\ w'.cell? ⟨w.heap.size,7,none⟩ = some (.bool (Q 7)) /\ w'.cell? ⟨w.heap.size + 1,0,none⟩ = some (.int .i64 7) /\ w'.cell? ⟨w.heap.size + 1,1,none⟩ = some (.int .i64 n) /\ w'.cell? ⟨w.heap.size + 1,2,none⟩ = some (.slice (some ⟨g,0,none⟩) 2 c) /\ w'.cell? ⟨g,0,none⟩ = some (.int .i64 oa) /\ w'.cell? ⟨g,1,none⟩ = some (.int .i64 ma) /\ w'.cell? ⟨g,2,none⟩ = some (.slice X ka.len cx) /\ w'.cell? ⟨g,3,none⟩ = some (.int .i64 ob) /\ w'.cell? ⟨g,4,none⟩ = some (.int .i64 mb) /\ w'.cell? ⟨g,5,none⟩ = some (.slice X' kb.len cx') from by
   intro w' hb'
   have hz1 := HRB.out.size
   have hz2 := HRG.out.size
   have hz3 := HRS.out.size
   obtain ⟨k0,k1,k2,k3,k4,k5⟩ := HK.out
   exact ⟨(hb'.cell (p := ⟨w.heap.size,0,none⟩) hz3).trans (HRS.out.cell (i := 0) rfl),(hb'.cell (p := ⟨w.heap.size,1,none⟩) hz3).trans (HRS.out.cell (i := 1) rfl),(hb'.cell (p := ⟨w.heap.size,2,none⟩) hz3).trans (HRS.out.cell (i := 2) rfl),(hb'.cell (p := ⟨w.heap.size,3,none⟩) hz3).trans (HRS.out.cell (i := 3) rfl),(hb'.cell (p := ⟨w.heap.size,4,none⟩) hz3).trans (HRS.out.cell (i := 4) rfl),(hb'.cell (p := ⟨w.heap.size,5,none⟩) hz3).trans (HRS.out.cell (i := 5) rfl),(hb'.cell (p := ⟨w.heap.size,6,none⟩) hz3).trans (HRS.out.cell (i := 6) rfl),(hb'.cell (p := ⟨w.heap.size,7,none⟩) hz3).trans (HRS.out.cell (i := 7) rfl),(hb'.cell (p := ⟨w.heap.size + 1,0,none⟩) hz1).trans (HRB.out.cell (i := 0) rfl),(hb'.cell (p := ⟨w.heap.size + 1,1,none⟩) hz1).trans (HRB.out.cell (i := 1) rfl),(hb'.cell (p := ⟨w.heap.size + 1,2,none⟩) hz1).trans (HRB.out.cell (i := 2) rfl),(hb'.cell (p := ⟨g,0,none⟩) hz2).trans (HRG.out.cell k0),(hb'.cell (p := ⟨g,1,none⟩) hz2).trans (HRG.out.cell k1),(hb'.cell (p := ⟨g,2,none⟩) hz2).trans (HRG.out.cell k2),(hb'.cell (p := ⟨g,3,none⟩) hz2).trans (HRG.out.cell k3),(hb'.cell (p := ⟨g,4,none⟩) hz2).trans (HRG.out.cell k4),(hb'.cell (p := ⟨g,5,none⟩) hz2).trans (HRG.out.cell k5)⟩)
  obtain ⟨cn,hcn⟩ : ∃ cn,cn = cntN n ob mb kb := ⟨_,rfl⟩
  have HCN := hid (show ∀ w' : World,Below W.heap.size W w' -> Calls Tryz.prog 77 #[.agg #[.int .i64 ob,.int .i64 mb,.slice X' kb.len cx'],.int .i64 n] w' (Gives (.int .i64 ((cn : Nat) : Int)) w') from fun w' hb' => by
   rw [hcn]
   have hb := HSAB.out.2
   exact implCount_r ob mb n kb X' cx' 0 w'.heap.size w' (HTB.out.over hb').lies0 (Nat.le_refl _) (RowsIf.small hb.small) HTB.out.le.1 HTB.out.le.2 (Nat.le_trans (small_size hb.small) (by decide)))
  obtain ⟨an,han⟩ : ∃ an,an = ansI Q n ob mb kb := ⟨_,rfl⟩
  have HFI := hid (show ∀ w' : World,Below W.heap.size W w' -> Calls Tryz.prog 78 #[.agg #[.bool (Q 0),.bool (Q 1),.bool (Q 2),.bool (Q 3),.bool (Q 4),.bool (Q 5),.bool (Q 6),.bool (Q 7)],.agg #[.int .i64 ob,.int .i64 mb,.slice X' kb.len cx'],.int .i64 n] w' (Gives (.bool (decide (an = 1))) w') from fun w' hb' => by
   rw [han]
   have hb := HSAB.out.2
   exact comesFirst_any Q n ob mb kb X' cx' 0 w'.heap.size w' (HTB.out.over hb').lies0 (Nat.le_refl _) (.inl ⟨by have h1 := hb.dep; have h2 := hb.lv; dsimp only at h1; omega,by have h1 := hb.size; dsimp only at h1; omega⟩) HTB.out.le.1 HTB.out.le.2 (Nat.le_trans (small_size hb.small) (by decide)) (st_well hb))
  have HONCE := hid (show onceOk (ansI Q) ⟨7,n,Fo.cons oa ma ka (Fo.cons ob mb kb Fo.nil)⟩ = (decide (cn = 1) && decide (an = 1)) from by rw [hcn,han]; rfl)
  have HCN1 := hid hcn
  clear hrg hta htb hia hib sta stb k0 k1 k2 k3 k4 k5 hss hsa hsb hcn han
  have HBSd := hid (show Below W.heap.size W W.drew from (Below.refl _ _).drew)
  skip
  by_cases hc0 : cn = 1
  ·subst hc0
   have s0 := HS.out _ HBSd.out
   go_wp2_with fail
   refine wp_region_held_drew (S := fun w' => w'.cell? ⟨w.heap.size,0,none⟩ = some (.bool (Q 0)) /\ w'.cell? ⟨w.heap.size,1,none⟩ = some (.bool (Q 1)) /\ w'.cell? ⟨w.heap.size,2,none⟩ = some (.bool (Q 2)) /\ w'.cell? ⟨w.heap.size,3,none⟩ = some (.bool (Q 3)) /\ w'.cell? ⟨w.heap.size,4,none⟩ = some (.bool (Q 4)) /\ w'.cell? ⟨w.heap.size,5,none⟩ = some (.bool (Q 5)) /\ w'.cell? ⟨w.heap.size,6,none⟩ = some (.bool (Q 6)) /\ w'.cell? ⟨w.heap.size,7,none⟩ = some (.bool (Q 7)) /\ w'.cell? ⟨w.heap.size + 1,0,none⟩ = some (.int .i64 7) /\ w'.cell? ⟨w.heap.size + 1,1,none⟩ = some (.int .i64 n) /\ w'.cell? ⟨w.heap.size + 1,2,none⟩ = some (.slice (some ⟨g,0,none⟩) 2 c) /\ w'.cell? ⟨g,0,none⟩ = some (.int .i64 oa) /\ w'.cell? ⟨g,1,none⟩ = some (.int .i64 ma) /\ w'.cell? ⟨g,2,none⟩ = some (.slice X ka.len cx) /\ w'.cell? ⟨g,3,none⟩ = some (.int .i64 ob) /\ w'.cell? ⟨g,4,none⟩ = some (.int .i64 mb) /\ w'.cell? ⟨g,5,none⟩ = some (.slice X' kb.len cx')) (by kernel_rfl) s0 (fun hHeld => ?_)
   refine takeW 0 (v := ?vx5_0) rfl (by kernel_rfl) (fun _ _ _ h => h) (by rfl) (by assumption) ?yx5_0 ?rx5_0
   case yx5_0 => (intro w' hSw; (try dsimp only at hSw); go_simp; try with_reducible rfl)
   try simp only [Act.put,ars,List.getElem_toArray,List.getElem_cons_zero]
   refine takeW 1 (v := ?vx5_1) rfl (by kernel_rfl) (fun _ _ _ h => h) (by rfl) (by assumption) ?yx5_1 ?rx5_1
   case yx5_1 => (intro w' hSw; (try dsimp only at hSw); go_simp; try with_reducible rfl)
   try simp only [Act.put,ars,List.getElem_toArray,List.getElem_cons_succ,List.getElem_cons_zero]
   refine takeW 2 (v := ?vx5_2) rfl (by kernel_rfl) (fun _ _ _ h => h) (by rfl) (by assumption) ?yx5_2 ?rx5_2
   case yx5_2 => (intro w' hSw; (try dsimp only at hSw); go_simp; try with_reducible rfl)
   try simp only [Act.put,ars,List.getElem_toArray,List.getElem_cons_succ,List.getElem_cons_zero]
   refine takeW 3 (v := ?vx5_3) rfl (by kernel_rfl) (fun _ _ _ h => h) (by rfl) (by assumption) ?yx5_3 ?rx5_3
   case yx5_3 => (intro w' hSw; (try dsimp only at hSw); go_simp; try with_reducible rfl)
   try simp only [Act.put,ars,List.getElem_toArray,List.getElem_cons_succ,List.getElem_cons_zero]
   refine takeW 4 (v := ?vx5_4) rfl (by kernel_rfl) (fun _ _ _ h => h) (by rfl) (by assumption) ?yx5_4 ?rx5_4
   case yx5_4 => (intro w' hSw; (try dsimp only at hSw); go_simp; try with_reducible rfl)
   try simp only [Act.put,ars,List.getElem_toArray,List.getElem_cons_succ,List.getElem_cons_zero]
   refine takeW 5 (v := ?vx5_5) rfl (by kernel_rfl) (fun _ _ _ h => h) (by rfl) (by assumption) ?yx5_5 ?rx5_5
   case yx5_5 => (intro w' hSw; (try dsimp only at hSw); go_simp; try with_reducible rfl)
   try simp only [Act.put,ars,List.getElem_toArray,List.getElem_cons_succ,List.getElem_cons_zero]
   refine takeW 6 (v := ?vx5_6) rfl (by kernel_rfl) (fun _ _ _ h => h) (by rfl) (by assumption) ?yx5_6 ?rx5_6
   case yx5_6 => (intro w' hSw; (try dsimp only at hSw); go_simp; try with_reducible rfl)
   try simp only [Act.put,ars,List.getElem_toArray,List.getElem_cons_succ,List.getElem_cons_zero]
   refine takeW 7 (v := ?vx5_7) rfl (by kernel_rfl) (fun _ _ _ h => h) (by rfl) (by assumption) ?yx5_7 ?rx5_7
   case yx5_7 => (intro w' hSw; (try dsimp only at hSw); go_simp; try with_reducible rfl)
   try simp only [Act.put,ars,List.getElem_toArray,List.getElem_cons_succ,List.getElem_cons_zero]
   refine takeW 8 (v := ?vx5_8) rfl (by kernel_rfl) (fun _ _ _ h => h) (by rfl) (by assumption) ?yx5_8 ?rx5_8
   case yx5_8 => (intro w' hSw; (try dsimp only at hSw); go_simp; try with_reducible rfl)
   try simp only [Act.put,ars,List.getElem_toArray,List.getElem_cons_succ,List.getElem_cons_zero]
   refine takeW 9 (v := ?vx5_9) rfl (by kernel_rfl) (fun _ _ _ h => h) (by rfl) (by assumption) ?yx5_9 ?rx5_9
   case yx5_9 => (intro w' hSw; (try dsimp only at hSw); go_simp; try with_reducible rfl)
   try simp only [Act.put,ars,List.getElem_toArray,List.getElem_cons_succ,List.getElem_cons_zero]
   refine wpAnyH_ready (rs := [10]) (by kernel_rfl) (by simp) ?_
   refine AllReadyH.cons rfl (fun K hK => ?_) AllReadyH.nil
   go_simp
   with_reducible refine (HCN.out _ HBSd.out).mono ?_
   rintro e w5 ⟨rfl,hb5⟩
   have HB5 := onB HBSd hb5
   clear hb5
   refine hK.out _ _ (HS.out _ HB5.out) (fun hHeld2 => ?_)
   clear hK K
   try simp only [Act.put,ars,List.getElem_toArray,List.getElem_cons_succ,List.getElem_cons_zero]
   refine takeW 11 (v := ?vx5_11) rfl (by kernel_rfl) (fun _ _ _ h => h) (by rfl) (by assumption) ?yx5_11 ?rx5_11
   case yx5_11 => (intro w' hSw; (try dsimp only at hSw); go_simp; try with_reducible rfl)
   try simp only [Act.put,ars,List.getElem_toArray,List.getElem_cons_succ,List.getElem_cons_zero]
   refine takeW 12 (v := ?vx5_12) rfl (by kernel_rfl) (fun _ _ _ h => h) (by rfl) (by assumption) ?yx5_12 ?rx5_12
   case yx5_12 => (intro w' hSw; (try dsimp only at hSw); go_simp; try with_reducible rfl)
   try simp only [Act.put,ars,List.getElem_toArray,List.getElem_cons_succ,List.getElem_cons_zero]
   refine takeW 13 (v := ?vx5_13) rfl (by kernel_rfl) (fun _ _ _ h => h) (by rfl) (by assumption) ?yx5_13 ?rx5_13
   case yx5_13 => (intro w' hSw; (try dsimp only at hSw); go_simp; try with_reducible rfl)
   try simp only [Act.put,ars,List.getElem_toArray,List.getElem_cons_succ,List.getElem_cons_zero]
   refine takeW 14 (v := ?vx5_14) rfl (by kernel_rfl) (fun _ _ _ h => h) (by rfl) (by assumption) ?yx5_14 ?rx5_14
   case yx5_14 => (intro w' hSw; (try dsimp only at hSw); go_simp; try with_reducible rfl)
   try simp only [Act.put,ars,List.getElem_toArray,List.getElem_cons_succ,List.getElem_cons_zero]
   refine takeW 15 (v := ?vx5_15) rfl (by kernel_rfl) (fun _ _ _ h => h) (by rfl) (by assumption) ?yx5_15 ?rx5_15
   case yx5_15 => (intro w' hSw; (try dsimp only at hSw); go_simp; try with_reducible rfl)
   try simp only [Act.put,ars,List.getElem_toArray,List.getElem_cons_succ,List.getElem_cons_zero]
   refine takeW 16 (v := ?vx5_16) rfl (by kernel_rfl) (fun _ _ _ h => h) (by rfl) (by assumption) ?yx5_16 ?rx5_16
   case yx5_16 => (intro w' hSw; (try dsimp only at hSw); go_simp; try with_reducible rfl)
   try simp only [Act.put,ars,List.getElem_toArray,List.getElem_cons_succ,List.getElem_cons_zero]
   refine takeW 17 (v := ?vx5_17) rfl (by kernel_rfl) (fun _ _ _ h => h) (by rfl) (by assumption) ?yx5_17 ?rx5_17
   case yx5_17 => (intro w' hSw; (try dsimp only at hSw); go_simp; try with_reducible rfl)
   try simp only [Act.put,ars,List.getElem_toArray,List.getElem_cons_succ,List.getElem_cons_zero]
   refine takeW 18 (v := ?vx5_18) rfl (by kernel_rfl) (fun _ _ _ h => h) (by rfl) (by assumption) ?yx5_18 ?rx5_18
   case yx5_18 => (intro w' hSw; (try dsimp only at hSw); go_simp; try with_reducible rfl)
   try simp only [Act.put,ars,List.getElem_toArray,List.getElem_cons_succ,List.getElem_cons_zero]
   refine takeW 19 (v := ?vx5_19) rfl (by kernel_rfl) (fun _ _ _ h => h) (by rfl) (by assumption) ?yx5_19 ?rx5_19
   case yx5_19 => (intro w' hSw; (try dsimp only at hSw); go_simp; try with_reducible rfl)
   try simp only [Act.put,ars,List.getElem_toArray,List.getElem_cons_succ,List.getElem_cons_zero]
   refine takeW 20 (v := ?vx5_20) rfl (by kernel_rfl) (fun _ _ _ h => h) (by rfl) (by assumption) ?yx5_20 ?rx5_20
   case yx5_20 => (intro w' hSw; (try dsimp only at hSw); go_simp; try with_reducible rfl)
   try simp only [Act.put,ars,List.getElem_toArray,List.getElem_cons_succ,List.getElem_cons_zero]
   refine takeW 21 (v := ?vx5_21) rfl (by kernel_rfl) (fun _ _ _ h => h) (by rfl) (by assumption) ?yx5_21 ?rx5_21
   case yx5_21 => (intro w' hSw; (try dsimp only at hSw); go_simp; try with_reducible rfl)
   try simp only [Act.put,ars,List.getElem_toArray,List.getElem_cons_succ,List.getElem_cons_zero]
   refine wpAnyH_ready (rs := [22]) (by kernel_rfl) (by simp) ?_
   refine AllReadyH.cons rfl (fun K hK => ?_) AllReadyH.nil
   go_simp
   with_reducible refine (HFI.out _ HB5.out).mono ?_
   rintro e W1 ⟨rfl,hb6⟩
   have HB1 := onB HB5 hb6
   clear hb6
   refine hK.out _ _ (HS.out _ HB1.out) (fun hHeld3 => ?_)
   clear hK K
   try simp only [Act.put,ars,List.getElem_toArray,List.getElem_cons_succ,List.getElem_cons_zero]
   refine takeW 23 (v := ?vx5_23) rfl (by kernel_rfl) (fun _ _ _ h => h) (by rfl) (by assumption) ?yx5_23 ?rx5_23
   case yx5_23 => (intro w' hSw; (try dsimp only at hSw); go_simp; try with_reducible rfl)
   try simp only [Act.put,ars,List.getElem_toArray,List.getElem_cons_succ,List.getElem_cons_zero]
   refine takeW 24 (v := ?vx5_24) rfl (by kernel_rfl) (fun _ _ _ h => h) (by rfl) (by assumption) ?yx5_24 ?rx5_24
   case yx5_24 => (intro w' hSw; (try dsimp only at hSw); go_simp; try with_reducible rfl)
   try simp only [Act.put,ars,List.getElem_toArray,List.getElem_cons_succ,List.getElem_cons_zero]
   refine wpAnyH_done (by kernel_rfl) ?_ _
   clear s0 hHeld hHeld2 hHeld3 HFI HCN HB5
   by_cases ha0 : an = 1
   ·subst ha0
    have HGY := hid (show onceOk (ansI Q) ⟨7,n,Fo.cons oa ma ka (Fo.cons ob mb kb Fo.nil)⟩ = true from HONCE.out.trans rfl)
    have HB0' := hid (HB0.out.trans (HB1.out.mono HB0.out.size))
    have HRB' := onR HRB HB1.out
    have HRR' := onR HRR HB1.out
    have HT' := hid (HT.out.over HB1.out)
    have HTA' := hid (HTA.out.over HB1.out)
    have HTB' := hid (HTB.out.over HB1.out)
    have HLOW' := hid (And.intro HLOW.out.1 (Nat.le_trans HLOW.out.2 HB1.out.size))
    have HZW' := hid (show w.heap.size + 1 + 1 + 1 <= W1.heap.size from Nat.le_trans HZW.out HB1.out.size)
    have HS' := hid (show ∀ w' : World,Below W1.heap.size W1 w' -> w'.cell? ⟨w.heap.size + 1,1,none⟩ = some (.int .i64 n) /\ w'.cell? ⟨w.heap.size + 1,2,none⟩ = some (.slice (some ⟨g,0,none⟩) 2 c) /\ w'.cell? ⟨g,0,none⟩ = some (.int .i64 oa) /\ w'.cell? ⟨g,1,none⟩ = some (.int .i64 ma) /\ w'.cell? ⟨g,2,none⟩ = some (.slice X ka.len cx) /\ w'.cell? ⟨g,3,none⟩ = some (.int .i64 ob) /\ w'.cell? ⟨g,4,none⟩ = some (.int .i64 mb) /\ w'.cell? ⟨g,5,none⟩ = some (.slice X' kb.len cx') from fun w' hb' => by
     obtain ⟨v0,v1,v2,v3,v4,v5,v6,v7,v8,v9,v10,v11,v12,v13,v14,v15,v16⟩ := HS.out _ (HB1.out.trans (hb'.mono HB1.out.size))
     exact ⟨v9,v10,v11,v12,v13,v14,v15,v16⟩)
    clear HB0 HRB HRR HRG HT HTA HTB HLOW HZW HB1 HS HK HBSd
    have HB0 := HB0'
    have HRB := HRB'
    have HRR := HRR'
    have HT := HT'
    have HTA := HTA'
    have HTB := HTB'
    have HLOW := HLOW'
    have HZW := HZW'
    have HS := HS'
    clear HB0' HRB' HRR' HT' HTA' HTB' HLOW' HZW' HS'
    obtain ⟨RP,hRP⟩ : ∃ RP,RP = putN (kb.size + 1) ⟨ob,mb,kb⟩ n ⟨oa,ma,ka⟩ := ⟨_,rfl⟩
    have HGE := hid (show GP = keepL L ⟨7,n,Fo.cons oa ma ka (Fo.cons ob mb kb Fo.nil)⟩ RP from by rw [HGP.out,gOnce_yes HGY.out,hRP]; rfl)
    have HREP := hid (show ∀ w' : World,Below W1.heap.size W1 w' -> Calls Tryz.prog 75 #[.agg #[.int .i64 ob,.int .i64 mb,.slice X' kb.len cx'],.int .i64 n,.agg #[.int .i64 oa,.int .i64 ma,.slice X ka.len cx]] w' (PutPost RP w') from fun w' hb' => by
     rw [hRP]
     have ha := HSAB.out.1
     have hb := HSAB.out.2
     exact rep_any _ (in_any _) ⟨ob,mb,kb⟩ n ⟨oa,ma,ka⟩ X' X cx' cx w' (HTB.out.over hb').lies0 (HTA.out.over hb').lies0 (Nat.lt_succ_self _) hb.small (all_fitN (libT_local ds) hb.all) HIA.out.2 ha.small HIA.out.1 HI.out.2 HTA.out.le.1 HTA.out.le.2)
    have HRI := hid (show ∀ y,RP = some y -> I64 y.op /\ I64 y.n from fun y hy => putN_i64 (p := ⟨ob,mb,kb⟩) HIA.out.2 HIA.out.1 (hRP.symm.trans hy))
    have HYS := hid (show ∀ y,RP = some y -> allN formT y /\ y.k.size <= 80 from fun y hy => by
     have e := hRP.symm.trans hy
     have y1 := (putN_all (libT_local ds) _ _ _ _ _ HSAB.out.2.all HSAB.out.1.all e).1
     have y3 := putN_size _ _ _ (all_fitN (libT_local ds) HSAB.out.2.all) e
     have hz := HSZ.out
     have hp := HPZ.out
     simp only [cntP, <- HCN1.out,Nat.one_mul] at y3
     simp only [Fo.size] at hp hz
     exact ⟨⟨y1.1.1,lib_form y1.2⟩,by omega⟩)
    clear hRP HONCE HGY HCN1 HSZ HPZ HSAB
    go_upto_region 3 with fail
    go_cut [7,8] from 35 to 48 (fun p s wd => ∃ g9 o9 m9 A9 l9 c9,p = .pointer (some ⟨g9,0,none⟩) /\ s = .bool RP.isSome /\ Row wd g9 30 #[.int .i64 o9,.int .i64 m9,.slice A9 l9 c9] /\ W1.heap.size <= g9 /\ (∀ y,RP = some y -> o9 = y.op /\ m9 = y.n /\ l9 = y.k.len /\ ∃ bz,Tree wd W1.heap.size (.slice A9 l9 c9) y.k bz) /\ Below W1.heap.size W1 wd)
    case first =>
     have b0 : Below W1.heap.size W1 W1.drew := (Below.refl _ _).drew
     have bp : Below W1.heap.size W1 (W1.alloc (Obj.cells #[Value.int .i64 0,Value.int .i64 0,Value.slice none 0 0] 30)).drew := ((Below.refl _ _).alloc (Nat.le_refl _) _).drew
     have CA := hid (HREP.out _ bp)
     have CB := hid (HREP.out _ b0)
     have s0 := HS.out _ b0
     have sp := HS.out _ bp
     have B0 := hid b0
     have BP := hid bp
     have RPW := hid (show Row (W1.alloc (Obj.cells #[Value.int .i64 0,Value.int .i64 0,Value.slice none 0 0] 30)).drew W1.heap.size 30 #[Value.int .i64 0,Value.int .i64 0,Value.slice none 0 0] from (Row.fresh _ _ _).drew)
     have hza : (W1.alloc (Obj.cells #[Value.int .i64 0,Value.int .i64 0,Value.slice none 0 0] 30)).drew.heap.size = W1.heap.size + 1 := by simp
     have HZA := hid hza
     clear b0 bp hza
     go_region_held3 (fun w' => w'.cell? ⟨w.heap.size + 1,1,none⟩ = some (.int .i64 n) /\ w'.cell? ⟨w.heap.size + 1,2,none⟩ = some (.slice (some ⟨g,0,none⟩) 2 c) /\ w'.cell? ⟨g,0,none⟩ = some (.int .i64 oa) /\ w'.cell? ⟨g,1,none⟩ = some (.int .i64 ma) /\ w'.cell? ⟨g,2,none⟩ = some (.slice X ka.len cx) /\ w'.cell? ⟨g,3,none⟩ = some (.int .i64 ob) /\ w'.cell? ⟨g,4,none⟩ = some (.int .i64 mb) /\ w'.cell? ⟨g,5,none⟩ = some (.slice X' kb.len cx'))
      (first | with_reducible exact s0 | with_reducible exact sp | with_reducible exact s5 | with_reducible exact s6 | with_reducible exact s5z | fail)
      (first
       |(go_at_call 75
         with_reducible refine CA.out.mono ?_
         rintro e w5 hpp
         obtain ⟨o5,m5,A5,l5,c5,rfl,hb5,hy5⟩ := PutPost.opened hpp
         have hb := BP.out.trans (hb5.mono BP.out.size)
         have r5 := RPW.out.below hb5 RPW.out.size
         obtain ⟨f0,f1,f2⟩ := r5.frees3
         obtain ⟨c0,c1,c2⟩ := r5.cells3 rfl rfl rfl
         have hbs := ((hb.setCell (p := ⟨W1.heap.size,0,none⟩) (Nat.le_refl _) (.int .i64 o5)).setCell (p := ⟨W1.heap.size,1,none⟩) (Nat.le_refl _) (.int .i64 m5)).setCell (p := ⟨W1.heap.size,2,none⟩) (Nat.le_refl _) (.slice A5 l5 c5)
         have s5 := HS.out _ hb
         have s6 := HS.out _ hbs
         rw [HZA.out] at hy5
         have HEND := hid (show ∃ g9 o9 m9 A9 l9 c9,Value.pointer (some ⟨W1.heap.size,0,none⟩) = .pointer (some ⟨g9,0,none⟩) /\ Row (((w5.setCell ⟨W1.heap.size,0,none⟩ (.int .i64 o5)).setCell ⟨W1.heap.size,1,none⟩ (.int .i64 m5)).setCell ⟨W1.heap.size,2,none⟩ (.slice A5 l5 c5)) g9 30 #[.int .i64 o9,.int .i64 m9,.slice A9 l9 c9] /\ W1.heap.size <= g9 /\ (∀ y,RP = some y -> o9 = y.op /\ m9 = y.n /\ l9 = y.k.len /\ ∃ bz,Tree (((w5.setCell ⟨W1.heap.size,0,none⟩ (.int .i64 o5)).setCell ⟨W1.heap.size,1,none⟩ (.int .i64 m5)).setCell ⟨W1.heap.size,2,none⟩ (.slice A5 l5 c5)) W1.heap.size (.slice A9 l9 c9) y.k bz) /\ Below W1.heap.size W1 (((w5.setCell ⟨W1.heap.size,0,none⟩ (.int .i64 o5)).setCell ⟨W1.heap.size,1,none⟩ (.int .i64 m5)).setCell ⟨W1.heap.size,2,none⟩ (.slice A5 l5 c5)) from
          ⟨W1.heap.size,o5,m5,A5,l5,c5,rfl,((r5.put 0 _).put 1 _).put 2 _,Nat.le_refl _,fun y hy => by
           obtain ⟨e1,e2,e3,bz,ht⟩ := hy5 y hy
           exact ⟨e1,e2,e3,bz,(((ht.put (p := ⟨W1.heap.size,0,none⟩) (Nat.lt_succ_self _) _).put (p := ⟨W1.heap.size,1,none⟩) (Nat.lt_succ_self _) _).put (p := ⟨W1.heap.size,2,none⟩) (Nat.lt_succ_self _) _).lower (Nat.le_succ _)⟩,hbs⟩)
         clear hpp hy5 hb5 hb r5 hbs)
       |(go_at_call 75
         with_reducible refine CB.out.mono ?_
         rintro e w5 hpp
         obtain ⟨o5,m5,A5,l5,c5,rfl,hb5,hy5⟩ := PutPost.opened hpp
         have hb := B0.out.trans (hb5.mono B0.out.size)
         have hbl := (Below.refl w5.heap.size w5).alloc (Nat.le_refl _) (Obj.cells #[Value.int .i64 o5,Value.int .i64 m5,Value.slice A5 l5 c5] 30)
         have hba := hb.trans (hbl.mono hb.size)
         have s5 := HS.out _ hb
         have s6 := HS.out _ hba
         have s5z := HS.out _ (hb.alloc hb.size (Obj.cells #[Value.int .i64 0,Value.int .i64 0,Value.slice none 0 0] 30))
         have HEND := hid (show ∃ g9 o9 m9 A9 l9 c9,Value.pointer (some ⟨w5.heap.size,0,none⟩) = .pointer (some ⟨g9,0,none⟩) /\ Row (w5.alloc (Obj.cells #[Value.int .i64 o5,Value.int .i64 m5,Value.slice A5 l5 c5] 30)) g9 30 #[.int .i64 o9,.int .i64 m9,.slice A9 l9 c9] /\ W1.heap.size <= g9 /\ (∀ y,RP = some y -> o9 = y.op /\ m9 = y.n /\ l9 = y.k.len /\ ∃ bz,Tree (w5.alloc (Obj.cells #[Value.int .i64 o5,Value.int .i64 m5,Value.slice A5 l5 c5] 30)) W1.heap.size (.slice A9 l9 c9) y.k bz) /\ Below W1.heap.size W1 (w5.alloc (Obj.cells #[Value.int .i64 o5,Value.int .i64 m5,Value.slice A5 l5 c5] 30)) from
          ⟨w5.heap.size,o5,m5,A5,l5,c5,rfl,Row.fresh _ _ _,hb.size,fun y hy => by
           obtain ⟨e1,e2,e3,bz,ht⟩ := hy5 y hy
           exact ⟨e1,e2,e3,bz,ht.over hbl⟩,hba⟩)
         clear hpp hy5 hb5 hb hbl hba)
       | fail)
     all_goals
      go_wp2_with fail
      go_meet
      obtain ⟨g9,o9,m9,A9',l9,c9',hp,hr⟩ := HEND.out
      exact ⟨g9,o9,m9,A9',l9,c9',hp,rfl,hr⟩
    case rest =>
     obtain ⟨g9,o9,m9,A9,l9,c9,rfl,rfl,hrg,hgW,hy,hbd⟩ := hcut
     have HB9 := hid hbd
     have HRG9 := hid hrg
     have HGW := hid hgW
     obtain ⟨wd,hwd⟩ : ∃ wd,wd = wc := ⟨_,rfl⟩
     have HY := hid hy
     rw [<- hwd] at HB9 HRG9 HY ⊢
     clear hbd hrg hgW hy hwd wc HREP
     cases RP with
     | none =>
      have HGF := hid (show GP = ⟨7,n,Fo.cons oa ma ka (Fo.cons ob mb kb Fo.nil)⟩ from HGE.out)
      obtain ⟨q0,q1,q2⟩ := (HRB.out.below HB9.out HRB.out.size).cells3 rfl rfl rfl
      obtain ⟨bz,htz,hap⟩ := (show ∃ bz,Tree _ base (.slice (some ⟨g,0,none⟩) (Fo.cons oa ma ka (Fo.cons ob mb kb Fo.nil)).len c) (Fo.cons oa ma ka (Fo.cons ob mb kb Fo.nil)) bz /\ w.heap.size + 1 + 1 ∉ bz from ⟨bs,(HT.out.over HB9.out).lower HLOW.out.1,HNB.out⟩)
      obtain ⟨⟨c0,c1,c2⟩,⟨f0,f1,f2⟩,⟨r0,r1,r2⟩,hbz,htz2⟩ := box3 (HRR.out.below HB9.out HRR.out.size) (HB0.out.trans (HB9.out.mono HB0.out.size)) (by omega) (7) (n) ((some ⟨g,0,none⟩)) (2) (c) htz hap
      have HBZ := hid hbz
      have HTZ := hid htz2
      clear hbz htz2 htz hap
      go_wp2_with fail
      refine bodyPost_ret (v := .agg #[.int .i64 7,.int .i64 n,.slice (some ⟨g,0,none⟩) 2 c]) ?_ rfl (by rw [HGF.out]; exact ⟨(some ⟨g,0,none⟩),c,bz,rfl,HTZ.out,HBZ.out,HI.out⟩)
      simp [results,Tryz.f47,go_sem,r0,r1,r2]
     | some y =>
      obtain ⟨rfl,rfl,rfl,b9,ht9⟩ := HY.out y rfl
      have HT9 := hid ht9
      have HYY := hid (HYS.out y rfl)
      clear ht9 HY HYS
      have HDP := hid (depthOf_any y.k.size y.op y.n y.k A9 c9 wd rfl (by have := HYY.out.2; omega) HT9.out.lies0)
      obtain ⟨dy,hdy⟩ : ∃ dy,dy = y.k.dep + 1 := ⟨_,rfl⟩
      rw [<- hdy] at HDP
      have HDY := hid hdy
      clear hdy
      obtain ⟨z0,z1,z2⟩ := HRG9.out.cells3 rfl rfl rfl
      obtain ⟨q0,q1,q2⟩ := (HRB.out.below HB9.out HRB.out.size).cells3 rfl rfl rfl
      go_wp2_with fail
      refine HDP.out.mono ?_
      rintro e W2 ⟨rfl,hb2⟩
      have HB2 := hid hb2
      clear hb2 z0 z1 z2 q0 q1 q2
      have HB92 := hid (HB9.out.trans (HB2.out.mono HB9.out.size))
      by_cases hd : dy <= L
      ·have HGF := hid (show GP = y from HGE.out.trans (by unfold keepL; dsimp only; rw [<- HDY.out]; exact if_pos hd))
       have hcmp : ((dy : Nat) : Int) <= (L : Int) := by omega
       have hcmp2 : ¬ (L : Int) < ((dy : Nat) : Int) := by omega
       obtain ⟨z0,z1,z2⟩ := (HRG9.out.below HB2.out HRG9.out.size).cells3 rfl rfl rfl
       obtain ⟨bz,htz,hap⟩ := (show ∃ bz,Tree _ base (.slice A9 y.k.len c9) y.k bz /\ w.heap.size + 1 + 1 ∉ bz from ⟨b9,(HT9.out.over HB2.out).lower HLOW.out.2,fun hz => by have h1 := (HT9.out.lt _ hz).1; have h2 := HZW.out; omega⟩)
       obtain ⟨⟨c0,c1,c2⟩,⟨f0,f1,f2⟩,⟨r0,r1,r2⟩,hbz,htz2⟩ := box3 (HRR.out.below HB92.out HRR.out.size) (HB0.out.trans (HB92.out.mono HB0.out.size)) (by omega) (y.op) (y.n) (A9) (y.k.len) (c9) htz hap
       have HBZ := hid hbz
       have HTZ := hid htz2
       clear hbz htz2 htz hap
       go_wp2_with fail
       refine bodyPost_ret (v := .agg #[.int .i64 y.op,.int .i64 y.n,.slice A9 y.k.len c9]) ?_ rfl (by rw [HGF.out]; exact ⟨A9,c9,bz,rfl,HTZ.out,HBZ.out,(HRI.out y rfl)⟩)
       simp [results,Tryz.f47,go_sem,r0,r1,r2]
      ·have HGF := hid (show GP = ⟨7,n,Fo.cons oa ma ka (Fo.cons ob mb kb Fo.nil)⟩ from HGE.out.trans (by unfold keepL; dsimp only; rw [<- HDY.out]; exact if_neg hd))
       have hcmp : (L : Int) < ((dy : Nat) : Int) := by omega
       obtain ⟨q0,q1,q2⟩ := (HRB.out.below HB92.out HRB.out.size).cells3 rfl rfl rfl
       obtain ⟨bz,htz,hap⟩ := (show ∃ bz,Tree _ base (.slice (some ⟨g,0,none⟩) (Fo.cons oa ma ka (Fo.cons ob mb kb Fo.nil)).len c) (Fo.cons oa ma ka (Fo.cons ob mb kb Fo.nil)) bz /\ w.heap.size + 1 + 1 ∉ bz from ⟨bs,(HT.out.over HB92.out).lower HLOW.out.1,HNB.out⟩)
       obtain ⟨⟨c0,c1,c2⟩,⟨f0,f1,f2⟩,⟨r0,r1,r2⟩,hbz,htz2⟩ := box3 (HRR.out.below HB92.out HRR.out.size) (HB0.out.trans (HB92.out.mono HB0.out.size)) (by omega) (7) (n) ((some ⟨g,0,none⟩)) (2) (c) htz hap
       have HBZ := hid hbz
       have HTZ := hid htz2
       clear hbz htz2 htz hap
       go_wp2_with fail
       refine bodyPost_ret (v := .agg #[.int .i64 7,.int .i64 n,.slice (some ⟨g,0,none⟩) 2 c]) ?_ rfl (by rw [HGF.out]; exact ⟨(some ⟨g,0,none⟩),c,bz,rfl,HTZ.out,HBZ.out,HI.out⟩)
       simp [results,Tryz.f47,go_sem,r0,r1,r2]
   ·have HFB := hid (show decide (an = 1) = false by simpa using ha0)
    rw [HFB.out]
    have HGE := hid (show GP = ⟨7,n,Fo.cons oa ma ka (Fo.cons ob mb kb Fo.nil)⟩ from HGP.out.trans (gOnce_no (by rw [HONCE.out]; simp [ha0])))
    clear ha0
    obtain ⟨v0,v1,v2,v3,v4,v5,v6,v7,v8,v9,v10,v11,v12,v13,v14,v15,v16⟩ := HS.out _ HB1.out
    obtain ⟨bz,htz,hap⟩ := (show ∃ bz,Tree _ base (.slice (some ⟨g,0,none⟩) (Fo.cons oa ma ka (Fo.cons ob mb kb Fo.nil)).len c) (Fo.cons oa ma ka (Fo.cons ob mb kb Fo.nil)) bz /\ w.heap.size + 1 + 1 ∉ bz from ⟨bs,(HT.out.over HB1.out).lower HLOW.out.1,HNB.out⟩)
    obtain ⟨⟨c0,c1,c2⟩,⟨f0,f1,f2⟩,⟨r0,r1,r2⟩,hbz,htz2⟩ := box3 (HRR.out.below HB1.out HRR.out.size) (HB0.out.trans (HB1.out.mono HB0.out.size)) (by omega) (7) (n) ((some ⟨g,0,none⟩)) (2) (c) htz hap
    have HBZ := hid hbz
    have HTZ := hid htz2
    clear hbz htz2 htz hap
    go_wp2_with fail
    refine bodyPost_ret (v := .agg #[.int .i64 7,.int .i64 n,.slice (some ⟨g,0,none⟩) 2 c]) ?_ rfl (by rw [HGE.out]; exact ⟨(some ⟨g,0,none⟩),c,bz,rfl,HTZ.out,HBZ.out,HI.out⟩)
    simp [results,Tryz.f47,go_sem,r0,r1,r2]
  ·have bc : (((cn : Nat) : Int) != 1) = true := by simp; omega
   have HGE := hid (show GP = ⟨7,n,Fo.cons oa ma ka (Fo.cons ob mb kb Fo.nil)⟩ from HGP.out.trans (gOnce_no (by rw [HONCE.out]; simp [hc0])))
   clear hc0
   have s0 := HS.out _ HBSd.out
   go_wp2_with fail
   refine wp_region_held_drew (S := fun w' => w'.cell? ⟨w.heap.size,0,none⟩ = some (.bool (Q 0)) /\ w'.cell? ⟨w.heap.size,1,none⟩ = some (.bool (Q 1)) /\ w'.cell? ⟨w.heap.size,2,none⟩ = some (.bool (Q 2)) /\ w'.cell? ⟨w.heap.size,3,none⟩ = some (.bool (Q 3)) /\ w'.cell? ⟨w.heap.size,4,none⟩ = some (.bool (Q 4)) /\ w'.cell? ⟨w.heap.size,5,none⟩ = some (.bool (Q 5)) /\ w'.cell? ⟨w.heap.size,6,none⟩ = some (.bool (Q 6)) /\ w'.cell? ⟨w.heap.size,7,none⟩ = some (.bool (Q 7)) /\ w'.cell? ⟨w.heap.size + 1,0,none⟩ = some (.int .i64 7) /\ w'.cell? ⟨w.heap.size + 1,1,none⟩ = some (.int .i64 n) /\ w'.cell? ⟨w.heap.size + 1,2,none⟩ = some (.slice (some ⟨g,0,none⟩) 2 c) /\ w'.cell? ⟨g,0,none⟩ = some (.int .i64 oa) /\ w'.cell? ⟨g,1,none⟩ = some (.int .i64 ma) /\ w'.cell? ⟨g,2,none⟩ = some (.slice X ka.len cx) /\ w'.cell? ⟨g,3,none⟩ = some (.int .i64 ob) /\ w'.cell? ⟨g,4,none⟩ = some (.int .i64 mb) /\ w'.cell? ⟨g,5,none⟩ = some (.slice X' kb.len cx')) (by kernel_rfl) s0 (fun hHeld => ?_)
   refine takeW 0 (v := ?vx6_0) rfl (by kernel_rfl) (fun _ _ _ h => h) (by rfl) (by assumption) ?yx6_0 ?rx6_0
   case yx6_0 => (intro w' hSw; (try dsimp only at hSw); go_simp; try with_reducible rfl)
   try simp only [Act.put,ars,List.getElem_toArray,List.getElem_cons_zero]
   refine takeW 1 (v := ?vx6_1) rfl (by kernel_rfl) (fun _ _ _ h => h) (by rfl) (by assumption) ?yx6_1 ?rx6_1
   case yx6_1 => (intro w' hSw; (try dsimp only at hSw); go_simp; try with_reducible rfl)
   try simp only [Act.put,ars,List.getElem_toArray,List.getElem_cons_succ,List.getElem_cons_zero]
   refine takeW 2 (v := ?vx6_2) rfl (by kernel_rfl) (fun _ _ _ h => h) (by rfl) (by assumption) ?yx6_2 ?rx6_2
   case yx6_2 => (intro w' hSw; (try dsimp only at hSw); go_simp; try with_reducible rfl)
   try simp only [Act.put,ars,List.getElem_toArray,List.getElem_cons_succ,List.getElem_cons_zero]
   refine takeW 3 (v := ?vx6_3) rfl (by kernel_rfl) (fun _ _ _ h => h) (by rfl) (by assumption) ?yx6_3 ?rx6_3
   case yx6_3 => (intro w' hSw; (try dsimp only at hSw); go_simp; try with_reducible rfl)
   try simp only [Act.put,ars,List.getElem_toArray,List.getElem_cons_succ,List.getElem_cons_zero]
   refine takeW 4 (v := ?vx6_4) rfl (by kernel_rfl) (fun _ _ _ h => h) (by rfl) (by assumption) ?yx6_4 ?rx6_4
   case yx6_4 => (intro w' hSw; (try dsimp only at hSw); go_simp; try with_reducible rfl)
   try simp only [Act.put,ars,List.getElem_toArray,List.getElem_cons_succ,List.getElem_cons_zero]
   refine takeW 5 (v := ?vx6_5) rfl (by kernel_rfl) (fun _ _ _ h => h) (by rfl) (by assumption) ?yx6_5 ?rx6_5
   case yx6_5 => (intro w' hSw; (try dsimp only at hSw); go_simp; try with_reducible rfl)
   try simp only [Act.put,ars,List.getElem_toArray,List.getElem_cons_succ,List.getElem_cons_zero]
   refine takeW 6 (v := ?vx6_6) rfl (by kernel_rfl) (fun _ _ _ h => h) (by rfl) (by assumption) ?yx6_6 ?rx6_6
   case yx6_6 => (intro w' hSw; (try dsimp only at hSw); go_simp; try with_reducible rfl)
   try simp only [Act.put,ars,List.getElem_toArray,List.getElem_cons_succ,List.getElem_cons_zero]
   refine takeW 7 (v := ?vx6_7) rfl (by kernel_rfl) (fun _ _ _ h => h) (by rfl) (by assumption) ?yx6_7 ?rx6_7
   case yx6_7 => (intro w' hSw; (try dsimp only at hSw); go_simp; try with_reducible rfl)
   try simp only [Act.put,ars,List.getElem_toArray,List.getElem_cons_succ,List.getElem_cons_zero]
   refine takeW 8 (v := ?vx6_8) rfl (by kernel_rfl) (fun _ _ _ h => h) (by rfl) (by assumption) ?yx6_8 ?rx6_8
   case yx6_8 => (intro w' hSw; (try dsimp only at hSw); go_simp; try with_reducible rfl)
   try simp only [Act.put,ars,List.getElem_toArray,List.getElem_cons_succ,List.getElem_cons_zero]
   refine takeW 9 (v := ?vx6_9) rfl (by kernel_rfl) (fun _ _ _ h => h) (by rfl) (by assumption) ?yx6_9 ?rx6_9
   case yx6_9 => (intro w' hSw; (try dsimp only at hSw); go_simp; try with_reducible rfl)
   try simp only [Act.put,ars,List.getElem_toArray,List.getElem_cons_succ,List.getElem_cons_zero]
   refine wpAnyH_ready (rs := [10]) (by kernel_rfl) (by simp) ?_
   refine AllReadyH.cons rfl (fun K hK => ?_) AllReadyH.nil
   go_simp
   with_reducible refine (HCN.out _ HBSd.out).mono ?_
   rintro e w5 ⟨rfl,hb5⟩
   have HB5 := onB HBSd hb5
   clear hb5
   refine hK.out _ _ (HS.out _ HB5.out) (fun hHeld2 => ?_)
   clear hK K
   try simp only [Act.put,ars,List.getElem_toArray,List.getElem_cons_succ,List.getElem_cons_zero]
   refine takeW 11 (v := .bool true) rfl (by kernel_rfl) (fun _ _ _ h => h) (by rfl) (by assumption) ?yx6_11 ?rx6_11
   case yx6_11 => (intro w' hSw; (try dsimp only at hSw); go_simp; try first | with_reducible rfl | simp [bc])
   try simp only [Act.put,ars,List.getElem_toArray,List.getElem_cons_succ,List.getElem_cons_zero]
   refine takeW 12 (v := ?vx6_12) rfl (by kernel_rfl) (fun _ _ _ h => h) (by rfl) (by assumption) ?yx6_12 ?rx6_12
   case yx6_12 => (intro w' hSw; (try dsimp only at hSw); go_simp; try with_reducible rfl)
   try simp only [Act.put,ars,List.getElem_toArray,List.getElem_cons_succ,List.getElem_cons_zero]
   refine takeW 13 (v := ?vx6_13) rfl (by kernel_rfl) (fun _ _ _ h => h) (by rfl) (by assumption) ?yx6_13 ?rx6_13
   case yx6_13 => (intro w' hSw; (try dsimp only at hSw); go_simp; try with_reducible rfl)
   try simp only [Act.put,ars,List.getElem_toArray,List.getElem_cons_succ,List.getElem_cons_zero]
   refine takeN 14 rfl (by kernel_rfl) (fun _ _ _ h => h) (by rfl) (by assumption) ?rx6_14
   try simp only [Act.put,ars,List.getElem_toArray,List.getElem_cons_succ,List.getElem_cons_zero]
   refine takeN 15 rfl (by kernel_rfl) (fun _ _ _ h => h) (by rfl) (by assumption) ?rx6_15
   try simp only [Act.put,ars,List.getElem_toArray,List.getElem_cons_succ,List.getElem_cons_zero]
   refine takeN 16 rfl (by kernel_rfl) (fun _ _ _ h => h) (by rfl) (by assumption) ?rx6_16
   try simp only [Act.put,ars,List.getElem_toArray,List.getElem_cons_succ,List.getElem_cons_zero]
   refine takeN 17 rfl (by kernel_rfl) (fun _ _ _ h => h) (by rfl) (by assumption) ?rx6_17
   try simp only [Act.put,ars,List.getElem_toArray,List.getElem_cons_succ,List.getElem_cons_zero]
   refine takeN 18 rfl (by kernel_rfl) (fun _ _ _ h => h) (by rfl) (by assumption) ?rx6_18
   try simp only [Act.put,ars,List.getElem_toArray,List.getElem_cons_succ,List.getElem_cons_zero]
   refine takeN 19 rfl (by kernel_rfl) (fun _ _ _ h => h) (by rfl) (by assumption) ?rx6_19
   try simp only [Act.put,ars,List.getElem_toArray,List.getElem_cons_succ,List.getElem_cons_zero]
   refine takeN 20 rfl (by kernel_rfl) (fun _ _ _ h => h) (by rfl) (by assumption) ?rx6_20
   try simp only [Act.put,ars,List.getElem_toArray,List.getElem_cons_succ,List.getElem_cons_zero]
   refine takeN 21 rfl (by kernel_rfl) (fun _ _ _ h => h) (by rfl) (by assumption) ?rx6_21
   try simp only [Act.put,ars,List.getElem_toArray,List.getElem_cons_succ,List.getElem_cons_zero]
   refine takeN 22 rfl (by kernel_rfl) (fun _ _ _ h => h) (by rfl) (by assumption) ?rx6_22
   try simp only [Act.put,ars,List.getElem_toArray,List.getElem_cons_succ,List.getElem_cons_zero]
   refine takeN 23 rfl (by kernel_rfl) (fun _ _ _ h => h) (by rfl) (by assumption) ?rx6_23
   try simp only [Act.put,ars,List.getElem_toArray,List.getElem_cons_succ,List.getElem_cons_zero]
   refine takeW 24 (v := ?vx6_24) rfl (by kernel_rfl) (fun _ _ _ h => h) (by rfl) (by assumption) ?yx6_24 ?rx6_24
   case yx6_24 => (intro w' hSw; (try dsimp only at hSw); go_simp; try with_reducible rfl)
   try simp only [Act.put,ars,List.getElem_toArray,List.getElem_cons_succ,List.getElem_cons_zero]
   refine wpAnyH_done (by kernel_rfl) ?_ _
   clear s0 hHeld hHeld2 HFI HCN bc
   obtain ⟨v0,v1,v2,v3,v4,v5,v6,v7,v8,v9,v10,v11,v12,v13,v14,v15,v16⟩ := HS.out _ HB5.out
   obtain ⟨bz,htz,hap⟩ := (show ∃ bz,Tree _ base (.slice (some ⟨g,0,none⟩) (Fo.cons oa ma ka (Fo.cons ob mb kb Fo.nil)).len c) (Fo.cons oa ma ka (Fo.cons ob mb kb Fo.nil)) bz /\ w.heap.size + 1 + 1 ∉ bz from ⟨bs,(HT.out.over HB5.out).lower HLOW.out.1,HNB.out⟩)
   obtain ⟨⟨c0,c1,c2⟩,⟨f0,f1,f2⟩,⟨r0,r1,r2⟩,hbz,htz2⟩ := box3 (HRR.out.below HB5.out HRR.out.size) (HB0.out.trans (HB5.out.mono HB0.out.size)) (by omega) (7) (n) ((some ⟨g,0,none⟩)) (2) (c) htz hap
   have HBZ := hid hbz
   have HTZ := hid htz2
   clear hbz htz2 htz hap
   go_wp2_with fail
   refine bodyPost_ret (v := .agg #[.int .i64 7,.int .i64 n,.slice (some ⟨g,0,none⟩) 2 c]) ?_ rfl (by rw [HGE.out]; exact ⟨(some ⟨g,0,none⟩),c,bz,rfl,HTZ.out,HBZ.out,HI.out⟩)
   simp [results,Tryz.f47,go_sem,r0,r1,r2]
 ·have HGE := hid (show GP = ⟨op,n,k⟩ from HGP.out.trans (gOnce_no (by unfold onceOk; simp [h7])))
  have b7 : (op != 7) = true := by simpa using h7
  obtain ⟨q0,q1,q2⟩ := HRB.out.cells3 rfl rfl rfl
  skip
  go_wp2_with fail
  go_quiet (fail)
  have HBSd := hid (below_drewN (Below.refl W.heap.size W) nq)
  clear q0 q1 q2
  have HRBd := onR HRB HBSd.out
  obtain ⟨q0,q1,q2⟩ := HRBd.out.cells3 rfl rfl rfl
  obtain ⟨bz,htz,hap⟩ := (show ∃ bz,Tree _ base (.slice A k.len c) k bz /\ w.heap.size + 1 + 1 ∉ bz from ⟨bs,(HT.out.over HBSd.out).lower HLOW.out.1,HNB.out⟩)
  obtain ⟨⟨c0,c1,c2⟩,⟨f0,f1,f2⟩,⟨r0,r1,r2⟩,hbz,htz2⟩ := box3 (HRR.out.below HBSd.out HRR.out.size) (HB0.out.trans (HBSd.out.mono HB0.out.size)) (by omega) (op) (n) (A) (k.len) (c) htz hap
  have HBZ := hid hbz
  have HTZ := hid htz2
  clear hbz htz2 htz hap
  go_wp2_with fail
  refine bodyPost_ret (v := .agg #[.int .i64 op,.int .i64 n,.slice A k.len c]) ?_ rfl (by rw [HGE.out]; exact ⟨A,c,bz,rfl,HTZ.out,HBZ.out,HI.out⟩)
  simp [results,Tryz.f47,go_sem,r0,r1,r2]
end Go.Proofs.YtmnhoeliofojnaaGreatDoor
