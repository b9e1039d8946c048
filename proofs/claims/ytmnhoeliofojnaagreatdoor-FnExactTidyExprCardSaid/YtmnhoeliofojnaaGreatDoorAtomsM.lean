import Derived.Test.YtmnhoeliofojnaaGreatDoorAtomsD
import Derived.Test.YtmnhoeliofojnaaGreatDoorNodeM
import Derived.Test.YtmnhoeliofojnaaGreatDoorChgI
import Derived.Test.YtmnhoeliofojnaaGreatDoorPutI
import Derived.Test.YtmnhoeliofojnaaGreatDoorPutSS
namespace Go.Proofs.YtmnhoeliofojnaaGreatDoor
open Go.RowKit Go.Shelf
open Go.Lib (hid)
set_option maxRecDepth 100000
set_option maxHeartbeats 4000000 in
theorem putAtom_any {T : Int -> Int -> Nat -> Prop} (hT : LocalT T) (L : Nat) (op n : Int) (k : Fo) (A : Option Addr) (c base : Nat) (bs : List Nat) (w : World) (hst : St T L ⟨op,n,k⟩) (hi : I64 op /\ I64 n) (ht : Tree w base (.slice A k.len c) k bs) (hbase : base <= w.heap.size) :
  Calls Tryz.prog 45 #[.agg #[.int .i64 op,.int .i64 n,.slice A k.len c],.int .i64 (L : Int)] w (Turns (gAtoms L ⟨op,n,k⟩) base w) := by
 obtain ⟨hb,r1,r2⟩ := two_boxes w 30 30 #[Value.int .i64 op,Value.int .i64 n,Value.slice A k.len c] #[.int .i64 0,.int .i64 0,.slice none 0 0]
 obtain ⟨W,hW⟩ : ∃ W,W = (w.alloc (Obj.cells #[Value.int .i64 op,Value.int .i64 n,Value.slice A k.len c] 30)).alloc (Obj.cells #[.int .i64 0,.int .i64 0,.slice none 0 0] 30) := ⟨_,rfl⟩
 rw [<- hW] at hb r1 r2
 have HB0 := hid hb
 have HRB := hid r1
 have HRR := hid r2
 have HT := hid (ht.over hb)
 have HNB := hid (show w.heap.size + 1 ∉ bs from fun hz => by have := (ht.lt _ hz).2; omega)
 have HLOW := hid (show base <= base /\ base <= W.heap.size from ⟨Nat.le_refl _,Nat.le_trans hbase hb.size⟩)
 have HZW := hid (show w.heap.size + 1 + 1 <= W.heap.size by rw [hW]; simp)
 have HST := hid hst
 have HTT := hid hT
 have HI := hid hi
 obtain ⟨GP,hGP⟩ : ∃ GP,GP = gAtoms L ⟨op,n,k⟩ := ⟨_,rfl⟩
 rw [<- hGP]
 have HGP := hid hGP
 clear hb r1 r2 ht hst hT hi hGP hbase
 go_enter Tryz.func45,Tryz.ntmps45
 go_upto_region 1 with fail
 rw [<- hW]
 clear hW
 by_cases h7 : op = 7
 ·obtain ⟨oa,ma,ka,ob,mb,kb,ek,sta,stb,hss⟩ := let_two HTT.out HST.out h7
  dsimp only at ek hss
  subst h7
  subst ek
  obtain ⟨g,X,cx,X',cx',b1,b2,cs,hA,_,hg0,hrg,k0,k1,k2,k3,k4,k5,hta,htb,hia,hib,hsa,hsb⟩ := HT.out.two
  subst hA
  have HRG := hid hrg
  have HTA := hid hta
  have HTB := hid htb
  have HK := hid (And.intro k0 (And.intro k1 (And.intro k2 (And.intro k3 (And.intro k4 k5)))))
  have HIA := hid (And.intro hia hib)
  have HSAB := hid (And.intro sta stb)
  have HAT := hid (implAtom_any oa ma ka X cx W)
  obtain ⟨at0,hat⟩ : ∃ at0,at0 = atomB oa ka := ⟨_,rfl⟩
  rw [<- hat] at HAT
  have HATE := hid hat
  have z0 := hrg.cell k0
  have z1 := hrg.cell k1
  have z2 := hrg.cell k2
  obtain ⟨q0,q1,q2⟩ := HRB.out.cells3 rfl rfl rfl
  clear hrg hta htb hia hib sta stb k0 k1 k2 k3 k4 k5 hat hss hsa hsb
  go_wp2_with fail
  refine HAT.out.mono ?_
  rintro e W1 ⟨rfl,hb1⟩
  have HB1 := hid hb1
  clear hb1 HAT z0 z1 z2 q0 q1 q2
  cases at0 with
  | false =>
   have HGE := hid (show GP = ⟨7,n,Fo.cons oa ma ka (Fo.cons ob mb kb Fo.nil)⟩ from HGP.out.trans (gAtoms_no (by unfold atomsOk; dsimp only [kid1]; rw [<- HATE.out]; simp)))
   obtain ⟨q0,q1,q2⟩ := (HRB.out.below HB1.out HRB.out.size).cells3 rfl rfl rfl
   obtain ⟨bz,htz,hap⟩ := (show ∃ bz,Tree _ base (.slice (some ⟨g,0,none⟩) (Fo.cons oa ma ka (Fo.cons ob mb kb Fo.nil)).len c) (Fo.cons oa ma ka (Fo.cons ob mb kb Fo.nil)) bz /\ w.heap.size + 1 ∉ bz from ⟨bs,(HT.out.over HB1.out).lower HLOW.out.1,HNB.out⟩)
   obtain ⟨⟨c0,c1,c2⟩,⟨f0,f1,f2⟩,⟨r0,r1,r2⟩,hbz,htz2⟩ := box3 (HRR.out.below HB1.out HRR.out.size) (HB0.out.trans (HB1.out.mono HB0.out.size)) (by omega) (7) (n) ((some ⟨g,0,none⟩)) (2) (c) htz hap
   have HBZ := hid hbz
   have HTZ := hid htz2
   clear hbz htz2 htz hap
   go_wp2_with fail
   refine bodyPost_ret (v := .agg #[.int .i64 7,.int .i64 n,.slice (some ⟨g,0,none⟩) 2 c]) ?_ rfl (by rw [HGE.out]; exact ⟨(some ⟨g,0,none⟩),c,bz,rfl,HTZ.out,HBZ.out,HI.out⟩)
   simp [results,Tryz.f45,go_sem,r0,r1,r2]
  | true =>
   have HB0' := hid (HB0.out.trans (HB1.out.mono HB0.out.size))
   have HRB' := onR HRB HB1.out
   have HRR' := onR HRR HB1.out
   have HRG' := onR HRG HB1.out
   have HT' := hid (HT.out.over HB1.out)
   have HTA' := hid (HTA.out.over HB1.out)
   have HTB' := hid (HTB.out.over HB1.out)
   have HLOW' := hid (And.intro HLOW.out.1 (Nat.le_trans HLOW.out.2 HB1.out.size))
   have HZW' := hid (show w.heap.size + 1 + 1 <= W1.heap.size from Nat.le_trans HZW.out HB1.out.size)
   clear HB0 HRB HRR HRG HT HTA HTB HLOW HZW HB1
   have HB0 := HB0'
   have HRB := HRB'
   have HRR := HRR'
   have HRG := HRG'
   have HT := HT'
   have HTA := HTA'
   have HTB := HTB'
   have HLOW := HLOW'
   have HZW := HZW'
   clear HB0' HRB' HRR' HRG' HT' HTA' HTB' HLOW' HZW'
   obtain ⟨RP,hRP⟩ : ∃ RP,RP = putN (kb.size + 1) ⟨ob,mb,kb⟩ n ⟨oa,ma,ka⟩ := ⟨_,rfl⟩
   have HGE := hid (show GP = RP.getD ⟨7,n,Fo.cons oa ma ka (Fo.cons ob mb kb Fo.nil)⟩ from by
    rw [HGP.out,gAtoms_yes (by unfold atomsOk; dsimp only [kid1]; rw [<- HATE.out]; simp),hRP]; rfl)
   have HREP := hid (show ∀ w' : World,Below W1.heap.size W1 w' -> Calls Tryz.prog 75 #[.agg #[.int .i64 ob,.int .i64 mb,.slice X' kb.len cx'],.int .i64 n,.agg #[.int .i64 oa,.int .i64 ma,.slice X ka.len cx]] w' (PutPost RP w') from fun w' hb' => by
    rw [hRP]
    have ha := HSAB.out.1
    have hb := HSAB.out.2
    exact rep_any _ (in_any _) ⟨ob,mb,kb⟩ n ⟨oa,ma,ka⟩ X' X cx' cx w' (HTB.out.over hb').lies0 (HTA.out.over hb').lies0 (Nat.lt_succ_self _) hb.small (all_fitN HTT.out hb.all) HIA.out.2 ha.small HIA.out.1 HI.out.2 HTA.out.le.1 HTA.out.le.2)
   have HRI := hid (show ∀ y,RP = some y -> I64 y.op /\ I64 y.n from fun y hy => putN_i64 (p := ⟨ob,mb,kb⟩) HIA.out.2 HIA.out.1 (hRP.symm.trans hy))
   have hS : ∀ w' : World,Below W1.heap.size W1 w' -> w'.cell? ⟨w.heap.size,1,none⟩ = some (.int .i64 n) /\ w'.cell? ⟨w.heap.size,2,none⟩ = some (.slice (some ⟨g,0,none⟩) 2 c) /\ w'.cell? ⟨g,0,none⟩ = some (.int .i64 oa) /\ w'.cell? ⟨g,1,none⟩ = some (.int .i64 ma) /\ w'.cell? ⟨g,2,none⟩ = some (.slice X ka.len cx) /\ w'.cell? ⟨g,3,none⟩ = some (.int .i64 ob) /\ w'.cell? ⟨g,4,none⟩ = some (.int .i64 mb) /\ w'.cell? ⟨g,5,none⟩ = some (.slice X' kb.len cx') := by
    intro w' hb'
    have hz1 := HRB.out.size
    have hz2 := HRG.out.size
    obtain ⟨k0,k1,k2,k3,k4,k5⟩ := HK.out
    exact ⟨(hb'.cell (p := ⟨w.heap.size,1,none⟩) hz1).trans (HRB.out.cell (i := 1) rfl),(hb'.cell (p := ⟨w.heap.size,2,none⟩) hz1).trans (HRB.out.cell (i := 2) rfl),(hb'.cell (p := ⟨g,0,none⟩) hz2).trans (HRG.out.cell k0),(hb'.cell (p := ⟨g,1,none⟩) hz2).trans (HRG.out.cell k1),(hb'.cell (p := ⟨g,2,none⟩) hz2).trans (HRG.out.cell k2),(hb'.cell (p := ⟨g,3,none⟩) hz2).trans (HRG.out.cell k3),(hb'.cell (p := ⟨g,4,none⟩) hz2).trans (HRG.out.cell k4),(hb'.cell (p := ⟨g,5,none⟩) hz2).trans (HRG.out.cell k5)⟩
   have HS := hid hS
   clear hS hRP
   go_upto_region 3 with fail
   go_cut [5,6] from 19 to 32 (fun p s wd => ∃ g9 o9 m9 A9 l9 c9,p = .pointer (some ⟨g9,0,none⟩) /\ s = .bool RP.isSome /\ Row wd g9 30 #[.int .i64 o9,.int .i64 m9,.slice A9 l9 c9] /\ W1.heap.size <= g9 /\ (∀ y,RP = some y -> o9 = y.op /\ m9 = y.n /\ l9 = y.k.len /\ ∃ bz,Tree wd W1.heap.size (.slice A9 l9 c9) y.k bz) /\ Below W1.heap.size W1 wd)
   case first =>
    have b0 : Below W1.heap.size W1 W1.drew := (Below.refl _ _).drew
    have bp : Below W1.heap.size W1 (W1.alloc (Obj.cells #[Value.int .i64 0,Value.int .i64 0,Value.slice none 0 0] 30)).drew := ((Below.refl _ _).alloc (Nat.le_refl _) _).drew
    have CA := hid (HREP.out _ bp)
    have CB := hid (HREP.out _ b0)
    have s0 := HS.out _ b0
    have sp := HS.out _ bp
    have B0 := hid b0
    have BP := hid bp
    have RPW := hid (show Row (W1.alloc (Obj.cells #[Value.int .i64 0,Value.int .i64 0,Value.slice none 0 0] 30)).drew W1.heap.size 30 #[Value.int .i64 0,Value.int .i64 0,Value.slice none 0 0] from (Row.fresh _ _ _).drew)
    have hza : (W1.alloc (Obj.cells #[Value.int .i64 0,Value.int .i64 0,Value.slice none 0 0] 30)).drew.heap.size = W1.heap.size + 1 := by simp
    have HZA := hid hza
    clear b0 bp hza
    go_region_held3 (fun w' => w'.cell? ⟨w.heap.size,1,none⟩ = some (.int .i64 n) /\ w'.cell? ⟨w.heap.size,2,none⟩ = some (.slice (some ⟨g,0,none⟩) 2 c) /\ w'.cell? ⟨g,0,none⟩ = some (.int .i64 oa) /\ w'.cell? ⟨g,1,none⟩ = some (.int .i64 ma) /\ w'.cell? ⟨g,2,none⟩ = some (.slice X ka.len cx) /\ w'.cell? ⟨g,3,none⟩ = some (.int .i64 ob) /\ w'.cell? ⟨g,4,none⟩ = some (.int .i64 mb) /\ w'.cell? ⟨g,5,none⟩ = some (.slice X' kb.len cx'))
     (first | with_reducible exact s0 | with_reducible exact sp | with_reducible exact s5 | with_reducible exact s6 | with_reducible exact s5z | fail)
     (first
      |(go_at_call 75
        with_reducible refine CA.out.mono ?_
        rintro e w5 hpp
        obtain ⟨o5,m5,A5,l5,c5,rfl,hb5,hy5⟩ := PutPost.opened hpp
        have hb := BP.out.trans (hb5.mono BP.out.size)
        have r5 := RPW.out.below hb5 RPW.out.size
        obtain ⟨f0,f1,f2⟩ := r5.frees3
        obtain ⟨c0,c1,c2⟩ := r5.cells3 rfl rfl rfl
        have hbs := ((hb.setCell (p := ⟨W1.heap.size,0,none⟩) (Nat.le_refl _) (.int .i64 o5)).setCell (p := ⟨W1.heap.size,1,none⟩) (Nat.le_refl _) (.int .i64 m5)).setCell (p := ⟨W1.heap.size,2,none⟩) (Nat.le_refl _) (.slice A5 l5 c5)
        have s5 := HS.out _ hb
        have s6 := HS.out _ hbs
        rw [HZA.out] at hy5
        have HEND := hid (show ∃ g9 o9 m9 A9 l9 c9,Value.pointer (some ⟨W1.heap.size,0,none⟩) = .pointer (some ⟨g9,0,none⟩) /\ Row (((w5.setCell ⟨W1.heap.size,0,none⟩ (.int .i64 o5)).setCell ⟨W1.heap.size,1,none⟩ (.int .i64 m5)).setCell ⟨W1.heap.size,2,none⟩ (.slice A5 l5 c5)) g9 30 #[.int .i64 o9,.int .i64 m9,.slice A9 l9 c9] /\ W1.heap.size <= g9 /\ (∀ y,RP = some y -> o9 = y.op /\ m9 = y.n /\ l9 = y.k.len /\ ∃ bz,Tree (((w5.setCell ⟨W1.heap.size,0,none⟩ (.int .i64 o5)).setCell ⟨W1.heap.size,1,none⟩ (.int .i64 m5)).setCell ⟨W1.heap.size,2,none⟩ (.slice A5 l5 c5)) W1.heap.size (.slice A9 l9 c9) y.k bz) /\ Below W1.heap.size W1 (((w5.setCell ⟨W1.heap.size,0,none⟩ (.int .i64 o5)).setCell ⟨W1.heap.size,1,none⟩ (.int .i64 m5)).setCell ⟨W1.heap.size,2,none⟩ (.slice A5 l5 c5)) from
         ⟨W1.heap.size,o5,m5,A5,l5,c5,rfl,((r5.put 0 _).put 1 _).put 2 _,Nat.le_refl _,fun y hy => by
          obtain ⟨e1,e2,e3,bz,ht⟩ := hy5 y hy
          exact ⟨e1,e2,e3,bz,(((ht.put (p := ⟨W1.heap.size,0,none⟩) (Nat.lt_succ_self _) _).put (p := ⟨W1.heap.size,1,none⟩) (Nat.lt_succ_self _) _).put (p := ⟨W1.heap.size,2,none⟩) (Nat.lt_succ_self _) _).lower (Nat.le_succ _)⟩,hbs⟩)
        clear hpp hy5 hb5 hb r5 hbs)
      |(go_at_call 75
        with_reducible refine CB.out.mono ?_
        rintro e w5 hpp
        obtain ⟨o5,m5,A5,l5,c5,rfl,hb5,hy5⟩ := PutPost.opened hpp
        have hb := B0.out.trans (hb5.mono B0.out.size)
        have hbl := (Below.refl w5.heap.size w5).alloc (Nat.le_refl _) (Obj.cells #[Value.int .i64 o5,Value.int .i64 m5,Value.slice A5 l5 c5] 30)
        have hba := hb.trans (hbl.mono hb.size)
        have s5 := HS.out _ hb
        have s6 := HS.out _ hba
        have s5z := HS.out _ (hb.alloc hb.size (Obj.cells #[Value.int .i64 0,Value.int .i64 0,Value.slice none 0 0] 30))
        have HEND := hid (show ∃ g9 o9 m9 A9 l9 c9,Value.pointer (some ⟨w5.heap.size,0,none⟩) = .pointer (some ⟨g9,0,none⟩) /\ Row (w5.alloc (Obj.cells #[Value.int .i64 o5,Value.int .i64 m5,Value.slice A5 l5 c5] 30)) g9 30 #[.int .i64 o9,.int .i64 m9,.slice A9 l9 c9] /\ W1.heap.size <= g9 /\ (∀ y,RP = some y -> o9 = y.op /\ m9 = y.n /\ l9 = y.k.len /\ ∃ bz,Tree (w5.alloc (Obj.cells #[Value.int .i64 o5,Value.int .i64 m5,Value.slice A5 l5 c5] 30)) W1.heap.size (.slice A9 l9 c9) y.k bz) /\ Below W1.heap.size W1 (w5.alloc (Obj.cells #[Value.int .i64 o5,Value.int .i64 m5,Value.slice A5 l5 c5] 30)) from
         ⟨w5.heap.size,o5,m5,A5,l5,c5,rfl,Row.fresh _ _ _,hb.size,fun y hy => by
          obtain ⟨e1,e2,e3,bz,ht⟩ := hy5 y hy
          exact ⟨e1,e2,e3,bz,ht.over hbl⟩,hba⟩)
        clear hpp hy5 hb5 hb hbl hba)
      | fail)
    all_goals
     go_wp2_with fail
     go_meet
     obtain ⟨g9,o9,m9,A9',l9,c9',hp,hr⟩ := HEND.out
     exact ⟨g9,o9,m9,A9',l9,c9',hp,rfl,hr⟩
   case rest =>
    obtain ⟨g9,o9,m9,A9,l9,c9,rfl,rfl,hrg,hgW,hy,hbd⟩ := hcut
    have HB9 := hid hbd
    have HRG9 := hid hrg
    have HGW := hid hgW
    obtain ⟨wd,hwd⟩ : ∃ wd,wd = wc := ⟨_,rfl⟩
    have HY := hid hy
    rw [<- hwd] at HB9 HRG9 HY ⊢
    clear hbd hrg hgW hy hwd wc HREP
    cases RP with
    | none =>
     have HGF := hid (show GP = ⟨7,n,Fo.cons oa ma ka (Fo.cons ob mb kb Fo.nil)⟩ from HGE.out)
     obtain ⟨q0,q1,q2⟩ := (HRB.out.below HB9.out HRB.out.size).cells3 rfl rfl rfl
     obtain ⟨bz,htz,hap⟩ := (show ∃ bz,Tree _ base (.slice (some ⟨g,0,none⟩) (Fo.cons oa ma ka (Fo.cons ob mb kb Fo.nil)).len c) (Fo.cons oa ma ka (Fo.cons ob mb kb Fo.nil)) bz /\ w.heap.size + 1 ∉ bz from ⟨bs,(HT.out.over HB9.out).lower HLOW.out.1,HNB.out⟩)
     obtain ⟨⟨c0,c1,c2⟩,⟨f0,f1,f2⟩,⟨r0,r1,r2⟩,hbz,htz2⟩ := box3 (HRR.out.below HB9.out HRR.out.size) (HB0.out.trans (HB9.out.mono HB0.out.size)) (by omega) (7) (n) ((some ⟨g,0,none⟩)) (2) (c) htz hap
     have HBZ := hid hbz
     have HTZ := hid htz2
     clear hbz htz2 htz hap
     go_wp2_with fail
     refine bodyPost_ret (v := .agg #[.int .i64 7,.int .i64 n,.slice (some ⟨g,0,none⟩) 2 c]) ?_ rfl (by rw [HGF.out]; exact ⟨(some ⟨g,0,none⟩),c,bz,rfl,HTZ.out,HBZ.out,HI.out⟩)
     simp [results,Tryz.f45,go_sem,r0,r1,r2]
    | some y =>
     have HGF := hid (show GP = y from HGE.out)
     obtain ⟨rfl,rfl,rfl,b9,ht9⟩ := HY.out y rfl
     have HT9 := hid ht9
     clear ht9 HY
     obtain ⟨q0,q1,q2⟩ := HRG9.out.cells3 rfl rfl rfl
     obtain ⟨bz,htz,hap⟩ := (show ∃ bz,Tree _ base (.slice A9 y.k.len c9) y.k bz /\ w.heap.size + 1 ∉ bz from ⟨b9,HT9.out.lower HLOW.out.2,fun hz => by have h1 := (HT9.out.lt _ hz).1; have h2 := HZW.out; omega⟩)
     obtain ⟨⟨c0,c1,c2⟩,⟨f0,f1,f2⟩,⟨r0,r1,r2⟩,hbz,htz2⟩ := box3 (HRR.out.below HB9.out HRR.out.size) (HB0.out.trans (HB9.out.mono HB0.out.size)) (by omega) (y.op) (y.n) (A9) (y.k.len) (c9) htz hap
     have HBZ := hid hbz
     have HTZ := hid htz2
     clear hbz htz2 htz hap
     go_wp2_with fail
     refine bodyPost_ret (v := .agg #[.int .i64 y.op,.int .i64 y.n,.slice A9 y.k.len c9]) ?_ rfl (by rw [HGF.out]; exact ⟨A9,c9,bz,rfl,HTZ.out,HBZ.out,(HRI.out y rfl)⟩)
     simp [results,Tryz.f45,go_sem,r0,r1,r2]
 ·have HGE := hid (show GP = ⟨op,n,k⟩ from HGP.out.trans (gAtoms_no (by unfold atomsOk; simp [h7])))
  have b7 : (op != 7) = true := by simpa using h7
  have HBS := hid (Below.refl W.heap.size W)
  obtain ⟨q0,q1,q2⟩ := (HRB.out.below HBS.out HRB.out.size).cells3 rfl rfl rfl
  obtain ⟨bz,htz,hap⟩ := (show ∃ bz,Tree _ base (.slice A k.len c) k bz /\ w.heap.size + 1 ∉ bz from ⟨bs,(HT.out.over HBS.out).lower HLOW.out.1,HNB.out⟩)
  obtain ⟨⟨c0,c1,c2⟩,⟨f0,f1,f2⟩,⟨r0,r1,r2⟩,hbz,htz2⟩ := box3 (HRR.out.below HBS.out HRR.out.size) (HB0.out.trans (HBS.out.mono HB0.out.size)) (by omega) (op) (n) (A) (k.len) (c) htz hap
  have HBZ := hid hbz
  have HTZ := hid htz2
  clear hbz htz2 htz hap
  go_wp2_with fail
  refine bodyPost_ret (v := .agg #[.int .i64 op,.int .i64 n,.slice A k.len c]) ?_ rfl (by rw [HGE.out]; exact ⟨A,c,bz,rfl,HTZ.out,HBZ.out,HI.out⟩)
  simp [results,Tryz.f45,go_sem,r0,r1,r2]
end Go.Proofs.YtmnhoeliofojnaaGreatDoor

namespace Go.Proofs.YtmnhoeliofojnaaGreatDoor
open Go.RowKit Go.Shelf
open Go.Lib (hid)
set_option maxRecDepth 100000
set_option maxHeartbeats 8000000 in
theorem specAtoms_any {T : Int -> Int -> Nat -> Prop} (hT : LocalT T) (m : Nat) : ∀ (L : Nat) (op n : Int) (k : Fo) (A : Option Addr) (c : Nat) (w : World),k.size = m -> St T L ⟨op,n,k⟩ -> Lies w 0 w.heap.size A 0 k -> I64 op /\ I64 n ->
  Calls Tryz.prog 33 #[.agg #[.int .i64 op,.int .i64 n,.slice A k.len c]] w (Turns (chgN gAtoms L ⟨op,n,k⟩) w.heap.size w) := by
 induction m using Nat.strongRecOn with
 | _ m ih =>
  intro L op n k A c w hm hst hl hi
  have hlen := Fo.len_le_size k
  obtain ⟨W,hW⟩ : ∃ W,W = ((w.alloc (Obj.cells #[.int .i64 op,.int .i64 n,.slice A k.len c] 30)).alloc (Obj.cells #[.int .i64 0,.int .i64 0,.slice none 0 0] 30)).alloc (Obj.cells #[.int .i64 op,.int .i64 n,.slice none 0 0] 30) := ⟨_,rfl⟩
  have hr0 := (Row.fresh w 30 #[.int .i64 op,.int .i64 n,.slice A k.len c]).alloc (Obj.cells #[.int .i64 0,.int .i64 0,.slice none 0 0] 30)
  obtain ⟨q0,q1,q2⟩ := hr0.cells3 rfl rfl rfl
  have hr1 : Row W (w.heap.size + 1 + 1) 30 #[.int .i64 op,.int .i64 n,.slice none 0 0] := by
   rw [hW]
   have := Row.fresh ((w.alloc (Obj.cells #[.int .i64 op,.int .i64 n,.slice A k.len c] 30)).alloc (Obj.cells #[.int .i64 0,.int .i64 0,.slice none 0 0] 30)) 30 #[.int .i64 op,.int .i64 n,.slice none 0 0]
   simp only [World.size_alloc] at this
   exact this
  have hr2 : Row W (w.heap.size + 1) 30 #[.int .i64 0,.int .i64 0,.slice none 0 0] := by
   rw [hW]
   have := Row.fresh (w.alloc (Obj.cells #[.int .i64 op,.int .i64 n,.slice A k.len c] 30)) 30 #[.int .i64 0,.int .i64 0,.slice none 0 0]
   rw [World.size_alloc] at this
   exact this.alloc _
  have hbW : Below w.heap.size w W := by rw [hW]; exact (((Below.refl _ _).alloc (Nat.le_refl _) _).alloc (by simp) _).alloc (by simp; omega) _
  have HR1 := hid hr1
  have HR2 := hid hr2
  have HR0 := hid (show Row W w.heap.size 30 #[.int .i64 op,.int .i64 n,.slice A k.len c] by rw [hW]; exact hr0.alloc _)
  have HBW := hid hbW
  have HST0 := hid hst
  have HTT := hid hT
  have hks : k.size <= 1048576 := by have := hst.size; dsimp only at this; omega
  clear hr1 hr2 hbW
  go_enter Tryz.func33,Tryz.ntmps33
  go_wp2_with fail
  clear q0 q1 q2 hr0
  rw [<- hW]
  clear hW
  go_loopw [4] (fun i wr => Round k (chgF gAtoms (L - 1)) op n (w.heap.size + 1 + 1 + 1) (w.heap.size + 1 + 1) w i wr /\ Row wr (w.heap.size + 1) 30 #[.int .i64 0,.int .i64 0,.slice none 0 0] /\ Row wr w.heap.size 30 #[.int .i64 op,.int .i64 n,.slice A k.len c])
   (fun i _ => k.len - (intOf i).toNat)
  case atStart => exact ⟨⟨0,.nil,none,0,[],Nat.zero_le _,rfl,rfl,by rw [Fo.drop_zero]; rfl,HR1.out,Tree.none _ _,HBW.out⟩,HR2.out,HR0.out⟩
  case round =>
   clear HR1 HR2 HBW HR0
   obtain ⟨⟨j,pre,A1,c1',bs,hj,rfl,hpl,hpre,hrow,ht,hb⟩,hres,hre⟩ := hrel
   have hwz := hrow.size
   by_cases hlt : j < k.len
   ·obtain ⟨o1,m1,k1,e1,e2,e3⟩ := Fo.drop_of_lt k j hlt
    have hj' := (hl.below hb).at_ j
    rw [Nat.zero_add,e1] at hj'
    obtain ⟨⟨b,o,A',c',hA,_,hbb,i1,i2,g1,g2,g3,h1,h2,h3⟩,_⟩ := hj'
    subst hA
    have hbb2 : b < wr.heap.size := Nat.lt_of_lt_of_le hbb hb.size
    have hzr : w.heap.size < wr.heap.size := hre.size
    have q2 : wr.drew.cell? ⟨w.heap.size,2,none⟩ = some (.slice (some ⟨b,o,none⟩) k.len c) := hre.cell (i := 2) rfl
    have r2 : wr.cell? ⟨w.heap.size,2,none⟩ = some (.slice (some ⟨b,o,none⟩) k.len c) := hre.cell (i := 2) rfl
    have q3 : wr.drew.cell? ⟨w.heap.size + 1 + 1,2,none⟩ = some (.slice A1 pre.len c1') := hrow.cell (i := 2) rfl
    have hza : w.heap.size + 1 + 1 < wr.drew.heap.size := hrow.size
    have hla : Lies wr.drew 0 wr.drew.heap.size A' 0 k1 := (h3.below ((Below.refl wr.heap.size wr).drew.mono hb.size)).mono_ (Nat.le_refl _) hb.size
    have p1 : wr.drew.cell? ⟨b,o + j * 3,none⟩ = some (.int .i64 o1) := g1
    have p2 : wr.drew.cell? ⟨b,o + j * 3 + 1,none⟩ = some (.int .i64 m1) := g2
    have p3 : wr.drew.cell? ⟨b,o + j * 3 + 2,none⟩ = some (.slice A' k1.len c') := g3
    have hbd : Below w.heap.size w wr.drew := hb.drew
    obtain ⟨q,hq⟩ : ∃ q,q = chgN gAtoms (L - 1) ⟨o1,m1,k1⟩ := ⟨_,rfl⟩
    have hki := (st_rule (keeps_atoms HTT.out)).kid HST0.out j o1 m1 k1 _ e1
    have hc := ih k1.size (by omega) (L - 1) o1 m1 k1 A' c' wr.drew rfl hki hla ⟨i1,i2⟩
    rw [<- hq] at hc
    have HC := hid hc
    have HQ := hid hq
    have HT := hid ht
    have HB := hid hb
    have HROW := hid hrow
    have HRES := hid hres
    have HRE := hid hre
    have HPRE := hid hpre
    have HPL := hid hpl
    have HWR := hid (show w.heap.size + 1 + 1 + 1 <= wr.heap.size from hwz)
    have hbox : ∀ g,(Value.slice A1 pre.len c1').ownBlock = some g -> w.heap.size + 1 + 1 + 1 <= g /\ g < wr.heap.size := fun g hg => by
     obtain ⟨st,b1,k1',k2',rfl,_⟩ := ht
     exact blk_lt k1' (by unfold blkV; rw [hg]; simp)
    have HBOX := hid hbox
    have HE := hid e1
    have hpl2 : pre.len <= 1048576 := by omega
    clear hrow ht hb hres hre hpre hla h3 hl ih i1 i2 e1 hpl hbox g1 g2 g3 hc hq hbd hst hki
    go_wp2_with fail
    go_region_law (first
      |(refine step_push rfl (.tmp 20) (.tmp 27) rfl (w.heap.size + 1 + 1 + 1) (.slice A1 pre.len c1') pre bs b5 q.op q.n q.k A5 c5 rfl rfl HT5.out HK5.out HI5.out HD5.out hpl2 HZ5.out ?_
        intro v6 w6 bs6 ht6 hg6 hin6
        obtain ⟨A6,c6,rfl,hc61,hc62⟩ := ht6.slice
        have hne : ∀ g,(g < w.heap.size + 1 + 1 + 1 ∨ wr.heap.size <= g) -> some g ≠ (Value.slice A1 pre.len c1').ownBlock := fun g hg e => by have := HBOX.out g e.symm; omega
        have hr6 := row_grown HROW5.out hg6 (hne _ (.inl (Nat.lt_succ_self _)))
        have hre6 := row_grown HRE5.out hg6 (hne _ (.inl (by omega)))
        have u3 : w6.cell? ⟨w.heap.size + 1 + 1,2,none⟩ = some (.slice A1 pre.len c1') := hr6.cell (i := 2) rfl
        have f3 := hr6.free 2
        have HR6 := hid hr6
        have HRES6 := hid (row_grown HRES5.out hg6 (hne _ (.inl (Nat.lt_succ_of_lt (Nat.lt_succ_self _)))))
        have HT6 := hid ht6
        have HB6 := hid (Below.grown HB5.out hg6 HB5.out.size (fun g' hg' => by have := HBOX.out g' hg'; omega))
        have HRE6 := hid hre6
        clear hr6 hre6 ht6 hg6 hin6 hne hc61 hc62)
      |(refine step_call (f := 33) rfl (by kernel_rfl) HC.out ?_
        rintro e w5 ⟨A5,c5,b5,rfl,ht5,hb5,hi5⟩
        refine ⟨_,rfl, ?_⟩
        have HI5 := hid hi5
        have y3 : w5.cell? ⟨w.heap.size + 1 + 1,2,none⟩ = some (.slice A1 pre.len c1') := (hb5.cell (p := ⟨w.heap.size + 1 + 1,2,none⟩) hza).trans q3
        have bz := (Below.refl w5.heap.size w5).alloc (Nat.le_refl _) (Obj.cells #[.int .i64 q.op,.int .i64 q.n,.slice A5 q.k.len c5] 30)
        have z3 : (w5.alloc (Obj.cells #[.int .i64 q.op,.int .i64 q.n,.slice A5 q.k.len c5] 30)).cell? ⟨w.heap.size + 1 + 1,2,none⟩ = some (.slice A1 pre.len c1') := (bz.cell (p := ⟨w.heap.size + 1 + 1,2,none⟩) (Nat.lt_of_lt_of_le hza hb5.size)).trans y3
        have HT5 := hid (HT.out.over (((Below.refl _ _).drew).trans hb5))
        have HK5 := hid (ht5.lower (base' := w.heap.size + 1 + 1 + 1) HWR.out)
        have HD5 := hid (show ∀ b,b ∈ bs -> b ∈ b5 -> False from fun q h1 h2 => by
         have e1 := (HT.out.lt q h1).2
         have e2 := (ht5.lt q h2).1
         have e4 : wr.heap.size <= q := e2
         omega)
        have HZ5 := hid (Nat.le_trans HWR.out hb5.size)
        have HROW5 := hid ((HROW.out.drew).below hb5 hza)
        have HRES5 := hid ((HRES.out.drew).below hb5 (Nat.lt_of_lt_of_le HRES.out.size (Nat.le_refl _)))
        have HRE5 := hid ((HRE.out.drew).below hb5 (Nat.lt_of_lt_of_le HRE.out.size (Nat.le_refl _)))
        have HB5 := hid (HB.out.trans (((Below.refl _ _).drew.trans hb5).mono HB.out.size))
        clear ht5 hb5 bz hi5))
    all_goals
     go_wp2_with fail
     go_roundw
     case rel =>
      have hr7 := HR6.out.put 2 (.slice A6 (pre.snoc q.op q.n q.k).len c6)
      have ht7 : Tree (w6.setCell ⟨w.heap.size + 1 + 1,2,none⟩ (.slice A6 (pre.snoc q.op q.n q.k).len c6)) (w.heap.size + 1 + 1 + 1) (.slice A6 (pre.snoc q.op q.n q.k).len c6) (pre.snoc q.op q.n q.k) bs6 :=
       HT6.out.keep fun q hq => Below.heap_setCell w6 _ _ q (by have := (HT6.out.lt q hq).1; dsimp only; omega)
      refine ⟨⟨j + 1,pre.snoc q.op q.n q.k,A6,c6,bs6,hlt,by go_num,by rw [Fo.snoc_len,HPL.out], ?_,hr7,ht7,HB6.out.setCell (by dsimp only; omega) _⟩,HRES6.out.apart (by simp) _,HRE6.out.apart (by dsimp only; omega) _⟩
      have := HPRE.out
      rw [HE.out,chgF_cons, <- HQ.out] at this
      rw [Fo.snoc_app]
      exact this
     case measure => simp [intOf]; omega
   ·have e9 : j = k.len := by omega
    rw [e9,Fo.drop_len] at hpre
    have hpk : pre = (chgF gAtoms (L - 1)) k := (Fo.app_nil pre).symm.trans hpre
    have hpl9 : pre.len = k.len := hpl.trans e9
    have hq0 := (midN_st (keeps_atoms HTT.out) HST0.out).1
    unfold midN at hq0
    dsimp only at hq0
    rw [<- hpk] at hq0
    have HST := hid hq0
    have HRB := hid hrow
    have HRR := hid hres
    have HB0 := hid hb
    have HT := hid ht
    have HNB := hid (show w.heap.size + 1 ∉ bs from fun hz => by have := (ht.lt _ hz).1; omega)
    have HLOW := hid (show w.heap.size <= w.heap.size + 1 + 1 + 1 /\ w.heap.size <= wr.heap.size from ⟨by omega,hb.size⟩)
    have HZW := hid (show w.heap.size + 1 + 1 <= wr.heap.size from Nat.le_of_lt hwz)
    have HI := hid hi
    have HEX := hid (show wr.cell? ⟨w.heap.size,2,none⟩ = some (.slice A k.len c) from hre.cell (i := 2) rfl)
    obtain ⟨GP,hGP⟩ : ∃ GP,GP = gAtoms L ⟨op,n,pre⟩ := ⟨_,rfl⟩
    have hGG : chgN gAtoms L ⟨op,n,k⟩ = GP := by rw [hGP,hpk]; rfl
    have HGG := hid hGG
    have HGP := hid hGP
    clear hrow ht hb hres hpre hpk hq0 hl ih hGP hGG hpl hpl9 hi
    have s2 := HEX.out
    go_upto_region 6 with fail
    clear s2 hlt e9 hj hre HEX
    by_cases h7 : op = 7
    ·obtain ⟨oa,ma,ka,ob,mb,kb,ek,sta,stb,hss⟩ := let_two HTT.out HST.out h7
     dsimp only at ek hss
     subst h7
     subst ek
     obtain ⟨g,X,cx,X',cx',b1,b2,cs,hA,_,hg0,hrg,k0,k1,k2,k3,k4,k5,hta,htb,hia,hib,hsa,hsb⟩ := HT.out.two
     subst hA
     have HRG := hid hrg
     have HTA := hid hta
     have HTB := hid htb
     have HK := hid (And.intro k0 (And.intro k1 (And.intro k2 (And.intro k3 (And.intro k4 k5)))))
     have HIA := hid (And.intro hia hib)
     have HSAB := hid (And.intro sta stb)
     have HAT := hid (specAtom_any oa ma ka X cx wr)
     obtain ⟨at0,hat⟩ : ∃ at0,at0 = atomB oa ka := ⟨_,rfl⟩
     rw [<- hat] at HAT
     have HATE := hid hat
     have z0 := hrg.cell k0
     have z1 := hrg.cell k1
     have z2 := hrg.cell k2
     obtain ⟨q0,q1,q2⟩ := HRB.out.cells3 rfl rfl rfl
     clear hrg hta htb hia hib sta stb k0 k1 k2 k3 k4 k5 hat hss hsa hsb
     go_wp2_with fail
     refine HAT.out.mono ?_
     rintro e W1 ⟨rfl,hb1⟩
     have HB1 := hid hb1
     clear hb1 HAT z0 z1 z2 q0 q1 q2
     cases at0 with
     | false =>
      have HGE := hid (show GP = ⟨7,n,Fo.cons oa ma ka (Fo.cons ob mb kb Fo.nil)⟩ from HGP.out.trans (gAtoms_no (by unfold atomsOk; dsimp only [kid1]; rw [<- HATE.out]; simp)))
      obtain ⟨q0,q1,q2⟩ := (HRB.out.below HB1.out HRB.out.size).cells3 rfl rfl rfl
      obtain ⟨bz,htz,hap⟩ := (show ∃ bz,Tree _ w.heap.size (.slice (some ⟨g,0,none⟩) (Fo.cons oa ma ka (Fo.cons ob mb kb Fo.nil)).len c1') (Fo.cons oa ma ka (Fo.cons ob mb kb Fo.nil)) bz /\ w.heap.size + 1 ∉ bz from ⟨bs,(HT.out.over HB1.out).lower HLOW.out.1,HNB.out⟩)
      obtain ⟨⟨c0,c1,c2⟩,⟨f0,f1,f2⟩,⟨r0,r1,r2⟩,hbz,htz2⟩ := box3 (HRR.out.below HB1.out HRR.out.size) (HB0.out.trans (HB1.out.mono HB0.out.size)) (by omega) (7) (n) ((some ⟨g,0,none⟩)) (2) (c1') htz hap
      have HBZ := hid hbz
      have HTZ := hid htz2
      clear hbz htz2 htz hap
      go_wp2_with fail
      refine bodyPost_ret (v := .agg #[.int .i64 7,.int .i64 n,.slice (some ⟨g,0,none⟩) 2 c1']) ?_ rfl (by rw [HGG.out,HGE.out]; exact ⟨(some ⟨g,0,none⟩),c1',bz,rfl,HTZ.out,HBZ.out,HI.out⟩)
      simp [results,Tryz.f33,go_sem,r0,r1,r2]
     | true =>
      have HB0' := hid (HB0.out.trans (HB1.out.mono HB0.out.size))
      have HRB' := onR HRB HB1.out
      have HRR' := onR HRR HB1.out
      have HRG' := onR HRG HB1.out
      have HT' := hid (HT.out.over HB1.out)
      have HTA' := hid (HTA.out.over HB1.out)
      have HTB' := hid (HTB.out.over HB1.out)
      have HLOW' := hid (And.intro HLOW.out.1 (Nat.le_trans HLOW.out.2 HB1.out.size))
      have HZW' := hid (show w.heap.size + 1 + 1 <= W1.heap.size from Nat.le_trans HZW.out HB1.out.size)
      clear HB0 HRB HRR HRG HT HTA HTB HLOW HZW HB1
      have HB0 := HB0'
      have HRB := HRB'
      have HRR := HRR'
      have HRG := HRG'
      have HT := HT'
      have HTA := HTA'
      have HTB := HTB'
      have HLOW := HLOW'
      have HZW := HZW'
      clear HB0' HRB' HRR' HRG' HT' HTA' HTB' HLOW' HZW'
      obtain ⟨RP,hRP⟩ : ∃ RP,RP = putN (kb.size + 1) ⟨ob,mb,kb⟩ n ⟨oa,ma,ka⟩ := ⟨_,rfl⟩
      have HGE := hid (show GP = RP.getD ⟨7,n,Fo.cons oa ma ka (Fo.cons ob mb kb Fo.nil)⟩ from by
       rw [HGP.out,gAtoms_yes (by unfold atomsOk; dsimp only [kid1]; rw [<- HATE.out]; simp),hRP]; rfl)
      have HREP := hid (show ∀ w' : World,Below W1.heap.size W1 w' -> Calls Tryz.prog 56 #[.agg #[.int .i64 ob,.int .i64 mb,.slice X' kb.len cx'],.int .i64 n,.agg #[.int .i64 oa,.int .i64 ma,.slice X ka.len cx]] w' (PutPost RP w') from fun w' hb' => by
       rw [hRP]
       have ha := HSAB.out.1
       have hb := HSAB.out.2
       exact put_any _ ⟨ob,mb,kb⟩ n ⟨oa,ma,ka⟩ X' X cx' cx w' ⟨(HTB.out.over hb').lies0,(HTA.out.over hb').lies0,Nat.lt_succ_self _,small_size hb.small,all_fitN HTT.out hb.all,HIA.out.2,small_size ha.small,HIA.out.1,HI.out.2⟩)
      have HRI := hid (show ∀ y,RP = some y -> I64 y.op /\ I64 y.n from fun y hy => putN_i64 (p := ⟨ob,mb,kb⟩) HIA.out.2 HIA.out.1 (hRP.symm.trans hy))
      have hS : ∀ w' : World,Below W1.heap.size W1 w' -> w'.cell? ⟨w.heap.size + 1 + 1,1,none⟩ = some (.int .i64 n) /\ w'.cell? ⟨w.heap.size + 1 + 1,2,none⟩ = some (.slice (some ⟨g,0,none⟩) 2 c1') /\ w'.cell? ⟨g,0,none⟩ = some (.int .i64 oa) /\ w'.cell? ⟨g,1,none⟩ = some (.int .i64 ma) /\ w'.cell? ⟨g,2,none⟩ = some (.slice X ka.len cx) /\ w'.cell? ⟨g,3,none⟩ = some (.int .i64 ob) /\ w'.cell? ⟨g,4,none⟩ = some (.int .i64 mb) /\ w'.cell? ⟨g,5,none⟩ = some (.slice X' kb.len cx') := by
       intro w' hb'
       have hz1 := HRB.out.size
       have hz2 := HRG.out.size
       obtain ⟨k0,k1,k2,k3,k4,k5⟩ := HK.out
       exact ⟨(hb'.cell (p := ⟨w.heap.size + 1 + 1,1,none⟩) hz1).trans (HRB.out.cell (i := 1) rfl),(hb'.cell (p := ⟨w.heap.size + 1 + 1,2,none⟩) hz1).trans (HRB.out.cell (i := 2) rfl),(hb'.cell (p := ⟨g,0,none⟩) hz2).trans (HRG.out.cell k0),(hb'.cell (p := ⟨g,1,none⟩) hz2).trans (HRG.out.cell k1),(hb'.cell (p := ⟨g,2,none⟩) hz2).trans (HRG.out.cell k2),(hb'.cell (p := ⟨g,3,none⟩) hz2).trans (HRG.out.cell k3),(hb'.cell (p := ⟨g,4,none⟩) hz2).trans (HRG.out.cell k4),(hb'.cell (p := ⟨g,5,none⟩) hz2).trans (HRG.out.cell k5)⟩
      have HS := hid hS
      clear hS hRP
      go_upto_region 8 with fail
      go_cut [5,6] from 42 to 55 (fun p s wd => ∃ g9 o9 m9 A9 l9 c9,p = .pointer (some ⟨g9,0,none⟩) /\ s = .bool RP.isSome /\ Row wd g9 30 #[.int .i64 o9,.int .i64 m9,.slice A9 l9 c9] /\ W1.heap.size <= g9 /\ (∀ y,RP = some y -> o9 = y.op /\ m9 = y.n /\ l9 = y.k.len /\ ∃ bz,Tree wd W1.heap.size (.slice A9 l9 c9) y.k bz) /\ Below W1.heap.size W1 wd)
      case first =>
       have b0 : Below W1.heap.size W1 W1.drew := (Below.refl _ _).drew
       have bp : Below W1.heap.size W1 (W1.alloc (Obj.cells #[Value.int .i64 0,Value.int .i64 0,Value.slice none 0 0] 30)).drew := ((Below.refl _ _).alloc (Nat.le_refl _) _).drew
       have CA := hid (HREP.out _ bp)
       have CB := hid (HREP.out _ b0)
       have s0 := HS.out _ b0
       have sp := HS.out _ bp
       have B0 := hid b0
       have BP := hid bp
       have RPW := hid (show Row (W1.alloc (Obj.cells #[Value.int .i64 0,Value.int .i64 0,Value.slice none 0 0] 30)).drew W1.heap.size 30 #[Value.int .i64 0,Value.int .i64 0,Value.slice none 0 0] from (Row.fresh _ _ _).drew)
       have hza : (W1.alloc (Obj.cells #[Value.int .i64 0,Value.int .i64 0,Value.slice none 0 0] 30)).drew.heap.size = W1.heap.size + 1 := by simp
       have HZA := hid hza
       clear b0 bp hza
       go_region_held3 (fun w' => w'.cell? ⟨w.heap.size + 1 + 1,1,none⟩ = some (.int .i64 n) /\ w'.cell? ⟨w.heap.size + 1 + 1,2,none⟩ = some (.slice (some ⟨g,0,none⟩) 2 c1') /\ w'.cell? ⟨g,0,none⟩ = some (.int .i64 oa) /\ w'.cell? ⟨g,1,none⟩ = some (.int .i64 ma) /\ w'.cell? ⟨g,2,none⟩ = some (.slice X ka.len cx) /\ w'.cell? ⟨g,3,none⟩ = some (.int .i64 ob) /\ w'.cell? ⟨g,4,none⟩ = some (.int .i64 mb) /\ w'.cell? ⟨g,5,none⟩ = some (.slice X' kb.len cx'))
        (first | with_reducible exact s0 | with_reducible exact sp | with_reducible exact s5 | with_reducible exact s6 | with_reducible exact s5z | fail)
        (first
         |(go_at_call 56
           with_reducible refine CA.out.mono ?_
           rintro e w5 hpp
           obtain ⟨o5,m5,A5,l5,c5,rfl,hb5,hy5⟩ := PutPost.opened hpp
           have hb := BP.out.trans (hb5.mono BP.out.size)
           have r5 := RPW.out.below hb5 RPW.out.size
           obtain ⟨f0,f1,f2⟩ := r5.frees3
           obtain ⟨c0,c1,c2⟩ := r5.cells3 rfl rfl rfl
           have hbs := ((hb.setCell (p := ⟨W1.heap.size,0,none⟩) (Nat.le_refl _) (.int .i64 o5)).setCell (p := ⟨W1.heap.size,1,none⟩) (Nat.le_refl _) (.int .i64 m5)).setCell (p := ⟨W1.heap.size,2,none⟩) (Nat.le_refl _) (.slice A5 l5 c5)
           have s5 := HS.out _ hb
           have s6 := HS.out _ hbs
           rw [HZA.out] at hy5
           have HEND := hid (show ∃ g9 o9 m9 A9 l9 c9,Value.pointer (some ⟨W1.heap.size,0,none⟩) = .pointer (some ⟨g9,0,none⟩) /\ Row (((w5.setCell ⟨W1.heap.size,0,none⟩ (.int .i64 o5)).setCell ⟨W1.heap.size,1,none⟩ (.int .i64 m5)).setCell ⟨W1.heap.size,2,none⟩ (.slice A5 l5 c5)) g9 30 #[.int .i64 o9,.int .i64 m9,.slice A9 l9 c9] /\ W1.heap.size <= g9 /\ (∀ y,RP = some y -> o9 = y.op /\ m9 = y.n /\ l9 = y.k.len /\ ∃ bz,Tree (((w5.setCell ⟨W1.heap.size,0,none⟩ (.int .i64 o5)).setCell ⟨W1.heap.size,1,none⟩ (.int .i64 m5)).setCell ⟨W1.heap.size,2,none⟩ (.slice A5 l5 c5)) W1.heap.size (.slice A9 l9 c9) y.k bz) /\ Below W1.heap.size W1 (((w5.setCell ⟨W1.heap.size,0,none⟩ (.int .i64 o5)).setCell ⟨W1.heap.size,1,none⟩ (.int .i64 m5)).setCell ⟨W1.heap.size,2,none⟩ (.slice A5 l5 c5)) from
            ⟨W1.heap.size,o5,m5,A5,l5,c5,rfl,((r5.put 0 _).put 1 _).put 2 _,Nat.le_refl _,fun y hy => by
             obtain ⟨e1,e2,e3,bz,ht⟩ := hy5 y hy
             exact ⟨e1,e2,e3,bz,(((ht.put (p := ⟨W1.heap.size,0,none⟩) (Nat.lt_succ_self _) _).put (p := ⟨W1.heap.size,1,none⟩) (Nat.lt_succ_self _) _).put (p := ⟨W1.heap.size,2,none⟩) (Nat.lt_succ_self _) _).lower (Nat.le_succ _)⟩,hbs⟩)
           clear hpp hy5 hb5 hb r5 hbs)
         |(go_at_call 56
           with_reducible refine CB.out.mono ?_
           rintro e w5 hpp
           obtain ⟨o5,m5,A5,l5,c5,rfl,hb5,hy5⟩ := PutPost.opened hpp
           have hb := B0.out.trans (hb5.mono B0.out.size)
           have hbl := (Below.refl w5.heap.size w5).alloc (Nat.le_refl _) (Obj.cells #[Value.int .i64 o5,Value.int .i64 m5,Value.slice A5 l5 c5] 30)
           have hba := hb.trans (hbl.mono hb.size)
           have s5 := HS.out _ hb
           have s6 := HS.out _ hba
           have s5z := HS.out _ (hb.alloc hb.size (Obj.cells #[Value.int .i64 0,Value.int .i64 0,Value.slice none 0 0] 30))
           have HEND := hid (show ∃ g9 o9 m9 A9 l9 c9,Value.pointer (some ⟨w5.heap.size,0,none⟩) = .pointer (some ⟨g9,0,none⟩) /\ Row (w5.alloc (Obj.cells #[Value.int .i64 o5,Value.int .i64 m5,Value.slice A5 l5 c5] 30)) g9 30 #[.int .i64 o9,.int .i64 m9,.slice A9 l9 c9] /\ W1.heap.size <= g9 /\ (∀ y,RP = some y -> o9 = y.op /\ m9 = y.n /\ l9 = y.k.len /\ ∃ bz,Tree (w5.alloc (Obj.cells #[Value.int .i64 o5,Value.int .i64 m5,Value.slice A5 l5 c5] 30)) W1.heap.size (.slice A9 l9 c9) y.k bz) /\ Below W1.heap.size W1 (w5.alloc (Obj.cells #[Value.int .i64 o5,Value.int .i64 m5,Value.slice A5 l5 c5] 30)) from
            ⟨w5.heap.size,o5,m5,A5,l5,c5,rfl,Row.fresh _ _ _,hb.size,fun y hy => by
             obtain ⟨e1,e2,e3,bz,ht⟩ := hy5 y hy
             exact ⟨e1,e2,e3,bz,ht.over hbl⟩,hba⟩)
           clear hpp hy5 hb5 hb hbl hba)
         | fail)
       all_goals
        go_wp2_with fail
        go_meet
        obtain ⟨g9,o9,m9,A9',l9,c9',hp,hr⟩ := HEND.out
        exact ⟨g9,o9,m9,A9',l9,c9',hp,rfl,hr⟩
      case rest =>
       obtain ⟨g9,o9,m9,A9,l9,c9,rfl,rfl,hrg,hgW,hy,hbd⟩ := hcut
       have HB9 := hid hbd
       have HRG9 := hid hrg
       have HGW := hid hgW
       obtain ⟨wd,hwd⟩ : ∃ wd,wd = wc := ⟨_,rfl⟩
       have HY := hid hy
       rw [<- hwd] at HB9 HRG9 HY ⊢
       clear hbd hrg hgW hy hwd wc HREP
       cases RP with
       | none =>
        have HGF := hid (show GP = ⟨7,n,Fo.cons oa ma ka (Fo.cons ob mb kb Fo.nil)⟩ from HGE.out)
        obtain ⟨q0,q1,q2⟩ := (HRB.out.below HB9.out HRB.out.size).cells3 rfl rfl rfl
        obtain ⟨bz,htz,hap⟩ := (show ∃ bz,Tree _ w.heap.size (.slice (some ⟨g,0,none⟩) (Fo.cons oa ma ka (Fo.cons ob mb kb Fo.nil)).len c1') (Fo.cons oa ma ka (Fo.cons ob mb kb Fo.nil)) bz /\ w.heap.size + 1 ∉ bz from ⟨bs,(HT.out.over HB9.out).lower HLOW.out.1,HNB.out⟩)
        obtain ⟨⟨c0,c1,c2⟩,⟨f0,f1,f2⟩,⟨r0,r1,r2⟩,hbz,htz2⟩ := box3 (HRR.out.below HB9.out HRR.out.size) (HB0.out.trans (HB9.out.mono HB0.out.size)) (by omega) (7) (n) ((some ⟨g,0,none⟩)) (2) (c1') htz hap
        have HBZ := hid hbz
        have HTZ := hid htz2
        clear hbz htz2 htz hap
        go_wp2_with fail
        refine bodyPost_ret (v := .agg #[.int .i64 7,.int .i64 n,.slice (some ⟨g,0,none⟩) 2 c1']) ?_ rfl (by rw [HGG.out,HGF.out]; exact ⟨(some ⟨g,0,none⟩),c1',bz,rfl,HTZ.out,HBZ.out,HI.out⟩)
        simp [results,Tryz.f33,go_sem,r0,r1,r2]
       | some y =>
        have HGF := hid (show GP = y from HGE.out)
        obtain ⟨rfl,rfl,rfl,b9,ht9⟩ := HY.out y rfl
        have HT9 := hid ht9
        clear ht9 HY
        obtain ⟨q0,q1,q2⟩ := HRG9.out.cells3 rfl rfl rfl
        obtain ⟨bz,htz,hap⟩ := (show ∃ bz,Tree _ w.heap.size (.slice A9 y.k.len c9) y.k bz /\ w.heap.size + 1 ∉ bz from ⟨b9,HT9.out.lower HLOW.out.2,fun hz => by have h1 := (HT9.out.lt _ hz).1; have h2 := HZW.out; omega⟩)
        obtain ⟨⟨c0,c1,c2⟩,⟨f0,f1,f2⟩,⟨r0,r1,r2⟩,hbz,htz2⟩ := box3 (HRR.out.below HB9.out HRR.out.size) (HB0.out.trans (HB9.out.mono HB0.out.size)) (by omega) (y.op) (y.n) (A9) (y.k.len) (c9) htz hap
        have HBZ := hid hbz
        have HTZ := hid htz2
        clear hbz htz2 htz hap
        go_wp2_with fail
        refine bodyPost_ret (v := .agg #[.int .i64 y.op,.int .i64 y.n,.slice A9 y.k.len c9]) ?_ rfl (by rw [HGG.out,HGF.out]; exact ⟨A9,c9,bz,rfl,HTZ.out,HBZ.out,(HRI.out y rfl)⟩)
        simp [results,Tryz.f33,go_sem,r0,r1,r2]
    ·have HGE := hid (show GP = ⟨op,n,pre⟩ from HGP.out.trans (gAtoms_no (by unfold atomsOk; simp [h7])))
     have b7 : (op != 7) = true := by simpa using h7
     have HBS := hid (Below.refl wr.heap.size wr)
     obtain ⟨q0,q1,q2⟩ := (HRB.out.below HBS.out HRB.out.size).cells3 rfl rfl rfl
     obtain ⟨bz,htz,hap⟩ := (show ∃ bz,Tree _ w.heap.size (.slice A1 pre.len c1') pre bz /\ w.heap.size + 1 ∉ bz from ⟨bs,(HT.out.over HBS.out).lower HLOW.out.1,HNB.out⟩)
     obtain ⟨⟨c0,c1,c2⟩,⟨f0,f1,f2⟩,⟨r0,r1,r2⟩,hbz,htz2⟩ := box3 (HRR.out.below HBS.out HRR.out.size) (HB0.out.trans (HBS.out.mono HB0.out.size)) (by omega) (op) (n) (A1) (pre.len) (c1') htz hap
     have HBZ := hid hbz
     have HTZ := hid htz2
     clear hbz htz2 htz hap
     go_wp2_with fail
     refine bodyPost_ret (v := .agg #[.int .i64 op,.int .i64 n,.slice A1 pre.len c1']) ?_ rfl (by rw [HGG.out,HGE.out]; exact ⟨A1,c1',bz,rfl,HTZ.out,HBZ.out,HI.out⟩)
     simp [results,Tryz.f33,go_sem,r0,r1,r2]
end Go.Proofs.YtmnhoeliofojnaaGreatDoor
