import Derived.Test.YtmnhoeliofojnaaGreatDoorRows
import Derived.Test.YtmnhoeliofojnaaGreatDoorDe
import Derived.WalkSpells
import Derived.StillTailTactics
import Derived.Test.YtmnhoeliofojnaaGreatDoorMk
import Derived.Test.YtmnhoeliofojnaaGreatDoorTidyM
namespace Go.Proofs.YtmnhoeliofojnaaGreatDoor
open Go.RowKit
open Go.Lib (hid)
set_option maxRecDepth 100000
def SzPost (n : Nat) (left : Int) (B : Nat) (w : World) (e : Ending) (w' : World) : Prop :=
 ∃ r : Int,e = .returned (.int .i64 r) /\ (r = -1 ∨ (0 <= r /\ r + n = left)) /\ Below B w w'
set_option maxHeartbeats 400000 in
theorem szExpr_of (op n left : Int) (k : Fo) (A : Option Addr) (c : Nat) (w : World)
  (h : ∀ w1 : World,Below w.heap.size w w1 -> Calls Tryz.prog 16 #[.slice A k.len c,.int .i64 left] w1 (SzPost k.size left w1.heap.size w1)) :
  Calls Tryz.prog 5 #[.agg #[.int .i64 op,.int .i64 n,.slice A k.len c],.int .i64 left] w (SzPost k.size left w.heap.size w) := by
 go_enter Tryz.func5,Tryz.ntmps5
 go_wp2_with fail
 have hb0 : Below w.heap.size w (w.alloc (Obj.cells #[Value.int .i64 op,Value.int .i64 n,Value.slice A k.len c] 25)) := (Below.refl _ _).alloc (Nat.le_refl _) _
 refine (h _ hb0).mono ?_
 rintro e w' ⟨r,rfl,hr,hb⟩
 have hb1 := hb0.trans (hb.mono (by simp))
 clear hb hb0
 go_wp2
 ·go_ret
  exact ⟨-1,rfl,.inl rfl,hb1⟩
 ·go_ret
  exact ⟨r,rfl,hr,hb1⟩
set_option maxHeartbeats 400000 in
theorem szExprS_any (m : Nat) : ∀ (f : Fo) (A : Option Addr) (c : Nat) (w : World) (left : Int),f.size = m -> Lies w 0 w.heap.size A 0 f -> f.len <= maxLen -> 0 <= left -> left <= 1048576 ->
  Calls Tryz.prog 16 #[.slice A f.len c,.int .i64 left] w (SzPost f.size left w.heap.size w) := by
 induction m using Nat.strongRecOn with
 | _ m ih =>
  intro f A c w left hm hl hlen h0 h1
  unfold maxLen at hlen
  go_enter Tryz.func16,Tryz.ntmps16
  go_wp2
  ·go_ret
   exact ⟨-1,rfl,.inl rfl,Below.refl _ _⟩
  ·go_loopw [1,5] (fun l i wr => ∃ (j : Nat) (r : Int),j <= f.len /\ i = .int .i64 j /\ l = .int .i64 r /\ 0 <= r /\ r <= left /\ r + f.size + (f.len - j) = left + (f.drop j).size /\ Below w.heap.size w wr)
    (fun _ i _ => f.len - (intOf i).toNat)
   case atStart => exact ⟨0,_,by omega,rfl,rfl,by assumption,by omega,by simp [Fo.drop_zero]; omega,Below.refl _ _⟩
   case round =>
    obtain ⟨j,r,hj,rfl,rfl,hr0,hr1,hr,hb⟩ := hrel
    by_cases hlt : j < f.len
    ·obtain ⟨op,n,k,e1,e2,e3⟩ := Fo.drop_of_lt f j hlt
     have hj' := (hl.below hb).at_ j
     rw [Nat.zero_add,e1] at hj'
     obtain ⟨⟨b,o,A',c',hA,_,hbb,i1,i2,g1,g2,g3,h1,h2,h3⟩,_⟩ := hj'
     subst hA
     go_wp2_with fail
     refine (szExpr_of op n r k A' c' wr (fun w1 hw1 => ih k.size (by omega) k A' c' w1 r rfl ((h3.below (hw1.mono hb.size)).mono_ (Nat.le_refl _) (by have := hb.size; have := hw1.size; omega)) (by omega) hr0 (by omega))).mono ?_
     rintro e w2 ⟨r2,rfl,hr2,hb2⟩
     have hb3 := hb.trans (hb2.mono hb.size)
     clear hb2 hb g1 g2 g3 e1 h3 hl ih
     go_wp2
     ·go_ret
      exact ⟨-1,rfl,.inl rfl,hb3⟩
     ·go_roundw
      case rel => exact ⟨j + 1,r2,by omega,by go_num,rfl,by omega,by omega,by omega,hb3⟩
      case measure => simp [intOf]; omega
    ·have e9 : f.len = j := by omega
     have hd := Fo.drop_len f
     go_wp2
     go_ret
     refine ⟨r,rfl,.inr ⟨hr0, ?_⟩,hb⟩
     subst e9
     rw [hd] at hr
     simp only [Fo.size] at hr
     omega
set_option maxRecDepth 100000
def ToPostZ (f : Fo) (w : World) (e : Ending) (w' : World) : Prop :=
 ∃ A c,e = .returned (.slice A f.len c) /\ f.len <= c /\ c <= maxLen /\ LiesZ w' w.heap.size w'.heap.size A 0 f /\ AllRows w' w.heap.size w'.heap.size /\ Below w.heap.size w w'
def ToPostZ1 (op n : Int) (k : Fo) (w : World) (e : Ending) (w' : World) : Prop :=
 ∃ A c,e = .returned (.agg #[.int .i64 op,.int .i64 n,.slice A k.len c]) /\ k.len <= c /\ c <= maxLen /\ LiesZ w' w.heap.size w'.heap.size A 0 k /\ AllRows w' w.heap.size w'.heap.size /\ Below w.heap.size w w'
set_option maxHeartbeats 400000 in
theorem toExpr_ofz (op n : Int) (k : Fo) (A : Option Addr) (c : Nat) (w : World)
  (h : ∀ w1 : World,Below w.heap.size w w1 -> Calls Tryz.prog 20 #[.slice A k.len c] w1 (ToPostZ k w1)) :
  Calls Tryz.prog 8 #[.agg #[.int .i64 op,.int .i64 n,.slice A k.len c]] w (ToPostZ1 op n k w) := by
 go_enter Tryz.func8,Tryz.ntmps8
 go_wp2_with fail
 generalize hw1 : (((w.alloc (Obj.cells #[Value.int .i64 op,Value.int .i64 n,Value.slice A k.len c] 25)).alloc (Obj.cells #[Value.int .i64 0,Value.int .i64 0,Value.slice Option.none 0 0] 30)).alloc
  (Obj.cells #[Value.int .i64 op,Value.int .i64 n,Value.slice Option.none 0 0] 30)) = w1
 have hb1 : Below w.heap.size w w1 := by
  subst hw1
  exact (((Below.refl _ _).alloc (Nat.le_refl _) _).alloc (by simp) _).alloc (by simp; omega) _
 have hz1 : w1.heap.size = w.heap.size + 1 + 1 + 1 := by subst hw1; simp
 have r1 : Row w1 (w.heap.size + 1) 30 #[Value.int .i64 0,Value.int .i64 0,Value.slice Option.none 0 0] := by
  subst hw1
  have := Row.fresh (w.alloc (Obj.cells #[Value.int .i64 op,Value.int .i64 n,Value.slice A k.len c] 25)) 30 #[Value.int .i64 0,Value.int .i64 0,Value.slice Option.none 0 0]
  simp only [World.size_alloc] at this
  exact this.alloc _
 have r2 : Row w1 (w.heap.size + 1 + 1) 30 #[Value.int .i64 op,Value.int .i64 n,Value.slice Option.none 0 0] := by
  subst hw1
  have := Row.fresh ((w.alloc (Obj.cells #[Value.int .i64 op,Value.int .i64 n,Value.slice A k.len c] 25)).alloc (Obj.cells #[Value.int .i64 0,Value.int .i64 0,Value.slice Option.none 0 0] 30)) 30 #[Value.int .i64 op,Value.int .i64 n,Value.slice Option.none 0 0]
  simpa using this
 have ha1 : AllRows w1 w.heap.size w1.heap.size := by
  subst hw1
  exact (((AllRows.none w _).alloc _ _).alloc _ _).alloc _ _
 clear hw1
 refine (h _ hb1).mono ?_
 rintro e w2 ⟨A',c',rfl,hc1,hc2,hR,hall,hb⟩
 have hall2 : AllRows w2 w.heap.size w2.heap.size := (ha1.below hb (Nat.le_refl _)).join hall
 have q1 := r1.below hb (by omega)
 have q2 := r2.below hb (by omega)
 clear r1 r2
 obtain ⟨c0,c1,c2⟩ := q2.cells3 rfl rfl rfl
 obtain ⟨d0,d1,d2⟩ := q1.cells3 rfl rfl rfl
 have f2 := q2.free 2
 obtain ⟨e0,e1,e2⟩ := q1.frees3
 go_wp2
 have q3 := (((q1.apart (p := ⟨w.heap.size + 1 + 1,2,Option.none⟩) (by simp) (.slice A' k.len c')).put 0 (.int .i64 op)).put 1 (.int .i64 n)).put 2 (.slice A' k.len c')
 refine bodyPost_ret (results_cell_row (P := Tryz.prog) rfl _ _ _ _ _ _ _ rfl q3 Tryz.underlying30 rfl (by kernel_rfl)) rfl ?_
 refine ⟨A',c',rfl,hc1,hc2, ?_,(((hall2.set _ _).set _ _).set _ _).set _ _ |>.mono_ (Nat.le_refl _) (by simp [World.setCell]), ?_⟩
 ·refine (((((hR.set (.inl ?_) _).set (.inl ?_) _).set (.inl ?_) _).set (.inl ?_) _).mono_ hb1.size (by simp [World.setCell])) <;> (dsimp only; omega)
 ·exact (((((hb1.trans (hb.mono hb1.size)).setCell (by simp; omega) _).setCell (by simp) _).setCell (by simp) _).setCell (by simp) _)
def madeE (n : Nat) : Array Value := madeCells #[Value.int .i64 0,Value.int .i64 0,Value.slice Option.none 0 0] (n * 3)
theorem made_run (n : Nat) (hn : n <= 3518437208883) (w : World) : (Instr.makeSlice 28 (.int .i64 (n : Int)) (.int .i64 (n : Int))).run Tryz.prog w = .ok (.slice (some ⟨w.heap.size,0,Option.none⟩) n n) (w.alloc (.cells (madeE n) 30)) := by
 obtain ⟨i,hi,hz0,hz1,hz2⟩ := info_parts (show (Tryz.prog.info? 30).map (fun i => (i.zero,i.size,i.bytes)) = some (some (.agg #[.int .i64 0,.int .i64 0,.slice Option.none 0 0]),3,40) by kernel_rfl)
 have h := run_make (P := Tryz.prog) w 28 30 i _ Tryz.underlying28 hi hz0 .i64 .i64 (n : Int) (n : Int) (by omega) (by omega) (by rw [hz2]; omega) (by omega)
 rw [Int.toNat_natCast,hz1] at h
 exact h
set_option maxHeartbeats 400000 in
theorem toExprS_z (m : Nat) : ∀ (f : Fo) (A : Option Addr) (c : Nat) (w : World),f.size = m -> Lies w 0 w.heap.size A 0 f -> f.size <= 1048576 ->
  Calls Tryz.prog 20 #[.slice A f.len c] w (ToPostZ f w) := by
 induction m using Nat.strongRecOn with
 | _ m ih =>
  intro f A c w hm hl hsz
  have hlen := Fo.len_le_size f
  have hmk := made_run f.len (by omega)
  go_enter Tryz.func20,Tryz.ntmps20
  go_wp2
  clear hmk
  go_loopw [4] (fun i wr => ∃ (j : Nat) (cs : Array Value),j <= f.len /\ i = .int .i64 j /\ Row wr w.heap.size 30 cs /\ cs.size = f.len * 3 /\ LiesC wr (w.heap.size + 1) wr.heap.size cs 0 (f.take j) /\ AllRows wr w.heap.size wr.heap.size /\ Below w.heap.size w wr)
   (fun i _ => f.len - (intOf i).toNat)
  case atStart => exact ⟨0,_,by omega,rfl,Row.fresh _ _ _,size_madeCells _ _,by rw [Fo.take_zero]; trivial,(AllRows.none w _).alloc _ _,(Below.refl _ _).alloc (Nat.le_refl _) _⟩
  case round =>
   obtain ⟨j,cs,hj,rfl,hrow,hcs,hlc,hal,hb⟩ := hrel
   by_cases hlt : j < f.len
   ·obtain ⟨op,n,k,e1,e2,e3⟩ := Fo.drop_of_lt f j hlt
    have hj' := (hl.below hb).at_ j
    rw [Nat.zero_add,e1] at hj'
    obtain ⟨⟨b,o,A',c',hA,_,hbb,i1,i2,g1,g2,g3,h1,h2,h3⟩,_⟩ := hj'
    subst hA
    have E1 := hid e1
    clear e1
    go_wp2_with fail
    refine (toExpr_ofz op n k A' c' wr (fun w1 hw1 => ih k.size (by omega) k A' c' w1 rfl ((h3.below (hw1.mono hb.size)).mono_ (Nat.le_refl _) (by have := hb.size; have := hw1.size; omega)) (by omega))).mono ?_
    rintro e w2 ⟨A2,c2,rfl,hc1,hc2,hR,hal2,hb2⟩
    have hal3 := hid ((hal.below hb2 (Nat.le_refl _)).join hal2)
    have hz := hrow.size
    have hrow2 := hrow.below hb2 hz
    have hb3 := hb.trans (hb2.mono hb.size)
    obtain ⟨v0,p0⟩ : ∃ v,cs[j * 3]? = some v := ⟨_,Array.getElem?_eq_getElem (by omega)⟩
    obtain ⟨v1,p1⟩ : ∃ v,cs[j * 3 + 1]? = some v := ⟨_,Array.getElem?_eq_getElem (by omega)⟩
    obtain ⟨v2,p2⟩ : ∃ v,cs[j * 3 + 2]? = some v := ⟨_,Array.getElem?_eq_getElem (by omega)⟩
    have q0 := hrow2.cell p0
    have q1 := hrow2.cell p1
    have q2 := hrow2.cell p2
    have f0 := hrow2.free (j * 3)
    have f1 := hrow2.free (j * 3 + 1)
    have f2 := hrow2.free (j * 3 + 2)
    have H := hid (show cs.size = f.len * 3 from hcs)
    clear p0 p1 p2 g1 g2 g3 hcs
    go_wp2
    obtain ⟨cs',k1,k2,k3⟩ := LiesC.step hrow2 H.out hlt (hlc.keep (Nat.le_refl _) hb2.size (fun p _ hp => hb2.cell hp) (fun _ _ => rfl)) E1.out i1 i2 hc1 hc2 (hR.mono_ (by omega) (Nat.le_refl _))
    refine ⟨⟨j + 1,cs',by omega,by go_num,k1,k2,k3,((hal3.out.set _ _).set _ _).set _ _ |>.mono_ (Nat.le_refl _) (by simp [World.setCell]), ?_⟩,by simp [intOf]; omega⟩
    exact ((hb3.setCell (Nat.le_refl _) _).setCell (Nat.le_refl _) _).setCell (Nat.le_refl _) _
   ·have e9 : f.len = j := by omega
    go_wp2
    go_ret
    subst e9
    rw [Fo.take_len] at hlc
    exact ⟨_,_,rfl,Nat.le_refl _,by unfold maxLen; omega,hlc.lies hrow (Nat.lt_succ_self _) hrow.size,hal,hb⟩
def ToPost1 (op n : Int) (k : Fo) (w : World) (e : Ending) (w' : World) : Prop :=
 ∃ A c,e = .returned (.agg #[.int .i64 op,.int .i64 n,.slice A k.len c]) /\ k.len <= c /\ c <= maxLen /\ Lies w' w.heap.size w'.heap.size A 0 k /\ AllRows w' w.heap.size w'.heap.size /\ Below w.heap.size w w'
set_option maxRecDepth 100000
set_option maxHeartbeats 400000 in
theorem eqExpr_of (op n : Int) (k : Fo) (A A2 : Option Addr) (c c2 : Nat) (w : World)
  (h : ∀ w1 : World,Below w.heap.size w w1 -> Calls Tryz.prog 25 #[.slice A k.len c,.slice A2 k.len c2] w1 (Gives (.bool true) w1)) :
  Calls Tryz.prog 10 #[.agg #[.int .i64 op,.int .i64 n,.slice A k.len c],.agg #[.int .i64 op,.int .i64 n,.slice A2 k.len c2]] w (Gives (.bool true) w) := by
 go_enter Tryz.func10,Tryz.ntmps10
 go_wp2_with fail
 have hb1 : Below w.heap.size w ((w.alloc (Obj.cells #[Value.int .i64 op,Value.int .i64 n,Value.slice A k.len c] 30)).alloc (Obj.cells #[Value.int .i64 op,Value.int .i64 n,Value.slice A2 k.len c2] 30)) :=
  ((Below.refl _ _).alloc (Nat.le_refl _) _).alloc (by simp) _
 refine (h _ hb1).mono ?_
 rintro e w2 ⟨rfl,hb⟩
 have hb3 := hb1.trans (hb.mono hb1.size)
 clear hb hb1
 go_wp2
 go_ret
 exact ⟨rfl,hb3⟩
set_option maxHeartbeats 400000 in
theorem eqExprS_any (m : Nat) : ∀ (f : Fo) (A A2 : Option Addr) (c c2 : Nat) (w : World),f.size = m -> Lies w 0 w.heap.size A 0 f -> Lies w 0 w.heap.size A2 0 f -> f.size <= 1048576 ->
  Calls Tryz.prog 25 #[.slice A f.len c,.slice A2 f.len c2] w (Gives (.bool true) w) := by
 induction m using Nat.strongRecOn with
 | _ m ih =>
  intro f A A2 c c2 w hm hl hl2 hsz
  have hlen := Fo.len_le_size f
  go_enter Tryz.func25,Tryz.ntmps25
  go_wp2
  go_loopw [5] (fun i wr => ∃ (j : Nat),j <= f.len /\ i = .int .i64 j /\ Below w.heap.size w wr)
   (fun i _ => f.len - (intOf i).toNat)
  case atStart => exact ⟨0,by omega,rfl,Below.refl _ _⟩
  case round =>
   obtain ⟨j,hj,rfl,hb⟩ := hrel
   by_cases hlt : j < f.len
   ·obtain ⟨op,n,k,e1,e2,e3⟩ := Fo.drop_of_lt f j hlt
    have hj' := (hl.below hb).at_ j
    have hj2 := (hl2.below hb).at_ j
    rw [Nat.zero_add,e1] at hj' hj2
    obtain ⟨⟨b,o,A',c',hA,_,hbb,i1,i2,g1,g2,g3,h1,h2,h3⟩,_⟩ := hj'
    obtain ⟨⟨b',o',B',d',hA',_,hbb',_,_,g1',g2',g3',h1',h2',h3'⟩,_⟩ := hj2
    subst hA hA'
    clear e1
    go_wp2_with fail
    go_still_tail 8,(by kernel_rfl)
    change wpList _ _ _ _ _ wr.drew
    have hb' : Below w.heap.size w wr.drew := hb.drew
    go_wp2_with fail
    refine (eqExpr_of op n k A' B' c' d' wr.drew (fun w1 hw1 => ih k.size (by omega) k A' B' c' d' w1 rfl
     ((h3.below (w' := w1) ((Below.refl _ _).drew.trans (hw1.mono hb'.size))).mono_ (Nat.le_refl _) (by have := hb'.size; have := hw1.size; omega))
     ((h3'.below (w' := w1) ((Below.refl _ _).drew.trans (hw1.mono hb'.size))).mono_ (Nat.le_refl _) (by have := hb'.size; have := hw1.size; omega)) (by omega))).mono ?_
    rintro e w2 ⟨rfl,hb2⟩
    have hb3 := hb'.trans (hb2.mono hb'.size)
    clear g1 g2 g3 g1' g2' g3' hb hb' hb2
    go_wp2
    go_roundw
    case rel => exact ⟨j + 1,by omega,by go_num,hb3⟩
    case measure => simp [intOf]; omega
   ·go_wp2
    go_ret
    exact ⟨rfl,hb⟩
set_option maxRecDepth 100000
theorem szExpr_any (op n : Int) (k : Fo) (A : Option Addr) (c : Nat) (w : World) (left : Int) (hl : Lies w 0 w.heap.size A 0 k) (hlen : k.len <= maxLen) (h0 : 0 <= left) (h1 : left <= 1048576) :
  Calls Tryz.prog 5 #[.agg #[.int .i64 op,.int .i64 n,.slice A k.len c],.int .i64 left] w (SzPost k.size left w.heap.size w) :=
 szExpr_of op n left k A c w fun w1 hw1 => szExprS_any k.size k A c w1 left rfl ((hl.below hw1).mono_ (Nat.le_refl _) hw1.size) hlen h0 h1
theorem toExpr_z (op n : Int) (k : Fo) (A : Option Addr) (c : Nat) (w : World) (hl : Lies w 0 w.heap.size A 0 k) (hsz : k.size <= 1048576) :
  Calls Tryz.prog 8 #[.agg #[.int .i64 op,.int .i64 n,.slice A k.len c]] w (ToPostZ1 op n k w) :=
 toExpr_ofz op n k A c w fun w1 hw1 => toExprS_z k.size k A c w1 rfl ((hl.below hw1).mono_ (Nat.le_refl _) hw1.size) hsz
theorem toExpr_any (op n : Int) (k : Fo) (A : Option Addr) (c : Nat) (w : World) (hl : Lies w 0 w.heap.size A 0 k) (hsz : k.size <= 1048576) :
  Calls Tryz.prog 8 #[.agg #[.int .i64 op,.int .i64 n,.slice A k.len c]] w (ToPost1 op n k w) :=
 (toExpr_z op n k A c w hl hsz).mono fun _ _ ⟨A',c',h1,h2,h3,h4,h5,h6⟩ => ⟨A',c',h1,h2,h3,h4.lies,h5,h6⟩
theorem eqExpr_any (op n : Int) (k : Fo) (A A2 : Option Addr) (c c2 : Nat) (w : World) (hl : Lies w 0 w.heap.size A 0 k) (hl2 : Lies w 0 w.heap.size A2 0 k) (hsz : k.size <= 1048576) :
  Calls Tryz.prog 10 #[.agg #[.int .i64 op,.int .i64 n,.slice A k.len c],.agg #[.int .i64 op,.int .i64 n,.slice A2 k.len c2]] w (Gives (.bool true) w) :=
 eqExpr_of op n k A A2 c c2 w fun w1 hw1 => eqExprS_any k.size k A A2 c c2 w1 rfl ((hl.below hw1).mono_ (Nat.le_refl _) hw1.size) ((hl2.below hw1).mono_ (Nat.le_refl _) hw1.size) hsz
set_option maxRecDepth 100000
set_option maxHeartbeats 400000 in
theorem szDef_any (d : De) (left : Int) (A : Option Addr) (c : Nat) (w : World) (hl : Lies w 0 w.heap.size A 0 d.k) (hlen : d.k.len <= maxLen) (h0 : 0 <= left) (h1 : left <= 1048576) :
  Calls Tryz.prog 15 #[.agg #[.int .i64 d.nm,.int .i64 d.ar,.bool d.old,.int .i64 d.op,.int .i64 d.n,.slice A d.k.len c],.int .i64 left] w (SzPost d.k.size left w.heap.size w) := by
 obtain ⟨nm,ar,old,op,n,k⟩ := d
 dsimp only at *
 go_enter Tryz.func15,Tryz.ntmps15
 go_wp2_with fail
 have hb0 : Below w.heap.size w (w.alloc (Obj.cells #[Value.int .i64 nm,Value.int .i64 ar,Value.bool old,Value.int .i64 op,Value.int .i64 n,Value.slice A k.len c] 43)) := (Below.refl _ _).alloc (Nat.le_refl _) _
 refine (szExpr_any op n k A c _ left (hl.up hb0) hlen h0 h1).mono ?_
 rintro e w' ⟨r,rfl,hr,hb⟩
 have hb1 := hb0.trans (hb.mono (by simp))
 clear hb hb0
 go_wp2
 ·go_ret
  exact ⟨-1,rfl,.inl rfl,hb1⟩
 ·go_ret
  exact ⟨r,rfl,hr,hb1⟩
set_option maxHeartbeats 400000 in
theorem szDefS_any (ds : List De) (A : Option Addr) (c : Nat) (w : World) (left : Int) (hl : LiesD w 0 w.heap.size A ds) (hlen : ds.length <= maxLen) (h0 : 0 <= left) (h1 : left <= 1048576) :
  Calls Tryz.prog 4 #[.slice A ds.length c,.int .i64 left] w (SzPost (sizeD ds) left w.heap.size w) := by
 unfold maxLen at hlen
 go_enter Tryz.func4,Tryz.ntmps4
 go_wp2
 ·go_ret
  exact ⟨-1,rfl,.inl rfl,Below.refl _ _⟩
 ·go_loopw [1,5] (fun l i wr => ∃ (j : Nat) (r : Int),j <= ds.length /\ i = .int .i64 j /\ l = .int .i64 r /\ 0 <= r /\ r <= left /\ r + sizeD ds + (ds.length - j) = left + sizeD (ds.drop j) /\ Below w.heap.size w wr)
   (fun _ i _ => ds.length - (intOf i).toNat)
  case atStart => exact ⟨0,_,by omega,rfl,rfl,by assumption,by omega,by simp; omega,Below.refl _ _⟩
  case round =>
   obtain ⟨j,r,hj,rfl,rfl,hr0,hr1,hr,hb⟩ := hrel
   by_cases hlt : j < ds.length
   ·have e1 := List.getElem?_eq_getElem hlt
    generalize ds[j] = d at e1
    have e3 := sizeD_drop e1
    obtain ⟨b,o,A',c',hA,_,hbb,hf,g1,g2,g3,g4,g5,g6,h7,h8,h9⟩ := hl.below hb j d e1
    subst hA
    have hkl : d.k.len <= maxLen := by omega
    go_wp2_with fail
    refine (szDef_any d r A' c' wr (h9.mono_ (Nat.le_refl _) hb.size) hkl hr0 (by omega)).mono ?_
    rintro e w2 ⟨r2,rfl,hr2,hb2⟩
    have hb3 := hb.trans (hb2.mono hb.size)
    clear hb2 hb g1 g2 g3 g4 g5 g6 e1 h9 hl
    go_wp2
    ·go_ret
     exact ⟨-1,rfl,.inl rfl,hb3⟩
    ·go_roundw
     case rel => exact ⟨j + 1,r2,by omega,by go_num,rfl,by omega,by omega,by omega,hb3⟩
     case measure => simp [intOf]; omega
   ·have e9 : ds.length = j := by omega
    have hd : ds.drop j = [] := List.drop_eq_nil_iff.2 (by omega)
    rw [hd] at hr
    go_wp2
    go_ret
    refine ⟨r,rfl,.inr ⟨hr0, ?_⟩,hb⟩
    simp only [sizeD] at hr
    omega
set_option maxRecDepth 100000
def ToPostD1 (d : De) (w : World) (e : Ending) (w' : World) : Prop :=
 ∃ A c,e = .returned (.agg #[.int .i64 d.nm,.int .i64 d.ar,.bool d.old,.int .i64 d.op,.int .i64 d.n,.slice A d.k.len c]) /\ d.k.len <= c /\ c <= maxLen /\ Lies w' w.heap.size w'.heap.size A 0 d.k /\ AllRows w' w.heap.size w'.heap.size /\ Below w.heap.size w w'
def ToPostD (ds : List De) (w : World) (e : Ending) (w' : World) : Prop :=
 ∃ A c,e = .returned (.slice A ds.length c) /\ ds.length <= c /\ c <= maxLen /\ LiesD w' w.heap.size w'.heap.size A ds /\ AllRows w' w.heap.size w'.heap.size /\ Below w.heap.size w w'
set_option maxHeartbeats 800000 in
theorem toDef_any (d : De) (A : Option Addr) (c : Nat) (w : World) (hl : Lies w 0 w.heap.size A 0 d.k) (hsz : d.k.size <= 1048576) :
  Calls Tryz.prog 19 #[.agg #[.int .i64 d.nm,.int .i64 d.ar,.bool d.old,.int .i64 d.op,.int .i64 d.n,.slice A d.k.len c]] w (ToPostD1 d w) := by
 unfold ToPostD1
 obtain ⟨nm,ar,old,op,n,k⟩ := d
 dsimp only at *
 go_enter Tryz.func19,Tryz.ntmps19
 go_wp2_with fail
 generalize hw1 : (((w.alloc (Obj.cells #[Value.int .i64 nm,Value.int .i64 ar,Value.bool old,Value.int .i64 op,Value.int .i64 n,Value.slice A k.len c] 43)).alloc (Obj.cells #[Value.int .i64 0,Value.int .i64 0,Value.bool false,Value.int .i64 0,Value.int .i64 0,Value.slice Option.none 0 0] 48)).alloc
  (Obj.cells #[Value.int .i64 nm,Value.int .i64 ar,Value.bool old,Value.int .i64 0,Value.int .i64 0,Value.slice Option.none 0 0] 48)) = w1
 have hb1 : Below w.heap.size w w1 := by
  subst hw1
  exact (((Below.refl _ _).alloc (Nat.le_refl _) _).alloc (by simp) _).alloc (by simp; omega) _
 have hz1 : w1.heap.size = w.heap.size + 1 + 1 + 1 := by subst hw1; simp
 have r1 : Row w1 (w.heap.size + 1) 48 #[Value.int .i64 0,Value.int .i64 0,Value.bool false,Value.int .i64 0,Value.int .i64 0,Value.slice Option.none 0 0] := by
  subst hw1
  have := Row.fresh (w.alloc (Obj.cells #[Value.int .i64 nm,Value.int .i64 ar,Value.bool old,Value.int .i64 op,Value.int .i64 n,Value.slice A k.len c] 43)) 48 #[Value.int .i64 0,Value.int .i64 0,Value.bool false,Value.int .i64 0,Value.int .i64 0,Value.slice Option.none 0 0]
  simp only [World.size_alloc] at this
  exact this.alloc _
 have r2 : Row w1 (w.heap.size + 1 + 1) 48 #[Value.int .i64 nm,Value.int .i64 ar,Value.bool old,Value.int .i64 0,Value.int .i64 0,Value.slice Option.none 0 0] := by
  subst hw1
  have := Row.fresh ((w.alloc (Obj.cells #[Value.int .i64 nm,Value.int .i64 ar,Value.bool old,Value.int .i64 op,Value.int .i64 n,Value.slice A k.len c] 43)).alloc (Obj.cells #[Value.int .i64 0,Value.int .i64 0,Value.bool false,Value.int .i64 0,Value.int .i64 0,Value.slice Option.none 0 0] 48)) 48 #[Value.int .i64 nm,Value.int .i64 ar,Value.bool old,Value.int .i64 0,Value.int .i64 0,Value.slice Option.none 0 0]
  simpa using this
 have ha1 : AllRows w1 w.heap.size w1.heap.size := by
  subst hw1
  exact (((AllRows.none w _).alloc _ _).alloc _ _).alloc _ _
 have hl1 := hl.up hb1
 clear hw1
 refine (toExpr_any op n k A c w1 hl1 hsz).mono ?_
 rintro e w2 ⟨A',c',rfl,hc1,hc2,hR,hall,hb⟩
 have hall2 : AllRows w2 w.heap.size w2.heap.size := (ha1.below hb (Nat.le_refl _)).join hall
 have q1 := r1.below hb (by omega)
 have q2 := r2.below hb (by omega)
 clear r1 r2
 obtain ⟨c0,c1,c2⟩ := q2.cells3 rfl rfl rfl
 have c3 := q2.cell (i := 3) rfl
 have c4 := q2.cell (i := 4) rfl
 have c5 := q2.cell (i := 5) rfl
 obtain ⟨d0,d1,d2⟩ := q1.cells3 rfl rfl rfl
 have d3 := q1.cell (i := 3) rfl
 have d4 := q1.cell (i := 4) rfl
 have d5 := q1.cell (i := 5) rfl
 have f3 := q2.free 3
 have f4 := q2.free 4
 have f5 := q2.free 5
 obtain ⟨e0,e1,e2⟩ := q1.frees3
 have e3 := q1.free 3
 have e4 := q1.free 4
 have e5 := q1.free 5
 go_wp2
 have q3 := ((((((((q1.apart (p := ⟨w.heap.size + 1 + 1,3,Option.none⟩) (by simp) (.int .i64 op)).apart (p := ⟨w.heap.size + 1 + 1,4,Option.none⟩) (by simp) (.int .i64 n)).apart (p := ⟨w.heap.size + 1 + 1,5,Option.none⟩) (by simp) (.slice A' k.len c')).put 0 (.int .i64 nm)).put 1 (.int .i64 ar)).put 2 (.bool old)).put 3 (.int .i64 op)).put 4 (.int .i64 n)).put 5 (.slice A' k.len c')
 refine bodyPost_ret (results_cell_row (P := Tryz.prog) rfl _ _ _ _ _ _ _ rfl q3 Tryz.underlying48 rfl (by kernel_rfl)) rfl ?_
 refine ⟨A',c',rfl,hc1,hc2, ?_,((((((((hall2.set _ _).set _ _).set _ _).set _ _).set _ _).set _ _).set _ _).set _ _).set _ _ |>.mono_ (Nat.le_refl _) (by simp [World.setCell]), ?_⟩
 ·refine ((((((((((hR.set (.inl ?_) _).set (.inl ?_) _).set (.inl ?_) _).set (.inl ?_) _).set (.inl ?_) _).set (.inl ?_) _).set (.inl ?_) _).set (.inl ?_) _).set (.inl ?_) _).mono_ hb1.size (by simp [World.setCell])) <;> (dsimp only; omega)
 ·exact ((((((((((hb1.trans (hb.mono hb1.size)).setCell (by simp; omega) _).setCell (by simp; omega) _).setCell (by simp; omega) _).setCell (by simp) _).setCell (by simp) _).setCell (by simp) _).setCell (by simp) _).setCell (by simp) _).setCell (by simp) _)
def madeD (n : Nat) : Array Value := madeCells #[Value.int .i64 0,Value.int .i64 0,Value.bool false,Value.int .i64 0,Value.int .i64 0,Value.slice Option.none 0 0] (n * 6)
theorem madeD_run (n : Nat) (hn : n <= 1048576) (w : World) : (Instr.makeSlice 33 (.int .i64 (n : Int)) (.int .i64 (n : Int))).run Tryz.prog w = .ok (.slice (some ⟨w.heap.size,0,Option.none⟩) n n) (w.alloc (.cells (madeD n) 48)) := by
 obtain ⟨i,hi,hz0,hz1,hz2⟩ := info_parts (show (Tryz.prog.info? 48).map (fun i => (i.zero,i.size,i.bytes)) = some (some (.agg #[.int .i64 0,.int .i64 0,.bool false,.int .i64 0,.int .i64 0,.slice none 0 0]),6,64) by kernel_rfl)
 have h := run_make (P := Tryz.prog) w 33 48 i _ Tryz.underlying33 hi hz0 .i64 .i64 (n : Int) (n : Int) (by omega) (by omega) (by rw [hz2]; omega) (by omega)
 rw [Int.toNat_natCast,hz1] at h
 exact h
set_option maxHeartbeats 800000 in
theorem toDefS_any (ds : List De) (A : Option Addr) (c : Nat) (w : World) (hl : LiesD w 0 w.heap.size A ds) (hsz : sizeD ds <= 1048576) :
  Calls Tryz.prog 7 #[.slice A ds.length c] w (ToPostD ds w) := by
 have hlen := sizeD_len ds
 have hmk := madeD_run ds.length (by omega)
 go_enter Tryz.func7,Tryz.ntmps7
 go_wp2
 clear hmk
 go_loopw [4] (fun i wr => ∃ (j : Nat) (cs : Array Value),j <= ds.length /\ i = .int .i64 j /\ Row wr w.heap.size 48 cs /\ cs.size = ds.length * 6 /\ (∀ i d,i < j -> ds[i]? = some d -> DAtC wr (w.heap.size + 1) wr.heap.size cs i d) /\ AllRows wr w.heap.size wr.heap.size /\ Below w.heap.size w wr)
  (fun i _ => ds.length - (intOf i).toNat)
 case atStart => exact ⟨0,_,by omega,rfl,Row.fresh _ _ _,size_madeCells _ _,fun i d h => absurd h (by omega),(AllRows.none w _).alloc _ _,(Below.refl _ _).alloc (Nat.le_refl _) _⟩
 case round =>
  obtain ⟨j,cs,hj,rfl,hrow,hcs,hlc,hal,hb⟩ := hrel
  by_cases hlt : j < ds.length
  ·have e1 := List.getElem?_eq_getElem hlt
   generalize ds[j] = d at e1
   have e3 := sizeD_at e1
   obtain ⟨b,o,A',c',hA,_,hbb,hf,g1,g2,g3,g4,g5,g6,h7,h8,h9⟩ := hl.below hb j d e1
   subst hA
   have E1 := hid e1
   have HLC := hid hlc
   clear e1 hlc
   go_wp2_with fail
   refine (toDef_any d A' c' wr (h9.mono_ (Nat.le_refl _) hb.size) (by omega)).mono ?_
   rintro e w2 ⟨A2,c2,rfl,hc1,hc2,hR,hal2,hb2⟩
   have hal3 := hid ((hal.below hb2 (Nat.le_refl _)).join hal2)
   have hz := hrow.size
   have hrow2 := hrow.below hb2 hz
   have hb3 := hb.trans (hb2.mono hb.size)
   obtain ⟨v0,p0⟩ : ∃ v,cs[j * 6]? = some v := ⟨_,Array.getElem?_eq_getElem (by omega)⟩
   obtain ⟨v1,p1⟩ : ∃ v,cs[j * 6 + 1]? = some v := ⟨_,Array.getElem?_eq_getElem (by omega)⟩
   obtain ⟨v2,p2⟩ : ∃ v,cs[j * 6 + 2]? = some v := ⟨_,Array.getElem?_eq_getElem (by omega)⟩
   obtain ⟨v3,p3⟩ : ∃ v,cs[j * 6 + 3]? = some v := ⟨_,Array.getElem?_eq_getElem (by omega)⟩
   obtain ⟨v4,p4⟩ : ∃ v,cs[j * 6 + 4]? = some v := ⟨_,Array.getElem?_eq_getElem (by omega)⟩
   obtain ⟨v5,p5⟩ : ∃ v,cs[j * 6 + 5]? = some v := ⟨_,Array.getElem?_eq_getElem (by omega)⟩
   have q0 := hrow2.cell p0
   have q1 := hrow2.cell p1
   have q2 := hrow2.cell p2
   have q3 := hrow2.cell p3
   have q4 := hrow2.cell p4
   have q5 := hrow2.cell p5
   have f0 := hrow2.free (j * 6)
   have f1 := hrow2.free (j * 6 + 1)
   have f2 := hrow2.free (j * 6 + 2)
   have f3 := hrow2.free (j * 6 + 3)
   have f4 := hrow2.free (j * 6 + 4)
   have f5 := hrow2.free (j * 6 + 5)
   have H := hid (show cs.size = ds.length * 6 from hcs)
   have HR := hid (show Lies w2 wr.heap.size w2.heap.size A2 0 d.k from hR)
   clear p0 p1 p2 p3 p4 p5 g1 g2 g3 g4 g5 g6 hcs h9 hR
   go_wp2
   obtain ⟨cs',k1,k2,k3⟩ := DAtC.step hrow2 H.out hlt (fun i d' hi hd => (HLC.out i d' hi hd).keep (Nat.le_refl _) hb2.size (fun p _ hp => hb2.cell hp) (fun _ _ => rfl)) E1.out hf hc1 hc2 (HR.out.mono_ (by omega) (Nat.le_refl _))
   refine ⟨⟨j + 1,cs',by omega,by go_num,k1,k2,k3,put6_rows hal3.out,put6_below hb3 (Nat.le_refl _)⟩,by simp [intOf]; omega⟩
  ·have e9 : ds.length = j := by omega
   go_wp2
   go_ret
   exact ⟨_,_,rfl,Nat.le_refl _,by unfold maxLen; omega,DAtC.lies hrow (Nat.lt_succ_self _) hrow.size (fun i d hd => hlc i d (by have := (List.getElem?_eq_some_iff.1 hd).1; omega) hd),hal,hb⟩
set_option maxRecDepth 100000
set_option maxHeartbeats 800000 in
theorem eqDef_any (d : De) (A A2 : Option Addr) (c c2 : Nat) (w : World) (hl : Lies w 0 w.heap.size A 0 d.k) (hl2 : Lies w 0 w.heap.size A2 0 d.k) (hsz : d.k.size <= 1048576) :
  Calls Tryz.prog 26 #[.agg #[.int .i64 d.nm,.int .i64 d.ar,.bool d.old,.int .i64 d.op,.int .i64 d.n,.slice A d.k.len c],.agg #[.int .i64 d.nm,.int .i64 d.ar,.bool d.old,.int .i64 d.op,.int .i64 d.n,.slice A2 d.k.len c2]] w (Gives (.bool true) w) := by
 obtain ⟨nm,ar,old,op,n,k⟩ := d
 dsimp only at *
 have hb1 : Below w.heap.size w ((w.alloc (Obj.cells #[Value.int .i64 nm,Value.int .i64 ar,Value.bool old,Value.int .i64 op,Value.int .i64 n,Value.slice A k.len c] 48)).alloc (Obj.cells #[Value.int .i64 nm,Value.int .i64 ar,Value.bool old,Value.int .i64 op,Value.int .i64 n,Value.slice A2 k.len c2] 48)) :=
  ((Below.refl _ _).alloc (Nat.le_refl _) _).alloc (by simp) _
 go_enter Tryz.func26,Tryz.ntmps26
 go_wp2_with fail
 refine (eqExpr_any op n k A A2 c c2 _ (hl.up hb1) (hl2.up hb1) hsz).mono ?_
 rintro e w2 ⟨rfl,hb⟩
 have hb3 := hb1.trans (hb.mono hb1.size)
 clear hb hb1
 go_wp2
 go_ret
 exact ⟨rfl,hb3⟩
set_option maxHeartbeats 800000 in
theorem eqDefS_any (ds : List De) (A A2 : Option Addr) (c c2 : Nat) (w : World) (hl : LiesD w 0 w.heap.size A ds) (hl2 : LiesD w 0 w.heap.size A2 ds) (hsz : sizeD ds <= 1048576) :
  Calls Tryz.prog 11 #[.slice A ds.length c,.slice A2 ds.length c2] w (Gives (.bool true) w) := by
 have hlen := sizeD_len ds
 go_enter Tryz.func11,Tryz.ntmps11
 go_wp2
 go_loopw [5] (fun i wr => ∃ (j : Nat),j <= ds.length /\ i = .int .i64 j /\ Below w.heap.size w wr)
  (fun i _ => ds.length - (intOf i).toNat)
 case atStart => exact ⟨0,by omega,rfl,Below.refl _ _⟩
 case round =>
  obtain ⟨j,hj,rfl,hb⟩ := hrel
  by_cases hlt : j < ds.length
  ·have e1 := List.getElem?_eq_getElem hlt
   generalize ds[j] = d at e1
   have e3 := sizeD_at e1
   obtain ⟨b,o,A',c',hA,_,hbb,hf,g1,g2,g3,g4,g5,g6,h7,h8,h9⟩ := hl.below hb j d e1
   obtain ⟨b',o',B',d',hA',_,hbb',_,g1',g2',g3',g4',g5',g6',h7',h8',h9'⟩ := hl2.below hb j d e1
   subst hA hA'
   clear e1
   go_wp2_with fail
   go_still_tail 8,(by kernel_rfl)
   change wpList _ _ _ _ _ wr.drew
   have hb' : Below w.heap.size w wr.drew := hb.drew
   go_wp2_with fail
   refine (eqDef_any d A' B' c' d' wr.drew ((h9.below (w' := wr.drew) (Below.refl _ _).drew).mono_ (Nat.le_refl _) hb'.size) ((h9'.below (w' := wr.drew) (Below.refl _ _).drew).mono_ (Nat.le_refl _) hb'.size) (by omega)).mono ?_
   rintro e w2 ⟨rfl,hb2⟩
   have hb3 := hb'.trans (hb2.mono hb'.size)
   clear g1 g2 g3 g4 g5 g6 g1' g2' g3' g4' g5' g6' hb hb' hb2
   go_wp2
   go_roundw
   case rel => exact ⟨j + 1,by omega,by go_num,hb3⟩
   case measure => simp [intOf]; omega
  ·go_wp2
   go_ret
   exact ⟨rfl,hb⟩
end Go.Proofs.YtmnhoeliofojnaaGreatDoor

namespace Go.Proofs.YtmnhoeliofojnaaGreatDoor
open Go.RowKit
open Go.Lib (hid)
set_option maxRecDepth 100000
def SkD (w : World) (L B : Nat) (A : Option Addr) (ds : List De) : Prop := ∀ i d,ds[i]? = some d -> ∃ b o A' c' t cs,A = some ⟨b,o,none⟩ /\ L <= b /\ b < B /\ Row w b t cs /\ o + i * 6 + 5 < cs.size /\
 NS cs (o + i * 6) /\ NS cs (o + i * 6 + 1) /\ NS cs (o + i * 6 + 2) /\ NS cs (o + i * 6 + 3) /\ NS cs (o + i * 6 + 4) /\ cs[o + i * 6 + 5]? = some (.slice A' d.k.len c') /\ Sk w L B A' 0 d.k
theorem LiesD.sk {w : World} {L B : Nat} {A : Option Addr} {ds : List De} (ha : AllRows w L B) (h : LiesD w L B A ds) : SkD w L B A ds := by
 intro i d hd
 obtain ⟨b,o,A',c',hA,hl,hb,_,h1,h2,h3,h4,h5,h6,_,_,h9⟩ := h i d hd
 obtain ⟨t,cs,hr⟩ := ha b hl hb
 have hc := cell_row_ hr h6
 exact ⟨b,o,A',c',t,cs,hA,hl,hb,hr,(Array.getElem?_eq_some_iff.1 hc).1,NS.of (cell_row_ hr h1) rfl,NS.of (cell_row_ hr h2) rfl,NS.of (cell_row_ hr h3) rfl,NS.of (cell_row_ hr h4) rfl,NS.of (cell_row_ hr h5) rfl,hc,h9.sk ha⟩
theorem SkD.mk {w w' : World} {L B : Nat} {A : Option Addr} {ds : List De} (h : MkS L B w w') (hs : SkD w L B A ds) : SkD w' L B A ds := by
 intro i d hd
 obtain ⟨b,o,A',c',t,cs,hA,h1,h2,hr,hz,n0,n1,n2,n3,n4,hc,hk⟩ := hs i d hd
 obtain ⟨cs',r',s',e'⟩ := h.inn b t cs h1 h2 hr
 exact ⟨b,o,A',c',t,cs',hA,h1,h2,r',by omega,n0.keep s' e',n1.keep s' e',n2.keep s' e',n3.keep s' e',n4.keep s' e',(e' _ _ rfl).2 hc,hk.mk h⟩
theorem sizeD_append (xs ys : List De) : sizeD (xs ++ ys) = sizeD xs + sizeD ys := by
 induction xs with
 | nil => simp [sizeD]
 | cons d r ih => simp only [List.cons_append,sizeD,ih]; omega
theorem sizeD_take_le (ds : List De) (j : Nat) : sizeD (ds.take j) <= sizeD ds := by
 have h := sizeD_append (ds.take j) (ds.drop j)
 rw [List.take_append_drop] at h
 omega
theorem sizeD_take_succ {ds : List De} {j : Nat} {d : De} (h : ds[j]? = some d) : sizeD (ds.take (j + 1)) = sizeD (ds.take j) + (d.k.size + 1) := by
 rw [List.take_add_one,h,sizeD_append]
 simp only [Option.toList,sizeD]
 omega
set_option maxHeartbeats 2000000 in
theorem mkDefS_any (L B : Nat) (ds : List De) (A : Option Addr) (c : Nat) (w : World) (x : Int) (hl : SkD w L B A ds) (_hsz : sizeD ds <= 1048576) (hx0 : 0 <= x) (hx1 : x + 5 * (sizeD ds : Int) <= 16777216) :
  Calls Tryz.prog 12 #[.slice A ds.length c,.int .i64 x] w (MkPost (sizeD ds) x L B w) := by
 have hlen := sizeD_len ds
 go_enter Tryz.func12,Tryz.ntmps12
 go_wp2
 go_loopw [1,5] (fun y i wr => ∃ (j : Nat) (x1 : Int),j <= ds.length /\ i = .int .i64 j /\ y = .int .i64 x1 /\ x <= x1 /\ x1 <= x + 5 * (sizeD (ds.take j) : Int) /\ MkS L B w wr)
  (fun _ i _ => ds.length - (intOf i).toNat)
 case atStart => exact ⟨0,x,by omega,rfl,rfl,by omega,by simp [sizeD],MkS.refl _ _ _⟩
 case round =>
  obtain ⟨j,x1,hj,rfl,rfl,hxl,hxu,hmk⟩ := hrel
  have hst := sizeD_take_le ds j
  by_cases hlt : j < ds.length
  ·have e1 := List.getElem?_eq_getElem hlt
   generalize ds[j] = d at e1
   have hst2 := sizeD_take_succ e1
   have hst3 := sizeD_take_le ds (j + 1)
   obtain ⟨b,o,A',c',t,cs,hA,h1,h2,hr,hs,n0,n1,n2,n3,n4,hc,hk⟩ := (hl.mk hmk) j d e1
   subst hA
   obtain ⟨v0,p0⟩ : ∃ v,cs[o + j * 6]? = some v := ⟨_,Array.getElem?_eq_getElem (by omega)⟩
   obtain ⟨v1,p1⟩ : ∃ v,cs[o + j * 6 + 1]? = some v := ⟨_,Array.getElem?_eq_getElem (by omega)⟩
   obtain ⟨v2,p2⟩ : ∃ v,cs[o + j * 6 + 2]? = some v := ⟨_,Array.getElem?_eq_getElem (by omega)⟩
   obtain ⟨v3,p3⟩ : ∃ v,cs[o + j * 6 + 3]? = some v := ⟨_,Array.getElem?_eq_getElem (by omega)⟩
   obtain ⟨v4,p4⟩ : ∃ v,cs[o + j * 6 + 4]? = some v := ⟨_,Array.getElem?_eq_getElem (by omega)⟩
   have q0 := hr.cell p0
   have q1 := hr.cell p1
   have q2 := hr.cell p2
   have q3 := hr.cell p3
   have q4 := hr.cell p4
   have q5 := hr.cell hc
   have f0 := hr.free (o + j * 6)
   have f1 := hr.free (o + j * 6 + 1)
   have f2 := hr.free (o + j * 6 + 2)
   have f3 := hr.free (o + j * 6 + 3)
   have f4 := hr.free (o + j * 6 + 4)
   have HR := hid (fun (y0 y1 : Int) (y2 : Bool) (y3 y4 : Int) => MkS.set (v := .int .i64 y4) (MkS.set (v := .int .i64 y3) (MkS.set (v := .bool y2) (MkS.set (v := .int .i64 y1) (MkS.set (v := .int .i64 y0) (MkS.refl L B wr) h1 h2 hr n0 rfl) h1 h2 hr n1 rfl) h1 h2 hr n2 rfl) h1 h2 hr n3 rfl) h1 h2 hr n4 rfl)
   have HM := hid hmk
   have HT := hid hst2
   have HK := hid hk
   have hb1 : x1 + 5 + 5 * (d.k.size : Int) <= 16777216 := by omega
   have hx2 : 0 <= x1 := by omega
   have HX := hid (show x <= x1 /\ x1 <= x + 5 * (sizeD (ds.take j) : Int) from ⟨hxl,hxu⟩)
   clear p0 p1 p2 p3 p4 hc hr e1 hk hl hmk n0 n1 n2 n3 n4 hst hst2 hst3 hxl hxu
   go_wp2_with fail
   refine (mkExprS_any L B d.k.size d.k A' c' _ (x1 + 1 + 1 + 1 + 1 + 1) rfl (Sk.mk (HR.out _ _ _ _ _) HK.out) (by omega) (by omega)).mono ?_
   rintro e w2 ⟨r,rfl,hr1,hr2,hm3⟩
   have HM2 := hid (HM.out.trans ((HR.out _ _ _ _ _).trans hm3))
   clear hm3 q0 q1 q2 q3 q4 q5 f0 f1 f2 f3 f4 HM HK HR
   have hx9 := HX.out
   have ht9 := HT.out
   go_wp2
   go_roundw
   case rel => exact ⟨j + 1,r,by omega,by go_num,rfl,by omega,by omega,HM2.out⟩
   case measure => simp [intOf]; omega
  ·have e9 : ds.take j = ds := List.take_of_length_le (by omega)
   rw [e9] at hxu
   go_wp2
   go_ret
   exact ⟨x1,rfl,hxl,hxu,hmk⟩
end Go.Proofs.YtmnhoeliofojnaaGreatDoor

namespace Go.Proofs.YtmnhoeliofojnaaGreatDoor
open Go.RowKit
open Go.Lib (hid)
set_option maxRecDepth 100000
set_option maxHeartbeats 4000000 in
theorem law_TidyExpr (ds1 : List De) (A1 : Option Addr) (c1 : Nat) (op2 n2 : Int) (k2 : Fo) (A2 : Option Addr) (c2 : Nat) (w : World) (hl1 : LiesD w 0 w.heap.size A1 ds1) (hlen1 : ds1.length <= maxLen) (hl2 : Lies w 0 w.heap.size A2 0 k2) (hlen2 : k2.len <= maxLen) :
  Calls Tryz.prog 3 #[.slice A1 ds1.length c1,.agg #[.int .i64 op2,.int .i64 n2,.slice A2 k2.len c2]] w (Gives (.bool true) w) := by
 obtain ⟨y,hy⟩ : ∃ y,y = resTidy ds1 ⟨op2,n2,k2⟩ := ⟨_,rfl⟩
 obtain ⟨ok,hok⟩ : ∃ ok,ok = okLib ds1 ⟨op2,n2,k2⟩ := ⟨_,rfl⟩
 have hys : y.k.size <= 1048576 := by rw [hy]; exact resTidy_le _ _ _ _
 have HY := hid hy
 have HOK := hid hok
 clear hy hok
 obtain ⟨hb,r1⟩ := one_box w 25 #[Value.int .i64 op2,Value.int .i64 n2,Value.slice A2 k2.len c2]
 have HX2 := hid r1
 clear r1
 have HB := hid hb
 have HS := hid (And.intro hb.size (show w.heap.size + 1 <= (w.alloc (Obj.cells #[Value.int .i64 op2,Value.int .i64 n2,Value.slice A2 k2.len c2] 25)).heap.size from by simp))
 clear hb
 have HL1 := hid hl1
 clear hl1
 have HL2 := hid hl2
 clear hl2
 go_enter Tryz.func3,Tryz.ntmps3
 go_wp2_with fail
 refine (szDefS_any ds1 A1 c1 _ 1048576 (HL1.out.up HB.out) hlen1 (by decide) (by decide)).mono ?_
 rintro e w1 ⟨r1,rfl,hr1,hb⟩
 have HB' := onB HB hb
 have HX2' := onR HX2 hb
 have HS' := hid (And.intro hb.size HS.out)
 clear hb HB HX2 HS
 have HB := HB'
 have HX2 := HX2'
 have HS := HS'
 clear HB' HX2' HS'
 rcases hr1 with rfl | ⟨hrz1,hr1⟩
 ·go_wp2
  go_ret
  exact ⟨rfl,HB.out⟩
 have hsz1 : sizeD ds1 <= 1048576 := by omega
 have hrb1 : r1 <= 1048576 := by omega
 clear hr1
 obtain ⟨qHX2_0,qHX2_1,qHX2_2⟩ := HX2.out.cells3 rfl rfl rfl
 go_wp2_with fail
 refine (szExpr_any op2 n2 k2 A2 c2 _ r1 (HL2.out.up HB.out) hlen2 hrz1 hrb1).mono ?_
 rintro e w2 ⟨r2,rfl,hr2,hb⟩
 clear qHX2_0 qHX2_1 qHX2_2
 have HB' := onB HB hb
 have HX2' := onR HX2 hb
 have HS' := hid (And.intro hb.size HS.out)
 clear hb HB HX2 HS
 have HB := HB'
 have HX2 := HX2'
 have HS := HS'
 clear HB' HX2' HS'
 rcases hr2 with rfl | ⟨hrz2,hr2⟩
 ·go_wp2
  go_ret
  exact ⟨rfl,HB.out⟩
 have hsz2 : k2.size <= 1048576 := by omega
 have hrb2 : r2 <= 1048576 := by omega
 clear hr2
 go_upto_region 8 with fail
 have hS : ∀ w' : World,Below w2.heap.size w2 w' -> w'.cell? ⟨w.heap.size,0,none⟩ = some (.int .i64 op2) /\ w'.cell? ⟨w.heap.size,1,none⟩ = some (.int .i64 n2) /\ w'.cell? ⟨w.heap.size,2,none⟩ = some (.slice A2 k2.len c2) := fun w' hb => ⟨(hb.cell (p := ⟨w.heap.size,0,none⟩) HX2.out.size).trans (HX2.out.cell (i := 0) rfl),(hb.cell (p := ⟨w.heap.size,1,none⟩) HX2.out.size).trans (HX2.out.cell (i := 1) rfl),(hb.cell (p := ⟨w.heap.size,2,none⟩) HX2.out.size).trans (HX2.out.cell (i := 2) rfl)⟩
 have HSS := hid hS
 clear hS
 have HTA := hid (fun (w' : World) (hb' : Below w2.heap.size w2 w') => toDefS_any ds1 A1 c1 w' ((HL1.out.up HB.out).up hb') hsz1)
 have HTB := hid (fun (w' : World) (hb' : Below w2.heap.size w2 w') => toExpr_any op2 n2 k2 A2 c2 w' ((HL2.out.up HB.out).up hb') hsz2)
 go_cut [6,7] from 27 to 34 (fun p s wd => ∃ g A9 c9 b9,p = .pointer (some ⟨g,0,none⟩) /\ s = .bool ok /\ Row wd g 30 #[.int .i64 y.op,.int .i64 y.n,.slice A9 y.k.len c9] /\ w2.heap.size <= g /\ Tree wd w2.heap.size (.slice A9 y.k.len c9) y.k b9 /\ Below w2.heap.size w2 wd)
 case first =>
  have b0 : Below w2.heap.size w2 w2.drew := (Below.refl _ _).drew
  have bp : Below w2.heap.size w2 (w2.alloc (Obj.cells #[Value.int .i64 0,Value.int .i64 0,Value.slice none 0 0] 30)).drew := ((Below.refl _ _).alloc (Nat.le_refl _) _).drew
  have C0 := hid (HTA.out _ b0)
  have CP := hid (HTA.out _ bp)
  have s0 := HSS.out _ b0
  have sp := HSS.out _ bp
  have B0 := hid b0
  have BP := hid bp
  have RP := hid (show Row (w2.alloc (Obj.cells #[Value.int .i64 0,Value.int .i64 0,Value.slice none 0 0] 30)).drew w2.heap.size 30 #[Value.int .i64 0,Value.int .i64 0,Value.slice none 0 0] from (Row.fresh _ _ _).drew)
  clear b0 bp
  go_region_held3 (fun w' => w'.cell? ⟨w.heap.size,0,none⟩ = some (.int .i64 op2) /\ w'.cell? ⟨w.heap.size,1,none⟩ = some (.int .i64 n2) /\ w'.cell? ⟨w.heap.size,2,none⟩ = some (.slice A2 k2.len c2))
   (first | with_reducible exact s0 | with_reducible exact sp | with_reducible exact s1 | with_reducible exact s1l | with_reducible exact s2 | with_reducible exact s2l | with_reducible exact s3 | with_reducible exact s4 | with_reducible exact s3z | fail)
   (first
    |(go_at_call 6
      with_reducible refine (specTidyExpr_any ds1 As1 cs1 op2 n2 k2 As2 cs2 _ LTA.out LTB.out hsz1 (Nat.le_trans hks2 hcs2) hsz2).mono ?_
      rintro e vd ⟨A5,c5,b5,rfl,ht5,hb5⟩
      rw [<- HY.out] at ht5
      rw [<- HY.out, <- HOK.out]
      have hb := B2.out.trans (hb5.mono B2.out.size)
      have r5 := (RLa2.out).below hb5 ((RLa2.out).size)
      obtain ⟨f0,f1,f2⟩ := r5.frees3
      obtain ⟨d0,d1,d2⟩ := r5.cells3 rfl rfl rfl
      have hgl : w2.heap.size <= w2.heap.size := by first | exact Nat.le_refl _ | exact B1.out.size | exact B2.out.size
      have hbs := ((hb.setCell (p := ⟨w2.heap.size,0,none⟩) hgl (.int .i64 y.op)).setCell (p := ⟨w2.heap.size,1,none⟩) hgl (.int .i64 y.n)).setCell (p := ⟨w2.heap.size,2,none⟩) hgl (.slice A5 y.k.len c5)
      have s3 := HSS.out _ hb
      have s4 := HSS.out _ hbs
      have hzr := (RLa2.out).size
      have HEND := hid (show ∃ g A6 c6 b6,Value.pointer (some ⟨w2.heap.size,0,none⟩) = .pointer (some ⟨g,0,none⟩) /\ Row (((vd.setCell ⟨w2.heap.size,0,none⟩ (.int .i64 y.op)).setCell ⟨w2.heap.size,1,none⟩ (.int .i64 y.n)).setCell ⟨w2.heap.size,2,none⟩ (.slice A5 y.k.len c5)) g 30 #[.int .i64 y.op,.int .i64 y.n,.slice A6 y.k.len c6] /\ w2.heap.size <= g /\ Tree (((vd.setCell ⟨w2.heap.size,0,none⟩ (.int .i64 y.op)).setCell ⟨w2.heap.size,1,none⟩ (.int .i64 y.n)).setCell ⟨w2.heap.size,2,none⟩ (.slice A5 y.k.len c5)) w2.heap.size (.slice A6 y.k.len c6) y.k b6 /\ Below w2.heap.size w2 (((vd.setCell ⟨w2.heap.size,0,none⟩ (.int .i64 y.op)).setCell ⟨w2.heap.size,1,none⟩ (.int .i64 y.n)).setCell ⟨w2.heap.size,2,none⟩ (.slice A5 y.k.len c5)) from ⟨w2.heap.size,A5,c5,b5,rfl,((r5.put 0 _).put 1 _).put 2 _,hgl,(((ht5.put (p := ⟨w2.heap.size,0,none⟩) hzr _).put (p := ⟨w2.heap.size,1,none⟩) hzr _).put (p := ⟨w2.heap.size,2,none⟩) hzr _).lower B2.out.size,hbs⟩)
      clear ht5 hb5 hb r5 hbs hgl hzr)
    |(go_at_call 6
      with_reducible refine (specTidyExpr_any ds1 As1 cs1 op2 n2 k2 As2 cs2 _ LTA.out LTB.out hsz1 (Nat.le_trans hks2 hcs2) hsz2).mono ?_
      rintro e vd ⟨A5,c5,b5,rfl,ht5,hb5⟩
      rw [<- HY.out] at ht5
      rw [<- HY.out, <- HOK.out]
      have hb := B2.out.trans (hb5.mono B2.out.size)
      have r5 := (RLb2.out).below hb5 ((RLb2.out).size)
      obtain ⟨f0,f1,f2⟩ := r5.frees3
      obtain ⟨d0,d1,d2⟩ := r5.cells3 rfl rfl rfl
      have hgl : w2.heap.size <= va.heap.size := by first | exact Nat.le_refl _ | exact B1.out.size | exact B2.out.size
      have hbs := ((hb.setCell (p := ⟨va.heap.size,0,none⟩) hgl (.int .i64 y.op)).setCell (p := ⟨va.heap.size,1,none⟩) hgl (.int .i64 y.n)).setCell (p := ⟨va.heap.size,2,none⟩) hgl (.slice A5 y.k.len c5)
      have s3 := HSS.out _ hb
      have s4 := HSS.out _ hbs
      have hzr := (RLb2.out).size
      have HEND := hid (show ∃ g A6 c6 b6,Value.pointer (some ⟨va.heap.size,0,none⟩) = .pointer (some ⟨g,0,none⟩) /\ Row (((vd.setCell ⟨va.heap.size,0,none⟩ (.int .i64 y.op)).setCell ⟨va.heap.size,1,none⟩ (.int .i64 y.n)).setCell ⟨va.heap.size,2,none⟩ (.slice A5 y.k.len c5)) g 30 #[.int .i64 y.op,.int .i64 y.n,.slice A6 y.k.len c6] /\ w2.heap.size <= g /\ Tree (((vd.setCell ⟨va.heap.size,0,none⟩ (.int .i64 y.op)).setCell ⟨va.heap.size,1,none⟩ (.int .i64 y.n)).setCell ⟨va.heap.size,2,none⟩ (.slice A5 y.k.len c5)) w2.heap.size (.slice A6 y.k.len c6) y.k b6 /\ Below w2.heap.size w2 (((vd.setCell ⟨va.heap.size,0,none⟩ (.int .i64 y.op)).setCell ⟨va.heap.size,1,none⟩ (.int .i64 y.n)).setCell ⟨va.heap.size,2,none⟩ (.slice A5 y.k.len c5)) from ⟨va.heap.size,A5,c5,b5,rfl,((r5.put 0 _).put 1 _).put 2 _,hgl,(((ht5.put (p := ⟨va.heap.size,0,none⟩) hzr _).put (p := ⟨va.heap.size,1,none⟩) hzr _).put (p := ⟨va.heap.size,2,none⟩) hzr _).lower B2.out.size,hbs⟩)
      clear ht5 hb5 hb r5 hbs hgl hzr)
    |(go_at_call 6
      with_reducible refine (specTidyExpr_any ds1 As1 cs1 op2 n2 k2 As2 cs2 _ (LTA.out.up ((Below.refl _ _).alloc (Nat.le_refl _) _)) (LTB.out.up ((Below.refl _ _).alloc (Nat.le_refl _) _)) hsz1 (Nat.le_trans hks2 hcs2) hsz2).mono ?_
      rintro e vd ⟨A5,c5,b5,rfl,ht5,hb5⟩
      rw [<- HY.out] at ht5
      rw [<- HY.out, <- HOK.out]
      have hb := B2L.out.trans (hb5.mono B2L.out.size)
      have r5 := (Row.fresh vb 30 #[Value.int .i64 0,Value.int .i64 0,Value.slice none 0 0]).below hb5 ((Row.fresh vb 30 #[Value.int .i64 0,Value.int .i64 0,Value.slice none 0 0]).size)
      obtain ⟨f0,f1,f2⟩ := r5.frees3
      obtain ⟨d0,d1,d2⟩ := r5.cells3 rfl rfl rfl
      have hgl : w2.heap.size <= vb.heap.size := by first | exact Nat.le_refl _ | exact B1.out.size | exact B2.out.size
      have hbs := ((hb.setCell (p := ⟨vb.heap.size,0,none⟩) hgl (.int .i64 y.op)).setCell (p := ⟨vb.heap.size,1,none⟩) hgl (.int .i64 y.n)).setCell (p := ⟨vb.heap.size,2,none⟩) hgl (.slice A5 y.k.len c5)
      have s3 := HSS.out _ hb
      have s4 := HSS.out _ hbs
      have hzr := (Row.fresh vb 30 #[Value.int .i64 0,Value.int .i64 0,Value.slice none 0 0]).size
      have HEND := hid (show ∃ g A6 c6 b6,Value.pointer (some ⟨vb.heap.size,0,none⟩) = .pointer (some ⟨g,0,none⟩) /\ Row (((vd.setCell ⟨vb.heap.size,0,none⟩ (.int .i64 y.op)).setCell ⟨vb.heap.size,1,none⟩ (.int .i64 y.n)).setCell ⟨vb.heap.size,2,none⟩ (.slice A5 y.k.len c5)) g 30 #[.int .i64 y.op,.int .i64 y.n,.slice A6 y.k.len c6] /\ w2.heap.size <= g /\ Tree (((vd.setCell ⟨vb.heap.size,0,none⟩ (.int .i64 y.op)).setCell ⟨vb.heap.size,1,none⟩ (.int .i64 y.n)).setCell ⟨vb.heap.size,2,none⟩ (.slice A5 y.k.len c5)) w2.heap.size (.slice A6 y.k.len c6) y.k b6 /\ Below w2.heap.size w2 (((vd.setCell ⟨vb.heap.size,0,none⟩ (.int .i64 y.op)).setCell ⟨vb.heap.size,1,none⟩ (.int .i64 y.n)).setCell ⟨vb.heap.size,2,none⟩ (.slice A5 y.k.len c5)) from ⟨vb.heap.size,A5,c5,b5,rfl,((r5.put 0 _).put 1 _).put 2 _,hgl,(((ht5.put (p := ⟨vb.heap.size,0,none⟩) hzr _).put (p := ⟨vb.heap.size,1,none⟩) hzr _).put (p := ⟨vb.heap.size,2,none⟩) hzr _).lower B2L.out.size,hbs⟩)
      clear ht5 hb5 hb r5 hbs hgl hzr)
    |(go_at_call 6
      with_reducible refine (specTidyExpr_any ds1 As1 cs1 op2 n2 k2 As2 cs2 _ LTA.out LTB.out hsz1 (Nat.le_trans hks2 hcs2) hsz2).mono ?_
      rintro e vd ⟨A5,c5,b5,rfl,ht5,hb5⟩
      rw [<- HY.out] at ht5
      rw [<- HY.out, <- HOK.out]
      have hb := B2.out.trans (hb5.mono B2.out.size)
      have hbl : Below vd.heap.size vd (vd.alloc (Obj.cells #[Value.int .i64 y.op,Value.int .i64 y.n,Value.slice A5 y.k.len c5] 30)) := (Below.refl _ _).alloc (Nat.le_refl _) _
      have hba := hb.trans (hbl.mono hb.size)
      have s3 := HSS.out _ hb
      have s4 := HSS.out _ hba
      have s3z := HSS.out _ (hb.alloc hb.size (Obj.cells #[Value.int .i64 0,Value.int .i64 0,Value.slice none 0 0] 30))
      have HEND := hid (show ∃ g A6 c6 b6,Value.pointer (some ⟨vd.heap.size,0,none⟩) = .pointer (some ⟨g,0,none⟩) /\ Row (vd.alloc (Obj.cells #[Value.int .i64 y.op,Value.int .i64 y.n,Value.slice A5 y.k.len c5] 30)) g 30 #[.int .i64 y.op,.int .i64 y.n,.slice A6 y.k.len c6] /\ w2.heap.size <= g /\ Tree (vd.alloc (Obj.cells #[Value.int .i64 y.op,Value.int .i64 y.n,Value.slice A5 y.k.len c5] 30)) w2.heap.size (.slice A6 y.k.len c6) y.k b6 /\ Below w2.heap.size w2 (vd.alloc (Obj.cells #[Value.int .i64 y.op,Value.int .i64 y.n,Value.slice A5 y.k.len c5] 30)) from ⟨vd.heap.size,A5,c5,b5,rfl,Row.fresh _ _ _,hb.size,(ht5.over hbl).lower B2.out.size,hba⟩)
      clear ht5 hb5 hb hbl hba)
    |(go_at_call 8
      with_reducible refine (HTB.out va B1.out).mono ?_
      rintro e vb ⟨As2,cs2,rfl,hks2,hcs2,hls2,hals2,hb2⟩
      have RLa2 := onR RLa1 hb2
      have LTA := hid ((LT1.out).up hb2)
      have LTB := hid (hls2.mono_ (Nat.zero_le _) (Nat.le_refl _))
      have RGA := hid (fun (v : World) (hv : Below vb.heap.size vb v) => RGA1.out v (hb2.trans (hv.mono (Nat.le_trans (hb2).size (Nat.le_refl _)))))
      have RGB := hid (fun (v : World) (hv : Below vb.heap.size vb v) => And.intro (hls2.below hv) (And.intro (hals2.below hv (Nat.le_refl _)) hv.size))
      have b2 := B1.out.trans (hb2.mono B1.out.size)
      have B2 := hid b2
      have B2L := hid (b2.alloc b2.size (Obj.cells #[Value.int .i64 0,Value.int .i64 0,Value.slice none 0 0] 30))
      have s2 := HSS.out _ b2
      have s2l := HSS.out _ B2L.out
      clear hb2 b2 hls2 hals2)
    |(go_at_call 8
      with_reducible refine (HTB.out (va.alloc (Obj.cells #[Value.int .i64 0,Value.int .i64 0,Value.slice none 0 0] 30)) B1L.out).mono ?_
      rintro e vb ⟨As2,cs2,rfl,hks2,hcs2,hls2,hals2,hb2⟩
      have RLb2 := hid ((Row.fresh va 30 #[Value.int .i64 0,Value.int .i64 0,Value.slice none 0 0]).below hb2 (by simp))
      have LTA := hid ((LT1.out.up ((Below.refl _ _).alloc (Nat.le_refl _) _)).up hb2)
      have LTB := hid (hls2.mono_ (Nat.zero_le _) (Nat.le_refl _))
      have RGA := hid (fun (v : World) (hv : Below vb.heap.size vb v) => RGA1.out v ((((Below.refl va.heap.size va).alloc (Nat.le_refl _) _).trans (hb2.mono (by simp))).trans (hv.mono (Nat.le_trans ((((Below.refl va.heap.size va).alloc (Nat.le_refl _) _).trans (hb2.mono (by simp)))).size (Nat.le_refl _)))))
      have RGB := hid (fun (v : World) (hv : Below vb.heap.size vb v) => And.intro (hls2.below hv) (And.intro (hals2.below hv (Nat.le_refl _)) hv.size))
      have b2 := B1L.out.trans (hb2.mono B1L.out.size)
      have B2 := hid b2
      have B2L := hid (b2.alloc b2.size (Obj.cells #[Value.int .i64 0,Value.int .i64 0,Value.slice none 0 0] 30))
      have s2 := HSS.out _ b2
      have s2l := HSS.out _ B2L.out
      clear hb2 b2 hls2 hals2)
    |(go_at_call 8
      with_reducible refine (HTB.out va B1.out).mono ?_
      rintro e vb ⟨As2,cs2,rfl,hks2,hcs2,hls2,hals2,hb2⟩
      have LTA := hid ((LT1.out).up hb2)
      have LTB := hid (hls2.mono_ (Nat.zero_le _) (Nat.le_refl _))
      have RGA := hid (fun (v : World) (hv : Below vb.heap.size vb v) => RGA1.out v (hb2.trans (hv.mono (Nat.le_trans (hb2).size (Nat.le_refl _)))))
      have RGB := hid (fun (v : World) (hv : Below vb.heap.size vb v) => And.intro (hls2.below hv) (And.intro (hals2.below hv (Nat.le_refl _)) hv.size))
      have b2 := B1.out.trans (hb2.mono B1.out.size)
      have B2 := hid b2
      have B2L := hid (b2.alloc b2.size (Obj.cells #[Value.int .i64 0,Value.int .i64 0,Value.slice none 0 0] 30))
      have s2 := HSS.out _ b2
      have s2l := HSS.out _ B2L.out
      clear hb2 b2 hls2 hals2)
    |(go_at_call 7
      with_reducible refine CP.out.mono ?_
      rintro e va ⟨As1,cs1,rfl,hks1,hcs1,hls1,hals1,hb1⟩
      have RLa1 := onR RP hb1
      have RGA1 := hid (fun (v : World) (hv : Below va.heap.size va v) => And.intro (hls1.below hv) (And.intro (hals1.below hv (Nat.le_refl _)) hv.size))
      have LT1 := hid (hls1.mono_ (Nat.zero_le _) (Nat.le_refl _))
      have b1 := BP.out.trans (hb1.mono BP.out.size)
      have B1 := hid b1
      have s1 := HSS.out _ b1
      clear hb1 b1 hls1 hals1)
    |(go_at_call 7
      with_reducible refine C0.out.mono ?_
      rintro e va ⟨As1,cs1,rfl,hks1,hcs1,hls1,hals1,hb1⟩
      have B1L := hid ((B0.out.trans (hb1.mono B0.out.size)).alloc (B0.out.trans (hb1.mono B0.out.size)).size (Obj.cells #[Value.int .i64 0,Value.int .i64 0,Value.slice none 0 0] 30))
      have s1l := HSS.out _ B1L.out
      have RGA1 := hid (fun (v : World) (hv : Below va.heap.size va v) => And.intro (hls1.below hv) (And.intro (hals1.below hv (Nat.le_refl _)) hv.size))
      have LT1 := hid (hls1.mono_ (Nat.zero_le _) (Nat.le_refl _))
      have b1 := B0.out.trans (hb1.mono B0.out.size)
      have B1 := hid b1
      have s1 := HSS.out _ b1
      clear hb1 b1 hls1 hals1)
    | fail)
  all_goals
   go_wp2_with fail
   go_meet
   obtain ⟨g,A9',c9',b9',hp,hr⟩ := HEND.out
   exact ⟨g,A9',c9',b9',hp,rfl,hr⟩
 case rest =>
 obtain ⟨gAw,Aw,cw,bsw,rfl,rfl,hrw,hgw,htw,hb⟩ := hcut
 obtain ⟨w3,hw9⟩ : ∃ v,v = wc := ⟨_,rfl⟩
 rw [<- hw9] at hrw htw hb ⊢
 clear hw9 wc HSS HTA HTB
 have HB' := onB HB hb
 have HX2' := onR HX2 hb
 have HS' := hid (And.intro hb.size HS.out)
 clear hb HB HX2 HS
 have HB := HB'
 have HX2 := HX2'
 have HS := HS'
 clear HB' HX2' HS'
 have XW := hid hrw
 have HS' := hid (And.intro hgw (And.intro hrw.size HS.out))
 clear HS hrw hgw
 have HS := HS'
 clear HS'
 have WL := hid (htw.lies fun z hz => (htw.lt z hz).2)
 clear htw
 go_wp2_with fail
 refine (toDefS_any ds1 A1 c1 _ (HL1.out.up HB.out) hsz1).mono ?_
 rintro e w4 ⟨Ax1,cx1,rfl,hkx1,hcx1,hlx1,halx1,hb⟩
 have HB' := onB HB hb
 have HX2' := onR HX2 hb
 have XW' := onR XW hb
 have WL' := hid (WL.out.below (hb.mono (by have hs := HS.out; omega)))
 have HS' := hid (And.intro hb.size HS.out)
 clear hb HB HX2 XW WL HS
 have HB := HB'
 have HX2 := HX2'
 have XW := XW'
 have WL := WL'
 have HS := HS'
 clear HB' HX2' XW' WL' HS'
 have XL1 := hid hlx1
 have XA1 := hid halx1
 clear hlx1 halx1
 obtain ⟨qHX2_0,qHX2_1,qHX2_2⟩ := HX2.out.cells3 rfl rfl rfl
 go_wp2_with fail
 refine (toExpr_any op2 n2 k2 A2 c2 _ (HL2.out.up HB.out) hsz2).mono ?_
 rintro e w5 ⟨Ax2,cx2,rfl,hkx2,hcx2,hlx2,halx2,hb⟩
 clear qHX2_0 qHX2_1 qHX2_2
 have HB' := onB HB hb
 have HX2' := onR HX2 hb
 have XW' := onR XW hb
 have WL' := hid (WL.out.below (hb.mono (by have hs := HS.out; omega)))
 have XL1' := hid (XL1.out.below (hb.mono (by have hs := HS.out; omega)))
 have XA1' := hid (XA1.out.below hb (by have hs := HS.out; omega))
 have HS' := hid (And.intro hb.size HS.out)
 clear hb HB HX2 XW WL XL1 XA1 HS
 have HB := HB'
 have HX2 := HX2'
 have XW := XW'
 have WL := WL'
 have XL1 := XL1'
 have XA1 := XA1'
 have HS := HS'
 clear HB' HX2' XW' WL' XL1' XA1' HS'
 have XL2 := hid hlx2
 have XA2 := hid halx2
 clear hlx2 halx2
 obtain ⟨hb,r1⟩ := one_box w5 30 #[Value.int .i64 op2,Value.int .i64 n2,Value.slice Ax2 k2.len cx2]
 have HB' := onB HB hb
 have HX2' := onR HX2 hb
 have XW' := onR XW hb
 have WL' := hid (WL.out.below (hb.mono (by have hs := HS.out; omega)))
 have XL1' := hid (XL1.out.below (hb.mono (by have hs := HS.out; omega)))
 have XA1' := hid (XA1.out.below hb (by have hs := HS.out; omega))
 have XL2' := hid (XL2.out.below (hb.mono (by have hs := HS.out; omega)))
 have XA2' := hid (XA2.out.below hb (by have hs := HS.out; omega))
 have HS' := hid (And.intro hb.size HS.out)
 clear hb HB HX2 XW WL XL1 XA1 XL2 XA2 HS
 have HB := HB'
 have HX2 := HX2'
 have XW := XW'
 have WL := WL'
 have XL1 := XL1'
 have XA1 := XA1'
 have XL2 := XL2'
 have XA2 := XA2'
 have HS := HS'
 clear HB' HX2' XW' WL' XL1' XA1' XL2' XA2' HS'
 have XB2 := hid r1
 have HS' := hid (And.intro (show w5.heap.size + 1 <= (w5.alloc (Obj.cells #[Value.int .i64 op2,Value.int .i64 n2,Value.slice Ax2 k2.len cx2] 30)).heap.size from by simp) HS.out)
 clear HS r1
 have HS := HS'
 clear HS'
 have HC := hid (implTidyExpr_any ds1 Ax1 cx1 op2 n2 k2 Ax2 cx2 w3.heap.size w4.heap.size w4.heap.size w5.heap.size (w5.alloc (Obj.cells #[Value.int .i64 op2,Value.int .i64 n2,Value.slice Ax2 k2.len cx2] 30)) XL1.out (by have hs := HS.out; omega) XA1.out XL2.out (by have hs := HS.out; omega) XA2.out hsz1 hkx2 hcx2 hsz2)
 obtain ⟨xXB2_0,xXB2_1,xXB2_2⟩ := XB2.out.cells3 rfl rfl rfl
 go_wp2_with fail
 refine HC.out.mono ?_
 rintro e w6 ⟨Ag,cg,bsg,rfl,htg,hb⟩
 rw [<- HY.out] at htg
 rw [<- HY.out, <- HOK.out]
 clear HC
 clear xXB2_0 xXB2_1 xXB2_2
 have HB' := onB HB hb
 have HX2' := onR HX2 hb
 have XW' := onR XW hb
 have WL' := hid (WL.out.below (hb.mono (by have hs := HS.out; omega)))
 have XL1' := hid (XL1.out.below (hb.mono (by have hs := HS.out; omega)))
 have XA1' := hid (XA1.out.below hb (by have hs := HS.out; omega))
 have XL2' := hid (XL2.out.below (hb.mono (by have hs := HS.out; omega)))
 have XA2' := hid (XA2.out.below hb (by have hs := HS.out; omega))
 have XB2' := onR XB2 hb
 have HS' := hid (And.intro hb.size HS.out)
 clear hb HB HX2 XW WL XL1 XA1 XL2 XA2 XB2 HS
 have HB := HB'
 have HX2 := HX2'
 have XW := XW'
 have WL := WL'
 have XL1 := XL1'
 have XA1 := XA1'
 have XL2 := XL2'
 have XA2 := XA2'
 have XB2 := XB2'
 have HS := HS'
 clear HB' HX2' XW' WL' XL1' XA1' XL2' XA2' XB2' HS'
 have GB := hid (show ∀ z,z ∈ bsg -> (w5.alloc (Obj.cells #[Value.int .i64 op2,Value.int .i64 n2,Value.slice Ax2 k2.len cx2] 30)).heap.size <= z /\ z < w6.heap.size from fun z hz => htg.lt z hz)
 have GT := hid htg
 clear htg
 obtain ⟨hb,r1⟩ := one_box w6 30 #[Value.int .i64 y.op,Value.int .i64 y.n,Value.slice Ag y.k.len cg]
 have HB' := onB HB hb
 have HX2' := onR HX2 hb
 have XW' := onR XW hb
 have WL' := hid (WL.out.below (hb.mono (by have hs := HS.out; omega)))
 have XL1' := hid (XL1.out.below (hb.mono (by have hs := HS.out; omega)))
 have XA1' := hid (XA1.out.below hb (by have hs := HS.out; omega))
 have XL2' := hid (XL2.out.below (hb.mono (by have hs := HS.out; omega)))
 have XA2' := hid (XA2.out.below hb (by have hs := HS.out; omega))
 have XB2' := onR XB2 hb
 have GT' := hid (GT.out.over hb)
 have HS' := hid (And.intro hb.size HS.out)
 clear hb HB HX2 XW WL XL1 XA1 XL2 XA2 XB2 GT HS
 have HB := HB'
 have HX2 := HX2'
 have XW := XW'
 have WL := WL'
 have XL1 := XL1'
 have XA1 := XA1'
 have XL2 := XL2'
 have XA2 := XA2'
 have XB2 := XB2'
 have GT := GT'
 have HS := HS'
 clear HB' HX2' XW' WL' XL1' XA1' XL2' XA2' XB2' GT' HS'
 have XG := hid r1
 have HS' := hid (And.intro (show w6.heap.size + 1 <= (w6.alloc (Obj.cells #[Value.int .i64 y.op,Value.int .i64 y.n,Value.slice Ag y.k.len cg] 30)).heap.size from by simp) HS.out)
 clear HS r1
 have HS := HS'
 clear HS'
 obtain ⟨zXG_0,zXG_1,zXG_2⟩ := XG.out.cells3 rfl rfl rfl
 obtain ⟨zXW_0,zXW_1,zXW_2⟩ := XW.out.cells3 rfl rfl rfl
 go_wp2_with fail
 refine (eqExpr_any y.op y.n y.k Ag Aw cg cw _ ((GT.out.lies fun z hz => (GT.out.lt z hz).2).mono_ (Nat.zero_le _) (Nat.le_refl _)) (WL.out.mono_ (Nat.zero_le _) (by have hs := HS.out; omega)) hys).mono ?_
 rintro e w7 ⟨rfl,hb⟩
 clear zXG_0 zXG_1 zXG_2 zXW_0 zXW_1 zXW_2
 have HB' := onB HB hb
 have HX2' := onR HX2 hb
 have XW' := onR XW hb
 have WL' := hid (WL.out.below (hb.mono (by have hs := HS.out; omega)))
 have XL1' := hid (XL1.out.below (hb.mono (by have hs := HS.out; omega)))
 have XA1' := hid (XA1.out.below hb (by have hs := HS.out; omega))
 have XL2' := hid (XL2.out.below (hb.mono (by have hs := HS.out; omega)))
 have XA2' := hid (XA2.out.below hb (by have hs := HS.out; omega))
 have XB2' := onR XB2 hb
 have GT' := hid (GT.out.over hb)
 have XG' := onR XG hb
 have HS' := hid (And.intro hb.size HS.out)
 clear hb HB HX2 XW WL XL1 XA1 XL2 XA2 XB2 GT XG HS
 have HB := HB'
 have HX2 := HX2'
 have XW := XW'
 have WL := WL'
 have XL1 := XL1'
 have XA1 := XA1'
 have XL2 := XL2'
 have XA2 := XA2'
 have XB2 := XB2'
 have GT := GT'
 have XG := XG'
 have HS := HS'
 clear HB' HX2' XW' WL' XL1' XA1' XL2' XA2' XB2' GT' XG' HS'
 go_wp2_with fail
 refine (toDefS_any ds1 A1 c1 _ (HL1.out.up HB.out) hsz1).mono ?_
 rintro e w8 ⟨At1,ct1,rfl,hkt1,hct1,hlt1,halt1,hb⟩
 have HB' := onB HB hb
 have HX2' := onR HX2 hb
 have XW' := onR XW hb
 have WL' := hid (WL.out.below (hb.mono (by have hs := HS.out; omega)))
 have XL1' := hid (XL1.out.below (hb.mono (by have hs := HS.out; omega)))
 have XA1' := hid (XA1.out.below hb (by have hs := HS.out; omega))
 have XL2' := hid (XL2.out.below (hb.mono (by have hs := HS.out; omega)))
 have XA2' := hid (XA2.out.below hb (by have hs := HS.out; omega))
 have XB2' := onR XB2 hb
 have GT' := hid (GT.out.over hb)
 have XG' := onR XG hb
 have HS' := hid (And.intro hb.size HS.out)
 clear hb HB HX2 XW WL XL1 XA1 XL2 XA2 XB2 GT XG HS
 have HB := HB'
 have HX2 := HX2'
 have XW := XW'
 have WL := WL'
 have XL1 := XL1'
 have XA1 := XA1'
 have XL2 := XL2'
 have XA2 := XA2'
 have XB2 := XB2'
 have GT := GT'
 have XG := XG'
 have HS := HS'
 clear HB' HX2' XW' WL' XL1' XA1' XL2' XA2' XB2' GT' XG' HS'
 go_wp2_with fail
 refine (eqDefS_any ds1 Ax1 At1 cx1 ct1 _ (XL1.out.mono_ (Nat.zero_le _) (by have hs := HS.out; omega)) (hlt1.mono_ (Nat.zero_le _) (Nat.le_refl _)) hsz1).mono ?_
 rintro e w9 ⟨rfl,hb⟩
 clear hlt1 halt1
 have HB' := onB HB hb
 have HX2' := onR HX2 hb
 have XW' := onR XW hb
 have WL' := hid (WL.out.below (hb.mono (by have hs := HS.out; omega)))
 have XL1' := hid (XL1.out.below (hb.mono (by have hs := HS.out; omega)))
 have XA1' := hid (XA1.out.below hb (by have hs := HS.out; omega))
 have XL2' := hid (XL2.out.below (hb.mono (by have hs := HS.out; omega)))
 have XA2' := hid (XA2.out.below hb (by have hs := HS.out; omega))
 have XB2' := onR XB2 hb
 have GT' := hid (GT.out.over hb)
 have XG' := onR XG hb
 have HS' := hid (And.intro hb.size HS.out)
 clear hb HB HX2 XW WL XL1 XA1 XL2 XA2 XB2 GT XG HS
 have HB := HB'
 have HX2 := HX2'
 have XW := XW'
 have WL := WL'
 have XL1 := XL1'
 have XA1 := XA1'
 have XL2 := XL2'
 have XA2 := XA2'
 have XB2 := XB2'
 have GT := GT'
 have XG := XG'
 have HS := HS'
 clear HB' HX2' XW' WL' XL1' XA1' XL2' XA2' XB2' GT' XG' HS'
 obtain ⟨qXB2_0,qXB2_1,qXB2_2⟩ := XB2.out.cells3 rfl rfl rfl
 obtain ⟨qHX2_0,qHX2_1,qHX2_2⟩ := HX2.out.cells3 rfl rfl rfl
 go_wp2_with fail
 have hb : Below w9.heap.size w9 w9.drew := (Below.refl _ _).drew
 have HB' := onB HB hb
 have HX2' := onR HX2 hb
 have XW' := onR XW hb
 have WL' := hid (WL.out.below (hb.mono (by have hs := HS.out; omega)))
 have XL1' := hid (XL1.out.below (hb.mono (by have hs := HS.out; omega)))
 have XA1' := hid (XA1.out.below hb (by have hs := HS.out; omega))
 have XL2' := hid (XL2.out.below (hb.mono (by have hs := HS.out; omega)))
 have XA2' := hid (XA2.out.below hb (by have hs := HS.out; omega))
 have XB2' := onR XB2 hb
 have GT' := hid (GT.out.over hb)
 have XG' := onR XG hb
 have HS' := hid (And.intro hb.size HS.out)
 clear hb HB HX2 XW WL XL1 XA1 XL2 XA2 XB2 GT XG HS
 have HB := HB'
 have HX2 := HX2'
 have XW := XW'
 have WL := WL'
 have XL1 := XL1'
 have XA1 := XA1'
 have XL2 := XL2'
 have XA2 := XA2'
 have XB2 := XB2'
 have GT := GT'
 have XG := XG'
 have HS := HS'
 clear HB' HX2' XW' WL' XL1' XA1' XL2' XA2' XB2' GT' XG' HS'
 go_region_held3 (fun w' => w'.cell? ⟨w5.heap.size,0,none⟩ = some (.int .i64 op2) /\ w'.cell? ⟨w5.heap.size,1,none⟩ = some (.int .i64 n2) /\ w'.cell? ⟨w5.heap.size,2,none⟩ = some (.slice Ax2 k2.len cx2) /\ w'.cell? ⟨w.heap.size,0,none⟩ = some (.int .i64 op2) /\ w'.cell? ⟨w.heap.size,1,none⟩ = some (.int .i64 n2) /\ w'.cell? ⟨w.heap.size,2,none⟩ = some (.slice A2 k2.len c2))
  (first | exact ⟨qXB2_0,qXB2_1,qXB2_2,qHX2_0,qHX2_1,qHX2_2⟩ | exact ⟨y0XB2_0,y0XB2_1,y0XB2_2,y0HX2_0,y0HX2_1,y0HX2_2⟩ | exact ⟨y1XB2_0,y1XB2_1,y1XB2_2,y1HX2_0,y1HX2_1,y1HX2_2⟩)
  (first
   |(go_at_call 10
     refine (eqExpr_any op2 n2 k2 Ax2 At2 cx2 ct2 _ ((XL2.out.mono_ (Nat.zero_le _) (by have hs := HS.out; omega)).up hb10) (hlt2.mono_ (Nat.zero_le _) (Nat.le_refl _)) hsz2).mono ?_
     rintro e w11 ⟨rfl,hb11⟩
     have y1XB2_0 := (hb11.cell (p := ⟨w5.heap.size,0,none⟩) (show w5.heap.size < w10.heap.size by have hs := HS.out; have zhb10 := hb10.size; omega)).trans y0XB2_0
     have y1XB2_1 := (hb11.cell (p := ⟨w5.heap.size,1,none⟩) (show w5.heap.size < w10.heap.size by have hs := HS.out; have zhb10 := hb10.size; omega)).trans y0XB2_1
     have y1XB2_2 := (hb11.cell (p := ⟨w5.heap.size,2,none⟩) (show w5.heap.size < w10.heap.size by have hs := HS.out; have zhb10 := hb10.size; omega)).trans y0XB2_2
     have y1HX2_0 := (hb11.cell (p := ⟨w.heap.size,0,none⟩) (show w.heap.size < w10.heap.size by have hs := HS.out; have zhb10 := hb10.size; omega)).trans y0HX2_0
     have y1HX2_1 := (hb11.cell (p := ⟨w.heap.size,1,none⟩) (show w.heap.size < w10.heap.size by have hs := HS.out; have zhb10 := hb10.size; omega)).trans y0HX2_1
     have y1HX2_2 := (hb11.cell (p := ⟨w.heap.size,2,none⟩) (show w.heap.size < w10.heap.size by have hs := HS.out; have zhb10 := hb10.size; omega)).trans y0HX2_2)
   |(go_at_call 8
     refine (toExpr_any op2 n2 k2 A2 c2 _ (HL2.out.up HB.out) hsz2).mono ?_
     rintro e w10 ⟨At2,ct2,rfl,hkt2,hct2,hlt2,halt2,hb10⟩
     have y0XB2_0 := (hb10.cell (p := ⟨w5.heap.size,0,none⟩) (show w5.heap.size < w9.drew.heap.size by have hs := HS.out; omega)).trans qXB2_0
     have y0XB2_1 := (hb10.cell (p := ⟨w5.heap.size,1,none⟩) (show w5.heap.size < w9.drew.heap.size by have hs := HS.out; omega)).trans qXB2_1
     have y0XB2_2 := (hb10.cell (p := ⟨w5.heap.size,2,none⟩) (show w5.heap.size < w9.drew.heap.size by have hs := HS.out; omega)).trans qXB2_2
     have y0HX2_0 := (hb10.cell (p := ⟨w.heap.size,0,none⟩) (show w.heap.size < w9.drew.heap.size by have hs := HS.out; omega)).trans qHX2_0
     have y0HX2_1 := (hb10.cell (p := ⟨w.heap.size,1,none⟩) (show w.heap.size < w9.drew.heap.size by have hs := HS.out; omega)).trans qHX2_1
     have y0HX2_2 := (hb10.cell (p := ⟨w.heap.size,2,none⟩) (show w.heap.size < w9.drew.heap.size by have hs := HS.out; omega)).trans qHX2_2))
 have hb : Below w9.drew.heap.size w9.drew w11 := (hb10).trans (hb11.mono (hb10.size))
 clear hb10 hb11 hlt2 halt2 qXB2_0 qXB2_1 qXB2_2 qHX2_0 qHX2_1 qHX2_2 y0XB2_0 y0XB2_1 y0XB2_2 y0HX2_0 y0HX2_1 y0HX2_2 y1XB2_0 y1XB2_1 y1XB2_2 y1HX2_0 y1HX2_1 y1HX2_2
 have HB' := onB HB hb
 have HX2' := onR HX2 hb
 have XW' := onR XW hb
 have WL' := hid (WL.out.below (hb.mono (by have hs := HS.out; omega)))
 have XL1' := hid (XL1.out.below (hb.mono (by have hs := HS.out; omega)))
 have XA1' := hid (XA1.out.below hb (by have hs := HS.out; omega))
 have XL2' := hid (XL2.out.below (hb.mono (by have hs := HS.out; omega)))
 have XA2' := hid (XA2.out.below hb (by have hs := HS.out; omega))
 have XB2' := onR XB2 hb
 have GT' := hid (GT.out.over hb)
 have XG' := onR XG hb
 have HS' := hid (And.intro hb.size HS.out)
 clear hb HB HX2 XW WL XL1 XA1 XL2 XA2 XB2 GT XG HS
 have HB := HB'
 have HX2 := HX2'
 have XW := XW'
 have WL := WL'
 have XL1 := XL1'
 have XA1 := XA1'
 have XL2 := XL2'
 have XA2 := XA2'
 have XB2 := XB2'
 have GT := GT'
 have XG := XG'
 have HS := HS'
 clear HB' HX2' XW' WL' XL1' XA1' XL2' XA2' XB2' GT' XG' HS'
 go_wp2_with fail
 refine (mkDefS_any w3.heap.size w4.heap.size ds1 Ax1 cx1 _ 1 (LiesD.sk XA1.out XL1.out) hsz1 (by decide) (by omega)).mono ?_
 rintro e w12 ⟨kk1,rfl,hka1,hkb1,hm⟩
 have HB' := hid (hm.below HB.out (by have hs := HS.out; omega) (Nat.le_refl _))
 have HX2' := hid (hm.row HX2.out (by have hs := HS.out; omega))
 have XW' := hid (hm.row XW.out (by have hs := HS.out; omega))
 have WL' := hid (WL.out.keep (Nat.le_refl _) (Nat.le_refl _) fun p h1 h2 => hm.cell (by have hs := HS.out; omega) (by have hs := HS.out; omega))
 have XL2' := hid (XL2.out.keep (Nat.le_refl _) (Nat.le_refl _) fun p h1 h2 => hm.cell (by have hs := HS.out; omega) (by have hs := HS.out; omega))
 have XA2' := hid (hm.rows XA2.out)
 have XB2' := hid (hm.row XB2.out (by have hs := HS.out; omega))
 have GT' := hid (hm.tree GT.out (by have hs := HS.out; omega))
 have XG' := hid (hm.row XG.out (by have hs := HS.out; omega))
 have HS' := hid (And.intro hm.size HS.out)
 clear hm HB HX2 XW WL XL2 XA2 XB2 GT XG HS
 have HB := HB'
 have HX2 := HX2'
 have XW := XW'
 have WL := WL'
 have XL2 := XL2'
 have XA2 := XA2'
 have XB2 := XB2'
 have GT := GT'
 have XG := XG'
 have HS := HS'
 clear HB' HX2' XW' WL' XL2' XA2' XB2' GT' XG' HS'
 clear XL1 XA1
 have hk01 : 0 <= kk1 := by omega
 obtain ⟨xXB2_0,xXB2_1,xXB2_2⟩ := XB2.out.cells3 rfl rfl rfl
 go_wp2_with fail
 refine (mkExpr_any w4.heap.size w5.heap.size op2 n2 k2 Ax2 cx2 _ kk1 (Lies.sk XA2.out XL2.out) hk01 (by omega)).mono ?_
 rintro e w13 ⟨kk2,rfl,hka2,hkb2,hm⟩
 clear xXB2_0 xXB2_1 xXB2_2
 have HB' := hid (hm.below HB.out (by have hs := HS.out; omega) (Nat.le_refl _))
 have HX2' := hid (hm.row HX2.out (by have hs := HS.out; omega))
 have XW' := hid (hm.row XW.out (by have hs := HS.out; omega))
 have WL' := hid (WL.out.keep (Nat.le_refl _) (Nat.le_refl _) fun p h1 h2 => hm.cell (by have hs := HS.out; omega) (by have hs := HS.out; omega))
 have XB2' := hid (hm.row XB2.out (by have hs := HS.out; omega))
 have GT' := hid (hm.tree GT.out (by have hs := HS.out; omega))
 have XG' := hid (hm.row XG.out (by have hs := HS.out; omega))
 have HS' := hid (And.intro hm.size HS.out)
 clear hm HB HX2 XW WL XB2 GT XG HS
 have HB := HB'
 have HX2 := HX2'
 have XW := XW'
 have WL := WL'
 have XB2 := XB2'
 have GT := GT'
 have XG := XG'
 have HS := HS'
 clear HB' HX2' XW' WL' XB2' GT' XG' HS'
 clear XL2 XA2
 have hk02 : 0 <= kk2 := by omega
 obtain ⟨zXG_0,zXG_1,zXG_2⟩ := XG.out.cells3 rfl rfl rfl
 obtain ⟨zXW_0,zXW_1,zXW_2⟩ := XW.out.cells3 rfl rfl rfl
 go_wp2_with fail
 refine (eqExpr_any y.op y.n y.k Ag Aw cg cw _ ((GT.out.lies fun z hz => (GT.out.lt z hz).2).mono_ (Nat.zero_le _) (Nat.le_refl _)) (WL.out.mono_ (Nat.zero_le _) (by have hs := HS.out; omega)) hys).mono ?_
 rintro e w14 ⟨rfl,hb⟩
 clear zXG_0 zXG_1 zXG_2 zXW_0 zXW_1 zXW_2
 have HB' := onB HB hb
 have HX2' := onR HX2 hb
 have XW' := onR XW hb
 have WL' := hid (WL.out.below (hb.mono (by have hs := HS.out; omega)))
 have XB2' := onR XB2 hb
 have GT' := hid (GT.out.over hb)
 have XG' := onR XG hb
 have HS' := hid (And.intro hb.size HS.out)
 clear hb HB HX2 XW WL XB2 GT XG HS
 have HB := HB'
 have HX2 := HX2'
 have XW := XW'
 have WL := WL'
 have XB2 := XB2'
 have GT := GT'
 have XG := XG'
 have HS := HS'
 clear HB' HX2' XW' WL' XB2' GT' XG' HS'
 clear XB2
 obtain ⟨zXG_0,zXG_1,zXG_2⟩ := XG.out.cells3 rfl rfl rfl
 go_wp2_with fail
 refine (markOwn_any y.op y.n y.k Ag cg _ bsg _ 1 GT.out (by decide) (by omega)).mono ?_
 rintro e w15 ⟨rfl,htm,hon⟩
 clear GT
 clear zXG_0 zXG_1 zXG_2
 have HB' := hid (HB.out.trans (hon.below (fun z hz => by have hg := GB.out _ hz; have hs := HS.out; omega) HB.out.size))
 have HX2' := hid (hon.row HX2.out (fun hz => by have hg := GB.out _ hz; have hs := HS.out; omega))
 have XW' := hid (hon.row XW.out (fun hz => by have hg := GB.out _ hz; have hs := HS.out; omega))
 have WL' := hid (WL.out.keep (Nat.le_refl _) (Nat.le_refl _) fun p h1 h2 => hon.cell (by have hs := HS.out; omega) (fun hz => by have hg := GB.out _ hz; have hs := HS.out; omega))
 have XG' := hid (hon.row XG.out (fun hz => by have hg := GB.out _ hz; have hs := HS.out; omega))
 have HS' := hid (And.intro hon.size HS.out)
 clear hon HB HX2 XW WL XG HS
 have HB := HB'
 have HX2 := HX2'
 have XW := XW'
 have WL := WL'
 have XG := XG'
 have HS := HS'
 clear HB' HX2' XW' WL' XG' HS'
 have GL := hid (htm.lies fun z hz => (GB.out z hz).2)
 clear htm
 have hzp : (1 : Int) + 2 * (y.k.size : Int) <= 2097153 := by omega
 have hz0 : (0 : Int) <= 1 + 2 * (y.k.size : Int) := by omega
 generalize hll : (1 : Int) + 2 * (y.k.size : Int) = ll at hzp hz0
 have HLL := hid hll
 clear hll
 obtain ⟨zXG_0,zXG_1,zXG_2⟩ := XG.out.cells3 rfl rfl rfl
 go_wp2_with fail
 refine (heldOwn_any y.op y.n y.k Ag cg _ 1 (GL.out.mono_ (Nat.zero_le _) (by have hs := HS.out; omega)) (by decide) (by omega)).mono ?_
 rintro e w16 ⟨rfl,hb⟩
 rw [HLL.out]
 clear zXG_0 zXG_1 zXG_2
 have HB' := onB HB hb
 have HX2' := onR HX2 hb
 have XW' := onR XW hb
 have WL' := hid (WL.out.below (hb.mono (by have hs := HS.out; omega)))
 have XG' := onR XG hb
 have GL' := hid (GL.out.below (hb.mono (by have hs := HS.out; omega)))
 have HS' := hid (And.intro hb.size HS.out)
 clear hb HB HX2 XW WL XG GL HS
 have HB := HB'
 have HX2 := HX2'
 have XW := XW'
 have WL := WL'
 have XG := XG'
 have GL := GL'
 have HS := HS'
 clear HB' HX2' XW' WL' XG' GL' HS'
 go_upto_region 31 with fail
 have hS : ∀ w' : World,Below w16.heap.size w16 w' -> w'.cell? ⟨w.heap.size,0,none⟩ = some (.int .i64 op2) /\ w'.cell? ⟨w.heap.size,1,none⟩ = some (.int .i64 n2) /\ w'.cell? ⟨w.heap.size,2,none⟩ = some (.slice A2 k2.len c2) := fun w' hb => ⟨(hb.cell (p := ⟨w.heap.size,0,none⟩) HX2.out.size).trans (HX2.out.cell (i := 0) rfl),(hb.cell (p := ⟨w.heap.size,1,none⟩) HX2.out.size).trans (HX2.out.cell (i := 1) rfl),(hb.cell (p := ⟨w.heap.size,2,none⟩) HX2.out.size).trans (HX2.out.cell (i := 2) rfl)⟩
 have HSS := hid hS
 clear hS
 have HTA := hid (fun (w' : World) (hb' : Below w16.heap.size w16 w') => toDefS_any ds1 A1 c1 w' ((HL1.out.up HB.out).up hb') hsz1)
 have HTB := hid (fun (w' : World) (hb' : Below w16.heap.size w16 w') => toExpr_any op2 n2 k2 A2 c2 w' ((HL2.out.up HB.out).up hb') hsz2)
 go_cut [15,16] from 94 to 101 (fun p s wd => ∃ g A9 c9 b9,p = .pointer (some ⟨g,0,none⟩) /\ s = .bool ok /\ Row wd g 30 #[.int .i64 y.op,.int .i64 y.n,.slice A9 y.k.len c9] /\ w16.heap.size <= g /\ Tree wd w16.heap.size (.slice A9 y.k.len c9) y.k b9 /\ Below w16.heap.size w16 wd)
 case first =>
  have b0 : Below w16.heap.size w16 w16.drew := (Below.refl _ _).drew
  have bp : Below w16.heap.size w16 (w16.alloc (Obj.cells #[Value.int .i64 0,Value.int .i64 0,Value.slice none 0 0] 30)).drew := ((Below.refl _ _).alloc (Nat.le_refl _) _).drew
  have C0 := hid (HTA.out _ b0)
  have CP := hid (HTA.out _ bp)
  have s0 := HSS.out _ b0
  have sp := HSS.out _ bp
  have B0 := hid b0
  have BP := hid bp
  have RP := hid (show Row (w16.alloc (Obj.cells #[Value.int .i64 0,Value.int .i64 0,Value.slice none 0 0] 30)).drew w16.heap.size 30 #[Value.int .i64 0,Value.int .i64 0,Value.slice none 0 0] from (Row.fresh _ _ _).drew)
  clear b0 bp
  go_region_held3 (fun w' => w'.cell? ⟨w.heap.size,0,none⟩ = some (.int .i64 op2) /\ w'.cell? ⟨w.heap.size,1,none⟩ = some (.int .i64 n2) /\ w'.cell? ⟨w.heap.size,2,none⟩ = some (.slice A2 k2.len c2))
   (first | with_reducible exact s0 | with_reducible exact sp | with_reducible exact s1 | with_reducible exact s1l | with_reducible exact s2 | with_reducible exact s2l | with_reducible exact s3 | with_reducible exact s4 | with_reducible exact s3z | fail)
   (first
    |(go_at_call 9
      with_reducible refine (implTidyExpr_any ds1 Ah1 ch1 op2 n2 k2 Ah2 ch2 _ _ _ _ _ (RGA.out _ (Below.refl _ _)).1 (RGA.out _ (Below.refl _ _)).2.2 (RGA.out _ (Below.refl _ _)).2.1 (RGB.out _ (Below.refl _ _)).1 (RGB.out _ (Below.refl _ _)).2.2 (RGB.out _ (Below.refl _ _)).2.1 hsz1 hkh2 hch2 hsz2).mono ?_
      rintro e vd ⟨A5,c5,b5,rfl,ht5,hb5⟩
      rw [<- HY.out] at ht5
      rw [<- HY.out, <- HOK.out]
      have hb := B2.out.trans (hb5.mono B2.out.size)
      have r5 := (RLa2.out).below hb5 ((RLa2.out).size)
      obtain ⟨f0,f1,f2⟩ := r5.frees3
      obtain ⟨d0,d1,d2⟩ := r5.cells3 rfl rfl rfl
      have hgl : w16.heap.size <= w16.heap.size := by first | exact Nat.le_refl _ | exact B1.out.size | exact B2.out.size
      have hbs := ((hb.setCell (p := ⟨w16.heap.size,0,none⟩) hgl (.int .i64 y.op)).setCell (p := ⟨w16.heap.size,1,none⟩) hgl (.int .i64 y.n)).setCell (p := ⟨w16.heap.size,2,none⟩) hgl (.slice A5 y.k.len c5)
      have s3 := HSS.out _ hb
      have s4 := HSS.out _ hbs
      have hzr := (RLa2.out).size
      have HEND := hid (show ∃ g A6 c6 b6,Value.pointer (some ⟨w16.heap.size,0,none⟩) = .pointer (some ⟨g,0,none⟩) /\ Row (((vd.setCell ⟨w16.heap.size,0,none⟩ (.int .i64 y.op)).setCell ⟨w16.heap.size,1,none⟩ (.int .i64 y.n)).setCell ⟨w16.heap.size,2,none⟩ (.slice A5 y.k.len c5)) g 30 #[.int .i64 y.op,.int .i64 y.n,.slice A6 y.k.len c6] /\ w16.heap.size <= g /\ Tree (((vd.setCell ⟨w16.heap.size,0,none⟩ (.int .i64 y.op)).setCell ⟨w16.heap.size,1,none⟩ (.int .i64 y.n)).setCell ⟨w16.heap.size,2,none⟩ (.slice A5 y.k.len c5)) w16.heap.size (.slice A6 y.k.len c6) y.k b6 /\ Below w16.heap.size w16 (((vd.setCell ⟨w16.heap.size,0,none⟩ (.int .i64 y.op)).setCell ⟨w16.heap.size,1,none⟩ (.int .i64 y.n)).setCell ⟨w16.heap.size,2,none⟩ (.slice A5 y.k.len c5)) from ⟨w16.heap.size,A5,c5,b5,rfl,((r5.put 0 _).put 1 _).put 2 _,hgl,(((ht5.put (p := ⟨w16.heap.size,0,none⟩) hzr _).put (p := ⟨w16.heap.size,1,none⟩) hzr _).put (p := ⟨w16.heap.size,2,none⟩) hzr _).lower B2.out.size,hbs⟩)
      clear ht5 hb5 hb r5 hbs hgl hzr)
    |(go_at_call 9
      with_reducible refine (implTidyExpr_any ds1 Ah1 ch1 op2 n2 k2 Ah2 ch2 _ _ _ _ _ (RGA.out _ (Below.refl _ _)).1 (RGA.out _ (Below.refl _ _)).2.2 (RGA.out _ (Below.refl _ _)).2.1 (RGB.out _ (Below.refl _ _)).1 (RGB.out _ (Below.refl _ _)).2.2 (RGB.out _ (Below.refl _ _)).2.1 hsz1 hkh2 hch2 hsz2).mono ?_
      rintro e vd ⟨A5,c5,b5,rfl,ht5,hb5⟩
      rw [<- HY.out] at ht5
      rw [<- HY.out, <- HOK.out]
      have hb := B2.out.trans (hb5.mono B2.out.size)
      have r5 := (RLb2.out).below hb5 ((RLb2.out).size)
      obtain ⟨f0,f1,f2⟩ := r5.frees3
      obtain ⟨d0,d1,d2⟩ := r5.cells3 rfl rfl rfl
      have hgl : w16.heap.size <= va.heap.size := by first | exact Nat.le_refl _ | exact B1.out.size | exact B2.out.size
      have hbs := ((hb.setCell (p := ⟨va.heap.size,0,none⟩) hgl (.int .i64 y.op)).setCell (p := ⟨va.heap.size,1,none⟩) hgl (.int .i64 y.n)).setCell (p := ⟨va.heap.size,2,none⟩) hgl (.slice A5 y.k.len c5)
      have s3 := HSS.out _ hb
      have s4 := HSS.out _ hbs
      have hzr := (RLb2.out).size
      have HEND := hid (show ∃ g A6 c6 b6,Value.pointer (some ⟨va.heap.size,0,none⟩) = .pointer (some ⟨g,0,none⟩) /\ Row (((vd.setCell ⟨va.heap.size,0,none⟩ (.int .i64 y.op)).setCell ⟨va.heap.size,1,none⟩ (.int .i64 y.n)).setCell ⟨va.heap.size,2,none⟩ (.slice A5 y.k.len c5)) g 30 #[.int .i64 y.op,.int .i64 y.n,.slice A6 y.k.len c6] /\ w16.heap.size <= g /\ Tree (((vd.setCell ⟨va.heap.size,0,none⟩ (.int .i64 y.op)).setCell ⟨va.heap.size,1,none⟩ (.int .i64 y.n)).setCell ⟨va.heap.size,2,none⟩ (.slice A5 y.k.len c5)) w16.heap.size (.slice A6 y.k.len c6) y.k b6 /\ Below w16.heap.size w16 (((vd.setCell ⟨va.heap.size,0,none⟩ (.int .i64 y.op)).setCell ⟨va.heap.size,1,none⟩ (.int .i64 y.n)).setCell ⟨va.heap.size,2,none⟩ (.slice A5 y.k.len c5)) from ⟨va.heap.size,A5,c5,b5,rfl,((r5.put 0 _).put 1 _).put 2 _,hgl,(((ht5.put (p := ⟨va.heap.size,0,none⟩) hzr _).put (p := ⟨va.heap.size,1,none⟩) hzr _).put (p := ⟨va.heap.size,2,none⟩) hzr _).lower B2.out.size,hbs⟩)
      clear ht5 hb5 hb r5 hbs hgl hzr)
    |(go_at_call 9
      with_reducible refine (implTidyExpr_any ds1 Ah1 ch1 op2 n2 k2 Ah2 ch2 _ _ _ _ _ (RGA.out _ ((Below.refl _ _).alloc (Nat.le_refl _) _)).1 (RGA.out _ ((Below.refl _ _).alloc (Nat.le_refl _) _)).2.2 (RGA.out _ ((Below.refl _ _).alloc (Nat.le_refl _) _)).2.1 (RGB.out _ ((Below.refl _ _).alloc (Nat.le_refl _) _)).1 (RGB.out _ ((Below.refl _ _).alloc (Nat.le_refl _) _)).2.2 (RGB.out _ ((Below.refl _ _).alloc (Nat.le_refl _) _)).2.1 hsz1 hkh2 hch2 hsz2).mono ?_
      rintro e vd ⟨A5,c5,b5,rfl,ht5,hb5⟩
      rw [<- HY.out] at ht5
      rw [<- HY.out, <- HOK.out]
      have hb := B2L.out.trans (hb5.mono B2L.out.size)
      have r5 := (Row.fresh vb 30 #[Value.int .i64 0,Value.int .i64 0,Value.slice none 0 0]).below hb5 ((Row.fresh vb 30 #[Value.int .i64 0,Value.int .i64 0,Value.slice none 0 0]).size)
      obtain ⟨f0,f1,f2⟩ := r5.frees3
      obtain ⟨d0,d1,d2⟩ := r5.cells3 rfl rfl rfl
      have hgl : w16.heap.size <= vb.heap.size := by first | exact Nat.le_refl _ | exact B1.out.size | exact B2.out.size
      have hbs := ((hb.setCell (p := ⟨vb.heap.size,0,none⟩) hgl (.int .i64 y.op)).setCell (p := ⟨vb.heap.size,1,none⟩) hgl (.int .i64 y.n)).setCell (p := ⟨vb.heap.size,2,none⟩) hgl (.slice A5 y.k.len c5)
      have s3 := HSS.out _ hb
      have s4 := HSS.out _ hbs
      have hzr := (Row.fresh vb 30 #[Value.int .i64 0,Value.int .i64 0,Value.slice none 0 0]).size
      have HEND := hid (show ∃ g A6 c6 b6,Value.pointer (some ⟨vb.heap.size,0,none⟩) = .pointer (some ⟨g,0,none⟩) /\ Row (((vd.setCell ⟨vb.heap.size,0,none⟩ (.int .i64 y.op)).setCell ⟨vb.heap.size,1,none⟩ (.int .i64 y.n)).setCell ⟨vb.heap.size,2,none⟩ (.slice A5 y.k.len c5)) g 30 #[.int .i64 y.op,.int .i64 y.n,.slice A6 y.k.len c6] /\ w16.heap.size <= g /\ Tree (((vd.setCell ⟨vb.heap.size,0,none⟩ (.int .i64 y.op)).setCell ⟨vb.heap.size,1,none⟩ (.int .i64 y.n)).setCell ⟨vb.heap.size,2,none⟩ (.slice A5 y.k.len c5)) w16.heap.size (.slice A6 y.k.len c6) y.k b6 /\ Below w16.heap.size w16 (((vd.setCell ⟨vb.heap.size,0,none⟩ (.int .i64 y.op)).setCell ⟨vb.heap.size,1,none⟩ (.int .i64 y.n)).setCell ⟨vb.heap.size,2,none⟩ (.slice A5 y.k.len c5)) from ⟨vb.heap.size,A5,c5,b5,rfl,((r5.put 0 _).put 1 _).put 2 _,hgl,(((ht5.put (p := ⟨vb.heap.size,0,none⟩) hzr _).put (p := ⟨vb.heap.size,1,none⟩) hzr _).put (p := ⟨vb.heap.size,2,none⟩) hzr _).lower B2L.out.size,hbs⟩)
      clear ht5 hb5 hb r5 hbs hgl hzr)
    |(go_at_call 9
      with_reducible refine (implTidyExpr_any ds1 Ah1 ch1 op2 n2 k2 Ah2 ch2 _ _ _ _ _ (RGA.out _ (Below.refl _ _)).1 (RGA.out _ (Below.refl _ _)).2.2 (RGA.out _ (Below.refl _ _)).2.1 (RGB.out _ (Below.refl _ _)).1 (RGB.out _ (Below.refl _ _)).2.2 (RGB.out _ (Below.refl _ _)).2.1 hsz1 hkh2 hch2 hsz2).mono ?_
      rintro e vd ⟨A5,c5,b5,rfl,ht5,hb5⟩
      rw [<- HY.out] at ht5
      rw [<- HY.out, <- HOK.out]
      have hb := B2.out.trans (hb5.mono B2.out.size)
      have hbl : Below vd.heap.size vd (vd.alloc (Obj.cells #[Value.int .i64 y.op,Value.int .i64 y.n,Value.slice A5 y.k.len c5] 30)) := (Below.refl _ _).alloc (Nat.le_refl _) _
      have hba := hb.trans (hbl.mono hb.size)
      have s3 := HSS.out _ hb
      have s4 := HSS.out _ hba
      have s3z := HSS.out _ (hb.alloc hb.size (Obj.cells #[Value.int .i64 0,Value.int .i64 0,Value.slice none 0 0] 30))
      have HEND := hid (show ∃ g A6 c6 b6,Value.pointer (some ⟨vd.heap.size,0,none⟩) = .pointer (some ⟨g,0,none⟩) /\ Row (vd.alloc (Obj.cells #[Value.int .i64 y.op,Value.int .i64 y.n,Value.slice A5 y.k.len c5] 30)) g 30 #[.int .i64 y.op,.int .i64 y.n,.slice A6 y.k.len c6] /\ w16.heap.size <= g /\ Tree (vd.alloc (Obj.cells #[Value.int .i64 y.op,Value.int .i64 y.n,Value.slice A5 y.k.len c5] 30)) w16.heap.size (.slice A6 y.k.len c6) y.k b6 /\ Below w16.heap.size w16 (vd.alloc (Obj.cells #[Value.int .i64 y.op,Value.int .i64 y.n,Value.slice A5 y.k.len c5] 30)) from ⟨vd.heap.size,A5,c5,b5,rfl,Row.fresh _ _ _,hb.size,(ht5.over hbl).lower B2.out.size,hba⟩)
      clear ht5 hb5 hb hbl hba)
    |(go_at_call 8
      with_reducible refine (HTB.out va B1.out).mono ?_
      rintro e vb ⟨Ah2,ch2,rfl,hkh2,hch2,hlh2,halh2,hb2⟩
      have RLa2 := onR RLa1 hb2
      have LTA := hid ((LT1.out).up hb2)
      have LTB := hid (hlh2.mono_ (Nat.zero_le _) (Nat.le_refl _))
      have RGA := hid (fun (v : World) (hv : Below vb.heap.size vb v) => RGA1.out v (hb2.trans (hv.mono (Nat.le_trans (hb2).size (Nat.le_refl _)))))
      have RGB := hid (fun (v : World) (hv : Below vb.heap.size vb v) => And.intro (hlh2.below hv) (And.intro (halh2.below hv (Nat.le_refl _)) hv.size))
      have b2 := B1.out.trans (hb2.mono B1.out.size)
      have B2 := hid b2
      have B2L := hid (b2.alloc b2.size (Obj.cells #[Value.int .i64 0,Value.int .i64 0,Value.slice none 0 0] 30))
      have s2 := HSS.out _ b2
      have s2l := HSS.out _ B2L.out
      clear hb2 b2 hlh2 halh2)
    |(go_at_call 8
      with_reducible refine (HTB.out (va.alloc (Obj.cells #[Value.int .i64 0,Value.int .i64 0,Value.slice none 0 0] 30)) B1L.out).mono ?_
      rintro e vb ⟨Ah2,ch2,rfl,hkh2,hch2,hlh2,halh2,hb2⟩
      have RLb2 := hid ((Row.fresh va 30 #[Value.int .i64 0,Value.int .i64 0,Value.slice none 0 0]).below hb2 (by simp))
      have LTA := hid ((LT1.out.up ((Below.refl _ _).alloc (Nat.le_refl _) _)).up hb2)
      have LTB := hid (hlh2.mono_ (Nat.zero_le _) (Nat.le_refl _))
      have RGA := hid (fun (v : World) (hv : Below vb.heap.size vb v) => RGA1.out v ((((Below.refl va.heap.size va).alloc (Nat.le_refl _) _).trans (hb2.mono (by simp))).trans (hv.mono (Nat.le_trans ((((Below.refl va.heap.size va).alloc (Nat.le_refl _) _).trans (hb2.mono (by simp)))).size (Nat.le_refl _)))))
      have RGB := hid (fun (v : World) (hv : Below vb.heap.size vb v) => And.intro (hlh2.below hv) (And.intro (halh2.below hv (Nat.le_refl _)) hv.size))
      have b2 := B1L.out.trans (hb2.mono B1L.out.size)
      have B2 := hid b2
      have B2L := hid (b2.alloc b2.size (Obj.cells #[Value.int .i64 0,Value.int .i64 0,Value.slice none 0 0] 30))
      have s2 := HSS.out _ b2
      have s2l := HSS.out _ B2L.out
      clear hb2 b2 hlh2 halh2)
    |(go_at_call 8
      with_reducible refine (HTB.out va B1.out).mono ?_
      rintro e vb ⟨Ah2,ch2,rfl,hkh2,hch2,hlh2,halh2,hb2⟩
      have LTA := hid ((LT1.out).up hb2)
      have LTB := hid (hlh2.mono_ (Nat.zero_le _) (Nat.le_refl _))
      have RGA := hid (fun (v : World) (hv : Below vb.heap.size vb v) => RGA1.out v (hb2.trans (hv.mono (Nat.le_trans (hb2).size (Nat.le_refl _)))))
      have RGB := hid (fun (v : World) (hv : Below vb.heap.size vb v) => And.intro (hlh2.below hv) (And.intro (halh2.below hv (Nat.le_refl _)) hv.size))
      have b2 := B1.out.trans (hb2.mono B1.out.size)
      have B2 := hid b2
      have B2L := hid (b2.alloc b2.size (Obj.cells #[Value.int .i64 0,Value.int .i64 0,Value.slice none 0 0] 30))
      have s2 := HSS.out _ b2
      have s2l := HSS.out _ B2L.out
      clear hb2 b2 hlh2 halh2)
    |(go_at_call 7
      with_reducible refine CP.out.mono ?_
      rintro e va ⟨Ah1,ch1,rfl,hkh1,hch1,hlh1,halh1,hb1⟩
      have RLa1 := onR RP hb1
      have RGA1 := hid (fun (v : World) (hv : Below va.heap.size va v) => And.intro (hlh1.below hv) (And.intro (halh1.below hv (Nat.le_refl _)) hv.size))
      have LT1 := hid (hlh1.mono_ (Nat.zero_le _) (Nat.le_refl _))
      have b1 := BP.out.trans (hb1.mono BP.out.size)
      have B1 := hid b1
      have s1 := HSS.out _ b1
      clear hb1 b1 hlh1 halh1)
    |(go_at_call 7
      with_reducible refine C0.out.mono ?_
      rintro e va ⟨Ah1,ch1,rfl,hkh1,hch1,hlh1,halh1,hb1⟩
      have B1L := hid ((B0.out.trans (hb1.mono B0.out.size)).alloc (B0.out.trans (hb1.mono B0.out.size)).size (Obj.cells #[Value.int .i64 0,Value.int .i64 0,Value.slice none 0 0] 30))
      have s1l := HSS.out _ B1L.out
      have RGA1 := hid (fun (v : World) (hv : Below va.heap.size va v) => And.intro (hlh1.below hv) (And.intro (halh1.below hv (Nat.le_refl _)) hv.size))
      have LT1 := hid (hlh1.mono_ (Nat.zero_le _) (Nat.le_refl _))
      have b1 := B0.out.trans (hb1.mono B0.out.size)
      have B1 := hid b1
      have s1 := HSS.out _ b1
      clear hb1 b1 hlh1 halh1)
    | fail)
  all_goals
   go_wp2_with fail
   go_meet
   obtain ⟨g,A9',c9',b9',hp,hr⟩ := HEND.out
   exact ⟨g,A9',c9',b9',hp,rfl,hr⟩
 case rest =>
 obtain ⟨gAh,Ah,ch,bsh,rfl,rfl,hrw,hgw,htw,hb⟩ := hcut
 obtain ⟨w17,hw9⟩ : ∃ v,v = wc := ⟨_,rfl⟩
 rw [<- hw9] at hrw htw hb ⊢
 clear hw9 wc HSS HTA HTB
 have HB' := onB HB hb
 have HX2' := onR HX2 hb
 have XW' := onR XW hb
 have WL' := hid (WL.out.below (hb.mono (by have hs := HS.out; omega)))
 have XG' := onR XG hb
 have GL' := hid (GL.out.below (hb.mono (by have hs := HS.out; omega)))
 have HS' := hid (And.intro hb.size HS.out)
 clear hb HB HX2 XW WL XG GL HS
 have HB := HB'
 have HX2 := HX2'
 have XW := XW'
 have WL := WL'
 have XG := XG'
 have GL := GL'
 have HS := HS'
 clear HB' HX2' XW' WL' XG' GL' HS'
 have XH := hid hrw
 have HS' := hid (And.intro hgw (And.intro hrw.size HS.out))
 clear HS hrw hgw
 have HS := HS'
 clear HS'
 have HHL := hid (htw.lies fun z hz => (htw.lt z hz).2)
 clear htw
 obtain ⟨zXH_0,zXH_1,zXH_2⟩ := XH.out.cells3 rfl rfl rfl
 obtain ⟨zXW_0,zXW_1,zXW_2⟩ := XW.out.cells3 rfl rfl rfl
 go_wp2_with fail
 refine (eqExpr_any y.op y.n y.k Ah Aw ch cw _ (HHL.out.mono_ (Nat.zero_le _) (by have hs := HS.out; omega)) (WL.out.mono_ (Nat.zero_le _) (by have hs := HS.out; omega)) hys).mono ?_
 rintro e w18 ⟨rfl,hb⟩
 clear zXH_0 zXH_1 zXH_2 zXW_0 zXW_1 zXW_2
 have HB' := onB HB hb
 have HX2' := onR HX2 hb
 have XW' := onR XW hb
 have WL' := hid (WL.out.below (hb.mono (by have hs := HS.out; omega)))
 have XG' := onR XG hb
 have GL' := hid (GL.out.below (hb.mono (by have hs := HS.out; omega)))
 have XH' := onR XH hb
 have HHL' := hid (HHL.out.below (hb.mono (by have hs := HS.out; omega)))
 have HS' := hid (And.intro hb.size HS.out)
 clear hb HB HX2 XW WL XG GL XH HHL HS
 have HB := HB'
 have HX2 := HX2'
 have XW := XW'
 have WL := WL'
 have XG := XG'
 have GL := GL'
 have XH := XH'
 have HHL := HHL'
 have HS := HS'
 clear HB' HX2' XW' WL' XG' GL' XH' HHL' HS'
 obtain ⟨zXG_0,zXG_1,zXG_2⟩ := XG.out.cells3 rfl rfl rfl
 go_wp2_with fail
 refine (heldOwn_any y.op y.n y.k Ag cg _ 1 (GL.out.mono_ (Nat.zero_le _) (by have hs := HS.out; omega)) (by decide) (by omega)).mono ?_
 rintro e w19 ⟨rfl,hb⟩
 rw [HLL.out]
 clear zXG_0 zXG_1 zXG_2
 have HB' := onB HB hb
 have HX2' := onR HX2 hb
 have XW' := onR XW hb
 have WL' := hid (WL.out.below (hb.mono (by have hs := HS.out; omega)))
 have XG' := onR XG hb
 have GL' := hid (GL.out.below (hb.mono (by have hs := HS.out; omega)))
 have XH' := onR XH hb
 have HHL' := hid (HHL.out.below (hb.mono (by have hs := HS.out; omega)))
 have HS' := hid (And.intro hb.size HS.out)
 clear hb HB HX2 XW WL XG GL XH HHL HS
 have HB := HB'
 have HX2 := HX2'
 have XW := XW'
 have WL := WL'
 have XG := XG'
 have GL := GL'
 have XH := XH'
 have HHL := HHL'
 have HS := HS'
 clear HB' HX2' XW' WL' XG' GL' XH' HHL' HS'
 go_wp2
 go_ret
 exact ⟨rfl,HB.out⟩
end Go.Proofs.YtmnhoeliofojnaaGreatDoor
