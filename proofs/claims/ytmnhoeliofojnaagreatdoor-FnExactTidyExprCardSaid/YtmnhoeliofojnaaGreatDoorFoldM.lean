import Derived.Test.YtmnhoeliofojnaaGreatDoorNodeM
import Derived.Test.YtmnhoeliofojnaaGreatDoorFoldD
namespace Go.Proofs.YtmnhoeliofojnaaGreatDoor
open Go.RowKit Go.Shelf
open Go.Lib (hid)
set_option maxRecDepth 100000
theorem Tree.three {w : World} {base : Nat} {A : Option Addr} {l c : Nat} {o m o' m' o2 m2 : Int} {k k' k2 : Fo} {bs : List Nat} (h : Tree w base (.slice A l c) (.cons o m k (.cons o' m' k' (.cons o2 m2 k2 .nil))) bs) :
  ∃ g X cx X' cx' X2 cx2 b1 b2 b3 cs,A = some ⟨g,0,Option.none⟩ /\ l = 3 /\ base <= g /\ Row w g 30 cs /\ (cs[0]? = some (.int .i64 o) /\ cs[1]? = some (.int .i64 m) /\ cs[2]? = some (.slice X k.len cx)) /\ (cs[3]? = some (.int .i64 o') /\ cs[4]? = some (.int .i64 m') /\ cs[5]? = some (.slice X' k'.len cx')) /\ (cs[6]? = some (.int .i64 o2) /\ cs[7]? = some (.int .i64 m2) /\ cs[8]? = some (.slice X2 k2.len cx2)) /\
   (Tree w base (.slice X k.len cx) k b1 /\ Tree w base (.slice X' k'.len cx') k' b2 /\ Tree w base (.slice X2 k2.len cx2) k2 b3) /\ ((I64 o /\ I64 m) /\ (I64 o' /\ I64 m') /\ (I64 o2 /\ I64 m2)) /\ (∀ z,z ∈ b1 -> z ∈ bs) /\ (∀ z,z ∈ b2 -> z ∈ bs) /\ (∀ z,z ∈ b3 -> z ∈ bs) := by
 obtain ⟨g,cap,X,cx,b1,cs,hv,h1,_,_,h3,h4,h5,h6,h7,h8,h9,_⟩ := h.at_ (j := 0) (o := o) (m := m) (k := k) rfl
 obtain ⟨g',cap',X',cx',b2,cs',hv',h1',_,_,h3',h4',h5',h6',h7',h8',h9',_⟩ := h.at_ (j := 1) (o := o') (m := m') (k := k') rfl
 obtain ⟨g2,cap2,X2,cx2,b3,cs2,hv2,h12,_,_,h32,h42,h52,h62,h72,h82,h92,_⟩ := h.at_ (j := 2) (o := o2) (m := m2) (k := k2) rfl
 injection hv with e1 e2 e3
 injection hv' with e1' e2' e3'
 injection hv2 with e12 e22 e32
 subst e1
 injection e1' with e1'
 injection e1' with e1' _
 subst e1'
 injection e12 with e12
 injection e12 with e12 _
 subst e12
 have hcs : cs' = cs := by
  have q := h6'.symm.trans h6
  injection q with q
  injection q
 have hcs2 : cs2 = cs := by
  have q := h62.symm.trans h6
  injection q with q
  injection q
 rw [hcs] at h7' h8' h9'
 rw [hcs2] at h72 h82 h92
 exact ⟨g,X,cx,X',cx',X2,cx2,b1,b2,b3,cs,rfl,e2,h1,h6,⟨h7,h8,h9⟩,⟨h7',h8',h9'⟩,⟨h72,h82,h92⟩,⟨h5,h5',h52⟩,⟨h4,h4',h42⟩,h3,h3',h32⟩
end Go.Proofs.YtmnhoeliofojnaaGreatDoor

namespace Go.Proofs.YtmnhoeliofojnaaGreatDoor
open Go.RowKit Go.Shelf
open Go.Lib (hid)
set_option maxRecDepth 100000
theorem makeMapF_run (W : World) : (Instr.makeMap 62 (some (.int .i64 8))).run Tryz.prog W = .ok (.map (some W.heap.size)) (W.alloc (.map #[] 0)) := by kernel_rfl
set_option maxHeartbeats 1000000 in
theorem defsNil_any (w : World) : Calls Tryz.prog 36 #[.slice none 0 0] w (fun e w' => ∃ r,e = .returned (.map (some r)) /\ Below w.heap.size w w') := by
 have hmm := makeMapF_run
 have hb0 : Below w.heap.size w (w.alloc (Obj.map #[] 0)) := (Below.refl _ _).alloc (Nat.le_refl _) _
 go_enter Tryz.func36,Tryz.ntmps36
 go_wp2_with fail
 clear hmm
 go_loopw [11] (fun i wr => i = .int .i64 0 /\ Below w.heap.size w wr)
  (fun i _ => 0)
 case atStart => exact ⟨rfl,hb0⟩
 case round =>
  clear hb0
  obtain ⟨rfl,hb⟩ := hrel
  have HB := hid hb
  clear hb
  go_wp2
  go_ret
  exact ⟨_,rfl,HB.out⟩
set_option maxHeartbeats 2000000 in
theorem valueNum_any (ev : Value) (m : Int) (A : Option Addr) (l c : Nat) (x0 x1 x2 x3 x4 x5 x6 x7 : Int) (w : World) :
  Calls Tryz.prog 96 #[ev,.agg #[.int .i64 1,.int .i64 m,.slice A l c],.agg #[.int .i64 x0,.int .i64 x1,.int .i64 x2,.int .i64 x3,.int .i64 x4,.int .i64 x5,.int .i64 x6,.int .i64 x7]] w (Gives (.tuple #[.int .i64 m,.nilIface]) w) := by
 obtain ⟨hb2,r1,r2⟩ := two_boxes w 30 93 #[Value.int .i64 1,Value.int .i64 m,Value.slice A l c] #[Value.int .i64 x0,Value.int .i64 x1,Value.int .i64 x2,Value.int .i64 x3,Value.int .i64 x4,Value.int .i64 x5,Value.int .i64 x6,Value.int .i64 x7]
 have q0 := r1.cell (i := 0) rfl
 have q1 := r1.cell (i := 1) rfl
 have HB := hid hb2
 clear hb2 r1 r2
 go_enter Tryz.func96,Tryz.ntmps96
 go_wp2
 refine bodyPost_ret (v := .tuple #[.int .i64 m,.nilIface]) ?_ rfl ⟨rfl,HB.out⟩
 simp [results,Tryz.f96,go_sem]
set_option maxHeartbeats 4000000 in
theorem pairAdd_any (ev : Value) (n ma mb : Int) (g : Nat) (c : Nat) (X X' : Option Addr) (la cx lb cx' : Nat) (x0 x1 x2 x3 x4 x5 x6 x7 : Int) (w : World) (g0 : w.cell? ⟨g,0,none⟩ = some (.int .i64 1)) (g1 : w.cell? ⟨g,1,none⟩ = some (.int .i64 ma)) (g2 : w.cell? ⟨g,2,none⟩ = some (.slice X la cx)) (g3 : w.cell? ⟨g,3,none⟩ = some (.int .i64 1)) (g4 : w.cell? ⟨g,4,none⟩ = some (.int .i64 mb)) (g5 : w.cell? ⟨g,5,none⟩ = some (.slice X' lb cx')) (ha : 0 <= ma /\ ma <= 99) (hb9 : 0 <= mb /\ mb <= 99) :
  Calls Tryz.prog 114 #[ev,.agg #[.int .i64 4,.int .i64 n,.slice (some ⟨g,0,none⟩) 2 c],.agg #[.int .i64 x0,.int .i64 x1,.int .i64 x2,.int .i64 x3,.int .i64 x4,.int .i64 x5,.int .i64 x6,.int .i64 x7]] w (Gives (.tuple #[.int .i64 (foldV 4 ma mb),.nilIface]) w) := by
 have hg := World.block_lt_of_cell? _ _ g0
 obtain ⟨hb2,r1,r2⟩ := two_boxes w 30 93 #[Value.int .i64 4,Value.int .i64 n,Value.slice (some ⟨g,0,none⟩) 2 c] #[Value.int .i64 x0,Value.int .i64 x1,Value.int .i64 x2,Value.int .i64 x3,Value.int .i64 x4,Value.int .i64 x5,Value.int .i64 x6,Value.int .i64 x7]
 obtain ⟨W,hW⟩ : ∃ W,W = (w.alloc (Obj.cells #[Value.int .i64 4,Value.int .i64 n,Value.slice (some ⟨g,0,none⟩) 2 c] 30)).alloc (Obj.cells #[Value.int .i64 x0,Value.int .i64 x1,Value.int .i64 x2,Value.int .i64 x3,Value.int .i64 x4,Value.int .i64 x5,Value.int .i64 x6,Value.int .i64 x7] 93) := ⟨_,rfl⟩
 rw [<- hW] at hb2 r1 r2
 have HB0 := hid hb2
 have HS := hid (show ∀ w' : World,Below W.heap.size W w' -> w'.cell? ⟨w.heap.size,0,none⟩ = some (.int .i64 4) /\ w'.cell? ⟨w.heap.size,2,none⟩ = some (.slice (some ⟨g,0,none⟩) 2 c) /\ w'.cell? ⟨w.heap.size + 1,0,none⟩ = some (.int .i64 x0) /\ w'.cell? ⟨w.heap.size + 1,1,none⟩ = some (.int .i64 x1) /\ w'.cell? ⟨w.heap.size + 1,2,none⟩ = some (.int .i64 x2) /\ w'.cell? ⟨w.heap.size + 1,3,none⟩ = some (.int .i64 x3) /\ w'.cell? ⟨w.heap.size + 1,4,none⟩ = some (.int .i64 x4) /\ w'.cell? ⟨w.heap.size + 1,5,none⟩ = some (.int .i64 x5) /\ w'.cell? ⟨w.heap.size + 1,6,none⟩ = some (.int .i64 x6) /\ w'.cell? ⟨w.heap.size + 1,7,none⟩ = some (.int .i64 x7) /\ w'.cell? ⟨g,0,none⟩ = some (.int .i64 1) /\ w'.cell? ⟨g,1,none⟩ = some (.int .i64 ma) /\ w'.cell? ⟨g,2,none⟩ = some (.slice X la cx) /\ w'.cell? ⟨g,3,none⟩ = some (.int .i64 1) /\ w'.cell? ⟨g,4,none⟩ = some (.int .i64 mb) /\ w'.cell? ⟨g,5,none⟩ = some (.slice X' lb cx') from fun w' h => by
  have hr0 := r1.below h r1.size
  have hr1 := r2.below h r2.size
  have hb := hb2.trans (h.mono hb2.size)
  have hgs := hg
  exact ⟨hr0.cell (i := 0) rfl,hr0.cell (i := 2) rfl,hr1.cell (i := 0) rfl,hr1.cell (i := 1) rfl,hr1.cell (i := 2) rfl,hr1.cell (i := 3) rfl,hr1.cell (i := 4) rfl,hr1.cell (i := 5) rfl,hr1.cell (i := 6) rfl,hr1.cell (i := 7) rfl,(hb.cell (p := ⟨g,0,none⟩) hgs).trans g0,(hb.cell (p := ⟨g,1,none⟩) hgs).trans g1,(hb.cell (p := ⟨g,2,none⟩) hgs).trans g2,(hb.cell (p := ⟨g,3,none⟩) hgs).trans g3,(hb.cell (p := ⟨g,4,none⟩) hgs).trans g4,(hb.cell (p := ⟨g,5,none⟩) hgs).trans g5⟩)
 have HA := hid (fun w' : World => valueNum_any ev ma X la cx x0 x1 x2 x3 x4 x5 x6 x7 w')
 have HC := hid (fun w' : World => valueNum_any ev mb X' lb cx' x0 x1 x2 x3 x4 x5 x6 x7 w')
 have HW1 := hid (show IntKind.i64.wrap (ma + mb) = ma + mb by rw [IntKind.wrap_i64] <;> omega)
 have HW2 := hid (show Int.tmod (ma + mb) 100 = (ma + mb) % 100 by rw [Int.tmod_eq_emod_of_nonneg]; omega)
 have HB5z := hid (show Below W.heap.size W W.drew from (Below.refl _ _).drew)
 have s0 := HS.out _ HB5z.out
 clear hb2 r1 r2 g0 g1 g2 g3 g4 g5 hg
 go_enter Tryz.func114,Tryz.ntmps114
 go_upto_region 1 with fail
 rw [<- hW]
 clear hW
 go_wp2_with fail
 go_region_held3 (fun w' => w'.cell? ⟨w.heap.size,0,none⟩ = some (.int .i64 4) /\ w'.cell? ⟨w.heap.size,2,none⟩ = some (.slice (some ⟨g,0,none⟩) 2 c) /\ w'.cell? ⟨w.heap.size + 1,0,none⟩ = some (.int .i64 x0) /\ w'.cell? ⟨w.heap.size + 1,1,none⟩ = some (.int .i64 x1) /\ w'.cell? ⟨w.heap.size + 1,2,none⟩ = some (.int .i64 x2) /\ w'.cell? ⟨w.heap.size + 1,3,none⟩ = some (.int .i64 x3) /\ w'.cell? ⟨w.heap.size + 1,4,none⟩ = some (.int .i64 x4) /\ w'.cell? ⟨w.heap.size + 1,5,none⟩ = some (.int .i64 x5) /\ w'.cell? ⟨w.heap.size + 1,6,none⟩ = some (.int .i64 x6) /\ w'.cell? ⟨w.heap.size + 1,7,none⟩ = some (.int .i64 x7) /\ w'.cell? ⟨g,0,none⟩ = some (.int .i64 1) /\ w'.cell? ⟨g,1,none⟩ = some (.int .i64 ma) /\ w'.cell? ⟨g,2,none⟩ = some (.slice X la cx) /\ w'.cell? ⟨g,3,none⟩ = some (.int .i64 1) /\ w'.cell? ⟨g,4,none⟩ = some (.int .i64 mb) /\ w'.cell? ⟨g,5,none⟩ = some (.slice X' lb cx'))
  (first | with_reducible exact s0 | with_reducible exact s5 | with_reducible exact s6 | fail)
  (first
   |(go_at_call 96
     with_reducible refine (HA.out _).mono ?_
     rintro e w5 ⟨rfl,hbw5⟩
     have HB5 := onB HB5z hbw5
     have s5 := HS.out _ HB5.out
     clear hbw5)
   | fail)
 all_goals
  clear s0
  have HB5d := hid HB5.out.drew
  obtain ⟨v0,v1,v2,v3,v4,v5,v6,v7,v8,v9,v10,v11,v12,v13,v14,v15⟩ := HS.out _ HB5.out
  go_upto_region 6 with fail
  clear v0 v1 v2 v3 v4 v5 v6 v7 v8 v9 v10 v11 v12 v13 v14 v15 s5
  have s0 := HS.out _ HB5d.out
  go_wp2_with fail
  go_region_held3 (fun w' => w'.cell? ⟨w.heap.size,0,none⟩ = some (.int .i64 4) /\ w'.cell? ⟨w.heap.size,2,none⟩ = some (.slice (some ⟨g,0,none⟩) 2 c) /\ w'.cell? ⟨w.heap.size + 1,0,none⟩ = some (.int .i64 x0) /\ w'.cell? ⟨w.heap.size + 1,1,none⟩ = some (.int .i64 x1) /\ w'.cell? ⟨w.heap.size + 1,2,none⟩ = some (.int .i64 x2) /\ w'.cell? ⟨w.heap.size + 1,3,none⟩ = some (.int .i64 x3) /\ w'.cell? ⟨w.heap.size + 1,4,none⟩ = some (.int .i64 x4) /\ w'.cell? ⟨w.heap.size + 1,5,none⟩ = some (.int .i64 x5) /\ w'.cell? ⟨w.heap.size + 1,6,none⟩ = some (.int .i64 x6) /\ w'.cell? ⟨w.heap.size + 1,7,none⟩ = some (.int .i64 x7) /\ w'.cell? ⟨g,0,none⟩ = some (.int .i64 1) /\ w'.cell? ⟨g,1,none⟩ = some (.int .i64 ma) /\ w'.cell? ⟨g,2,none⟩ = some (.slice X la cx) /\ w'.cell? ⟨g,3,none⟩ = some (.int .i64 1) /\ w'.cell? ⟨g,4,none⟩ = some (.int .i64 mb) /\ w'.cell? ⟨g,5,none⟩ = some (.slice X' lb cx'))
   (first | with_reducible exact s0 | with_reducible exact s5 | with_reducible exact s6 | fail)
   (first
    |(go_at_call 96
      with_reducible refine (HC.out _).mono ?_
      rintro e w6 ⟨rfl,hbw6⟩
      have HB6 := onB HB5d hbw6
      have s6 := HS.out _ HB6.out
      clear hbw6)
    | fail)
  all_goals
   clear s0
   clear s6
   obtain ⟨v0,v1,v2,v3,v4,v5,v6,v7,v8,v9,v10,v11,v12,v13,v14,v15⟩ := HS.out _ HB6.out
   have hw1 := HW1.out
   have hw2 := HW2.out
   have HV := hid (show foldV 4 ma mb = (ma + mb) % 100 from rfl)
   rw [HV.out]
   go_wp2
   refine bodyPost_ret (v := .tuple #[.int .i64 ((ma + mb) % 100),.nilIface]) ?_ rfl ⟨rfl,HB0.out.trans (HB6.out.mono HB0.out.size)⟩
   simp [results,Tryz.f114,go_sem]
set_option maxHeartbeats 4000000 in
theorem pairLess_any (ev : Value) (n ma mb : Int) (g : Nat) (c : Nat) (X X' : Option Addr) (la cx lb cx' : Nat) (x0 x1 x2 x3 x4 x5 x6 x7 : Int) (w : World) (g0 : w.cell? ⟨g,0,none⟩ = some (.int .i64 1)) (g1 : w.cell? ⟨g,1,none⟩ = some (.int .i64 ma)) (g2 : w.cell? ⟨g,2,none⟩ = some (.slice X la cx)) (g3 : w.cell? ⟨g,3,none⟩ = some (.int .i64 1)) (g4 : w.cell? ⟨g,4,none⟩ = some (.int .i64 mb)) (g5 : w.cell? ⟨g,5,none⟩ = some (.slice X' lb cx')) (ha : 0 <= ma /\ ma <= 99) (hb9 : 0 <= mb /\ mb <= 99) :
  Calls Tryz.prog 114 #[ev,.agg #[.int .i64 5,.int .i64 n,.slice (some ⟨g,0,none⟩) 2 c],.agg #[.int .i64 x0,.int .i64 x1,.int .i64 x2,.int .i64 x3,.int .i64 x4,.int .i64 x5,.int .i64 x6,.int .i64 x7]] w (Gives (.tuple #[.int .i64 (foldV 5 ma mb),.nilIface]) w) := by
 have hg := World.block_lt_of_cell? _ _ g0
 obtain ⟨hb2,r1,r2⟩ := two_boxes w 30 93 #[Value.int .i64 5,Value.int .i64 n,Value.slice (some ⟨g,0,none⟩) 2 c] #[Value.int .i64 x0,Value.int .i64 x1,Value.int .i64 x2,Value.int .i64 x3,Value.int .i64 x4,Value.int .i64 x5,Value.int .i64 x6,Value.int .i64 x7]
 obtain ⟨W,hW⟩ : ∃ W,W = (w.alloc (Obj.cells #[Value.int .i64 5,Value.int .i64 n,Value.slice (some ⟨g,0,none⟩) 2 c] 30)).alloc (Obj.cells #[Value.int .i64 x0,Value.int .i64 x1,Value.int .i64 x2,Value.int .i64 x3,Value.int .i64 x4,Value.int .i64 x5,Value.int .i64 x6,Value.int .i64 x7] 93) := ⟨_,rfl⟩
 rw [<- hW] at hb2 r1 r2
 have HB0 := hid hb2
 have HS := hid (show ∀ w' : World,Below W.heap.size W w' -> w'.cell? ⟨w.heap.size,0,none⟩ = some (.int .i64 5) /\ w'.cell? ⟨w.heap.size,2,none⟩ = some (.slice (some ⟨g,0,none⟩) 2 c) /\ w'.cell? ⟨w.heap.size + 1,0,none⟩ = some (.int .i64 x0) /\ w'.cell? ⟨w.heap.size + 1,1,none⟩ = some (.int .i64 x1) /\ w'.cell? ⟨w.heap.size + 1,2,none⟩ = some (.int .i64 x2) /\ w'.cell? ⟨w.heap.size + 1,3,none⟩ = some (.int .i64 x3) /\ w'.cell? ⟨w.heap.size + 1,4,none⟩ = some (.int .i64 x4) /\ w'.cell? ⟨w.heap.size + 1,5,none⟩ = some (.int .i64 x5) /\ w'.cell? ⟨w.heap.size + 1,6,none⟩ = some (.int .i64 x6) /\ w'.cell? ⟨w.heap.size + 1,7,none⟩ = some (.int .i64 x7) /\ w'.cell? ⟨g,0,none⟩ = some (.int .i64 1) /\ w'.cell? ⟨g,1,none⟩ = some (.int .i64 ma) /\ w'.cell? ⟨g,2,none⟩ = some (.slice X la cx) /\ w'.cell? ⟨g,3,none⟩ = some (.int .i64 1) /\ w'.cell? ⟨g,4,none⟩ = some (.int .i64 mb) /\ w'.cell? ⟨g,5,none⟩ = some (.slice X' lb cx') from fun w' h => by
  have hr0 := r1.below h r1.size
  have hr1 := r2.below h r2.size
  have hb := hb2.trans (h.mono hb2.size)
  have hgs := hg
  exact ⟨hr0.cell (i := 0) rfl,hr0.cell (i := 2) rfl,hr1.cell (i := 0) rfl,hr1.cell (i := 1) rfl,hr1.cell (i := 2) rfl,hr1.cell (i := 3) rfl,hr1.cell (i := 4) rfl,hr1.cell (i := 5) rfl,hr1.cell (i := 6) rfl,hr1.cell (i := 7) rfl,(hb.cell (p := ⟨g,0,none⟩) hgs).trans g0,(hb.cell (p := ⟨g,1,none⟩) hgs).trans g1,(hb.cell (p := ⟨g,2,none⟩) hgs).trans g2,(hb.cell (p := ⟨g,3,none⟩) hgs).trans g3,(hb.cell (p := ⟨g,4,none⟩) hgs).trans g4,(hb.cell (p := ⟨g,5,none⟩) hgs).trans g5⟩)
 have HA := hid (fun w' : World => valueNum_any ev ma X la cx x0 x1 x2 x3 x4 x5 x6 x7 w')
 have HC := hid (fun w' : World => valueNum_any ev mb X' lb cx' x0 x1 x2 x3 x4 x5 x6 x7 w')
 have HW1 := hid (show IntKind.i64.wrap (ma + mb) = ma + mb by rw [IntKind.wrap_i64] <;> omega)
 have HW2 := hid (show Int.tmod (ma + mb) 100 = (ma + mb) % 100 by rw [Int.tmod_eq_emod_of_nonneg]; omega)
 have HB5z := hid (show Below W.heap.size W W.drew from (Below.refl _ _).drew)
 have s0 := HS.out _ HB5z.out
 clear hb2 r1 r2 g0 g1 g2 g3 g4 g5 hg
 go_enter Tryz.func114,Tryz.ntmps114
 go_upto_region 1 with fail
 rw [<- hW]
 clear hW
 go_wp2_with fail
 go_region_held3 (fun w' => w'.cell? ⟨w.heap.size,0,none⟩ = some (.int .i64 5) /\ w'.cell? ⟨w.heap.size,2,none⟩ = some (.slice (some ⟨g,0,none⟩) 2 c) /\ w'.cell? ⟨w.heap.size + 1,0,none⟩ = some (.int .i64 x0) /\ w'.cell? ⟨w.heap.size + 1,1,none⟩ = some (.int .i64 x1) /\ w'.cell? ⟨w.heap.size + 1,2,none⟩ = some (.int .i64 x2) /\ w'.cell? ⟨w.heap.size + 1,3,none⟩ = some (.int .i64 x3) /\ w'.cell? ⟨w.heap.size + 1,4,none⟩ = some (.int .i64 x4) /\ w'.cell? ⟨w.heap.size + 1,5,none⟩ = some (.int .i64 x5) /\ w'.cell? ⟨w.heap.size + 1,6,none⟩ = some (.int .i64 x6) /\ w'.cell? ⟨w.heap.size + 1,7,none⟩ = some (.int .i64 x7) /\ w'.cell? ⟨g,0,none⟩ = some (.int .i64 1) /\ w'.cell? ⟨g,1,none⟩ = some (.int .i64 ma) /\ w'.cell? ⟨g,2,none⟩ = some (.slice X la cx) /\ w'.cell? ⟨g,3,none⟩ = some (.int .i64 1) /\ w'.cell? ⟨g,4,none⟩ = some (.int .i64 mb) /\ w'.cell? ⟨g,5,none⟩ = some (.slice X' lb cx'))
  (first | with_reducible exact s0 | with_reducible exact s5 | with_reducible exact s6 | fail)
  (first
   |(go_at_call 96
     with_reducible refine (HA.out _).mono ?_
     rintro e w5 ⟨rfl,hbw5⟩
     have HB5 := onB HB5z hbw5
     have s5 := HS.out _ HB5.out
     clear hbw5)
   | fail)
 all_goals
  clear s0
  have HB5d := hid HB5.out.drew
  obtain ⟨v0,v1,v2,v3,v4,v5,v6,v7,v8,v9,v10,v11,v12,v13,v14,v15⟩ := HS.out _ HB5.out
  go_upto_region 6 with fail
  clear v0 v1 v2 v3 v4 v5 v6 v7 v8 v9 v10 v11 v12 v13 v14 v15 s5
  have s0 := HS.out _ HB5d.out
  go_wp2_with fail
  go_region_held3 (fun w' => w'.cell? ⟨w.heap.size,0,none⟩ = some (.int .i64 5) /\ w'.cell? ⟨w.heap.size,2,none⟩ = some (.slice (some ⟨g,0,none⟩) 2 c) /\ w'.cell? ⟨w.heap.size + 1,0,none⟩ = some (.int .i64 x0) /\ w'.cell? ⟨w.heap.size + 1,1,none⟩ = some (.int .i64 x1) /\ w'.cell? ⟨w.heap.size + 1,2,none⟩ = some (.int .i64 x2) /\ w'.cell? ⟨w.heap.size + 1,3,none⟩ = some (.int .i64 x3) /\ w'.cell? ⟨w.heap.size + 1,4,none⟩ = some (.int .i64 x4) /\ w'.cell? ⟨w.heap.size + 1,5,none⟩ = some (.int .i64 x5) /\ w'.cell? ⟨w.heap.size + 1,6,none⟩ = some (.int .i64 x6) /\ w'.cell? ⟨w.heap.size + 1,7,none⟩ = some (.int .i64 x7) /\ w'.cell? ⟨g,0,none⟩ = some (.int .i64 1) /\ w'.cell? ⟨g,1,none⟩ = some (.int .i64 ma) /\ w'.cell? ⟨g,2,none⟩ = some (.slice X la cx) /\ w'.cell? ⟨g,3,none⟩ = some (.int .i64 1) /\ w'.cell? ⟨g,4,none⟩ = some (.int .i64 mb) /\ w'.cell? ⟨g,5,none⟩ = some (.slice X' lb cx'))
   (first | with_reducible exact s0 | with_reducible exact s5 | with_reducible exact s6 | fail)
   (first
    |(go_at_call 96
      with_reducible refine (HC.out _).mono ?_
      rintro e w6 ⟨rfl,hbw6⟩
      have HB6 := onB HB5d hbw6
      have s6 := HS.out _ HB6.out
      clear hbw6)
    | fail)
  all_goals
   clear s0
   clear s6
   obtain ⟨v0,v1,v2,v3,v4,v5,v6,v7,v8,v9,v10,v11,v12,v13,v14,v15⟩ := HS.out _ HB6.out
   by_cases hlt : ma < mb
   ·have HV := hid (show foldV 5 ma mb = 1 by simp [foldV,hlt])
    have hl2 : decide (ma < mb) = true := by simp [hlt]
    go_wp2
    refine bodyPost_ret (v := .tuple #[.int .i64 1,.nilIface]) ?_ rfl (by rw [HV.out]; exact ⟨rfl,HB0.out.trans (HB6.out.mono HB0.out.size)⟩)
    simp [results,Tryz.f114,go_sem]
   ·have HV := hid (show foldV 5 ma mb = 0 by simp [foldV,hlt])
    have hl2 : decide (ma < mb) = false := by simp [hlt]
    go_wp2
    refine bodyPost_ret (v := .tuple #[.int .i64 0,.nilIface]) ?_ rfl (by rw [HV.out]; exact ⟨rfl,HB0.out.trans (HB6.out.mono HB0.out.size)⟩)
    simp [results,Tryz.f114,go_sem]
theorem pairNN_any (opv : Int) (h45 : opv = 4 ∨ opv = 5) (ev : Value) (n ma mb : Int) (g : Nat) (c : Nat) (X X' : Option Addr) (la cx lb cx' : Nat) (x0 x1 x2 x3 x4 x5 x6 x7 : Int) (w : World) (g0 : w.cell? ⟨g,0,none⟩ = some (.int .i64 1)) (g1 : w.cell? ⟨g,1,none⟩ = some (.int .i64 ma)) (g2 : w.cell? ⟨g,2,none⟩ = some (.slice X la cx)) (g3 : w.cell? ⟨g,3,none⟩ = some (.int .i64 1)) (g4 : w.cell? ⟨g,4,none⟩ = some (.int .i64 mb)) (g5 : w.cell? ⟨g,5,none⟩ = some (.slice X' lb cx')) (ha : 0 <= ma /\ ma <= 99) (hb9 : 0 <= mb /\ mb <= 99) :
  Calls Tryz.prog 114 #[ev,.agg #[.int .i64 opv,.int .i64 n,.slice (some ⟨g,0,none⟩) 2 c],.agg #[.int .i64 x0,.int .i64 x1,.int .i64 x2,.int .i64 x3,.int .i64 x4,.int .i64 x5,.int .i64 x6,.int .i64 x7]] w (Gives (.tuple #[.int .i64 (foldV opv ma mb),.nilIface]) w) := by
 rcases h45 with rfl | rfl
 ·exact pairAdd_any ev n ma mb g c X X' la cx lb cx' x0 x1 x2 x3 x4 x5 x6 x7 w g0 g1 g2 g3 g4 g5 ha hb9
 ·exact pairLess_any ev n ma mb g c X X' la cx lb cx' x0 x1 x2 x3 x4 x5 x6 x7 w g0 g1 g2 g3 g4 g5 ha hb9
set_option maxHeartbeats 4000000 in
theorem valueNN_any (opv : Int) (h45 : opv = 4 ∨ opv = 5) (ev : Value) (n ma mb : Int) (g : Nat) (c : Nat) (X X' : Option Addr) (la cx lb cx' : Nat) (x0 x1 x2 x3 x4 x5 x6 x7 : Int) (w : World) (g0 : w.cell? ⟨g,0,none⟩ = some (.int .i64 1)) (g1 : w.cell? ⟨g,1,none⟩ = some (.int .i64 ma)) (g2 : w.cell? ⟨g,2,none⟩ = some (.slice X la cx)) (g3 : w.cell? ⟨g,3,none⟩ = some (.int .i64 1)) (g4 : w.cell? ⟨g,4,none⟩ = some (.int .i64 mb)) (g5 : w.cell? ⟨g,5,none⟩ = some (.slice X' lb cx')) (ha : 0 <= ma /\ ma <= 99) (hb9 : 0 <= mb /\ mb <= 99) :
  Calls Tryz.prog 96 #[ev,.agg #[.int .i64 opv,.int .i64 n,.slice (some ⟨g,0,none⟩) 2 c],.agg #[.int .i64 x0,.int .i64 x1,.int .i64 x2,.int .i64 x3,.int .i64 x4,.int .i64 x5,.int .i64 x6,.int .i64 x7]] w (Gives (.tuple #[.int .i64 (foldV opv ma mb),.nilIface]) w) := by
 have hg := World.block_lt_of_cell? _ _ g0
 obtain ⟨hb2,r1,r2⟩ := two_boxes w 30 93 #[Value.int .i64 opv,Value.int .i64 n,Value.slice (some ⟨g,0,none⟩) 2 c] #[Value.int .i64 x0,Value.int .i64 x1,Value.int .i64 x2,Value.int .i64 x3,Value.int .i64 x4,Value.int .i64 x5,Value.int .i64 x6,Value.int .i64 x7]
 obtain ⟨W,hW⟩ : ∃ W,W = (w.alloc (Obj.cells #[Value.int .i64 opv,Value.int .i64 n,Value.slice (some ⟨g,0,none⟩) 2 c] 30)).alloc (Obj.cells #[Value.int .i64 x0,Value.int .i64 x1,Value.int .i64 x2,Value.int .i64 x3,Value.int .i64 x4,Value.int .i64 x5,Value.int .i64 x6,Value.int .i64 x7] 93) := ⟨_,rfl⟩
 rw [<- hW] at hb2 r1 r2
 have HB0 := hid hb2
 have HP := hid (pairNN_any opv h45 ev n ma mb g c X X' la cx lb cx' x0 x1 x2 x3 x4 x5 x6 x7 W ((hb2.cell (p := ⟨g,0,none⟩) hg).trans g0) ((hb2.cell (p := ⟨g,1,none⟩) hg).trans g1) ((hb2.cell (p := ⟨g,2,none⟩) hg).trans g2) ((hb2.cell (p := ⟨g,3,none⟩) hg).trans g3) ((hb2.cell (p := ⟨g,4,none⟩) hg).trans g4) ((hb2.cell (p := ⟨g,5,none⟩) hg).trans g5) ha hb9)
 obtain ⟨v,hv⟩ : ∃ v,v = foldV opv ma mb := ⟨_,rfl⟩
 rw [<- hv] at HP ⊢
 obtain ⟨q0,q1,q2⟩ := r1.cells3 rfl rfl rfl
 obtain ⟨e0,e1,e2⟩ := r2.cells3 rfl rfl rfl
 have e3 := r2.cell (i := 3) rfl
 have e4 := r2.cell (i := 4) rfl
 have e5 := r2.cell (i := 5) rfl
 have e6 := r2.cell (i := 6) rfl
 have e7 := r2.cell (i := 7) rfl
 have b1 : (opv == 1) = false := by rcases h45 with rfl | rfl <;> rfl
 have b2 : (opv == 2) = false := by rcases h45 with rfl | rfl <;> rfl
 have b3 : (opv == 3) = false := by rcases h45 with rfl | rfl <;> rfl
 have b6 : (opv == 6) = false := by rcases h45 with rfl | rfl <;> rfl
 have b9 : (opv == 9) = false := by rcases h45 with rfl | rfl <;> rfl
 clear hb2 r1 r2 g0 g1 g2 g3 g4 g5 hg hv ha hb9 h45
 go_enter Tryz.func96,Tryz.ntmps96
 go_upto_region 1 with fail
 rw [<- hW]
 clear hW
 go_wp2_with fail
 refine HP.out.mono ?_
 rintro e w5 ⟨rfl,hb5⟩
 have HB5 := onB HB0 hb5
 clear hb5 HP HB0 q0 q1 q2 e0 e1 e2 e3 e4 e5 e6 e7
 go_wp2
 refine bodyPost_ret (v := .tuple #[.int .i64 v,.nilIface]) ?_ rfl ⟨rfl,HB5.out⟩
 simp [results,Tryz.f96,go_sem]
set_option maxHeartbeats 4000000 in
theorem evalNN_any (opv : Int) (h45 : opv = 4 ∨ opv = 5) (n ma mb : Int) (g : Nat) (c : Nat) (X X' : Option Addr) (la cx lb cx' : Nat) (w : World) (g0 : w.cell? ⟨g,0,none⟩ = some (.int .i64 1)) (g1 : w.cell? ⟨g,1,none⟩ = some (.int .i64 ma)) (g2 : w.cell? ⟨g,2,none⟩ = some (.slice X la cx)) (g3 : w.cell? ⟨g,3,none⟩ = some (.int .i64 1)) (g4 : w.cell? ⟨g,4,none⟩ = some (.int .i64 mb)) (g5 : w.cell? ⟨g,5,none⟩ = some (.slice X' lb cx')) (ha : 0 <= ma /\ ma <= 99) (hb9 : 0 <= mb /\ mb <= 99) :
  Calls Tryz.prog 72 #[.slice none 0 0,.agg #[.int .i64 opv,.int .i64 n,.slice (some ⟨g,0,none⟩) 2 c],.agg #[.int .i64 0,.int .i64 0,.int .i64 0,.int .i64 0,.int .i64 0,.int .i64 0,.int .i64 0,.int .i64 0],.int .i64 0] w (Gives (.agg #[.int .i64 0,.int .i64 (foldV opv ma mb),.slice none 0 0,.slice none 0 0]) w) := by
 have hg := World.block_lt_of_cell? _ _ g0
 obtain ⟨W,hW⟩ : ∃ W,W = (((((((w.alloc (Obj.cells #[Value.int .i64 opv,Value.int .i64 n,Value.slice (some ⟨g,0,none⟩) 2 c] 30))).alloc (Obj.cells #[Value.int .i64 0,Value.int .i64 0,Value.int .i64 0,Value.int .i64 0,Value.int .i64 0,Value.int .i64 0,Value.int .i64 0,Value.int .i64 0] 93))).alloc (Obj.cells #[Value.int .i64 0,Value.int .i64 0,Value.slice none 0 0,Value.slice none 0 0] 90))).alloc (Obj.cells #[Value.slice none 0 0,Value.slice none 0 0] 104)) := ⟨_,rfl⟩
 have hb : Below w.heap.size w W := by rw [hW]; exact ((((Below.refl _ _).alloc (Nat.le_refl _) _).alloc (by simp) _).alloc (by simp; omega) _).alloc (by simp; omega) _
 have r0 : Row W (w.heap.size) 30 #[Value.int .i64 opv,Value.int .i64 n,Value.slice (some ⟨g,0,none⟩) 2 c] := by
  rw [hW]
  have := Row.fresh w 30 #[Value.int .i64 opv,Value.int .i64 n,Value.slice (some ⟨g,0,none⟩) 2 c]
  exact (((this).alloc _).alloc _).alloc _
 have r1 : Row W (w.heap.size + 1) 93 #[Value.int .i64 0,Value.int .i64 0,Value.int .i64 0,Value.int .i64 0,Value.int .i64 0,Value.int .i64 0,Value.int .i64 0,Value.int .i64 0] := by
  rw [hW]
  have := Row.fresh (w.alloc (Obj.cells #[Value.int .i64 opv,Value.int .i64 n,Value.slice (some ⟨g,0,none⟩) 2 c] 30)) 93 #[Value.int .i64 0,Value.int .i64 0,Value.int .i64 0,Value.int .i64 0,Value.int .i64 0,Value.int .i64 0,Value.int .i64 0,Value.int .i64 0]
  simp only [World.size_alloc] at this
  exact ((this).alloc _).alloc _
 have r2 : Row W (w.heap.size + 1 + 1) 90 #[Value.int .i64 0,Value.int .i64 0,Value.slice none 0 0,Value.slice none 0 0] := by
  rw [hW]
  have := Row.fresh (((w.alloc (Obj.cells #[Value.int .i64 opv,Value.int .i64 n,Value.slice (some ⟨g,0,none⟩) 2 c] 30))).alloc (Obj.cells #[Value.int .i64 0,Value.int .i64 0,Value.int .i64 0,Value.int .i64 0,Value.int .i64 0,Value.int .i64 0,Value.int .i64 0,Value.int .i64 0] 93)) 90 #[Value.int .i64 0,Value.int .i64 0,Value.slice none 0 0,Value.slice none 0 0]
  simp only [World.size_alloc] at this
  exact (this).alloc _
 have r3 : Row W (w.heap.size + 1 + 1 + 1) 104 #[Value.slice none 0 0,Value.slice none 0 0] := by
  rw [hW]
  have := Row.fresh (((((w.alloc (Obj.cells #[Value.int .i64 opv,Value.int .i64 n,Value.slice (some ⟨g,0,none⟩) 2 c] 30))).alloc (Obj.cells #[Value.int .i64 0,Value.int .i64 0,Value.int .i64 0,Value.int .i64 0,Value.int .i64 0,Value.int .i64 0,Value.int .i64 0,Value.int .i64 0] 93))).alloc (Obj.cells #[Value.int .i64 0,Value.int .i64 0,Value.slice none 0 0,Value.slice none 0 0] 90)) 104 #[Value.slice none 0 0,Value.slice none 0 0]
  simp only [World.size_alloc] at this
  exact this
 have HB0 := hid hb
 have HR0 := hid r0
 have HR1 := hid r1
 have HR2 := hid r2
 have HR3 := hid r3
 obtain ⟨v,hv⟩ : ∃ v,v = foldV opv ma mb := ⟨_,rfl⟩
 have HVA := hid (show ∀ (ev : Value) (w' : World),Below w.heap.size w w' -> Calls Tryz.prog 96 #[ev,.agg #[.int .i64 opv,.int .i64 n,.slice (some ⟨g,0,none⟩) 2 c],.agg #[.int .i64 0,.int .i64 0,.int .i64 0,.int .i64 0,.int .i64 0,.int .i64 0,.int .i64 0,.int .i64 0]] w' (Gives (.tuple #[.int .i64 v,.nilIface]) w') from fun ev w' h => by
  rw [hv]
  exact valueNN_any opv h45 ev n ma mb g c X X' la cx lb cx' 0 0 0 0 0 0 0 0 w' ((h.cell (p := ⟨g,0,none⟩) hg).trans g0) ((h.cell (p := ⟨g,1,none⟩) hg).trans g1) ((h.cell (p := ⟨g,2,none⟩) hg).trans g2) ((h.cell (p := ⟨g,3,none⟩) hg).trans g3) ((h.cell (p := ⟨g,4,none⟩) hg).trans g4) ((h.cell (p := ⟨g,5,none⟩) hg).trans g5) ha hb9)
 rw [<- hv]
 have HDN := hid (defsNil_any W)
 clear hb r0 r1 r2 r3 g0 g1 g2 g3 g4 g5 hg hv ha hb9 h45
 go_enter Tryz.func72,Tryz.ntmps72
 go_upto_region 2 with fail
 rw [<- hW]
 clear hW
 go_wp2_with fail
 refine HDN.out.mono ?_
 rintro e w1 ⟨r,rfl,hb1⟩
 go_upto_region 3 with fail
 obtain ⟨w2,hw2⟩ : ∃ w2,w2 = w1.alloc (Obj.cells #[Value.map (some r),Value.int .i64 0,Value.int .i64 0,Value.iface 105 (.pointer (some ⟨w.heap.size + 1 + 1 + 1,0,none⟩))] 109) := ⟨_,rfl⟩
 rw [<- hw2]
 have hb2 : Below W.heap.size W w2 := by rw [hw2]; exact hb1.alloc hb1.size _
 have HB2 := onB HB0 hb2
 have HX0 := onR HR0 hb2
 have HX1 := onR HR1 hb2
 have HX2 := onR HR2 hb2
 have HX3 := onR HR3 hb2
 obtain ⟨q0,q1,q2⟩ := HX0.out.cells3 rfl rfl rfl
 obtain ⟨e0,e1,e2⟩ := HX1.out.cells3 rfl rfl rfl
 have e3 := HX1.out.cell (i := 3) rfl
 have e4 := HX1.out.cell (i := 4) rfl
 have e5 := HX1.out.cell (i := 5) rfl
 have e6 := HX1.out.cell (i := 6) rfl
 have e7 := HX1.out.cell (i := 7) rfl
 clear hb1 hb2 hw2 HB0 HR0 HR1 HR2 HR3 HDN
 go_wp2_with fail
 refine (HVA.out _ _ HB2.out).mono ?_
 rintro e w3 ⟨rfl,hb3⟩
 have HY2 := onR HX2 hb3
 have HB3 := onB HB2 hb3
 have u0 := (HX3.out.below hb3 HX3.out.size).cell (i := 0) rfl
 have u1 := (HX3.out.below hb3 HX3.out.size).cell (i := 1) rfl
 clear hb3 q0 q1 q2 e0 e1 e2 e3 e4 e5 e6 e7 HX0 HX1 HX2 HX3 HVA HB2
 go_upto_region 5 with fail
 obtain ⟨w4,hw4⟩ : ∃ w4,w4 = w3.alloc (Obj.cells #[Value.int .i64 0,Value.int .i64 v,Value.slice none 0 0,Value.slice none 0 0] 90) := ⟨_,rfl⟩
 rw [<- hw4]
 have hb4 : Below w3.heap.size w3 w4 := by rw [hw4]; exact (Below.refl _ _).alloc (Nat.le_refl _) _
 have hrn : Row w4 w3.heap.size 90 #[Value.int .i64 0,Value.int .i64 v,Value.slice none 0 0,Value.slice none 0 0] := by rw [hw4]; exact Row.fresh _ _ _
 have HB4 := onB HB3 hb4
 have HZ2 := onR HY2 hb4
 obtain ⟨n0,n1,n2⟩ := hrn.cells3 rfl rfl rfl
 have n3 := hrn.cell (i := 3) rfl
 obtain ⟨c0,c1,c2⟩ := HZ2.out.cells3 rfl rfl rfl
 have c3 := HZ2.out.cell (i := 3) rfl
 obtain ⟨f0,f1,f2⟩ := HZ2.out.frees3
 have f3 := HZ2.out.free 3
 have hr4 := (((HZ2.out.put 0 (.int .i64 0)).put 1 (.int .i64 v)).put 2 (.slice none 0 0)).put 3 (.slice none 0 0)
 have r0 := hr4.cell (i := 0) rfl
 have r1 := hr4.cell (i := 1) rfl
 have r2 := hr4.cell (i := 2) rfl
 have r3 := hr4.cell (i := 3) rfl
 have HBZ := hid ((((HB4.out.setCell (p := ⟨w.heap.size + 1 + 1,0,none⟩) (by dsimp only; omega) (.int .i64 0)).setCell (p := ⟨w.heap.size + 1 + 1,1,none⟩) (by dsimp only; omega) (.int .i64 v)).setCell (p := ⟨w.heap.size + 1 + 1,2,none⟩) (by dsimp only; omega) (.slice none 0 0)).setCell (p := ⟨w.heap.size + 1 + 1,3,none⟩) (by dsimp only; omega) (.slice none 0 0))
 clear hb4 hrn hw4 HB3 HY2 u0 u1 hr4
 go_wp2_with fail
 refine bodyPost_ret (v := .agg #[.int .i64 0,.int .i64 v,.slice none 0 0,.slice none 0 0]) ?_ rfl ⟨rfl,HBZ.out⟩
 simp [results,Tryz.f72,go_sem,r0,r1,r2,r3]
end Go.Proofs.YtmnhoeliofojnaaGreatDoor

namespace Go.Proofs.YtmnhoeliofojnaaGreatDoor
open Go.RowKit Go.Shelf
open Go.Lib (hid)
set_option maxRecDepth 100000
def TurnsG (gz : Nat) (y : Nd) (base : Nat) (w : World) (e : Ending) (w' : World) : Prop :=
 ∃ A c bs,e = .returned (.agg #[.int .i64 y.op,.int .i64 y.n,.slice A y.k.len c]) /\ Tree w' base (.slice A y.k.len c) y.k bs /\ Below w.heap.size w w' /\ (I64 y.op /\ I64 y.n) /\ gz ∉ bs
set_option maxHeartbeats 4000000 in
theorem foldIf_any {T : Int -> Int -> Nat -> Prop} (hT : LocalT T) (hF : ∀ (op n : Int) (l : Nat),T op n l -> formT op n l) (L : Nat) (op n : Int) (k : Fo) (A : Option Addr) (c base : Nat) (bs : List Nat) (w : World) (hst : St T L ⟨op,n,k⟩) (hi : I64 op /\ I64 n) (ht : Tree w base (.slice A k.len c) k bs) (hbase : base <= w.heap.size) (h6 : op = 6) (gz : Nat) (hgz : gz ∉ bs) :
  Calls Tryz.prog 73 #[.agg #[.int .i64 op,.int .i64 n,.slice A k.len c]] w (TurnsG gz (gFold L ⟨op,n,k⟩) base w) := by
 have H6 := hid h6
 have HGZ := hid hgz
 clear h6 hgz
 obtain ⟨hb,r1,r2⟩ := two_boxes w 30 30 #[Value.int .i64 op,Value.int .i64 n,Value.slice A k.len c] #[.int .i64 0,.int .i64 0,.slice none 0 0]
 obtain ⟨W,hW⟩ : ∃ W,W = (w.alloc (Obj.cells #[Value.int .i64 op,Value.int .i64 n,Value.slice A k.len c] 30)).alloc (Obj.cells #[.int .i64 0,.int .i64 0,.slice none 0 0] 30) := ⟨_,rfl⟩
 rw [<- hW] at hb r1 r2
 have HB0 := hid hb
 have HRB := hid r1
 have HRR := hid r2
 have HT := hid (ht.over hb)
 have HNB := hid (show w.heap.size + 1 ∉ bs from fun hz => by have := (ht.lt _ hz).2; omega)
 have HLOW := hid (show base <= base /\ base <= W.heap.size from ⟨Nat.le_refl _,Nat.le_trans hbase hb.size⟩)
 have HST := hid hst
 have HTT := hid hT
 have HFM := hid hF
 have HI := hid hi
 obtain ⟨GP,hGP⟩ : ∃ GP,GP = gFold L ⟨op,n,k⟩ := ⟨_,rfl⟩
 rw [<- hGP]
 have HGP := hid hGP
 clear hb r1 r2 ht hst hT hi hGP hbase hF
 go_enter Tryz.func73,Tryz.ntmps73
 go_upto_region 1 with fail
 rw [<- hW]
 clear hW
 have h6 := H6.out
 obtain ⟨oa,ma,ka,ob,mb,kb,oc,mc,kc,ek,sta,stb,stc,hss⟩ := three_kids HST.out (kids_three (by have h9 := HTT.out.kids HST.out.all.1; dsimp only at h9; rw [h6] at h9; exact h9))
 dsimp only at ek
 subst h6
 subst ek
 obtain ⟨g,X,cx,X',cx',X2,cx2,b1,b2,b3,cs,hA,_,hg0,hrg,⟨k0,k1,k2⟩,⟨k3,k4,k5⟩,⟨k6,k7,k8⟩,⟨hta,htb,htc⟩,⟨hia,hib,hic⟩,hsa,hsb,hsc⟩ := HT.out.three
 subst hA
 have HRG := hid hrg
 have HTB := hid htb
 have HTC := hid htc
 have HIA := hid (And.intro hib hic)
 have HSB := hid hsb
 have HSC := hid hsc
 have z0 := hrg.cell k0
 have z1 := hrg.cell k1
 have z2 := hrg.cell k2
 have z3 := hrg.cell k3
 have z4 := hrg.cell k4
 have z5 := hrg.cell k5
 have z6 := hrg.cell k6
 have z7 := hrg.cell k7
 have z8 := hrg.cell k8
 clear hrg hta htb htc hia hib hic sta stb stc k0 k1 k2 k3 k4 k5 k6 k7 k8 hss hsa hsb hsc
 have HBS := hid (Below.refl W.heap.size W)
 have q0 := HRB.out.cell (i := 0) rfl
 have q1 := HRB.out.cell (i := 1) rfl
 have q2 : W.cell? ⟨w.heap.size,2,none⟩ = some (.slice (some ⟨g,0,none⟩) 3 c) := HRB.out.cell (i := 2) rfl
 have HG := hid (show GP = (if oa = 1 then (if ma ≠ 0 then ⟨ob,mb,kb⟩ else ⟨oc,mc,kc⟩) else ⟨6,n,Fo.cons oa ma ka (Fo.cons ob mb kb (Fo.cons oc mc kc Fo.nil))⟩) from HGP.out.trans (gFold_if rfl))
 by_cases h1 : oa = 1
 ·subst h1
  by_cases h0 : ma = 0
  ·subst h0
   have HGE := hid (show GP = ⟨oc,mc,kc⟩ from HG.out.trans rfl)
   obtain ⟨bz,htz,hap,hgz⟩ := (show ∃ bz,Tree _ base (.slice X2 kc.len cx2) kc bz /\ w.heap.size + 1 ∉ bz /\ gz ∉ bz from ⟨b3,(HTC.out.over HBS.out),fun hz => HNB.out (HSC.out _ hz),fun hz => HGZ.out (HSC.out _ hz)⟩)
   obtain ⟨⟨c0,c1,c2⟩,⟨f0,f1,f2⟩,⟨r0,r1,r2⟩,hbz,htz2⟩ := box3 (HRR.out.below HBS.out HRR.out.size) (HB0.out.trans (HBS.out.mono HB0.out.size)) (by omega) (oc) (mc) (X2) (kc.len) (cx2) htz hap
   have HBZ := hid hbz
   have HTZ := hid htz2
   have HGZ2 := hid hgz
   clear hbz htz2 htz hap hgz
   go_wp2_with fail
   refine bodyPost_ret (v := .agg #[.int .i64 oc,.int .i64 mc,.slice X2 kc.len cx2]) ?_ rfl (by rw [HGE.out]; exact ⟨X2,cx2,bz,rfl,HTZ.out,HBZ.out,HIA.out.2,HGZ2.out⟩)
   simp [results,Tryz.f73,go_sem,r0,r1,r2]
  ·have HGE := hid (show GP = ⟨ob,mb,kb⟩ from HG.out.trans (by rw [if_pos rfl,if_pos h0]))
   have bm : (ma != 0) = true := by simpa using h0
   obtain ⟨bz,htz,hap,hgz⟩ := (show ∃ bz,Tree _ base (.slice X' kb.len cx') kb bz /\ w.heap.size + 1 ∉ bz /\ gz ∉ bz from ⟨b2,(HTB.out.over HBS.out),fun hz => HNB.out (HSB.out _ hz),fun hz => HGZ.out (HSB.out _ hz)⟩)
   obtain ⟨⟨c0,c1,c2⟩,⟨f0,f1,f2⟩,⟨r0,r1,r2⟩,hbz,htz2⟩ := box3 (HRR.out.below HBS.out HRR.out.size) (HB0.out.trans (HBS.out.mono HB0.out.size)) (by omega) (ob) (mb) (X') (kb.len) (cx') htz hap
   have HBZ := hid hbz
   have HTZ := hid htz2
   have HGZ2 := hid hgz
   clear hbz htz2 htz hap hgz
   go_wp2_with fail
   refine bodyPost_ret (v := .agg #[.int .i64 ob,.int .i64 mb,.slice X' kb.len cx']) ?_ rfl (by rw [HGE.out]; exact ⟨X',cx',bz,rfl,HTZ.out,HBZ.out,HIA.out.1,HGZ2.out⟩)
   simp [results,Tryz.f73,go_sem,r0,r1,r2]
 ·have HGE := hid (show GP = ⟨6,n,Fo.cons oa ma ka (Fo.cons ob mb kb (Fo.cons oc mc kc Fo.nil))⟩ from HG.out.trans (if_neg h1))
  have bo : (oa != 1) = true := by simpa using h1
  obtain ⟨bz,htz,hap,hgz⟩ := (show ∃ bz,Tree _ base (.slice (some ⟨g,0,none⟩) (Fo.cons oa ma ka (Fo.cons ob mb kb (Fo.cons oc mc kc Fo.nil))).len c) (Fo.cons oa ma ka (Fo.cons ob mb kb (Fo.cons oc mc kc Fo.nil))) bz /\ w.heap.size + 1 ∉ bz /\ gz ∉ bz from ⟨bs,(HT.out.over HBS.out),HNB.out,HGZ.out⟩)
  obtain ⟨⟨c0,c1,c2⟩,⟨f0,f1,f2⟩,⟨r0,r1,r2⟩,hbz,htz2⟩ := box3 (HRR.out.below HBS.out HRR.out.size) (HB0.out.trans (HBS.out.mono HB0.out.size)) (by omega) (6) (n) ((some ⟨g,0,none⟩)) (3) (c) htz hap
  have HBZ := hid hbz
  have HTZ := hid htz2
  have HGZ2 := hid hgz
  clear hbz htz2 htz hap hgz
  go_wp2_with fail
  refine bodyPost_ret (v := .agg #[.int .i64 6,.int .i64 n,.slice (some ⟨g,0,none⟩) 3 c]) ?_ rfl (by rw [HGE.out]; exact ⟨(some ⟨g,0,none⟩),c,bz,rfl,HTZ.out,HBZ.out,HI.out,HGZ2.out⟩)
  simp [results,Tryz.f73,go_sem,r0,r1,r2]
set_option maxHeartbeats 4000000 in
theorem foldNode_any {T : Int -> Int -> Nat -> Prop} (hT : LocalT T) (hF : ∀ (op n : Int) (l : Nat),T op n l -> formT op n l) (L : Nat) (op n : Int) (k : Fo) (A : Option Addr) (c base : Nat) (bs : List Nat) (w : World) (hst : St T L ⟨op,n,k⟩) (hi : I64 op /\ I64 n) (ht : Tree w base (.slice A k.len c) k bs) (hbase : base <= w.heap.size) :
  Calls Tryz.prog 44 #[.agg #[.int .i64 op,.int .i64 n,.slice A k.len c],.int .i64 (L : Int)] w (Turns (gFold L ⟨op,n,k⟩) base w) := by
 have HIF := hid (fun (w' : World) (h : Below w.heap.size w w') (h6 : op = 6) => foldIf_any hT hF L op n k A c base bs w' hst hi (ht.over h) (Nat.le_trans hbase h.size) h6 (w.heap.size + 1) (fun hz => by have := (ht.lt _ hz).2; omega))
 obtain ⟨hb,r1,r2⟩ := two_boxes w 30 30 #[Value.int .i64 op,Value.int .i64 n,Value.slice A k.len c] #[.int .i64 0,.int .i64 0,.slice none 0 0]
 obtain ⟨W,hW⟩ : ∃ W,W = (w.alloc (Obj.cells #[Value.int .i64 op,Value.int .i64 n,Value.slice A k.len c] 30)).alloc (Obj.cells #[.int .i64 0,.int .i64 0,.slice none 0 0] 30) := ⟨_,rfl⟩
 rw [<- hW] at hb r1 r2
 have HB0 := hid hb
 have HRB := hid r1
 have HRR := hid r2
 have HT := hid (ht.over hb)
 have HNB := hid (show w.heap.size + 1 ∉ bs from fun hz => by have := (ht.lt _ hz).2; omega)
 have HLOW := hid (show base <= base /\ base <= W.heap.size from ⟨Nat.le_refl _,Nat.le_trans hbase hb.size⟩)
 have HST := hid hst
 have HTT := hid hT
 have HFM := hid hF
 have HI := hid hi
 obtain ⟨GP,hGP⟩ : ∃ GP,GP = gFold L ⟨op,n,k⟩ := ⟨_,rfl⟩
 rw [<- hGP]
 have HGP := hid hGP
 clear hb r1 r2 ht hst hT hi hGP hbase hF
 go_enter Tryz.func44,Tryz.ntmps44
 go_upto_region 1 with fail
 rw [<- hW]
 clear hW
 by_cases h4 : op = 4
 ·subst h4
  obtain ⟨oa,ma,ka,ob,mb,kb,ek,sta,stb,hss⟩ := two_kids HST.out (kids_two (HTT.out.kids HST.out.all.1) (.inl rfl))
  dsimp only at ek
  subst ek
  obtain ⟨g,X,cx,X',cx',b1,b2,cs,hA,_,hg0,hrg,k0,k1,k2,k3,k4,k5,hta,htb,hia,hib,hsa,hsb⟩ := HT.out.two
  subst hA
  have HRG := hid hrg
  have HTB := hid htb
  have HIA := hid (And.intro hia hib)
  have HSB := hid hsb
  have HSAB := hid (And.intro sta stb)
  have HK := hid (And.intro k3 (And.intro k4 k5))
  have z0 := hrg.cell k0
  have z1 := hrg.cell k1
  have z2 := hrg.cell k2
  have z3 := hrg.cell k3
  have z4 := hrg.cell k4
  have z5 := hrg.cell k5
  clear hrg hta htb hia hib sta stb k0 k1 k2 k3 k4 k5 hss hsa hsb
  have HBS := hid (Below.refl W.heap.size W)
  have q0 := HRB.out.cell (i := 0) rfl
  have q1 := HRB.out.cell (i := 1) rfl
  have q2 : W.cell? ⟨w.heap.size,2,none⟩ = some (.slice (some ⟨g,0,none⟩) 2 c) := HRB.out.cell (i := 2) rfl
  by_cases h1 : oa = 1
  ·by_cases h2 : ob = 1
   ·subst h1
    subst h2
    have na := num_own (HFM.out _ _ _ HSAB.out.1.all.1)
    have nb := num_own (HFM.out _ _ _ HSAB.out.2.all.1)
    dsimp only at na nb
    have HEV := hid (evalNN_any 4 (.inl rfl) n ma mb g c X X' ka.len cx kb.len cx' W z0 z1 z2 z3 z4 z5 na nb)
    have HGE := hid (show GP = ⟨1,foldV 4 ma mb,Fo.nil⟩ from HGP.out.trans (gFold_num (.inl rfl) rfl rfl))
    have HIV := hid (show I64 1 /\ I64 (foldV 4 ma mb) from ⟨by unfold I64; omega,by have hv := foldV_ok (op := 4) na.1 nb.1; unfold I64; omega⟩)
    obtain ⟨v,hv⟩ : ∃ v,v = foldV 4 ma mb := ⟨_,rfl⟩
    rw [<- hv] at HEV HGE HIV
    clear hv na nb
    have hfl : ∀ w : World,(Instr.field 90 (.agg #[.int .i64 0,.int .i64 v,.slice none 0 0,.slice none 0 0]) 1).run Tryz.prog w = .ok (.int .i64 v) w := fun _ => by kernel_rfl
    go_wp2_with fail
    refine HEV.out.mono ?_
    rintro e w5 ⟨rfl,hb5⟩
    have HB5 := hid hb5
    clear hb5 HEV q0 q1 q2 z0 z1 z2 z3 z4 z5
    obtain ⟨bz,htz,hap⟩ := (show ∃ bz,Tree w5 base (.slice none Fo.nil.len 0) Fo.nil bz /\ w.heap.size + 1 ∉ bz from ⟨[],Tree.none _ _,by simp⟩)
    obtain ⟨⟨c0,c1,c2⟩,⟨f0,f1,f2⟩,⟨r0,r1,r2⟩,hbz,htz2⟩ := box3 (HRR.out.below HB5.out HRR.out.size) (HB0.out.trans (HB5.out.mono HB0.out.size)) (by omega) (1) (v) (none) (0) (0) htz hap
    have HBZ := hid hbz
    have HTZ := hid htz2
    clear hbz htz2 htz hap
    go_wp2_with fail
    refine bodyPost_ret (v := .agg #[.int .i64 1,.int .i64 v,.slice none 0 0]) ?_ rfl (by rw [HGE.out]; exact ⟨none,0,bz,rfl,HTZ.out,HBZ.out,HIV.out⟩)
    simp [results,Tryz.f44,go_sem,r0,r1,r2]
   ·have HGE := hid (show GP = ⟨4,n,Fo.cons oa ma ka (Fo.cons ob mb kb Fo.nil)⟩ from HGP.out.trans (gFold_arith (.inl rfl) (fun h => h2 h.2)))
    have bo1 : (oa == 1) = true := by simpa using h1
    have bo : (ob == 1) = false := by simpa using h2
    obtain ⟨bz,htz,hap⟩ := (show ∃ bz,Tree _ base (.slice (some ⟨g,0,none⟩) (Fo.cons oa ma ka (Fo.cons ob mb kb Fo.nil)).len c) (Fo.cons oa ma ka (Fo.cons ob mb kb Fo.nil)) bz /\ w.heap.size + 1 ∉ bz from ⟨bs,(HT.out.over HBS.out),HNB.out⟩)
    obtain ⟨⟨c0,c1,c2⟩,⟨f0,f1,f2⟩,⟨r0,r1,r2⟩,hbz,htz2⟩ := box3 (HRR.out.below HBS.out HRR.out.size) (HB0.out.trans (HBS.out.mono HB0.out.size)) (by omega) (4) (n) ((some ⟨g,0,none⟩)) (2) (c) htz hap
    have HBZ := hid hbz
    have HTZ := hid htz2
    clear hbz htz2 htz hap
    go_wp2_with fail
    refine bodyPost_ret (v := .agg #[.int .i64 4,.int .i64 n,.slice (some ⟨g,0,none⟩) 2 c]) ?_ rfl (by rw [HGE.out]; exact ⟨(some ⟨g,0,none⟩),c,bz,rfl,HTZ.out,HBZ.out,HI.out⟩)
    simp [results,Tryz.f44,go_sem,r0,r1,r2]
  ·have HGE := hid (show GP = ⟨4,n,Fo.cons oa ma ka (Fo.cons ob mb kb Fo.nil)⟩ from HGP.out.trans (gFold_arith (.inl rfl) (fun h => h1 h.1)))
   have bo : (oa == 1) = false := by simpa using h1
   obtain ⟨bz,htz,hap⟩ := (show ∃ bz,Tree _ base (.slice (some ⟨g,0,none⟩) (Fo.cons oa ma ka (Fo.cons ob mb kb Fo.nil)).len c) (Fo.cons oa ma ka (Fo.cons ob mb kb Fo.nil)) bz /\ w.heap.size + 1 ∉ bz from ⟨bs,(HT.out.over HBS.out),HNB.out⟩)
   obtain ⟨⟨c0,c1,c2⟩,⟨f0,f1,f2⟩,⟨r0,r1,r2⟩,hbz,htz2⟩ := box3 (HRR.out.below HBS.out HRR.out.size) (HB0.out.trans (HBS.out.mono HB0.out.size)) (by omega) (4) (n) ((some ⟨g,0,none⟩)) (2) (c) htz hap
   have HBZ := hid hbz
   have HTZ := hid htz2
   clear hbz htz2 htz hap
   go_wp2_with fail
   refine bodyPost_ret (v := .agg #[.int .i64 4,.int .i64 n,.slice (some ⟨g,0,none⟩) 2 c]) ?_ rfl (by rw [HGE.out]; exact ⟨(some ⟨g,0,none⟩),c,bz,rfl,HTZ.out,HBZ.out,HI.out⟩)
   simp [results,Tryz.f44,go_sem,r0,r1,r2]
 ·by_cases h5 : op = 5
  ·subst h5
   obtain ⟨oa,ma,ka,ob,mb,kb,ek,sta,stb,hss⟩ := two_kids HST.out (kids_two (HTT.out.kids HST.out.all.1) (.inr (.inl rfl)))
   dsimp only at ek
   subst ek
   obtain ⟨g,X,cx,X',cx',b1,b2,cs,hA,_,hg0,hrg,k0,k1,k2,k3,k4,k5,hta,htb,hia,hib,hsa,hsb⟩ := HT.out.two
   subst hA
   have HRG := hid hrg
   have HTB := hid htb
   have HIA := hid (And.intro hia hib)
   have HSB := hid hsb
   have HSAB := hid (And.intro sta stb)
   have HK := hid (And.intro k3 (And.intro k4 k5))
   have z0 := hrg.cell k0
   have z1 := hrg.cell k1
   have z2 := hrg.cell k2
   have z3 := hrg.cell k3
   have z4 := hrg.cell k4
   have z5 := hrg.cell k5
   clear hrg hta htb hia hib sta stb k0 k1 k2 k3 k4 k5 hss hsa hsb
   have HBS := hid (Below.refl W.heap.size W)
   have q0 := HRB.out.cell (i := 0) rfl
   have q1 := HRB.out.cell (i := 1) rfl
   have q2 : W.cell? ⟨w.heap.size,2,none⟩ = some (.slice (some ⟨g,0,none⟩) 2 c) := HRB.out.cell (i := 2) rfl
   by_cases h1 : oa = 1
   ·by_cases h2 : ob = 1
    ·subst h1
     subst h2
     have na := num_own (HFM.out _ _ _ HSAB.out.1.all.1)
     have nb := num_own (HFM.out _ _ _ HSAB.out.2.all.1)
     dsimp only at na nb
     have HEV := hid (evalNN_any 5 (.inr rfl) n ma mb g c X X' ka.len cx kb.len cx' W z0 z1 z2 z3 z4 z5 na nb)
     have HGE := hid (show GP = ⟨1,foldV 5 ma mb,Fo.nil⟩ from HGP.out.trans (gFold_num (.inr rfl) rfl rfl))
     have HIV := hid (show I64 1 /\ I64 (foldV 5 ma mb) from ⟨by unfold I64; omega,by have hv := foldV_ok (op := 5) na.1 nb.1; unfold I64; omega⟩)
     obtain ⟨v,hv⟩ : ∃ v,v = foldV 5 ma mb := ⟨_,rfl⟩
     rw [<- hv] at HEV HGE HIV
     clear hv na nb
     have hfl : ∀ w : World,(Instr.field 90 (.agg #[.int .i64 0,.int .i64 v,.slice none 0 0,.slice none 0 0]) 1).run Tryz.prog w = .ok (.int .i64 v) w := fun _ => by kernel_rfl
     go_wp2_with fail
     refine HEV.out.mono ?_
     rintro e w5 ⟨rfl,hb5⟩
     have HB5 := hid hb5
     clear hb5 HEV q0 q1 q2 z0 z1 z2 z3 z4 z5
     obtain ⟨bz,htz,hap⟩ := (show ∃ bz,Tree w5 base (.slice none Fo.nil.len 0) Fo.nil bz /\ w.heap.size + 1 ∉ bz from ⟨[],Tree.none _ _,by simp⟩)
     obtain ⟨⟨c0,c1,c2⟩,⟨f0,f1,f2⟩,⟨r0,r1,r2⟩,hbz,htz2⟩ := box3 (HRR.out.below HB5.out HRR.out.size) (HB0.out.trans (HB5.out.mono HB0.out.size)) (by omega) (1) (v) (none) (0) (0) htz hap
     have HBZ := hid hbz
     have HTZ := hid htz2
     clear hbz htz2 htz hap
     go_wp2_with fail
     refine bodyPost_ret (v := .agg #[.int .i64 1,.int .i64 v,.slice none 0 0]) ?_ rfl (by rw [HGE.out]; exact ⟨none,0,bz,rfl,HTZ.out,HBZ.out,HIV.out⟩)
     simp [results,Tryz.f44,go_sem,r0,r1,r2]
    ·have HGE := hid (show GP = ⟨5,n,Fo.cons oa ma ka (Fo.cons ob mb kb Fo.nil)⟩ from HGP.out.trans (gFold_arith (.inr rfl) (fun h => h2 h.2)))
     have bo1 : (oa == 1) = true := by simpa using h1
     have bo : (ob == 1) = false := by simpa using h2
     obtain ⟨bz,htz,hap⟩ := (show ∃ bz,Tree _ base (.slice (some ⟨g,0,none⟩) (Fo.cons oa ma ka (Fo.cons ob mb kb Fo.nil)).len c) (Fo.cons oa ma ka (Fo.cons ob mb kb Fo.nil)) bz /\ w.heap.size + 1 ∉ bz from ⟨bs,(HT.out.over HBS.out),HNB.out⟩)
     obtain ⟨⟨c0,c1,c2⟩,⟨f0,f1,f2⟩,⟨r0,r1,r2⟩,hbz,htz2⟩ := box3 (HRR.out.below HBS.out HRR.out.size) (HB0.out.trans (HBS.out.mono HB0.out.size)) (by omega) (5) (n) ((some ⟨g,0,none⟩)) (2) (c) htz hap
     have HBZ := hid hbz
     have HTZ := hid htz2
     clear hbz htz2 htz hap
     go_wp2_with fail
     refine bodyPost_ret (v := .agg #[.int .i64 5,.int .i64 n,.slice (some ⟨g,0,none⟩) 2 c]) ?_ rfl (by rw [HGE.out]; exact ⟨(some ⟨g,0,none⟩),c,bz,rfl,HTZ.out,HBZ.out,HI.out⟩)
     simp [results,Tryz.f44,go_sem,r0,r1,r2]
   ·have HGE := hid (show GP = ⟨5,n,Fo.cons oa ma ka (Fo.cons ob mb kb Fo.nil)⟩ from HGP.out.trans (gFold_arith (.inr rfl) (fun h => h1 h.1)))
    have bo : (oa == 1) = false := by simpa using h1
    obtain ⟨bz,htz,hap⟩ := (show ∃ bz,Tree _ base (.slice (some ⟨g,0,none⟩) (Fo.cons oa ma ka (Fo.cons ob mb kb Fo.nil)).len c) (Fo.cons oa ma ka (Fo.cons ob mb kb Fo.nil)) bz /\ w.heap.size + 1 ∉ bz from ⟨bs,(HT.out.over HBS.out),HNB.out⟩)
    obtain ⟨⟨c0,c1,c2⟩,⟨f0,f1,f2⟩,⟨r0,r1,r2⟩,hbz,htz2⟩ := box3 (HRR.out.below HBS.out HRR.out.size) (HB0.out.trans (HBS.out.mono HB0.out.size)) (by omega) (5) (n) ((some ⟨g,0,none⟩)) (2) (c) htz hap
    have HBZ := hid hbz
    have HTZ := hid htz2
    clear hbz htz2 htz hap
    go_wp2_with fail
    refine bodyPost_ret (v := .agg #[.int .i64 5,.int .i64 n,.slice (some ⟨g,0,none⟩) 2 c]) ?_ rfl (by rw [HGE.out]; exact ⟨(some ⟨g,0,none⟩),c,bz,rfl,HTZ.out,HBZ.out,HI.out⟩)
    simp [results,Tryz.f44,go_sem,r0,r1,r2]
  ·have b4 : (op == 4) = false := by simpa using h4
   have b5 : (op == 5) = false := by simpa using h5
   by_cases h6 : op = 6
   ·have HC := hid (HIF.out W HB0.out h6)
    rw [<- HGP.out] at HC
    subst h6
    obtain ⟨q0,q1,q2⟩ := HRB.out.cells3 rfl rfl rfl
    go_wp2_with fail
    refine HC.out.mono ?_
    rintro e w5 ⟨A5,c5,b5,rfl,ht5,hb5,hi5,hnb5⟩
    have HB5 := hid hb5
    have HT5 := hid ht5
    have HI5 := hid hi5
    have HNB5 := hid hnb5
    clear hnb5 hb5 ht5 hi5 HC q0 q1 q2
    obtain ⟨bz,htz,hap⟩ := (show ∃ bz,Tree _ base (.slice A5 GP.k.len c5) GP.k bz /\ w.heap.size + 1 ∉ bz from ⟨b5,HT5.out,HNB5.out⟩)
    obtain ⟨⟨c0,c1,c2⟩,⟨f0,f1,f2⟩,⟨r0,r1,r2⟩,hbz,htz2⟩ := box3 (HRR.out.below HB5.out HRR.out.size) (HB0.out.trans (HB5.out.mono HB0.out.size)) (by omega) (GP.op) (GP.n) (A5) (GP.k.len) (c5) htz hap
    have HBZ := hid hbz
    have HTZ := hid htz2
    clear hbz htz2 htz hap
    go_wp2_with fail
    refine bodyPost_ret (v := .agg #[.int .i64 GP.op,.int .i64 GP.n,.slice A5 GP.k.len c5]) ?_ rfl (by rw [(show GP = GP from rfl)]; exact ⟨A5,c5,bz,rfl,HTZ.out,HBZ.out,HI5.out⟩)
    simp [results,Tryz.f44,go_sem,r0,r1,r2]
   ·have b6 : (op == 6) = false := by simpa using h6
    by_cases h8 : op = 8
    ·subst h8
     obtain ⟨oa,ma,ka,ob,mb,kb,ek,sta,stb,hss⟩ := two_kids HST.out (kids_two (HTT.out.kids HST.out.all.1) (.inr (.inr (.inr rfl))))
     dsimp only at ek
     subst ek
     obtain ⟨g,X,cx,X',cx',b1,b2,cs,hA,_,hg0,hrg,k0,k1,k2,k3,k4,k5,hta,htb,hia,hib,hsa,hsb⟩ := HT.out.two
     subst hA
     have HRG := hid hrg
     have HTB := hid htb
     have HIA := hid (And.intro hia hib)
     have HSB := hid hsb
     have HSAB := hid (And.intro sta stb)
     have HK := hid (And.intro k3 (And.intro k4 k5))
     have z0 := hrg.cell k0
     have z1 := hrg.cell k1
     have z2 := hrg.cell k2
     have z3 := hrg.cell k3
     have z4 := hrg.cell k4
     have z5 := hrg.cell k5
     clear hrg hta htb hia hib sta stb k0 k1 k2 k3 k4 k5 hss hsa hsb
     have HAT := hid (implAtom_any oa ma ka X cx W)
     have HG := hid (show GP = if atomB oa ka = true then ⟨ob,mb,kb⟩ else ⟨8,n,Fo.cons oa ma ka (Fo.cons ob mb kb Fo.nil)⟩ from HGP.out.trans (gFold_seq rfl))
     obtain ⟨at0,hat⟩ : ∃ at0,at0 = atomB oa ka := ⟨_,rfl⟩
     rw [<- hat] at HAT HG
     clear hat
     have q0 := HRB.out.cell (i := 0) rfl
     have q1 := HRB.out.cell (i := 1) rfl
     have q2 : W.cell? ⟨w.heap.size,2,none⟩ = some (.slice (some ⟨g,0,none⟩) 2 c) := HRB.out.cell (i := 2) rfl
     go_wp2_with fail
     refine HAT.out.mono ?_
     rintro e w5 ⟨rfl,hb5⟩
     have HB5 := hid hb5
     have HRG5 := onR HRG hb5
     clear hb5 HAT q0 q1 q2 z0 z1 z2 z3 z4 z5
     have q0 := (HRB.out.below HB5.out HRB.out.size).cell (i := 0) rfl
     have q1 := (HRB.out.below HB5.out HRB.out.size).cell (i := 1) rfl
     have q2 : w5.cell? ⟨w.heap.size,2,none⟩ = some (.slice (some ⟨g,0,none⟩) 2 c) := (HRB.out.below HB5.out HRB.out.size).cell (i := 2) rfl
     have z3 := HRG5.out.cell HK.out.1
     have z4 := HRG5.out.cell HK.out.2.1
     have z5 := HRG5.out.cell HK.out.2.2
     cases at0 with
     | false =>
      have HGE := hid (show GP = ⟨8,n,Fo.cons oa ma ka (Fo.cons ob mb kb Fo.nil)⟩ from HG.out.trans (if_neg (by simp)))
      obtain ⟨bz,htz,hap⟩ := (show ∃ bz,Tree _ base (.slice (some ⟨g,0,none⟩) (Fo.cons oa ma ka (Fo.cons ob mb kb Fo.nil)).len c) (Fo.cons oa ma ka (Fo.cons ob mb kb Fo.nil)) bz /\ w.heap.size + 1 ∉ bz from ⟨bs,(HT.out.over HB5.out),HNB.out⟩)
      obtain ⟨⟨c0,c1,c2⟩,⟨f0,f1,f2⟩,⟨r0,r1,r2⟩,hbz,htz2⟩ := box3 (HRR.out.below HB5.out HRR.out.size) (HB0.out.trans (HB5.out.mono HB0.out.size)) (by omega) (8) (n) ((some ⟨g,0,none⟩)) (2) (c) htz hap
      have HBZ := hid hbz
      have HTZ := hid htz2
      clear hbz htz2 htz hap
      go_wp2_with fail
      refine bodyPost_ret (v := .agg #[.int .i64 8,.int .i64 n,.slice (some ⟨g,0,none⟩) 2 c]) ?_ rfl (by rw [HGE.out]; exact ⟨(some ⟨g,0,none⟩),c,bz,rfl,HTZ.out,HBZ.out,HI.out⟩)
      simp [results,Tryz.f44,go_sem,r0,r1,r2]
     | true =>
      have HGE := hid (show GP = ⟨ob,mb,kb⟩ from HG.out.trans (if_pos rfl))
      obtain ⟨bz,htz,hap⟩ := (show ∃ bz,Tree _ base (.slice X' kb.len cx') kb bz /\ w.heap.size + 1 ∉ bz from ⟨b2,(HTB.out.over HB5.out),fun hz => HNB.out (HSB.out _ hz)⟩)
      obtain ⟨⟨c0,c1,c2⟩,⟨f0,f1,f2⟩,⟨r0,r1,r2⟩,hbz,htz2⟩ := box3 (HRR.out.below HB5.out HRR.out.size) (HB0.out.trans (HB5.out.mono HB0.out.size)) (by omega) (ob) (mb) (X') (kb.len) (cx') htz hap
      have HBZ := hid hbz
      have HTZ := hid htz2
      clear hbz htz2 htz hap
      go_wp2_with fail
      refine bodyPost_ret (v := .agg #[.int .i64 ob,.int .i64 mb,.slice X' kb.len cx']) ?_ rfl (by rw [HGE.out]; exact ⟨X',cx',bz,rfl,HTZ.out,HBZ.out,HIA.out.2⟩)
      simp [results,Tryz.f44,go_sem,r0,r1,r2]
    ·have b8 : (op == 8) = false := by simpa using h8
     have HBS := hid (Below.refl W.heap.size W)
     have HGE := hid (show GP = ⟨op,n,k⟩ from HGP.out.trans (gFold_other h4 h5 h6 h8))
     obtain ⟨q0,q1,q2⟩ := HRB.out.cells3 rfl rfl rfl
     obtain ⟨bz,htz,hap⟩ := (show ∃ bz,Tree _ base (.slice A (k).len c) (k) bz /\ w.heap.size + 1 ∉ bz from ⟨bs,(HT.out.over HBS.out),HNB.out⟩)
     obtain ⟨⟨c0,c1,c2⟩,⟨f0,f1,f2⟩,⟨r0,r1,r2⟩,hbz,htz2⟩ := box3 (HRR.out.below HBS.out HRR.out.size) (HB0.out.trans (HBS.out.mono HB0.out.size)) (by omega) (op) (n) (A) (k.len) (c) htz hap
     have HBZ := hid hbz
     have HTZ := hid htz2
     clear hbz htz2 htz hap
     go_wp2_with fail
     refine bodyPost_ret (v := .agg #[.int .i64 op,.int .i64 n,.slice A k.len c]) ?_ rfl (by rw [HGE.out]; exact ⟨A,c,bz,rfl,HTZ.out,HBZ.out,HI.out⟩)
     simp [results,Tryz.f44,go_sem,r0,r1,r2]
end Go.Proofs.YtmnhoeliofojnaaGreatDoor

namespace Go.Proofs.YtmnhoeliofojnaaGreatDoor
open Go.RowKit Go.Shelf
open Go.Lib (hid)
set_option maxRecDepth 100000
def numB : Fo -> Bool
 | .cons o _ _ _ => decide (o = 1)
 | .nil => false
def twoB (k : Fo) : Bool := numB k && (decide (k.len = 2) && decide ((kid2 k).op = 1))
set_option maxHeartbeats 4000000 in
theorem step_any {T : Int -> Int -> Nat -> Prop} (hT : LocalT T) (hF : ∀ (op n : Int) (l : Nat),T op n l -> formT op n l) (L : Nat) (op n : Int) (k : Fo) (A : Option Addr) (c base : Nat) (bs : List Nat) (w : World) (hst : St T L ⟨op,n,k⟩) (hi : I64 op /\ I64 n) (ht : Tree w base (.slice A k.len c) k bs) (hbase : base <= w.heap.size) :
  Calls Tryz.prog 60 #[.agg #[.int .i64 op,.int .i64 n,.slice A k.len c]] w (Turns (gFold L ⟨op,n,k⟩) base w) := by
 have hlen : k.len <= 1048576 := by have h1 := Fo.len_le_size k; have h2 := hst.size; dsimp only at h2; omega
 obtain ⟨hb,r1,r2⟩ := two_boxes w 30 30 #[Value.int .i64 op,Value.int .i64 n,Value.slice A k.len c] #[.int .i64 0,.int .i64 0,.slice none 0 0]
 obtain ⟨W,hW⟩ : ∃ W,W = (w.alloc (Obj.cells #[Value.int .i64 op,Value.int .i64 n,Value.slice A k.len c] 30)).alloc (Obj.cells #[.int .i64 0,.int .i64 0,.slice none 0 0] 30) := ⟨_,rfl⟩
 rw [<- hW] at hb r1 r2
 have HB0 := hid hb
 have HRB := hid r1
 have HRR := hid r2
 have HT := hid (ht.over hb)
 have HNB := hid (show w.heap.size + 1 ∉ bs from fun hz => by have := (ht.lt _ hz).2; omega)
 have HLOW := hid (show base <= base /\ base <= W.heap.size from ⟨Nat.le_refl _,Nat.le_trans hbase hb.size⟩)
 have HST := hid hst
 have HTT := hid hT
 have HFM := hid hF
 have HI := hid hi
 obtain ⟨GP,hGP⟩ : ∃ GP,GP = gFold L ⟨op,n,k⟩ := ⟨_,rfl⟩
 rw [<- hGP]
 have HGP := hid hGP
 clear hb r1 r2 ht hst hT hi hGP hbase hF
 go_enter Tryz.func60,Tryz.ntmps60
 go_upto_region 1 with fail
 rw [<- hW]
 clear hW
 obtain ⟨l,hl⟩ : ∃ l,l = k.len := ⟨_,rfl⟩
 have q0 := HRB.out.cell (i := 0) rfl
 have q1 := HRB.out.cell (i := 1) rfl
 have q2 : W.cell? ⟨w.heap.size,2,none⟩ = some (.slice A l c) := by rw [hl]; exact HRB.out.cell (i := 2) rfl
 obtain ⟨nb,hnb⟩ : ∃ nb,nb = numB k := ⟨_,rfl⟩
 obtain ⟨tb,htb⟩ : ∃ tb,tb = twoB k := ⟨_,rfl⟩
 have HNB1 := hid hnb
 have HTB1 := hid htb
 have HL := hid hl
 have HLEN := hid hlen
 clear hnb htb hl hlen
 go_cut [3] from 5 to 16 (fun a wd => a = .bool nb /\ wd = W)
 case first =>
  cases k with
  | nil =>
   have hl := HL.out
   simp only [Fo.len] at hl
   subst hl
   have hn1 : nb = false := HNB1.out
   subst hn1
   go_wp2_with fail
   go_meet
   exact ⟨rfl,rfl⟩
  | cons oa ma ka r =>
   obtain ⟨g,cap,X,cx,bk,cs,hv,h1,_,_,h3,h4,h5,h6,h7,h8,h9,_⟩ := HT.out.at_ (j := 0) (o := oa) (m := ma) (k := ka) rfl
   injection hv with e1 e2 e3
   subst e1
   subst e3
   have z0 := h6.cell h7
   have hlp : 0 < l := by rw [HL.out]; simp [Fo.len]
   have bl0 : (0 : Int) < (l : Int) := by omega
   have bl1 : decide ((l : Int) > 0) = true := by simpa using hlp
   clear h1 h3 h4 h5 h6 h7 h8 h9 hlp e2
   by_cases ho : oa = 1
   ·have hn1 : nb = true := by rw [HNB1.out]; simp [numB,ho]
    have bo : (oa == 1) = true := by simpa using ho
    subst hn1
    clear ho
    go_wp2_with fail
    go_meet
    exact ⟨by first | rfl | rw [bo],rfl⟩
   ·have bo : (oa == 1) = false := by simpa using ho
    have hn1 : nb = false := by rw [HNB1.out]; simp [numB,ho]
    subst hn1
    clear ho
    go_wp2_with fail
    go_meet
    exact ⟨by first | rfl | rw [bo],rfl⟩
 case rest =>
 obtain ⟨rfl,hwc⟩ := hcut
 rw [hwc]
 clear hwc wc
 go_upto_region 2 with fail
 go_cut [4] from 17 to 31 (fun a wd => a = .bool tb /\ wd = W)
 case first =>
  cases nb with
  | false =>
   have ht1 : tb = false := by rw [HTB1.out]; unfold twoB; rw [<- HNB1.out]; rfl
   subst ht1
   go_wp2_with fail
   go_meet
   exact ⟨rfl,rfl⟩
  | true =>
   by_cases h2 : l = 2
   ·cases k with
    | nil => have := HL.out; simp [Fo.len] at this; omega
    | cons oa ma ka r =>
     cases r with
     | nil => have := HL.out; simp [Fo.len] at this; omega
     | cons ob mb kb r2 =>
      cases r2 with
      | cons _ _ _ _ => have := HL.out; simp [Fo.len] at this; omega
      | nil =>
       obtain ⟨g',X2,cx2,X',cx',b1,b2,cs,hA,_,hg0,hrg,k0,k1,k2,k3,k4,k5,_⟩ := HT.out.two
       subst hA
       have z3 := hrg.cell k3
       subst h2
       clear hrg k0 k1 k2 k3 k4 k5 hg0
       by_cases ho2 : ob = 1
       ·have ht1 : tb = true := by rw [HTB1.out]; unfold twoB; rw [<- HNB1.out]; simp [kid2,kid1,ho2,Fo.len]
        have bo2 : (ob == 1) = true := by simpa using ho2
        subst ht1
        clear ho2
        go_wp2_with fail
        go_meet
        exact ⟨by first | rfl | rw [bo2],rfl⟩
       ·have ht1 : tb = false := by rw [HTB1.out]; simp [twoB,kid2,kid1,ho2]
        have bo2 : (ob == 1) = false := by simpa using ho2
        subst ht1
        clear ho2
        go_wp2_with fail
        go_meet
        exact ⟨by first | rfl | rw [bo2],rfl⟩
   ·have ht1 : tb = false := by rw [HTB1.out]; have h9 := HL.out; simp [twoB]; intro _ h8; omega
    have bl2 : ((l : Int) == 2) = false := by simp; omega
    subst ht1
    clear h2
    go_wp2_with fail
    go_meet
    exact ⟨by first | rfl | rw [bl2],rfl⟩
 case rest =>
 obtain ⟨rfl,hwc⟩ := hcut
 rw [hwc]
 clear hwc wc
 by_cases h4 : op = 4
 ·subst h4
  obtain ⟨oa,ma,ka,ob,mb,kb,ek,sta,stb,hss⟩ := two_kids HST.out (kids_two (HTT.out.kids HST.out.all.1) (.inl rfl))
  dsimp only at ek
  subst ek
  obtain ⟨g,X,cx,X',cx',b1,b2,cs,hA,_,hg0,hrg,k0,k1,k2,k3,k4,k5,hta,htb,hia,hib,hsa,hsb⟩ := HT.out.two
  subst hA
  have HRG := hid hrg
  have HTB := hid htb
  have HIA := hid (And.intro hia hib)
  have HSB := hid hsb
  have HSAB := hid (And.intro sta stb)
  have HK := hid (And.intro k3 (And.intro k4 k5))
  have z0 := hrg.cell k0
  have z1 := hrg.cell k1
  have z2 := hrg.cell k2
  have z3 := hrg.cell k3
  have z4 := hrg.cell k4
  have z5 := hrg.cell k5
  clear hrg hta htb hia hib sta stb k0 k1 k2 k3 k4 k5 hss hsa hsb
  have q2' : W.cell? ⟨w.heap.size,2,none⟩ = some (.slice (some ⟨g,0,none⟩) 2 c) := HRB.out.cell (i := 2) rfl
  clear q2
  have q2 := q2'
  clear q2'
  have HLL := HL.out
  simp only [Fo.len] at HLL
  subst HLL
  have HTW := hid (show tb = (decide (oa = 1) && (decide (2 = 2) && decide (ob = 1))) from HTB1.out)
  by_cases h12 : oa = 1 /\ ob = 1
  ·obtain ⟨h1,h2⟩ := h12
   subst h1
   subst h2
   have na := num_own (HFM.out _ _ _ HSAB.out.1.all.1)
   have nb9 := num_own (HFM.out _ _ _ HSAB.out.2.all.1)
   dsimp only at na nb9
   have HIV := hid (show I64 1 /\ I64 (foldV 4 ma mb) from ⟨by unfold I64; omega,by have hv := foldV_ok (op := 4) na.1 nb9.1; unfold I64; omega⟩)
   have HGE := hid (show GP = ⟨1,foldV 4 ma mb,Fo.nil⟩ from HGP.out.trans (gFold_num (.inl rfl) rfl rfl))
   have ht1 : tb = true := HTW.out
   subst ht1
   have HV := hid (show foldV 4 ma mb = (ma + mb) % 100 from rfl)
   have hw1 : IntKind.i64.wrap (ma + mb) = ma + mb := by rw [IntKind.wrap_i64] <;> omega
   have hw2 : Int.tmod (ma + mb) 100 = (ma + mb) % 100 := by rw [Int.tmod_eq_emod_of_nonneg]; omega
   rw [HV.out] at HIV HGE
   go_upto_region 4 with fail
   go_wp2_with fail
   go_still_tail 13,(by kernel_rfl)
   change wpList _ _ _ _ _ W.drew
   have HBS := hid (show Below W.heap.size W W.drew from (Below.refl _ _).drew)
   obtain ⟨w5,hw5⟩ : ∃ w5,w5 = W.drew := ⟨_,rfl⟩
   rw [<- hw5] at HBS ⊢
   clear hw5 q0 q1 q2 z0 z1 z2 z3 z4 z5
   obtain ⟨bz,htz,hap⟩ := (show ∃ bz,Tree w5 base (.slice none Fo.nil.len 0) Fo.nil bz /\ w.heap.size + 1 ∉ bz from ⟨[],Tree.none _ _,by simp⟩)
   obtain ⟨⟨c0,c1,c2⟩,⟨f0,f1,f2⟩,⟨r0,r1,r2⟩,hbz,htz2⟩ := box3 (HRR.out.below HBS.out HRR.out.size) (HB0.out.trans (HBS.out.mono HB0.out.size)) (by omega) (1) (((ma + mb) % 100)) (none) (0) (0) htz hap
   have HBZ := hid hbz
   have HTZ := hid htz2
   clear hbz htz2 htz hap
   go_wp2_with fail
   refine bodyPost_ret (v := .agg #[.int .i64 1,.int .i64 ((ma + mb) % 100),.slice none 0 0]) ?_ rfl (by rw [HGE.out]; exact ⟨none,0,bz,rfl,HTZ.out,HBZ.out,HIV.out⟩)
   simp [results,Tryz.f60,go_sem,r0,r1,r2]
  ·have HGE := hid (show GP = ⟨4,n,Fo.cons oa ma ka (Fo.cons ob mb kb Fo.nil)⟩ from HGP.out.trans (gFold_arith (.inl rfl) h12))
   have ht1 : tb = false := by rw [HTW.out]; simp; intro h8 h9; exact h12 ⟨h8,h9⟩
   subst ht1
   go_upto_region 5 with fail
   go_wp2_with fail
   go_quiet (fail)
   have HBS := hid (below_drewN (Below.refl W.heap.size W) nq)
   clear q0 q1 q2 z0 z1 z2 z3 z4 z5
   have q0 := (HRB.out.below HBS.out HRB.out.size).cell (i := 0) rfl
   have q1 := (HRB.out.below HBS.out HRB.out.size).cell (i := 1) rfl
   have q2 : (W.drewN nq).cell? ⟨w.heap.size,2,none⟩ = some (.slice (some ⟨g,0,none⟩) 2 c) := (HRB.out.below HBS.out HRB.out.size).cell (i := 2) rfl
   obtain ⟨bz,htz,hap⟩ := (show ∃ bz,Tree _ base (.slice (some ⟨g,0,none⟩) (Fo.cons oa ma ka (Fo.cons ob mb kb Fo.nil)).len c) (Fo.cons oa ma ka (Fo.cons ob mb kb Fo.nil)) bz /\ w.heap.size + 1 ∉ bz from ⟨bs,(HT.out.over HBS.out),HNB.out⟩)
   obtain ⟨⟨c0,c1,c2⟩,⟨f0,f1,f2⟩,⟨r0,r1,r2⟩,hbz,htz2⟩ := box3 (HRR.out.below HBS.out HRR.out.size) (HB0.out.trans (HBS.out.mono HB0.out.size)) (by omega) (4) (n) ((some ⟨g,0,none⟩)) (2) (c) htz hap
   have HBZ := hid hbz
   have HTZ := hid htz2
   clear hbz htz2 htz hap
   go_wp2_with fail
   refine bodyPost_ret (v := .agg #[.int .i64 4,.int .i64 n,.slice (some ⟨g,0,none⟩) 2 c]) ?_ rfl (by rw [HGE.out]; exact ⟨(some ⟨g,0,none⟩),c,bz,rfl,HTZ.out,HBZ.out,HI.out⟩)
   simp [results,Tryz.f60,go_sem,r0,r1,r2]
 ·by_cases h5 : op = 5
  ·subst h5
   obtain ⟨oa,ma,ka,ob,mb,kb,ek,sta,stb,hss⟩ := two_kids HST.out (kids_two (HTT.out.kids HST.out.all.1) (.inr (.inl rfl)))
   dsimp only at ek
   subst ek
   obtain ⟨g,X,cx,X',cx',b1,b2,cs,hA,_,hg0,hrg,k0,k1,k2,k3,k4,k5,hta,htb,hia,hib,hsa,hsb⟩ := HT.out.two
   subst hA
   have HRG := hid hrg
   have HTB := hid htb
   have HIA := hid (And.intro hia hib)
   have HSB := hid hsb
   have HSAB := hid (And.intro sta stb)
   have HK := hid (And.intro k3 (And.intro k4 k5))
   have z0 := hrg.cell k0
   have z1 := hrg.cell k1
   have z2 := hrg.cell k2
   have z3 := hrg.cell k3
   have z4 := hrg.cell k4
   have z5 := hrg.cell k5
   clear hrg hta htb hia hib sta stb k0 k1 k2 k3 k4 k5 hss hsa hsb
   have q2' : W.cell? ⟨w.heap.size,2,none⟩ = some (.slice (some ⟨g,0,none⟩) 2 c) := HRB.out.cell (i := 2) rfl
   clear q2
   have q2 := q2'
   clear q2'
   have HLL := HL.out
   simp only [Fo.len] at HLL
   subst HLL
   have HTW := hid (show tb = (decide (oa = 1) && (decide (2 = 2) && decide (ob = 1))) from HTB1.out)
   by_cases h12 : oa = 1 /\ ob = 1
   ·obtain ⟨h1,h2⟩ := h12
    subst h1
    subst h2
    have na := num_own (HFM.out _ _ _ HSAB.out.1.all.1)
    have nb9 := num_own (HFM.out _ _ _ HSAB.out.2.all.1)
    dsimp only at na nb9
    have HIV := hid (show I64 1 /\ I64 (foldV 5 ma mb) from ⟨by unfold I64; omega,by have hv := foldV_ok (op := 5) na.1 nb9.1; unfold I64; omega⟩)
    have HGE := hid (show GP = ⟨1,foldV 5 ma mb,Fo.nil⟩ from HGP.out.trans (gFold_num (.inr rfl) rfl rfl))
    have ht1 : tb = true := HTW.out
    subst ht1
    by_cases hlt : ma < mb
    ·have HV := hid (show foldV 5 ma mb = 1 by simp [foldV,hlt])
     have hl2 : decide (ma < mb) = true := by simp [hlt]
     rw [HV.out] at HIV HGE
     go_upto_region 5 with fail
     go_wp2_with fail
     go_quiet (fail)
     have HBS := hid (below_drewN (Below.refl W.heap.size W) nq)
     clear q0 q1 q2 z0 z1 z2 z3 z4 z5
     obtain ⟨bz,htz,hap⟩ := (show ∃ bz,Tree (W.drewN nq) base (.slice none Fo.nil.len 0) Fo.nil bz /\ w.heap.size + 1 ∉ bz from ⟨[],Tree.none _ _,by simp⟩)
     obtain ⟨⟨c0,c1,c2⟩,⟨f0,f1,f2⟩,⟨r0,r1,r2⟩,hbz,htz2⟩ := box3 (HRR.out.below HBS.out HRR.out.size) (HB0.out.trans (HBS.out.mono HB0.out.size)) (by omega) (1) (1) (none) (0) (0) htz hap
     have HBZ := hid hbz
     have HTZ := hid htz2
     clear hbz htz2 htz hap
     go_wp2_with fail
     refine bodyPost_ret (v := .agg #[.int .i64 1,.int .i64 1,.slice none 0 0]) ?_ rfl (by rw [HGE.out]; exact ⟨none,0,bz,rfl,HTZ.out,HBZ.out,HIV.out⟩)
     simp [results,Tryz.f60,go_sem,r0,r1,r2]
    ·have HV := hid (show foldV 5 ma mb = 0 by simp [foldV,hlt])
     have hl2 : decide (ma < mb) = false := by simp [hlt]
     rw [HV.out] at HIV HGE
     go_upto_region 5 with fail
     go_wp2_with fail
     go_quiet (fail)
     have HBS := hid (below_drewN (Below.refl W.heap.size W) nq)
     clear q0 q1 q2 z0 z1 z2 z3 z4 z5
     have q0 := (HRB.out.below HBS.out HRB.out.size).cell (i := 0) rfl
     have q1 := (HRB.out.below HBS.out HRB.out.size).cell (i := 1) rfl
     have q2 : (W.drewN nq).cell? ⟨w.heap.size,2,none⟩ = some (.slice (some ⟨g,0,none⟩) 2 c) := (HRB.out.below HBS.out HRB.out.size).cell (i := 2) rfl
     obtain ⟨bz,htz,hap⟩ := (show ∃ bz,Tree (W.drewN nq) base (.slice none Fo.nil.len 0) Fo.nil bz /\ w.heap.size + 1 ∉ bz from ⟨[],Tree.none _ _,by simp⟩)
     obtain ⟨⟨c0,c1,c2⟩,⟨f0,f1,f2⟩,⟨r0,r1,r2⟩,hbz,htz2⟩ := box3 (HRR.out.below HBS.out HRR.out.size) (HB0.out.trans (HBS.out.mono HB0.out.size)) (by omega) (1) (0) (none) (0) (0) htz hap
     have HBZ := hid hbz
     have HTZ := hid htz2
     clear hbz htz2 htz hap
     go_wp2_with fail
     refine bodyPost_ret (v := .agg #[.int .i64 1,.int .i64 0,.slice none 0 0]) ?_ rfl (by rw [HGE.out]; exact ⟨none,0,bz,rfl,HTZ.out,HBZ.out,HIV.out⟩)
     simp [results,Tryz.f60,go_sem,r0,r1,r2]
   ·have HGE := hid (show GP = ⟨5,n,Fo.cons oa ma ka (Fo.cons ob mb kb Fo.nil)⟩ from HGP.out.trans (gFold_arith (.inr rfl) h12))
    have ht1 : tb = false := by rw [HTW.out]; simp; intro h8 h9; exact h12 ⟨h8,h9⟩
    subst ht1
    go_upto_region 5 with fail
    go_wp2_with fail
    go_quiet (fail)
    have HBS := hid (below_drewN (Below.refl W.heap.size W) nq)
    clear q0 q1 q2 z0 z1 z2 z3 z4 z5
    have q0 := (HRB.out.below HBS.out HRB.out.size).cell (i := 0) rfl
    have q1 := (HRB.out.below HBS.out HRB.out.size).cell (i := 1) rfl
    have q2 : (W.drewN nq).cell? ⟨w.heap.size,2,none⟩ = some (.slice (some ⟨g,0,none⟩) 2 c) := (HRB.out.below HBS.out HRB.out.size).cell (i := 2) rfl
    obtain ⟨bz,htz,hap⟩ := (show ∃ bz,Tree _ base (.slice (some ⟨g,0,none⟩) (Fo.cons oa ma ka (Fo.cons ob mb kb Fo.nil)).len c) (Fo.cons oa ma ka (Fo.cons ob mb kb Fo.nil)) bz /\ w.heap.size + 1 ∉ bz from ⟨bs,(HT.out.over HBS.out),HNB.out⟩)
    obtain ⟨⟨c0,c1,c2⟩,⟨f0,f1,f2⟩,⟨r0,r1,r2⟩,hbz,htz2⟩ := box3 (HRR.out.below HBS.out HRR.out.size) (HB0.out.trans (HBS.out.mono HB0.out.size)) (by omega) (5) (n) ((some ⟨g,0,none⟩)) (2) (c) htz hap
    have HBZ := hid hbz
    have HTZ := hid htz2
    clear hbz htz2 htz hap
    go_wp2_with fail
    refine bodyPost_ret (v := .agg #[.int .i64 5,.int .i64 n,.slice (some ⟨g,0,none⟩) 2 c]) ?_ rfl (by rw [HGE.out]; exact ⟨(some ⟨g,0,none⟩),c,bz,rfl,HTZ.out,HBZ.out,HI.out⟩)
    simp [results,Tryz.f60,go_sem,r0,r1,r2]
  ·have b4 : (op == 4) = false := by simpa using h4
   have b5 : (op == 5) = false := by simpa using h5
   by_cases h6 : op = 6
   ·obtain ⟨oa,ma,ka,ob,mb,kb,oc,mc,kc,ek,sta,stb,stc,hss⟩ := three_kids HST.out (kids_three (by have h9 := HTT.out.kids HST.out.all.1; dsimp only at h9; rw [h6] at h9; exact h9))
    dsimp only at ek
    subst h6
    subst ek
    obtain ⟨g,X,cx,X',cx',X2,cx2,b1,b2,b3,cs,hA,_,hg0,hrg,⟨k0,k1,k2⟩,⟨k3,k4,k5⟩,⟨k6,k7,k8⟩,⟨hta,htb,htc⟩,⟨hia,hib,hic⟩,hsa,hsb,hsc⟩ := HT.out.three
    subst hA
    have HRG := hid hrg
    have HTB := hid htb
    have HTC := hid htc
    have HIA := hid (And.intro hib hic)
    have HSB := hid hsb
    have HSC := hid hsc
    have HK := hid (And.intro k0 (And.intro k1 (And.intro k2 (And.intro k3 (And.intro k4 (And.intro k5 (And.intro k6 (And.intro k7 k8))))))))
    have z0 := hrg.cell k0
    have z1 := hrg.cell k1
    have z2 := hrg.cell k2
    have z3 := hrg.cell k3
    have z4 := hrg.cell k4
    have z5 := hrg.cell k5
    have z6 := hrg.cell k6
    have z7 := hrg.cell k7
    have z8 := hrg.cell k8
    clear hrg hta htb htc hia hib hic sta stb stc k0 k1 k2 k3 k4 k5 k6 k7 k8 hss hsa hsb hsc
    have q2' : W.cell? ⟨w.heap.size,2,none⟩ = some (.slice (some ⟨g,0,none⟩) 3 c) := HRB.out.cell (i := 2) rfl
    clear q2
    have q2 := q2'
    clear q2'
    have HN1 := hid (show nb = decide (oa = 1) from HNB1.out)
    have HG := hid (show GP = (if oa = 1 then (if ma ≠ 0 then ⟨ob,mb,kb⟩ else ⟨oc,mc,kc⟩) else ⟨6,n,Fo.cons oa ma ka (Fo.cons ob mb kb (Fo.cons oc mc kc Fo.nil))⟩) from HGP.out.trans (gFold_if rfl))
    go_upto_region 5 with fail
    go_wp2_with fail
    go_quiet (fail)
    have HBS := hid (below_drewN (Below.refl W.heap.size W) nq)
    clear q0 q1 q2 z0 z1 z2 z3 z4 z5 z6 z7 z8
    have q0 := (HRB.out.below HBS.out HRB.out.size).cell (i := 0) rfl
    have q1 := (HRB.out.below HBS.out HRB.out.size).cell (i := 1) rfl
    have q2 : (W.drewN nq).cell? ⟨w.heap.size,2,none⟩ = some (.slice (some ⟨g,0,none⟩) 3 c) := (HRB.out.below HBS.out HRB.out.size).cell (i := 2) rfl
    have z0 := (HRG.out.below HBS.out HRG.out.size).cell HK.out.1
    have z1 := (HRG.out.below HBS.out HRG.out.size).cell HK.out.2.1
    have z2 := (HRG.out.below HBS.out HRG.out.size).cell HK.out.2.2.1
    have z3 := (HRG.out.below HBS.out HRG.out.size).cell HK.out.2.2.2.1
    have z4 := (HRG.out.below HBS.out HRG.out.size).cell HK.out.2.2.2.2.1
    have z5 := (HRG.out.below HBS.out HRG.out.size).cell HK.out.2.2.2.2.2.1
    have z6 := (HRG.out.below HBS.out HRG.out.size).cell HK.out.2.2.2.2.2.2.1
    have z7 := (HRG.out.below HBS.out HRG.out.size).cell HK.out.2.2.2.2.2.2.2.1
    have z8 := (HRG.out.below HBS.out HRG.out.size).cell HK.out.2.2.2.2.2.2.2.2
    by_cases h1 : oa = 1
    ·have hn1 : nb = true := by rw [HN1.out]; simp [h1]
     subst hn1
     subst h1
     by_cases h0 : ma = 0
     ·subst h0
      have HGE := hid (show GP = ⟨oc,mc,kc⟩ from HG.out.trans rfl)
      obtain ⟨bz,htz,hap⟩ := (show ∃ bz,Tree _ base (.slice X2 kc.len cx2) kc bz /\ w.heap.size + 1 ∉ bz from ⟨b3,(HTC.out.over HBS.out),fun hz => HNB.out (HSC.out _ hz)⟩)
      obtain ⟨⟨c0,c1,c2⟩,⟨f0,f1,f2⟩,⟨r0,r1,r2⟩,hbz,htz2⟩ := box3 (HRR.out.below HBS.out HRR.out.size) (HB0.out.trans (HBS.out.mono HB0.out.size)) (by omega) (oc) (mc) (X2) (kc.len) (cx2) htz hap
      have HBZ := hid hbz
      have HTZ := hid htz2
      clear hbz htz2 htz hap
      go_wp2_with fail
      refine bodyPost_ret (v := .agg #[.int .i64 oc,.int .i64 mc,.slice X2 kc.len cx2]) ?_ rfl (by rw [HGE.out]; exact ⟨X2,cx2,bz,rfl,HTZ.out,HBZ.out,HIA.out.2⟩)
      simp [results,Tryz.f60,go_sem,r0,r1,r2]
     ·have HGE := hid (show GP = ⟨ob,mb,kb⟩ from HG.out.trans (by rw [if_pos rfl,if_pos h0]))
      have bm : (ma != 0) = true := by simpa using h0
      obtain ⟨bz,htz,hap⟩ := (show ∃ bz,Tree _ base (.slice X' kb.len cx') kb bz /\ w.heap.size + 1 ∉ bz from ⟨b2,(HTB.out.over HBS.out),fun hz => HNB.out (HSB.out _ hz)⟩)
      obtain ⟨⟨c0,c1,c2⟩,⟨f0,f1,f2⟩,⟨r0,r1,r2⟩,hbz,htz2⟩ := box3 (HRR.out.below HBS.out HRR.out.size) (HB0.out.trans (HBS.out.mono HB0.out.size)) (by omega) (ob) (mb) (X') (kb.len) (cx') htz hap
      have HBZ := hid hbz
      have HTZ := hid htz2
      clear hbz htz2 htz hap
      go_wp2_with fail
      refine bodyPost_ret (v := .agg #[.int .i64 ob,.int .i64 mb,.slice X' kb.len cx']) ?_ rfl (by rw [HGE.out]; exact ⟨X',cx',bz,rfl,HTZ.out,HBZ.out,HIA.out.1⟩)
      simp [results,Tryz.f60,go_sem,r0,r1,r2]
    ·have HGE := hid (show GP = ⟨6,n,Fo.cons oa ma ka (Fo.cons ob mb kb (Fo.cons oc mc kc Fo.nil))⟩ from HG.out.trans (if_neg h1))
     have hn1 : nb = false := by rw [HN1.out]; simp [h1]
     subst hn1
     obtain ⟨bz,htz,hap⟩ := (show ∃ bz,Tree _ base (.slice (some ⟨g,0,none⟩) (Fo.cons oa ma ka (Fo.cons ob mb kb (Fo.cons oc mc kc Fo.nil))).len c) (Fo.cons oa ma ka (Fo.cons ob mb kb (Fo.cons oc mc kc Fo.nil))) bz /\ w.heap.size + 1 ∉ bz from ⟨bs,(HT.out.over HBS.out),HNB.out⟩)
     obtain ⟨⟨c0,c1,c2⟩,⟨f0,f1,f2⟩,⟨r0,r1,r2⟩,hbz,htz2⟩ := box3 (HRR.out.below HBS.out HRR.out.size) (HB0.out.trans (HBS.out.mono HB0.out.size)) (by omega) (6) (n) ((some ⟨g,0,none⟩)) (3) (c) htz hap
     have HBZ := hid hbz
     have HTZ := hid htz2
     clear hbz htz2 htz hap
     go_wp2_with fail
     refine bodyPost_ret (v := .agg #[.int .i64 6,.int .i64 n,.slice (some ⟨g,0,none⟩) 3 c]) ?_ rfl (by rw [HGE.out]; exact ⟨(some ⟨g,0,none⟩),c,bz,rfl,HTZ.out,HBZ.out,HI.out⟩)
     simp [results,Tryz.f60,go_sem,r0,r1,r2]
   ·have b6 : (op == 6) = false := by simpa using h6
    by_cases h8 : op = 8
    ·subst h8
     obtain ⟨oa,ma,ka,ob,mb,kb,ek,sta,stb,hss⟩ := two_kids HST.out (kids_two (HTT.out.kids HST.out.all.1) (.inr (.inr (.inr rfl))))
     dsimp only at ek
     subst ek
     obtain ⟨g,X,cx,X',cx',b1,b2,cs,hA,_,hg0,hrg,k0,k1,k2,k3,k4,k5,hta,htb,hia,hib,hsa,hsb⟩ := HT.out.two
     subst hA
     have HRG := hid hrg
     have HTB := hid htb
     have HIA := hid (And.intro hia hib)
     have HSB := hid hsb
     have HK9 := hid (And.intro k0 (And.intro k1 k2))
     have HK := hid (And.intro k3 (And.intro k4 k5))
     have z0 := hrg.cell k0
     have z1 := hrg.cell k1
     have z2 := hrg.cell k2
     have z3 := hrg.cell k3
     have z4 := hrg.cell k4
     have z5 := hrg.cell k5
     clear hrg hta htb hia hib sta stb k0 k1 k2 k3 k4 k5 hss hsa hsb
     have q2' : W.cell? ⟨w.heap.size,2,none⟩ = some (.slice (some ⟨g,0,none⟩) 2 c) := HRB.out.cell (i := 2) rfl
     clear q2
     have q2 := q2'
     clear q2'
     have HLL := HL.out
     simp only [Fo.len] at HLL
     subst HLL
     have HG := hid (show GP = if atomB oa ka = true then ⟨ob,mb,kb⟩ else ⟨8,n,Fo.cons oa ma ka (Fo.cons ob mb kb Fo.nil)⟩ from HGP.out.trans (gFold_seq rfl))
     obtain ⟨at0,hat⟩ : ∃ at0,at0 = atomB oa ka := ⟨_,rfl⟩
     rw [<- hat] at HG
     have HATE := hid hat
     clear hat
     go_upto_region 5 with fail
     go_wp2_with fail
     go_quiet (fail)
     have HBS := hid (below_drewN (Below.refl W.heap.size W) nq)
     clear q0 q1 q2 z0 z1 z2 z3 z4 z5
     have q0 := (HRB.out.below HBS.out HRB.out.size).cell (i := 0) rfl
     have q1 := (HRB.out.below HBS.out HRB.out.size).cell (i := 1) rfl
     have q2 : (W.drewN nq).cell? ⟨w.heap.size,2,none⟩ = some (.slice (some ⟨g,0,none⟩) 2 c) := (HRB.out.below HBS.out HRB.out.size).cell (i := 2) rfl
     have z0 := (HRG.out.below HBS.out HRG.out.size).cell HK9.out.1
     have z1 := (HRG.out.below HBS.out HRG.out.size).cell HK9.out.2.1
     have z2 := (HRG.out.below HBS.out HRG.out.size).cell HK9.out.2.2
     have HAT := hid (specAtom_any oa ma ka X cx (W.drewN nq))
     rw [<- HATE.out] at HAT
     obtain ⟨w4,hw4⟩ : ∃ w4,w4 = W.drewN nq := ⟨_,rfl⟩
     rw [<- hw4] at q0 q1 q2 z0 z1 z2 HAT HBS ⊢
     clear hw4
     go_wp2_with fail
     refine HAT.out.mono ?_
     rintro e w5 ⟨rfl,hb5⟩
     have HB5 := onB HBS hb5
     clear hb5 HAT q0 q1 q2 z0 z1 z2
     have HRG5 := onR HRG HB5.out
     have q0 := (HRB.out.below HB5.out HRB.out.size).cell (i := 0) rfl
     have q1 := (HRB.out.below HB5.out HRB.out.size).cell (i := 1) rfl
     have q2 : w5.cell? ⟨w.heap.size,2,none⟩ = some (.slice (some ⟨g,0,none⟩) 2 c) := (HRB.out.below HB5.out HRB.out.size).cell (i := 2) rfl
     have z3 := HRG5.out.cell HK.out.1
     have z4 := HRG5.out.cell HK.out.2.1
     have z5 := HRG5.out.cell HK.out.2.2
     cases at0 with
     | false =>
      have HGE := hid (show GP = ⟨8,n,Fo.cons oa ma ka (Fo.cons ob mb kb Fo.nil)⟩ from HG.out.trans (if_neg (by simp)))
      obtain ⟨bz,htz,hap⟩ := (show ∃ bz,Tree _ base (.slice (some ⟨g,0,none⟩) (Fo.cons oa ma ka (Fo.cons ob mb kb Fo.nil)).len c) (Fo.cons oa ma ka (Fo.cons ob mb kb Fo.nil)) bz /\ w.heap.size + 1 ∉ bz from ⟨bs,(HT.out.over HB5.out),HNB.out⟩)
      obtain ⟨⟨c0,c1,c2⟩,⟨f0,f1,f2⟩,⟨r0,r1,r2⟩,hbz,htz2⟩ := box3 (HRR.out.below HB5.out HRR.out.size) (HB0.out.trans (HB5.out.mono HB0.out.size)) (by omega) (8) (n) ((some ⟨g,0,none⟩)) (2) (c) htz hap
      have HBZ := hid hbz
      have HTZ := hid htz2
      clear hbz htz2 htz hap
      go_wp2_with fail
      refine bodyPost_ret (v := .agg #[.int .i64 8,.int .i64 n,.slice (some ⟨g,0,none⟩) 2 c]) ?_ rfl (by rw [HGE.out]; exact ⟨(some ⟨g,0,none⟩),c,bz,rfl,HTZ.out,HBZ.out,HI.out⟩)
      simp [results,Tryz.f60,go_sem,r0,r1,r2]
     | true =>
      have HGE := hid (show GP = ⟨ob,mb,kb⟩ from HG.out.trans (if_pos rfl))
      obtain ⟨bz,htz,hap⟩ := (show ∃ bz,Tree _ base (.slice X' kb.len cx') kb bz /\ w.heap.size + 1 ∉ bz from ⟨b2,(HTB.out.over HB5.out),fun hz => HNB.out (HSB.out _ hz)⟩)
      obtain ⟨⟨c0,c1,c2⟩,⟨f0,f1,f2⟩,⟨r0,r1,r2⟩,hbz,htz2⟩ := box3 (HRR.out.below HB5.out HRR.out.size) (HB0.out.trans (HB5.out.mono HB0.out.size)) (by omega) (ob) (mb) (X') (kb.len) (cx') htz hap
      have HBZ := hid hbz
      have HTZ := hid htz2
      clear hbz htz2 htz hap
      go_wp2_with fail
      refine bodyPost_ret (v := .agg #[.int .i64 ob,.int .i64 mb,.slice X' kb.len cx']) ?_ rfl (by rw [HGE.out]; exact ⟨X',cx',bz,rfl,HTZ.out,HBZ.out,HIA.out.2⟩)
      simp [results,Tryz.f60,go_sem,r0,r1,r2]
    ·have b8 : (op == 8) = false := by simpa using h8
     have HGE := hid (show GP = ⟨op,n,k⟩ from HGP.out.trans (gFold_other h4 h5 h6 h8))
     go_upto_region 5 with fail
     go_wp2_with fail
     go_quiet (fail)
     have HBS := hid (below_drewN (Below.refl W.heap.size W) nq)
     clear q0 q1 q2
     obtain ⟨q0,q1,q2⟩ := (HRB.out.below HBS.out HRB.out.size).cells3 rfl rfl rfl
     obtain ⟨bz,htz,hap⟩ := (show ∃ bz,Tree _ base (.slice A (k).len c) (k) bz /\ w.heap.size + 1 ∉ bz from ⟨bs,(HT.out.over HBS.out),HNB.out⟩)
     obtain ⟨⟨c0,c1,c2⟩,⟨f0,f1,f2⟩,⟨r0,r1,r2⟩,hbz,htz2⟩ := box3 (HRR.out.below HBS.out HRR.out.size) (HB0.out.trans (HBS.out.mono HB0.out.size)) (by omega) (op) (n) (A) (k.len) (c) htz hap
     have HBZ := hid hbz
     have HTZ := hid htz2
     clear hbz htz2 htz hap
     go_wp2_with fail
     refine bodyPost_ret (v := .agg #[.int .i64 op,.int .i64 n,.slice A k.len c]) ?_ rfl (by rw [HGE.out]; exact ⟨A,c,bz,rfl,HTZ.out,HBZ.out,HI.out⟩)
     simp [results,Tryz.f60,go_sem,r0,r1,r2]
set_option maxHeartbeats 8000000 in
theorem specFold_any {T : Int -> Int -> Nat -> Prop} (hT : LocalT T) (hF : ∀ (op n : Int) (l : Nat),T op n l -> formT op n l) (hN : ∀ v : Int,0 <= v -> v <= 99 -> T 1 v 0) (m : Nat) : ∀ (L : Nat) (op n : Int) (k : Fo) (A : Option Addr) (c : Nat) (w : World),k.size = m -> St T L ⟨op,n,k⟩ -> Lies w 0 w.heap.size A 0 k -> I64 op /\ I64 n ->
  Calls Tryz.prog 34 #[.agg #[.int .i64 op,.int .i64 n,.slice A k.len c]] w (Turns (chgN gFold L ⟨op,n,k⟩) w.heap.size w) := by
 induction m using Nat.strongRecOn with
 | _ m ih =>
  intro L op n k A c w hm hst hl hi
  have hlen := Fo.len_le_size k
  obtain ⟨W,hW⟩ : ∃ W,W = ((w.alloc (Obj.cells #[.int .i64 op,.int .i64 n,.slice A k.len c] 30)).alloc (Obj.cells #[.int .i64 0,.int .i64 0,.slice none 0 0] 30)).alloc (Obj.cells #[.int .i64 op,.int .i64 n,.slice none 0 0] 30) := ⟨_,rfl⟩
  have hr0 := (Row.fresh w 30 #[.int .i64 op,.int .i64 n,.slice A k.len c]).alloc (Obj.cells #[.int .i64 0,.int .i64 0,.slice none 0 0] 30)
  obtain ⟨q0,q1,q2⟩ := hr0.cells3 rfl rfl rfl
  have hr1 : Row W (w.heap.size + 1 + 1) 30 #[.int .i64 op,.int .i64 n,.slice none 0 0] := by
   rw [hW]
   have := Row.fresh ((w.alloc (Obj.cells #[.int .i64 op,.int .i64 n,.slice A k.len c] 30)).alloc (Obj.cells #[.int .i64 0,.int .i64 0,.slice none 0 0] 30)) 30 #[.int .i64 op,.int .i64 n,.slice none 0 0]
   simp only [World.size_alloc] at this
   exact this
  have hr2 : Row W (w.heap.size + 1) 30 #[.int .i64 0,.int .i64 0,.slice none 0 0] := by
   rw [hW]
   have := Row.fresh (w.alloc (Obj.cells #[.int .i64 op,.int .i64 n,.slice A k.len c] 30)) 30 #[.int .i64 0,.int .i64 0,.slice none 0 0]
   rw [World.size_alloc] at this
   exact this.alloc _
  have hbW : Below w.heap.size w W := by rw [hW]; exact (((Below.refl _ _).alloc (Nat.le_refl _) _).alloc (by simp) _).alloc (by simp; omega) _
  have HR1 := hid hr1
  have HR2 := hid hr2
  have HR0 := hid (show Row W w.heap.size 30 #[.int .i64 op,.int .i64 n,.slice A k.len c] by rw [hW]; exact hr0.alloc _)
  have HBW := hid hbW
  have HST0 := hid hst
  have HTT := hid hT
  have HFM := hid hF
  have HNN := hid hN
  have hks : k.size <= 1048576 := by have := hst.size; dsimp only at this; omega
  clear hr1 hr2 hbW
  go_enter Tryz.func34,Tryz.ntmps34
  go_wp2_with fail
  clear q0 q1 q2 hr0
  rw [<- hW]
  clear hW
  go_loopw [4] (fun i wr => Round k (chgF gFold (L - 1)) op n (w.heap.size + 1 + 1 + 1) (w.heap.size + 1 + 1) w i wr /\ Row wr (w.heap.size + 1) 30 #[.int .i64 0,.int .i64 0,.slice none 0 0] /\ Row wr w.heap.size 30 #[.int .i64 op,.int .i64 n,.slice A k.len c])
   (fun i _ => k.len - (intOf i).toNat)
  case atStart => exact ⟨⟨0,.nil,none,0,[],Nat.zero_le _,rfl,rfl,by rw [Fo.drop_zero]; rfl,HR1.out,Tree.none _ _,HBW.out⟩,HR2.out,HR0.out⟩
  case round =>
   clear HR1 HR2 HBW HR0
   obtain ⟨⟨j,pre,A1,c1',bs,hj,rfl,hpl,hpre,hrow,ht,hb⟩,hres,hre⟩ := hrel
   have hwz := hrow.size
   by_cases hlt : j < k.len
   ·obtain ⟨o1,m1,k1,e1,e2,e3⟩ := Fo.drop_of_lt k j hlt
    have hj' := (hl.below hb).at_ j
    rw [Nat.zero_add,e1] at hj'
    obtain ⟨⟨b,o,A',c',hA,_,hbb,i1,i2,g1,g2,g3,h1,h2,h3⟩,_⟩ := hj'
    subst hA
    have hbb2 : b < wr.heap.size := Nat.lt_of_lt_of_le hbb hb.size
    have hzr : w.heap.size < wr.heap.size := hre.size
    have q2 : wr.drew.cell? ⟨w.heap.size,2,none⟩ = some (.slice (some ⟨b,o,none⟩) k.len c) := hre.cell (i := 2) rfl
    have r2 : wr.cell? ⟨w.heap.size,2,none⟩ = some (.slice (some ⟨b,o,none⟩) k.len c) := hre.cell (i := 2) rfl
    have q3 : wr.drew.cell? ⟨w.heap.size + 1 + 1,2,none⟩ = some (.slice A1 pre.len c1') := hrow.cell (i := 2) rfl
    have hza : w.heap.size + 1 + 1 < wr.drew.heap.size := hrow.size
    have hla : Lies wr.drew 0 wr.drew.heap.size A' 0 k1 := (h3.below ((Below.refl wr.heap.size wr).drew.mono hb.size)).mono_ (Nat.le_refl _) hb.size
    have p1 : wr.drew.cell? ⟨b,o + j * 3,none⟩ = some (.int .i64 o1) := g1
    have p2 : wr.drew.cell? ⟨b,o + j * 3 + 1,none⟩ = some (.int .i64 m1) := g2
    have p3 : wr.drew.cell? ⟨b,o + j * 3 + 2,none⟩ = some (.slice A' k1.len c') := g3
    have hbd : Below w.heap.size w wr.drew := hb.drew
    obtain ⟨q,hq⟩ : ∃ q,q = chgN gFold (L - 1) ⟨o1,m1,k1⟩ := ⟨_,rfl⟩
    have hki := (st_rule (keeps_fold HTT.out (fun {op n l} h => HFM.out op n l h) HNN.out)).kid HST0.out j o1 m1 k1 _ e1
    have hc := ih k1.size (by omega) (L - 1) o1 m1 k1 A' c' wr.drew rfl hki hla ⟨i1,i2⟩
    rw [<- hq] at hc
    have HC := hid hc
    have HQ := hid hq
    have HT := hid ht
    have HB := hid hb
    have HROW := hid hrow
    have HRES := hid hres
    have HRE := hid hre
    have HPRE := hid hpre
    have HPL := hid hpl
    have HWR := hid (show w.heap.size + 1 + 1 + 1 <= wr.heap.size from hwz)
    have hbox : ∀ g,(Value.slice A1 pre.len c1').ownBlock = some g -> w.heap.size + 1 + 1 + 1 <= g /\ g < wr.heap.size := fun g hg => by
     obtain ⟨st,b1,k1',k2',rfl,_⟩ := ht
     exact blk_lt k1' (by unfold blkV; rw [hg]; simp)
    have HBOX := hid hbox
    have HE := hid e1
    have hpl2 : pre.len <= 1048576 := by omega
    clear hrow ht hb hres hre hpre hla h3 hl ih i1 i2 e1 hpl hbox g1 g2 g3 hc hq hbd hst hki
    go_wp2_with fail
    go_region_law (first
      |(refine step_push rfl (.tmp 18) (.tmp 25) rfl (w.heap.size + 1 + 1 + 1) (.slice A1 pre.len c1') pre bs b5 q.op q.n q.k A5 c5 rfl rfl HT5.out HK5.out HI5.out HD5.out hpl2 HZ5.out ?_
        intro v6 w6 bs6 ht6 hg6 hin6
        obtain ⟨A6,c6,rfl,hc61,hc62⟩ := ht6.slice
        have hne : ∀ g,(g < w.heap.size + 1 + 1 + 1 ∨ wr.heap.size <= g) -> some g ≠ (Value.slice A1 pre.len c1').ownBlock := fun g hg e => by have := HBOX.out g e.symm; omega
        have hr6 := row_grown HROW5.out hg6 (hne _ (.inl (Nat.lt_succ_self _)))
        have hre6 := row_grown HRE5.out hg6 (hne _ (.inl (by omega)))
        have u3 : w6.cell? ⟨w.heap.size + 1 + 1,2,none⟩ = some (.slice A1 pre.len c1') := hr6.cell (i := 2) rfl
        have f3 := hr6.free 2
        have HR6 := hid hr6
        have HRES6 := hid (row_grown HRES5.out hg6 (hne _ (.inl (Nat.lt_succ_of_lt (Nat.lt_succ_self _)))))
        have HT6 := hid ht6
        have HB6 := hid (Below.grown HB5.out hg6 HB5.out.size (fun g' hg' => by have := HBOX.out g' hg'; omega))
        have HRE6 := hid hre6
        clear hr6 hre6 ht6 hg6 hin6 hne hc61 hc62)
      |(refine step_call (f := 34) rfl (by kernel_rfl) HC.out ?_
        rintro e w5 ⟨A5,c5,b5,rfl,ht5,hb5,hi5⟩
        refine ⟨_,rfl, ?_⟩
        have HI5 := hid hi5
        have y3 : w5.cell? ⟨w.heap.size + 1 + 1,2,none⟩ = some (.slice A1 pre.len c1') := (hb5.cell (p := ⟨w.heap.size + 1 + 1,2,none⟩) hza).trans q3
        have bz := (Below.refl w5.heap.size w5).alloc (Nat.le_refl _) (Obj.cells #[.int .i64 q.op,.int .i64 q.n,.slice A5 q.k.len c5] 30)
        have z3 : (w5.alloc (Obj.cells #[.int .i64 q.op,.int .i64 q.n,.slice A5 q.k.len c5] 30)).cell? ⟨w.heap.size + 1 + 1,2,none⟩ = some (.slice A1 pre.len c1') := (bz.cell (p := ⟨w.heap.size + 1 + 1,2,none⟩) (Nat.lt_of_lt_of_le hza hb5.size)).trans y3
        have HT5 := hid (HT.out.over (((Below.refl _ _).drew).trans hb5))
        have HK5 := hid (ht5.lower (base' := w.heap.size + 1 + 1 + 1) HWR.out)
        have HD5 := hid (show ∀ b,b ∈ bs -> b ∈ b5 -> False from fun q h1 h2 => by
         have e1 := (HT.out.lt q h1).2
         have e2 := (ht5.lt q h2).1
         have e4 : wr.heap.size <= q := e2
         omega)
        have HZ5 := hid (Nat.le_trans HWR.out hb5.size)
        have HROW5 := hid ((HROW.out.drew).below hb5 hza)
        have HRES5 := hid ((HRES.out.drew).below hb5 (Nat.lt_of_lt_of_le HRES.out.size (Nat.le_refl _)))
        have HRE5 := hid ((HRE.out.drew).below hb5 (Nat.lt_of_lt_of_le HRE.out.size (Nat.le_refl _)))
        have HB5 := hid (HB.out.trans (((Below.refl _ _).drew.trans hb5).mono HB.out.size))
        clear ht5 hb5 bz hi5))
    all_goals
     go_wp2_with fail
     go_roundw
     case rel =>
      have hr7 := HR6.out.put 2 (.slice A6 (pre.snoc q.op q.n q.k).len c6)
      have ht7 : Tree (w6.setCell ⟨w.heap.size + 1 + 1,2,none⟩ (.slice A6 (pre.snoc q.op q.n q.k).len c6)) (w.heap.size + 1 + 1 + 1) (.slice A6 (pre.snoc q.op q.n q.k).len c6) (pre.snoc q.op q.n q.k) bs6 :=
       HT6.out.keep fun q hq => Below.heap_setCell w6 _ _ q (by have := (HT6.out.lt q hq).1; dsimp only; omega)
      refine ⟨⟨j + 1,pre.snoc q.op q.n q.k,A6,c6,bs6,hlt,by go_num,by rw [Fo.snoc_len,HPL.out], ?_,hr7,ht7,HB6.out.setCell (by dsimp only; omega) _⟩,HRES6.out.apart (by simp) _,HRE6.out.apart (by dsimp only; omega) _⟩
      have := HPRE.out
      rw [HE.out,chgF_cons, <- HQ.out] at this
      rw [Fo.snoc_app]
      exact this
     case measure => simp [intOf]; omega
   ·have e9 : j = k.len := by omega
    rw [e9,Fo.drop_len] at hpre
    have hpk : pre = (chgF gFold (L - 1)) k := (Fo.app_nil pre).symm.trans hpre
    have hpl9 : pre.len = k.len := hpl.trans e9
    have hKF := keeps_fold HTT.out (fun {op n l} h => HFM.out op n l h) HNN.out
    have hq0 := (midN_st hKF HST0.out).1
    unfold midN at hq0
    dsimp only at hq0
    rw [<- hpk] at hq0
    obtain ⟨GP,hGP⟩ : ∃ GP,GP = gFold L ⟨op,n,pre⟩ := ⟨_,rfl⟩
    have hGG : chgN gFold L ⟨op,n,k⟩ = GP := by rw [hGP,hpk]; rfl
    have hcs := step_any HTT.out HFM.out L op n pre A1 c1' (w.heap.size + 1 + 1 + 1) bs wr hq0 hi ht (Nat.le_of_lt_succ (Nat.lt_succ_of_le hwz))
    rw [<- hGP] at hcs
    have HC := hid hcs
    have HRR := hid hres
    have HB0 := hid hb
    have HGG := hid hGG
    obtain ⟨q0,q1,q2⟩ := hrow.cells3 rfl rfl rfl
    have HEX := hid (show wr.cell? ⟨w.heap.size,2,none⟩ = some (.slice A k.len c) from hre.cell (i := 2) rfl)
    clear hrow ht hb hres hpre hpk hq0 hl ih hGP hGG hpl hpl9 hi hcs hKF
    have s2 := HEX.out
    go_upto_region 6 with fail
    clear s2 hlt e9 hj hre HEX
    go_wp2_with fail
    refine HC.out.mono ?_
    rintro e w5 ⟨A5,c5,b5,rfl,ht5,hb5,hi5⟩
    have HB5 := hid hb5
    have HT5 := hid ht5
    have HI5 := hid hi5
    clear ht5 hb5 hi5 HC q0 q1 q2
    obtain ⟨bz,htz,hap⟩ := (show ∃ bz,Tree w5 w.heap.size (.slice A5 GP.k.len c5) GP.k bz /\ w.heap.size + 1 ∉ bz from ⟨b5,HT5.out.lower (by omega),fun hz => by have := (HT5.out.lt _ hz).1; omega⟩)
    obtain ⟨⟨c0,c1,c2⟩,⟨f0,f1,f2⟩,⟨r0,r1,r2⟩,hbz,htz2⟩ := box3 (HRR.out.below HB5.out HRR.out.size) (HB0.out.trans (HB5.out.mono HB0.out.size)) (by omega) (GP.op) (GP.n) (A5) (GP.k.len) (c5) htz hap
    have HBZ := hid hbz
    have HTZ := hid htz2
    clear hbz htz2 htz hap
    go_wp2_with fail
    refine bodyPost_ret (v := .agg #[.int .i64 GP.op,.int .i64 GP.n,.slice A5 GP.k.len c5]) ?_ rfl (by rw [HGG.out]; exact ⟨A5,c5,bz,rfl,HTZ.out,HBZ.out,HI5.out⟩)
    simp [results,Tryz.f34,go_sem,r0,r1,r2]
end Go.Proofs.YtmnhoeliofojnaaGreatDoor
