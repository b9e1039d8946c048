import Derived.Test.YtmnhoeliofojnaaGreatDoorVisit
namespace Go.Proofs.YtmnhoeliofojnaaGreatDoor
open Go.RowKit Go.Shelf
open Go.Lib (hid)
set_option maxRecDepth 100000
theorem dep_le : ∀ k : Fo,k.dep <= k.size
 | .nil => Nat.zero_le _
 | .cons _ _ k r => by
  have h1 := dep_le k
  have h2 := dep_le r
  simp only [Fo.dep,Fo.size]
  omega
theorem dep_drop : ∀ {k : Fo} (j : Nat) {o m : Int} {k1 r : Fo},k.drop j = .cons o m k1 r -> (k.drop j).dep = max (k1.dep + 1) (k.drop (j + 1)).dep
 | .nil,0,_,_,_,_,e => by cases e
 | .nil,_ + 1,_,_,_,_,e => by cases e
 | .cons _ _ _ _,0,_,_,_,_,e => by
  cases e
  simp only [Fo.drop,Fo.dep]
  try rfl
  try omega
 | .cons _ _ _ r,j + 1,_,_,_,_,e => dep_drop (k := r) j e
set_option maxHeartbeats 4000000 in
theorem depthOf_any (m : Nat) : ∀ (op n : Int) (k : Fo) (A : Option Addr) (c : Nat) (w : World),k.size = m -> k.size <= 1048576 -> Lies w 0 w.heap.size A 0 k ->
  Calls Tryz.prog 79 #[.agg #[.int .i64 op,.int .i64 n,.slice A k.len c]] w (Gives (.int .i64 ((k.dep + 1 : Nat) : Int)) w) := by
 induction m using Nat.strongRecOn with
 | _ m ih =>
  intro op n k A c w hm hsz hl
  have hlen := Fo.len_le_size k
  have hdep := dep_le k
  obtain ⟨hb1,hr1⟩ := one_box w 30 #[Value.int .i64 op,Value.int .i64 n,Value.slice A k.len c]
  obtain ⟨q0,q1,q2⟩ := hr1.three
  have HB := hid hb1
  clear hb1 hr1
  go_enter Tryz.func79,Tryz.ntmps79
  go_wp2_with fail
  clear q0 q1 q2
  go_loopw [3,9] (fun s i wr => ∃ (j a : Nat),j <= k.len /\ i = .int .i64 j /\ s = .int .i64 (a : Int) /\ Hid (max a (k.drop j).dep = k.dep) /\ Below w.heap.size w wr)
   (fun _ i _ => k.len - (intOf i).toNat)
  case atStart => exact ⟨0,0,Nat.zero_le _,rfl,rfl,hid (by rw [Fo.drop_zero]; omega),HB.out⟩
  case round =>
   clear HB
   obtain ⟨j,a,hj,rfl,rfl,HF,hb⟩ := hrel
   by_cases hlt : j < k.len
   ·obtain ⟨o1,m1,k1,e1,s1,_⟩ := Fo.drop_of_lt k j hlt
    obtain ⟨b,o,A1,c1,hA,g1,g2,g3,h1,h2,l1,hLb,hbB⟩ := kid_cells (hl.below hb) e1
    subst hA
    have hbx := (Below.refl wr.heap.size wr).alloc (Nat.le_refl _) (Obj.cells #[Value.int .i64 o1,Value.int .i64 m1,Value.slice A1 k1.len c1] 30)
    have HRK := hid (Row.fresh wr 30 #[Value.int .i64 o1,Value.int .i64 m1,Value.slice A1 k1.len c1])
    have HBX := hid (hb.trans (hbx.mono hb.size))
    have HC := hid (ih k1.size (by omega) o1 m1 k1 A1 c1 _ rfl (by omega) ((l1.below (hbx.mono hb.size)).mono_ (Nat.le_refl _) HBX.out.size))
    obtain ⟨d,hd⟩ : ∃ d,d = k1.dep + 1 := ⟨_,rfl⟩
    rw [<- hd] at HC
    have hmx : max (max a d) (k.drop (j + 1)).dep = k.dep := by
     have := HF.out
     rw [dep_drop j e1, <- hd] at this
     omega
    have HMX := hid hmx
    obtain ⟨y0,y1,y2⟩ := HRK.out.three
    clear hb hbx HF hd hmx s1 e1 h1 h2 l1 hl ih HRK
    go_wp2_with fail
    refine HC.out.mono ?_
    rintro e w2 ⟨rfl,hb2⟩
    have HB2 := onB HBX hb2
    clear hb2 HC HBX g1 g2 g3 y0 y1 y2
    by_cases hx : a < d
    ·have HM2 := hid (show max d (k.drop (j + 1)).dep = k.dep from by have := HMX.out; omega)
     have hx2 : (a : Int) < (d : Int) := by omega
     go_wp2
     go_roundw
     case rel => exact ⟨j + 1,d,hlt,by go_num,by first | rfl | simp [hx],HM2,HB2.out⟩
     case measure => simp [intOf]; omega
    ·have HM2 := hid (show max a (k.drop (j + 1)).dep = k.dep from by have := HMX.out; omega)
     have hx2 : ¬ (a : Int) < (d : Int) := by omega
     go_wp2
     go_roundw
     case rel => exact ⟨j + 1,a,hlt,by go_num,by first | rfl | simp [hx],HM2,HB2.out⟩
     case measure => simp [intOf]; omega
   ·have e9 : j = k.len := by omega
    have e8 : a = k.dep := by
     have := HF.out
     rw [e9,Fo.drop_len] at this
     simp only [Fo.dep] at this
     omega
    subst e8
    clear HF
    go_wp2
    go_ret
    exact ⟨ret_int (by omega),hb⟩
end Go.Proofs.YtmnhoeliofojnaaGreatDoor
