/-
  Lists of lists of numbers: eqIntSS; markIntSS and heldIntSS over one of the call's own.
-/
import Derived.Test.YtccclkfkbefoaaaSs
import Derived.Test.YtccclkfkbefoaaaNodeM
import Derived.Test.YtccclkfkbefoaaaMk
namespace Go.Proofs.Ytccclkfkbefoaaa
open Go.RowKit
set_option maxRecDepth 100000

theorem flat_at : ∀ {zss : List (List Int)} {j : Nat} {zs : List Int}, zss[j]? = some zs → (zss.take j).flatten.length + zs.length ≤ zss.flatten.length
  | [], j, zs, h => by simp at h
  | z :: r, 0, zs, h => by simp at h; subst h; simp
  | z :: r, j + 1, zs, h => by
    have := flat_at (zss := r) (j := j) (by simpa using h)
    simp only [List.take_succ_cons, List.flatten_cons, List.length_append]
    omega
theorem flat_next : ∀ {zss : List (List Int)} {j : Nat} {zs : List Int}, zss[j]? = some zs → (zss.take (j + 1)).flatten.length = (zss.take j).flatten.length + zs.length := by
  intro zss j zs h
  rw [List.take_add_one, h]
  simp

set_option maxHeartbeats 1000000 in
theorem eqIntSS_any (zss : List (List Int)) (A A2 : Option Addr) (c c2 : Nat) (w : World) (hl : LiesSS w 0 w.heap.size A zss) (hl2 : LiesSS w 0 w.heap.size A2 zss) (hn : zss.length ≤ 1048576) (hf : zss.flatten.length ≤ 1048576) :
    Calls Try.prog 22 #[.slice A zss.length c, .slice A2 zss.length c2] w (Gives (.bool true) w) := by
  go_enter Try.func22, Try.ntmps22
  go_wp2
  go_loopw [5] (fun i wr => ∃ (j : Nat), j ≤ zss.length ∧ i = .int .i64 (j : Int) ∧ Below w.heap.size w wr)
    (fun i _ => zss.length - (intOf i).toNat)
  case atStart => exact ⟨0, by omega, rfl, Below.refl _ _⟩
  case round =>
    obtain ⟨j, hj, rfl, hb⟩ := hrel
    by_cases hlt : j < zss.length
    · have e1 := List.getElem?_eq_getElem hlt
      generalize zss[j] = zs at e1
      have e3 := flat_at e1
      obtain ⟨b, o, A', c', hA, _, hbb, g1, h1⟩ := hl j zs e1
      obtain ⟨b', o', B', d', hA', _, hbb', g1', h1'⟩ := hl2 j zs e1
      subst hA hA'
      have q1 := (hb.cell (p := ⟨b, o + j, none⟩) hbb).trans g1
      have q2 := (hb.cell (p := ⟨b', o' + j, none⟩) hbb').trans g1'
      clear e1 g1 g1'
      go_wp2_with fail
      go_still_tail 8, (by kernel_rfl)
      change wpList _ _ _ _ _ wr.drew
      have hb' : Below w.heap.size w wr.drew := hb.drew
      go_wp2_with fail
      refine (eqIntS_any zs A' B' c' d' wr.drew (h1.up hb') (h1'.up hb') (by omega)).mono ?_
      rintro e w2 ⟨rfl, hb2⟩
      have hb3 := hb'.trans (hb2.mono hb'.size)
      clear q1 q2 hb hb' hb2
      go_wp2
      go_roundw
      case rel => exact ⟨j + 1, by omega, by go_num, hb3⟩
      case measure => simp [intOf]; omega
    · go_wp2
      go_ret
      exact ⟨rfl, hb⟩

def markL (n : Nat) (x : Int) : List Int := (List.range n).map fun i => x + ((i : Nat) : Int)
theorem markL_len (n : Nat) (x : Int) : (markL n x).length = n := by simp [markL]

theorem markL_at {n : Nat} {x : Int} {i : Nat} (h : i < n) : (markL n x)[i]? = some (x + (i : Int)) := by
  unfold markL
  rw [List.getElem?_map, List.getElem?_range h]
  rfl
theorem markL_i64 {n : Nat} {x : Int} (h0 : 0 ≤ x) (h1 : x ≤ 67108864) (hn : n ≤ 1048576) : ∀ y ∈ markL n x, I64 y := by
  intro y hy
  obtain ⟨i, hi, rfl⟩ := List.mem_map.1 hy
  have := List.mem_range.1 hi
  unfold I64
  omega

set_option maxHeartbeats 1000000 in
/-- A list of the call's own is written over. -/
theorem markOwnI_any (n : Nat) (A : Option Addr) (c base : Nat) (xs : List Value) (w : World) (x : Int) (ho : w.ownsRow base 3 1 (.slice A n c) n xs) (hn : n ≤ 1048576) (hx0 : 0 ≤ x) (hx1 : x ≤ 33554432) :
    Calls Try.prog 16 #[.slice A n c, .int .i64 x] w fun e w' => e = .returned (.int .i64 (x + (n : Int))) ∧ w'.ownsRow base 3 1 (.slice A n c) n ((markL n x).map (Value.int .i64)) ∧ OnlyIn (blkOf A) w w' := by
  rcases ho.2 with ⟨hv, hz⟩ | ⟨g, cap, cur, hv, hq, hh, h4, h5, h6, h7⟩
  · injection hv with e1 e2 e3
    subst e1 e3 hz
    clear ho
    go_enter Try.func16, Try.ntmps16
    go_wp2
    go_loopw [1, 5] (fun y i wr => y = .int .i64 x ∧ i = .int .i64 0 ∧ wr = w) (fun _ _ _ => 0)
    case atStart => exact ⟨rfl, rfl, rfl⟩
    case round =>
      obtain ⟨rfl, rfl, rfl⟩ := hrel
      go_wp2
      go_ret
      exact ⟨by simp [go_sem], World.ownsRow_nil _ _ _ _, OnlyIn.refl _ _⟩
  · injection hv with e1 e2 e3
    subst e1 e3
    have HR := Lib.hid (show Row w g 3 cur from hh)
    have HC := Lib.hid h6
    have hcs : n ≤ cur.size := by omega
    have HH := Lib.hid (And.intro hq (And.intro h4 h5))
    clear ho hh h6 h7 hq h4 h5
    go_enter Try.func16, Try.ntmps16
    go_wp2
    go_loopw [1, 5] (fun y i wr => ∃ (j : Nat) (cs' : Array Value), j ≤ n ∧ i = .int .i64 j ∧ y = .int .i64 (x + (j : Int)) ∧ Row wr g 3 cs' ∧ cs'.size = cur.size ∧ (∀ i, i < j → cs'[i]? = some (.int .i64 (x + (i : Int)))) ∧ OnlyIn [g] w wr)
      (fun _ i _ => n - (intOf i).toNat)
    case atStart => exact ⟨0, cur, by omega, rfl, by simp, HR.out, rfl, fun i h => absurd h (by omega), OnlyIn.refl _ _⟩
    case round =>
      obtain ⟨j, cs', hj, rfl, rfl, hrow, hcs', hall, hon⟩ := hrel
      by_cases hlt : j < n
      · obtain ⟨v0, p0⟩ : ∃ v, cs'[j]? = some v := ⟨_, Array.getElem?_eq_getElem (by omega)⟩
        have q0 := hrow.cell p0
        have f0 := hrow.free j
        have H := Lib.hid (show cs'.size = cur.size from hcs')
        have HA := Lib.hid hall
        clear p0 hcs' hall
        go_wp2
        go_roundw
        case rel =>
          refine ⟨j + 1, _, hlt, by go_num, by simp; omega, hrow.put j _, by rw [Array.size_setIfInBounds]; exact H.out, ?_, hon.trans (.set (by simp) _)⟩
          intro i hi
          by_cases hij : i = j
          · subst hij
            exact Array.getElem?_setIfInBounds_self_of_lt (by rw [H.out]; omega)
          · rw [Array.getElem?_setIfInBounds_ne (by omega)]
            exact HA.out i (by omega)
        case measure => simp [intOf]; omega
      · have e9 : j = n := by omega
        subst e9
        go_wp2
        go_ret
        refine ⟨rfl, ⟨by simp [markL], .inr ⟨g, c, cs', rfl, HH.out.1, hrow, HH.out.2.1, HH.out.2.2, by rw [hcs']; exact HC.out, ?_⟩⟩, hon⟩
        apply List.ext_getElem?
        intro i
        by_cases hi : i < j
        · rw [List.getElem?_take_of_lt (by omega), Array.getElem?_toList, hall i hi, List.getElem?_map, markL_at hi]
          rfl
        · rw [List.getElem?_eq_none (by rw [List.length_take]; omega), List.getElem?_eq_none (by simp [markL]; omega)]

/-- It reads back as it was written. -/
theorem heldOwnI_any (n : Nat) (A : Option Addr) (c base : Nat) (w : World) (x : Int) (ho : w.ownsRow base 3 1 (.slice A n c) n ((markL n x).map (Value.int .i64))) (hn : n ≤ 1048576) (hx0 : 0 ≤ x) (hx1 : x ≤ 33554432) :
    Calls Try.prog 43 #[.slice A n c, .int .i64 x] w (Gives (.int .i64 (x + (n : Int))) w) := by
  obtain ⟨g, hH⟩ : ∃ g, Held w g A n (fun i v => v = .int .i64 (x + (i : Int))) := by
    rcases ho.2 with ⟨hv, hz⟩ | ⟨g, cap, cur, hv, hq, hh, h4, h5, h6, h7⟩
    · exact ⟨0, .inl hz⟩
    · injection hv with e1 e2 e3
      refine ⟨g, .inr ⟨e1, _, cur, hh, by omega, fun i v hi hv => ?_⟩⟩
      have h8 : (cur.toList.take (n * 1))[i]? = ((markL n x).map (Value.int .i64))[i]? := by rw [h7]
      rw [List.getElem?_take_of_lt (by omega), Array.getElem?_toList, hv, List.getElem?_map, markL_at hi] at h8
      exact Option.some.inj h8
  exact heldIntS_any n g A c w x hH hn hx0 hx1

/-- The first j lists are written over. -/
def mixS (j : Nat) (zss : List (List Int)) (x : Int) : List (List Int) := zss.mapIdx fun i zs => if i < j then markL zs.length (x + ((zss.take i).flatten.length : Int)) else zs
theorem mixS_zero (zss : List (List Int)) (x : Int) : mixS 0 zss x = zss := by
  unfold mixS
  apply List.ext_getElem?
  intro i
  rw [List.getElem?_mapIdx]
  simp
theorem mixS_len (j : Nat) (zss : List (List Int)) (x : Int) : (mixS j zss x).length = zss.length := by simp [mixS]
theorem mixS_lt {j i : Nat} {zss : List (List Int)} {zs : List Int} (x : Int) (h : zss[i]? = some zs) (hi : i < j) : (mixS j zss x)[i]? = some (markL zs.length (x + ((zss.take i).flatten.length : Int))) := by
  unfold mixS
  rw [List.getElem?_mapIdx, h]
  simp [hi]
theorem mixS_ge {j i : Nat} {zss : List (List Int)} {zs : List Int} (x : Int) (h : zss[i]? = some zs) (hi : j ≤ i) : (mixS j zss x)[i]? = some zs := by
  unfold mixS
  rw [List.getElem?_mapIdx, h]
  simp
  omega
theorem mixS_set {j : Nat} {zss : List (List Int)} {zs : List Int} (x : Int) (h : zss[j]? = some zs) : (mixS j zss x).set j (markL zs.length (x + ((zss.take j).flatten.length : Int))) = mixS (j + 1) zss x := by
  apply List.ext_getElem?
  intro i
  have hj := (List.getElem?_eq_some_iff.1 h).1
  by_cases hi : i < zss.length
  · have e := List.getElem?_eq_getElem hi
    generalize zss[i] = ys at e
    by_cases hij : j = i
    · subst hij
      rw [h] at e
      cases e
      rw [List.getElem?_set_self (by rw [mixS_len]; exact hj), mixS_lt x h (Nat.lt_succ_self _)]
    · rw [List.getElem?_set_ne hij]
      by_cases hlt : i < j
      · rw [mixS_lt x e hlt, mixS_lt x e (by omega)]
      · rw [mixS_ge x e (by omega), mixS_ge x e (by omega)]
  · rw [List.getElem?_eq_none (by simp [mixS]; omega), List.getElem?_eq_none (by simp [mixS]; omega)]

/-- One list of a list of the call's own is turned, its length is not. -/
theorem InS.turn {w w' : World} {base : Nat} : ∀ {st : List Hd} {bs : List Nat} {j : Nat} {h : Hd} {ys : List Int}, InS w base st bs → st[j]? = some h → ys.length = h.zs.length → bs.Nodup → (∀ y ∈ ys, I64 y) → w'.ownsRow base 3 1 h.val h.zs.length (ys.map (Value.int .i64)) →
    (∀ b, b ∈ bs → b ∉ blkOf h.A → w'.heap[b]? = w.heap[b]?) → InS w' base (st.set j ⟨h.A, ys, h.c⟩) bs
  | [], _, j, h, ys, _, e, _, _, _, _, _ => by simp at e
  | x :: r, _, 0, h, ys, ⟨b2, h1, h2, h3, h4⟩, e, hl, hnd, hi, ho, hk => by
    simp at e
    subst e h4
    refine ⟨b2, ?_, hi, h3.keep fun b hb => hk b (by simp [hb]) (fun h => (List.nodup_append.1 hnd).2.2 b h b hb rfl), rfl⟩
    have e2 : (⟨x.A, ys, x.c⟩ : Hd).val = x.val := by unfold Hd.val; dsimp only; rw [hl]
    rw [e2, hl]
    exact ho
  | x :: r, _, j + 1, h, ys, ⟨b2, h1, h2, h3, h4⟩, e, hl, hnd, hi, ho, hk => by
    subst h4
    have e' : r[j]? = some h := by simpa using e
    have nd2 := (List.nodup_append.1 hnd).2.1
    have nd3 := (List.nodup_append.1 hnd).2.2
    obtain ⟨_, _, p, q, hb2⟩ := h3.at_ e'
    refine ⟨b2, own_at h1 fun g hg => hk g ?_ ?_, h2, h3.turn e' hl nd2 hi ho fun b hb hn => hk b (by simp [hb]) hn, rfl⟩
    · have : g ∈ blkV x.val := by unfold blkV; rw [hg]; simp
      rw [Hd.val, blkV_slice] at this
      simp [this]
    · intro hg2
      have : g ∈ blkV x.val := by unfold blkV; rw [hg]; simp
      rw [Hd.val, blkV_slice] at this
      exact nd3 g this g (by rw [hb2]; simp [hg2]) rfl

/-- One of the lists, and the list of lists where it is turned. -/
theorem OwnSS.at_ {w : World} {base : Nat} {A : Option Addr} {l c : Nat} {zss : List (List Int)} {bs : List Nat} (h : OwnSS w base (.slice A l c) zss bs) {j : Nat} {zs : List Int} (e : zss[j]? = some zs) :
    ∃ g A' c', A = some ⟨g, 0, none⟩ ∧ w.cell? ⟨g, j, none⟩ = some (.slice A' zs.length c') ∧ g < w.heap.size ∧ w.ownsRow base 3 1 (.slice A' zs.length c') zs.length (zs.map (Value.int .i64)) ∧ (∀ b, b ∈ blkOf A' → b ∈ bs) ∧
      ∀ (w' : World) (ys : List Int), ys.length = zs.length → (∀ y ∈ ys, I64 y) → w'.ownsRow base 3 1 (.slice A' zs.length c') zs.length (ys.map (Value.int .i64)) → OnlyIn (blkOf A') w w' → OwnSS w' base (.slice A l c) (zss.set j ys) bs := by
  have hlt := h.lt
  obtain ⟨st, b1, h0, h1, h2, h3, h4⟩ := h
  subst h3
  have hl0 : l = zss.length := by obtain ⟨A9, c9, e9, _⟩ := own_slice h1; injection e9
  rw [← h0, List.getElem?_map] at e
  cases hs : st[j]? with
  | none => rw [hs] at e; cases e
  | some x =>
    rw [hs] at e
    simp only [Option.map_some, Option.some.injEq] at e
    subst e
    obtain ⟨g1, g2, p, q, g3⟩ := h2.at_ hs
    have hcell : (st.map Hd.val)[j]? = some x.val := by rw [List.getElem?_map, hs]; rfl
    rcases h1.2 with ⟨_, hn⟩ | ⟨g, cap, cur, hv2, hq, hh, hr⟩
    · have h5 : (st.map Hd.val).length = 0 := by rw [h1.1, hn]
      have h6 := (List.getElem?_eq_some_iff.1 hcell).1
      omega
    · injection hv2 with e4
      subst e4
      have hc := h1.cells (g := g) rfl j _ hcell
      rw [add_plainP, Nat.zero_add] at hc
      refine ⟨g, x.A, x.c, rfl, hc, (Array.getElem?_eq_some_iff.1 hh).1, g1, fun b hb => by rw [g3]; simp [hb], fun w' ys hy hi ho hon => ?_⟩
      have nd1 := (List.nodup_append.1 h4).2.1
      have nd2 := (List.nodup_append.1 h4).2.2
      refine ⟨st.set j ⟨x.A, ys, x.c⟩, b1, by rw [List.map_set, h0], ?_, h2.turn hs hy nd1 hi ho (fun b hb hn => hon.block b (hlt b (by simp [hb])).2 hn), rfl, h4⟩
      have e5 : (st.set j ⟨x.A, ys, x.c⟩).map Hd.val = st.map Hd.val := by
        rw [List.map_set]
        refine list_set_same ?_
        rw [hcell]
        unfold Hd.val
        dsimp only
        rw [hy]
      rw [e5, List.length_set]
      refine own_at h1 fun z hz => hon.block z (hlt z (by unfold blkV; rw [hz]; simp)).2 fun hb => ?_
      exact nd2 z (by unfold blkV; rw [hz]; simp) z (by rw [g3]; simp [hb]) rfl

set_option maxHeartbeats 1000000 in
theorem markSS_any (zss : List (List Int)) (A : Option Addr) (c base : Nat) (bs : List Nat) (w : World) (x : Int) (ho : OwnSS w base (.slice A zss.length c) zss bs) (hn : zss.length ≤ 1048576) (hf : zss.flatten.length ≤ 1048576) (hx0 : 0 ≤ x) (hx1 : x ≤ 16777216) :
    Calls Try.prog 23 #[.slice A zss.length c, .int .i64 x] w fun e w' => e = .returned (.int .i64 (x + (zss.flatten.length : Int))) ∧ OwnSS w' base (.slice A zss.length c) (mixS zss.length zss x) bs ∧ OnlyIn bs w w' := by
  go_enter Try.func23, Try.ntmps23
  go_wp2_with fail
  go_loopw [1, 5] (fun y i wr => ∃ (j : Nat), j ≤ zss.length ∧ i = .int .i64 (j : Int) ∧ y = .int .i64 (x + ((zss.take j).flatten.length : Int)) ∧ OwnSS wr base (.slice A zss.length c) (mixS j zss x) bs ∧ OnlyIn bs w wr)
    (fun _ i _ => zss.length - (intOf i).toNat)
  case atStart => exact ⟨0, by omega, rfl, by simp, by rw [mixS_zero]; exact ho, OnlyIn.refl _ _⟩
  case round =>
    clear ho
    obtain ⟨j, hj, rfl, rfl, ho, hon⟩ := hrel
    by_cases hlt : j < zss.length
    · have e1 := List.getElem?_eq_getElem hlt
      generalize zss[j] = zs at e1
      have e3 := flat_at e1
      have e4 := flat_next e1
      obtain ⟨g, A', c', hA, hc, hg, hrow, hin, hturn⟩ := ho.at_ (mixS_ge x e1 (Nat.le_refl _))
      subst hA
      have HSET := Lib.hid (mixS_set x e1)
      have HT := Lib.hid hturn
      have HIN := Lib.hid hin
      have HON := Lib.hid hon
      have HE4 := Lib.hid e4
      generalize hs1 : (zss.take j).flatten.length = s1 at e3 HSET
      rw [hs1] at HE4
      clear hs1 e4 hturn hin hon ho e1
      have HC := Lib.hid (markOwnI_any zs.length A' c' base _ wr (x + (s1 : Int)) hrow (by omega) (by omega) (by omega))
      have HI := Lib.hid (markL_i64 (n := zs.length) (x := x + (s1 : Int)) (by omega) (by omega) (by omega))
      clear hrow
      go_wp2_with fail
      refine HC.out.mono ?_
      rintro e w2 ⟨rfl, ho2, hon2⟩
      have HO3 := Lib.hid (HT.out w2 (markL zs.length (x + (s1 : Int))) (markL_len _ _) HI.out ho2 hon2)
      have HON3 := Lib.hid (HON.out.trans (hon2.more HIN.out))
      clear HC hc ho2 hon2 HT
      rw [HSET.out] at HO3
      go_wp2_with fail
      go_roundw
      case rel => exact ⟨j + 1, hlt, by go_num, by rw [HE4.out]; simp; omega, HO3.out, HON3.out⟩
      case measure => simp [intOf]; omega
    · have e9 : j = zss.length := by omega
      subst e9
      rw [List.take_length]
      have HO := Lib.hid ho
      have HON := Lib.hid hon
      clear ho hon
      go_wp2
      go_ret
      exact ⟨rfl, HO.out, HON.out⟩

set_option maxHeartbeats 1000000 in
theorem heldSS_any (zss : List (List Int)) (A : Option Addr) (c base : Nat) (bs : List Nat) (w : World) (x : Int) (ho : OwnSS w base (.slice A zss.length c) (mixS zss.length zss x) bs) (hn : zss.length ≤ 1048576) (hf : zss.flatten.length ≤ 1048576) (hx0 : 0 ≤ x) (hx1 : x ≤ 16777216) :
    Calls Try.prog 24 #[.slice A zss.length c, .int .i64 x] w (Gives (.int .i64 (x + (zss.flatten.length : Int))) w) := by
  go_enter Try.func24, Try.ntmps24
  go_wp2_with fail
  go_loopw [1, 5] (fun y i wr => ∃ (j : Nat), j ≤ zss.length ∧ i = .int .i64 (j : Int) ∧ y = .int .i64 (x + ((zss.take j).flatten.length : Int)) ∧ Below w.heap.size w wr)
    (fun _ i _ => zss.length - (intOf i).toNat)
  case atStart => exact ⟨0, by omega, rfl, by simp, Below.refl _ _⟩
  case round =>
    obtain ⟨j, hj, rfl, rfl, hb⟩ := hrel
    by_cases hlt : j < zss.length
    · have e1 := List.getElem?_eq_getElem hlt
      generalize zss[j] = zs at e1
      have e3 := flat_at e1
      have e4 := flat_next e1
      obtain ⟨g, A', c', hA, hc, hg, hrow, _, _⟩ := ho.at_ (mixS_lt x e1 hlt)
      subst hA
      rw [markL_len] at hc hrow
      have q1 := (hb.cell (p := ⟨g, j, none⟩) hg).trans hc
      have HB := Lib.hid hb
      have HE4 := Lib.hid e4
      generalize hs1 : (zss.take j).flatten.length = s1 at e3 hrow
      rw [hs1] at HE4
      have HC := Lib.hid (heldOwnI_any zs.length A' c' base wr (x + (s1 : Int)) (own_below hrow hb) (by omega) (by omega) (by omega))
      clear hs1 e4 hb hc hrow e1
      have hpos : ¬ (x + (s1 : Int) + (zs.length : Int) < 0) := by omega
      go_wp2_with fail
      refine HC.out.mono ?_
      rintro e w2 ⟨rfl, hb2⟩
      have HB2 := Lib.hid (HB.out.trans (hb2.mono HB.out.size))
      clear HC hb2 q1
      go_wp2_with fail
      go_roundw
      case rel => exact ⟨j + 1, hlt, by go_num, by rw [HE4.out]; simp; omega, HB2.out⟩
      case measure => simp [intOf]; omega
    · have e9 : j = zss.length := by omega
      subst e9
      rw [List.take_length]
      have HB := Lib.hid hb
      clear hb
      go_wp2
      go_ret
      exact ⟨rfl, HB.out⟩

theorem MkS.ss {L B : Nat} {w w' : World} {base : Nat} {v : Value} {zss : List (List Int)} {bs : List Nat} (h : MkS L B w w') (ht : OwnSS w base v zss bs) (hB : B ≤ base) : OwnSS w' base v zss bs :=
  ht.keep fun b hb => h.out b (ht.lt b hb).2 (.inr (Nat.le_trans hB (ht.lt b hb).1))
end Go.Proofs.Ytccclkfkbefoaaa
