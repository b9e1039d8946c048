/-
  The walk of the law FnLibraryPrefix: true at every input.
-/
import Derived.Test.YtiepflaghfjijaaMutLib
import Derived.Test.YtiepflaghfjijaaLibVI
import Derived.Test.YtiepflaghfjijaaLibVS
import Derived.Test.YtiepflaghfjijaaCallsM
import Derived.Test.YtiepflaghfjijaaAm
namespace Go.Proofs.Ytiepflaghfjijaa
open Go.RowKit Go.Shelf
set_option maxRecDepth 100000

/-- A table of arities without one function. -/
def lessA (ari : Int → Option Int) (m : Nat) (x : Int) : Option Int := if x = (m : Int) then none else ari x
theorem okCall_less {ari : Int → Option Int} {m : Nat} {op n : Int} {l : Nat} (h : okCall ari op n l = true) : okCall (lessA ari m) op n l = !ownCall op n m := by
  unfold okCall at h ⊢
  unfold ownCall lessA
  by_cases h3 : op = 3
  · rw [if_pos h3] at h ⊢
    by_cases hn : n = (m : Int)
    · rw [if_pos hn]; simp [h3, hn]
    · rw [if_neg hn, h]; simp [h3, hn]
  · rw [if_neg h3]; simp [h3]
theorem fitF_less {ari : Int → Option Int} {m : Nat} : ∀ k : Fo, fitF ari k = true → fitF (lessA ari m) k = !callF k m
  | .nil, _ => rfl
  | .cons op n k r, h => by
    simp only [fitF, Bool.and_eq_true] at h
    obtain ⟨⟨h1, h2⟩, h3⟩ := h
    simp only [fitF, callF, fitF_less k h2, fitF_less r h3, okCall_less h1, Bool.not_or]
theorem fitN_less {ari : Int → Option Int} {m : Nat} {op n : Int} {k : Fo} (h : fitN ari op n k = true) : fitN (lessA ari m) op n k = !callB ⟨op, n, k⟩ m := by
  unfold fitN at h ⊢
  unfold callB
  rw [Bool.and_eq_true] at h
  rw [okCall_less h.1, fitF_less k h.2, Bool.not_or]

/-- The heads of a library's functions are right. -/
def okH (p : Option Int) : List De → Bool
  | [] => true
  | d :: r => headOk p d && okH (some d.nm) r
theorem okL_all (A : List De) : ∀ (r : List De) (p : Option Int), okL A p r = (okH p r && r.all (bodyOk A))
  | [], _ => rfl
  | d :: r, p => by
    have e : okL A p (d :: r) = ((headOk p d && bodyOk A d) && okL A (some d.nm) r) := rfl
    rw [e, okL_all A r, okH, List.all_cons]
    cases headOk p d <;> cases bodyOk A d <;> cases okH (some d.nm) r <;> simp
theorem okH_front : ∀ (r : List De) (p : Option Int) (l : De), okH p (r ++ [l]) = true → okH p r = true ∧ inVar l.nm = true ∧ (∀ d, d ∈ r → d.nm < l.nm) ∧ (∀ q, p = some q → q < l.nm)
  | [], p, l, h => by
    simp only [List.nil_append, okH, Bool.and_true] at h
    unfold headOk at h
    rw [Bool.and_eq_true, Bool.and_eq_true] at h
    refine ⟨rfl, h.1.1, fun d (hd : d ∈ []) => absurd hd (by simp), fun q hq => ?_⟩
    subst hq
    exact of_decide_eq_true h.2
  | d0 :: r, p, l, h => by
    simp only [List.cons_append, okH, Bool.and_eq_true] at h
    obtain ⟨h1, h2⟩ := h
    obtain ⟨g1, g2, g3, g4⟩ := okH_front r (some d0.nm) l h2
    have hl := g4 _ rfl
    refine ⟨by simp [okH, h1, g1], g2, fun d hd => ?_, fun q hq => ?_⟩
    · rcases List.mem_cons.1 hd with rfl | hd
      · exact hl
      · exact g3 d hd
    · unfold headOk at h1
      rw [Bool.and_eq_true, Bool.and_eq_true] at h1
      subst hq
      have := of_decide_eq_true h1.2
      omega
theorem all_not {f g : De → Bool} : ∀ r : List De, (∀ d, d ∈ r → f d = !g d) → r.all f = !r.any g
  | [], _ => rfl
  | d :: r, h => by
    rw [List.all_cons, List.any_cons, h d (List.mem_cons_self ..), all_not r fun x hx => h x (List.mem_cons_of_mem _ hx), Bool.not_or]
/-- A valid library without its last function is valid exactly if no other one calls it. -/
theorem lib_front {r : List De} {l : De} (h : libOk (r ++ [l]) = true) : (l.nm.toNat < 8 ∧ l.nm = (l.nm.toNat : Int)) ∧ libOk r = !(r.any fun d => callB ⟨d.op, d.n, d.k⟩ l.nm.toNat) := by
  have hbody := libOk_body h
  unfold libOk at h
  rw [Bool.and_eq_true] at h
  obtain ⟨hlen, hok⟩ := h
  have hlen := of_decide_eq_true hlen
  rw [List.length_append, List.length_singleton] at hlen
  rw [okL_all, Bool.and_eq_true] at hok
  obtain ⟨hh, hb⟩ := hok
  obtain ⟨g1, g2, g3, _⟩ := okH_front r none l hh
  obtain ⟨e1, e2⟩ := inVar_nat g2
  refine ⟨⟨e2, e1.symm⟩, ?_⟩
  have hnone : fnd l.nm r = none := by
    unfold fnd
    rw [List.find?_eq_none]
    intro d hd
    have := g3 d hd
    simp
    omega
  have hari : ariS r = lessA (ariS (r ++ [l])) l.nm.toNat := by
    funext x
    unfold lessA ariS
    rw [fnd_snoc]
    by_cases hx : x = (l.nm.toNat : Int)
    · rw [if_pos hx, hx, e1, hnone]; rfl
    · rw [if_neg hx, if_neg (by omega)]
      cases fnd x r <;> rfl
  unfold libOk
  rw [okL_all, g1, Bool.true_and, decide_eq_true (by omega : r.length ≤ 8), Bool.true_and]
  have hall : ∀ d, d ∈ r → bodyOk r d = !callB ⟨d.op, d.n, d.k⟩ l.nm.toNat := fun d hd => by
    have h1 := (List.all_eq_true.1 hb) d (List.mem_append_left _ hd)
    unfold bodyOk at h1 ⊢
    rw [Bool.and_eq_true] at h1
    rw [h1.1, Bool.true_and, hari, fitN_less (hbody d (List.mem_append_left _ hd))]
  exact all_not r hall

set_option maxHeartbeats 4000000 in
theorem law_NLibPre (bs : List Nat) (A : Option Addr) (c : Nat) (w : World) (hl : LiesY w 0 w.heap.size A bs) (hlc : bs.length ≤ c) (hc : c ≤ maxLen) :
    Calls Try.prog 4 #[.slice A bs.length c] w (Gives (.bool true) w) := by
  have HC := Lib.hid (drawLV_any A c bs w hl hlc hc)
  unfold maxLen at hc
  by_cases hsz : bs.length ≤ 1048576
  rotate_left
  · have hgt : 1048576 < bs.length := by omega
    go_enter Try.func4, Try.ntmps4
    go_wp2_with fail
    go_ret
    exact ⟨rfl, Below.refl _ _⟩
  clear hl
  go_enter Try.func4, Try.ntmps4
  go_wp2_with fail
  refine HC.out.mono ?_
  rintro e w1 ⟨ds, X, cx, rfl, ⟨h1, h2, h3, h4, h5⟩, hb1⟩
  have HL := Lib.hid (h1.mono_ (Nat.zero_le _) (Nat.le_refl _))
  have HB := Lib.hid hb1
  clear h1 hb1 HC
  go_wp2_with fail
  refine (implLibValid_r ds X cx 0 w1.heap.size w1 HL.out (Nat.le_refl _) (by omega)).mono ?_
  rintro e w2 ⟨rfl, hb2⟩
  have HL2 := Lib.hid (HL.out.up hb2)
  have HB2 := Lib.hid (HB.out.trans (hb2.mono HB.out.size))
  obtain ⟨b0, hb0⟩ : ∃ b0, b0 = libOk ds := ⟨_, rfl⟩
  rw [← hb0]
  have HV := Lib.hid hb0
  have hne : (b0 != b0) = false := by simp
  have heq : (b0 == b0) = true := by simp
  clear hb2 HL HB hb0
  go_wp2_with fail
  refine (specLibValid_any ds X cx w2 HL2.out (by omega)).mono ?_
  rintro e w3 ⟨rfl, hb3⟩
  rw [← HV.out]
  have HL3 := Lib.hid (HL2.out.up hb3)
  have HB3 := Lib.hid (HB2.out.trans (hb3.mono HB2.out.size))
  clear hb3 HL2 HB2
  by_cases hno : b0 = false ∨ ds.length = 0
  · have hlz : b0 = false ∨ (b0 = true ∧ ((ds.length : Int) == 0) = true) := by
      rcases hno with h | h
      · exact .inl h
      · cases b0 with
        | false => exact .inl rfl
        | true => exact .inr ⟨rfl, by simp [h]⟩
    clear hno
    rcases hlz with rfl | ⟨rfl, he0⟩
    all_goals
      go_wp2_with fail
      refine (specLibValid_any ds X cx w3 HL3.out (by omega)).mono ?_
      rintro e w4 ⟨rfl, hb4⟩
      rw [← HV.out]
      have HB4 := Lib.hid (HB3.out.trans (hb4.mono HB3.out.size))
      clear hb4 HL3 HB3
      go_wp2_with fail
      go_ret
      exact ⟨rfl, HB4.out⟩
  obtain ⟨hv, hn0⟩ : b0 = true ∧ ds.length ≠ 0 := by
    cases b0 with
    | false => exact absurd (.inl rfl) hno
    | true => exact ⟨rfl, fun h => hno (.inr h)⟩
  subst hv
  clear hno
  obtain ⟨m, hm⟩ : ∃ m, ds.length = m + 1 := ⟨ds.length - 1, by omega⟩
  obtain ⟨l, hlm⟩ : ∃ l, ds[m]? = some l := ⟨_, List.getElem?_eq_getElem (by omega)⟩
  have hds : ds = ds.take m ++ [l] := by
    obtain ⟨hi, rfl⟩ := List.getElem?_eq_some_iff.1 hlm
    rw [← List.take_succ_eq_append_getElem hi, ← hm, List.take_length]
  obtain ⟨⟨hv8, hvn⟩, hfr⟩ := lib_front (by rw [← hds]; exact HV.out.symm : libOk (ds.take m ++ [l]) = true)
  obtain ⟨v, hvv⟩ : ∃ v, v = l.nm.toNat := ⟨_, rfl⟩
  rw [← hvv] at hv8 hvn hfr
  have HFR := Lib.hid hfr
  have HM := Lib.hid hm
  have he0 : ((ds.length : Int) == 0) = false := beq_eq_false_iff_ne.2 (by omega)
  have hmw : (ds.length : Int) - 1 = (m : Int) := by omega
  have hsm := libOk_small HV.out.symm
  have HSM := Lib.hid hsm
  have hsb : ∀ d ∈ ds, d.k.size ≤ 80 := fun d hd => small_le80 (hsm d hd)
  have HSB := Lib.hid hsb
  obtain ⟨b, o, A9, c9, rfl, hbb, hbw, _, gl0, _⟩ := HL3.out m l hlm
  rw [hvn] at gl0
  have HG0 := Lib.hid gl0
  have hmw8 : m < 8 := by have := libOk_len HV.out.symm; omega
  clear hds hfr hsm hsb hvn hvv gl0 hlm
  clear hm hn0
  go_wp2_with fail
  clear he0 hne heq hmw
  go_loopw [6, 7] (fun t i wr => ∃ (j : Nat) (s : Bool), j ≤ m ∧ t = .bool s ∧ i = .int .i64 (j : Int) ∧ Hid (s = (ds.take j).any fun d => callB ⟨d.op, d.n, d.k⟩ v) ∧ Below w3.heap.size w3 wr)
    (fun _ i _ => m - (intOf i).toNat)
  case atStart => exact ⟨0, false, by omega, rfl, rfl, Lib.hid (by simp), Below.refl _ _⟩
  case round =>
    obtain ⟨j, s, hj, rfl, rfl, HS, hbr⟩ := hrel
    have HBR := Lib.hid hbr
    by_cases hlt : j < m
    · obtain ⟨d, hd⟩ : ∃ d, ds[j]? = some d := ⟨_, List.getElem?_eq_getElem (by have := HM.out; omega)⟩
      obtain ⟨t, ht⟩ : ∃ t, t = callB ⟨d.op, d.n, d.k⟩ v := ⟨_, rfl⟩
      have HN := Lib.hid (show (s || t) = (ds.take (j + 1)).any fun d => callB ⟨d.op, d.n, d.k⟩ v by
        rw [List.take_add_one, hd, List.any_append, ← HS.out, ht]; simp)
      have HT := Lib.hid ht
      have hmem := List.mem_of_getElem? hd
      have hs80 := HSB.out d hmem
      have HSMD := Lib.hid (HSM.out d hmem)
      obtain ⟨b2, o2, A', c', hX2, _, hbw2, hf, g0, g1, g2, g3, g4, g5, h7, h8, h9⟩ := HL3.out j d hd
      obtain ⟨rfl, rfl⟩ : b2 = b ∧ o2 = o := by injection hX2 with h; injection h with h1 h2; exact ⟨h1.symm, h2.symm⟩
      have hji : (j : Int) < (ds.length : Int) := by have := HM.out; omega
      have hmi : (m : Int) < (ds.length : Int) := by have := HM.out; omega
      have hjm : (j : Int) < (m : Int) := by omega
      have HK := Lib.hid h9
      have HS8 := Lib.hid (show ∀ w' : World, Below wr.heap.size wr w' → w'.cell? ⟨b2, o2 + j * 6 + 3, none⟩ = some (Value.int .i64 d.op) ∧ w'.cell? ⟨b2, o2 + j * 6 + 4, none⟩ = some (Value.int .i64 d.n) ∧ w'.cell? ⟨b2, o2 + j * 6 + 5, none⟩ = some (Value.slice A' d.k.len c') ∧ w'.cell? ⟨b2, o2 + m * 6, none⟩ = some (Value.int .i64 (v : Int)) from
        fun w' hb => have hb3 := hbr.trans (hb.mono hbr.size); ⟨(hb3.cell (p := ⟨b2, o2 + j * 6 + 3, none⟩) hbw).trans g3, (hb3.cell (p := ⟨b2, o2 + j * 6 + 4, none⟩) hbw).trans g4, (hb3.cell (p := ⟨b2, o2 + j * 6 + 5, none⟩) hbw).trans g5, (hb3.cell (p := ⟨b2, o2 + m * 6, none⟩) hbw).trans HG0.out⟩)
      have HBD := Lib.hid (Below.refl wr.heap.size wr).drew
      have s0 := HS8.out wr.drew HBD.out
      clear hd ht hX2 hf g0 g1 g2 g3 g4 g5 h9 hmem hbr
      cases s with
      | true =>
        have HN2 := Lib.hid (show true = (ds.take (j + 1)).any fun d => callB ⟨d.op, d.n, d.k⟩ v from by have := HN.out; simpa using this)
        go_upto_region 12 with fail
        refine wp_region_held_drew (S := fun w' => w'.cell? ⟨b2, o2 + j * 6 + 3, none⟩ = some (Value.int .i64 d.op) ∧ w'.cell? ⟨b2, o2 + j * 6 + 4, none⟩ = some (Value.int .i64 d.n) ∧ w'.cell? ⟨b2, o2 + j * 6 + 5, none⟩ = some (Value.slice A' d.k.len c') ∧ w'.cell? ⟨b2, o2 + m * 6, none⟩ = some (Value.int .i64 (v : Int))) (by kernel_rfl) s0 (fun hHeld => ?_)
        refine takeW 0 (v := ?vx1_0) rfl (by kernel_rfl) (fun _ _ _ h => h) (by rfl) (by assumption) ?yx1_0 ?rx1_0
        case yx1_0 => (intro w' hSw; (try dsimp only at hSw); go_simp; try with_reducible rfl)
        try simp only [Act.put, List.setIfInBounds_toArray, List.set_cons_zero, List.set_cons_succ, List.getElem_toArray, List.getElem_cons_zero]
        refine takeW 1 (v := ?vx1_1) rfl (by kernel_rfl) (fun _ _ _ h => h) (by rfl) (by assumption) ?yx1_1 ?rx1_1
        case yx1_1 => (intro w' hSw; (try dsimp only at hSw); go_simp; try with_reducible rfl)
        try simp only [Act.put, List.setIfInBounds_toArray, List.set_cons_zero, List.set_cons_succ, List.getElem_toArray, List.getElem_cons_succ, List.getElem_cons_zero]
        refine takeN 2 rfl (by kernel_rfl) (fun _ _ _ h => h) (by rfl) (by assumption) ?rx1_2
        try simp only [Act.put, List.setIfInBounds_toArray, List.set_cons_zero, List.set_cons_succ, List.getElem_toArray, List.getElem_cons_succ, List.getElem_cons_zero]
        refine takeN 3 rfl (by kernel_rfl) (fun _ _ _ h => h) (by rfl) (by assumption) ?rx1_3
        try simp only [Act.put, List.setIfInBounds_toArray, List.set_cons_zero, List.set_cons_succ, List.getElem_toArray, List.getElem_cons_succ, List.getElem_cons_zero]
        refine takeN 4 rfl (by kernel_rfl) (fun _ _ _ h => h) (by rfl) (by assumption) ?rx1_4
        try simp only [Act.put, List.setIfInBounds_toArray, List.set_cons_zero, List.set_cons_succ, List.getElem_toArray, List.getElem_cons_succ, List.getElem_cons_zero]
        refine takeN 5 rfl (by kernel_rfl) (fun _ _ _ h => h) (by rfl) (by assumption) ?rx1_5
        try simp only [Act.put, List.setIfInBounds_toArray, List.set_cons_zero, List.set_cons_succ, List.getElem_toArray, List.getElem_cons_succ, List.getElem_cons_zero]
        refine takeN 6 rfl (by kernel_rfl) (fun _ _ _ h => h) (by rfl) (by assumption) ?rx1_6
        try simp only [Act.put, List.setIfInBounds_toArray, List.set_cons_zero, List.set_cons_succ, List.getElem_toArray, List.getElem_cons_succ, List.getElem_cons_zero]
        refine takeN 7 rfl (by kernel_rfl) (fun _ _ _ h => h) (by rfl) (by assumption) ?rx1_7
        try simp only [Act.put, List.setIfInBounds_toArray, List.set_cons_zero, List.set_cons_succ, List.getElem_toArray, List.getElem_cons_succ, List.getElem_cons_zero]
        refine takeN 8 rfl (by kernel_rfl) (fun _ _ _ h => h) (by rfl) (by assumption) ?rx1_8
        try simp only [Act.put, List.setIfInBounds_toArray, List.set_cons_zero, List.set_cons_succ, List.getElem_toArray, List.getElem_cons_succ, List.getElem_cons_zero]
        refine takeN 9 rfl (by kernel_rfl) (fun _ _ _ h => h) (by rfl) (by assumption) ?rx1_9
        try simp only [Act.put, List.setIfInBounds_toArray, List.set_cons_zero, List.set_cons_succ, List.getElem_toArray, List.getElem_cons_succ, List.getElem_cons_zero]
        refine takeN 10 rfl (by kernel_rfl) (fun _ _ _ h => h) (by rfl) (by assumption) ?rx1_10
        try simp only [Act.put, List.setIfInBounds_toArray, List.set_cons_zero, List.set_cons_succ, List.getElem_toArray, List.getElem_cons_succ, List.getElem_cons_zero]
        refine takeN 11 rfl (by kernel_rfl) (fun _ _ _ h => h) (by rfl) (by assumption) ?rx1_11
        try simp only [Act.put, List.setIfInBounds_toArray, List.set_cons_zero, List.set_cons_succ, List.getElem_toArray, List.getElem_cons_succ, List.getElem_cons_zero]
        refine takeN 12 rfl (by kernel_rfl) (fun _ _ _ h => h) (by rfl) (by assumption) ?rx1_12
        try simp only [Act.put, List.setIfInBounds_toArray, List.set_cons_zero, List.set_cons_succ, List.getElem_toArray, List.getElem_cons_succ, List.getElem_cons_zero]
        refine takeN 13 rfl (by kernel_rfl) (fun _ _ _ h => h) (by rfl) (by assumption) ?rx1_13
        try simp only [Act.put, List.setIfInBounds_toArray, List.set_cons_zero, List.set_cons_succ, List.getElem_toArray, List.getElem_cons_succ, List.getElem_cons_zero]
        refine takeW 14 (v := ?vx1_14) rfl (by kernel_rfl) (fun _ _ _ h => h) (by rfl) (by assumption) ?yx1_14 ?rx1_14
        case yx1_14 => (intro w' hSw; (try dsimp only at hSw); go_simp; try with_reducible rfl)
        try simp only [Act.put, List.setIfInBounds_toArray, List.set_cons_zero, List.set_cons_succ, List.getElem_toArray, List.getElem_cons_succ, List.getElem_cons_zero]
        refine takeW 15 (v := ?vx1_15) rfl (by kernel_rfl) (fun _ _ _ h => h) (by rfl) (by assumption) ?yx1_15 ?rx1_15
        case yx1_15 => (intro w' hSw; (try dsimp only at hSw); go_simp; try with_reducible rfl)
        try simp only [Act.put, List.setIfInBounds_toArray, List.set_cons_zero, List.set_cons_succ, List.getElem_toArray, List.getElem_cons_succ, List.getElem_cons_zero]
        refine wpAnyH_done (by kernel_rfl) ?_ _
        go_wp2_with fail
        go_roundw
        case rel => exact ⟨j + 1, true, by omega, rfl, by go_num, HN2, HBR.out.trans (HBD.out.mono HBR.out.size)⟩
        case measure => simp [intOf]; omega
      | false =>
        have HN2 := Lib.hid (show t = (ds.take (j + 1)).any fun d => callB ⟨d.op, d.n, d.k⟩ v from by have := HN.out; simpa using this)
        go_upto_region 12 with fail
        refine wp_region_held_drew (S := fun w' => w'.cell? ⟨b2, o2 + j * 6 + 3, none⟩ = some (Value.int .i64 d.op) ∧ w'.cell? ⟨b2, o2 + j * 6 + 4, none⟩ = some (Value.int .i64 d.n) ∧ w'.cell? ⟨b2, o2 + j * 6 + 5, none⟩ = some (Value.slice A' d.k.len c') ∧ w'.cell? ⟨b2, o2 + m * 6, none⟩ = some (Value.int .i64 (v : Int))) (by kernel_rfl) s0 (fun hHeld => ?_)
        refine takeW 0 (v := ?vx2_0) rfl (by kernel_rfl) (fun _ _ _ h => h) (by rfl) (by assumption) ?yx2_0 ?rx2_0
        case yx2_0 => (intro w' hSw; (try dsimp only at hSw); go_simp; try with_reducible rfl)
        try simp only [Act.put, List.setIfInBounds_toArray, List.set_cons_zero, List.set_cons_succ, List.getElem_toArray, List.getElem_cons_zero]
        refine takeW 1 (v := ?vx2_1) rfl (by kernel_rfl) (fun _ _ _ h => h) (by rfl) (by assumption) ?yx2_1 ?rx2_1
        case yx2_1 => (intro w' hSw; (try dsimp only at hSw); go_simp; try with_reducible rfl)
        try simp only [Act.put, List.setIfInBounds_toArray, List.set_cons_zero, List.set_cons_succ, List.getElem_toArray, List.getElem_cons_succ, List.getElem_cons_zero]
        refine takeW 2 (v := ?vx2_2) rfl (by kernel_rfl) (fun _ _ _ h => h) (by rfl) (by assumption) ?yx2_2 ?rx2_2
        case yx2_2 => (intro w' hSw; (try dsimp only at hSw); go_simp; try with_reducible rfl)
        try simp only [Act.put, List.setIfInBounds_toArray, List.set_cons_zero, List.set_cons_succ, List.getElem_toArray, List.getElem_cons_succ, List.getElem_cons_zero]
        refine takeW 3 (v := ?vx2_3) rfl (by kernel_rfl) (fun _ _ _ h => h) (by rfl) (by assumption) ?yx2_3 ?rx2_3
        case yx2_3 => (intro w' hSw; (try dsimp only at hSw); go_simp; try with_reducible rfl)
        try simp only [Act.put, List.setIfInBounds_toArray, List.set_cons_zero, List.set_cons_succ, List.getElem_toArray, List.getElem_cons_succ, List.getElem_cons_zero]
        refine takeW 4 (v := ?vx2_4) rfl (by kernel_rfl) (fun _ _ _ h => h) (by rfl) (by assumption) ?yx2_4 ?rx2_4
        case yx2_4 => (intro w' hSw; (try dsimp only at hSw); go_simp; try with_reducible rfl)
        try simp only [Act.put, List.setIfInBounds_toArray, List.set_cons_zero, List.set_cons_succ, List.getElem_toArray, List.getElem_cons_succ, List.getElem_cons_zero]
        refine takeW 5 (v := ?vx2_5) rfl (by kernel_rfl) (fun _ _ _ h => h) (by rfl) (by assumption) ?yx2_5 ?rx2_5
        case yx2_5 => (intro w' hSw; (try dsimp only at hSw); go_simp; try with_reducible rfl)
        try simp only [Act.put, List.setIfInBounds_toArray, List.set_cons_zero, List.set_cons_succ, List.getElem_toArray, List.getElem_cons_succ, List.getElem_cons_zero]
        refine takeW 6 (v := ?vx2_6) rfl (by kernel_rfl) (fun _ _ _ h => h) (by rfl) (by assumption) ?yx2_6 ?rx2_6
        case yx2_6 => (intro w' hSw; (try dsimp only at hSw); go_simp; try with_reducible rfl)
        try simp only [Act.put, List.setIfInBounds_toArray, List.set_cons_zero, List.set_cons_succ, List.getElem_toArray, List.getElem_cons_succ, List.getElem_cons_zero]
        refine takeW 8 (v := ?vx2_8) rfl (by kernel_rfl) (fun _ _ _ h => h) (by rfl) (by assumption) ?yx2_8 ?rx2_8
        case yx2_8 => (intro w' hSw; (try dsimp only at hSw); go_simp; try with_reducible rfl)
        try simp only [Act.put, List.setIfInBounds_toArray, List.set_cons_zero, List.set_cons_succ, List.getElem_toArray, List.getElem_cons_succ, List.getElem_cons_zero]
        refine takeW 9 (v := ?vx2_9) rfl (by kernel_rfl) (fun _ _ _ h => h) (by rfl) (by assumption) ?yx2_9 ?rx2_9
        case yx2_9 => (intro w' hSw; (try dsimp only at hSw); go_simp; try with_reducible rfl)
        try simp only [Act.put, List.setIfInBounds_toArray, List.set_cons_zero, List.set_cons_succ, List.getElem_toArray, List.getElem_cons_succ, List.getElem_cons_zero]
        refine takeW 10 (v := ?vx2_10) rfl (by kernel_rfl) (fun _ _ _ h => h) (by rfl) (by assumption) ?yx2_10 ?rx2_10
        case yx2_10 => (intro w' hSw; (try dsimp only at hSw); go_simp; try with_reducible rfl)
        try simp only [Act.put, List.setIfInBounds_toArray, List.set_cons_zero, List.set_cons_succ, List.getElem_toArray, List.getElem_cons_succ, List.getElem_cons_zero]
        refine takeW 11 (v := ?vx2_11) rfl (by kernel_rfl) (fun _ _ _ h => h) (by rfl) (by assumption) ?yx2_11 ?rx2_11
        case yx2_11 => (intro w' hSw; (try dsimp only at hSw); go_simp; try with_reducible rfl)
        try simp only [Act.put, List.setIfInBounds_toArray, List.set_cons_zero, List.set_cons_succ, List.getElem_toArray, List.getElem_cons_succ, List.getElem_cons_zero]
        refine takeW 12 (v := ?vx2_12) rfl (by kernel_rfl) (fun _ _ _ h => h) (by rfl) (by assumption) ?yx2_12 ?rx2_12
        case yx2_12 => (intro w' hSw; (try dsimp only at hSw); go_simp; try with_reducible rfl)
        try simp only [Act.put, List.setIfInBounds_toArray, List.set_cons_zero, List.set_cons_succ, List.getElem_toArray, List.getElem_cons_succ, List.getElem_cons_zero]
        refine wpAnyH_ready (rs := [7]) (by kernel_rfl) (by simp) ?_
        refine AllReadyH.cons rfl (fun K hK => ?_) AllReadyH.nil
        go_simp
        refine (implCalls_r d.op d.n d.k A' c' 0 wr.drew.heap.size wr.drew (((HK.out.mono_ (Nat.le_refl _) (Nat.le_refl _)).up HBR.out).up HBD.out) (Nat.le_refl _) (RowsIf.small HSMD.out) h7 h8 (by omega)).mono ?_
        rintro e w5 ⟨vc, rfl, ho5, hb5⟩
        obtain ⟨A5, c5, rfl, hI5⟩ := own_ints ho5 (fun x hx => numsUpto_small _ 8 x (Nat.le_refl _) hx)
        have HB5 := Lib.hid (show Below wr.heap.size wr w5 from HBD.out.trans (hb5.mono HBD.out.size))
        have HI5 := Lib.hid (show LiesI w5 0 w5.heap.size A5 (numsUpto (callB ⟨d.op, d.n, d.k⟩) 8) from hI5.mono_ (Nat.zero_le _) (Nat.le_refl _))
        have st5 := HS8.out _ HB5.out
        clear hb5 ho5 hI5
        refine hK.out _ _ (st5) (fun hHeldB1 => ?_)
        clear hK K
        try simp only [Act.put, List.setIfInBounds_toArray, List.set_cons_zero, List.set_cons_succ, List.getElem_toArray, List.getElem_cons_succ, List.getElem_cons_zero]
        refine wpAnyH_ready (rs := [13]) (by kernel_rfl) (by simp) ?_
        refine AllReadyH.cons rfl (fun K hK => ?_) AllReadyH.nil
        go_simp
        refine (amIn_any (numsUpto (callB ⟨d.op, d.n, d.k⟩) 8) A5 c5 (v : Int) w5 HI5.out (Nat.le_trans (numsUpto_len _ 8) (by decide))).mono ?_
        rintro e w6 ⟨rfl, hb6⟩
        rw [nums_dec _ hv8, ← HT.out]
        have HB6 := Lib.hid (HB5.out.trans (hb6.mono HB5.out.size))
        have st6 := HS8.out _ HB6.out
        refine hK.out _ _ (st6) (fun hHeldB2 => ?_)
        clear hK K
        try simp only [Act.put, List.setIfInBounds_toArray, List.set_cons_zero, List.set_cons_succ, List.getElem_toArray, List.getElem_cons_succ, List.getElem_cons_zero]
        refine takeW 14 (v := ?vx4_14) rfl (by kernel_rfl) (fun _ _ _ h => h) (by rfl) (by assumption) ?yx4_14 ?rx4_14
        case yx4_14 => (intro w' hSw; (try dsimp only at hSw); go_simp; try with_reducible rfl)
        try simp only [Act.put, List.setIfInBounds_toArray, List.set_cons_zero, List.set_cons_succ, List.getElem_toArray, List.getElem_cons_succ, List.getElem_cons_zero]
        refine takeW 15 (v := ?vx4_15) rfl (by kernel_rfl) (fun _ _ _ h => h) (by rfl) (by assumption) ?yx4_15 ?rx4_15
        case yx4_15 => (intro w' hSw; (try dsimp only at hSw); go_simp; try with_reducible rfl)
        try simp only [Act.put, List.setIfInBounds_toArray, List.set_cons_zero, List.set_cons_succ, List.getElem_toArray, List.getElem_cons_succ, List.getElem_cons_zero]
        refine wpAnyH_done (by kernel_rfl) ?_ _
        clear st5 st6
        go_wp2_with fail
        go_roundw
        case rel => exact ⟨j + 1, t, by omega, by simp, by go_num, HN2, HBR.out.trans (HB6.out.mono HBR.out.size)⟩
        case measure => simp [intOf]; omega
    · have hjm : j = m := by omega
      subst hjm
      have HLT := Lib.hid (show LiesD wr 0 wr.heap.size (some ⟨b, o, none⟩) (ds.take j) from fun i d hd => (HL3.out.up hbr) i d (by
        rw [List.getElem?_take] at hd
        split at hd
        · exact hd
        · cases hd))
      have hlen : (ds.take j).length = j := by rw [List.length_take]; have := HM.out; omega
      have HLV := Lib.hid (show Calls Try.prog 9 #[.slice (some ⟨b, o, none⟩) j cx] wr (Gives (.bool (!s)) wr) from by
        have h := implLibValid_r (ds.take j) (some ⟨b, o, none⟩) cx 0 wr.heap.size wr HLT.out (Nat.le_refl _) (Nat.le_trans (sizeD_take ds j) (by omega))
        rw [hlen, HFR.out, ← HS.out] at h
        exact h)
      have hjj : ¬ (j : Int) < (j : Int) := by omega
      have hj0 : (0 : Int) ≤ (j : Int) := by omega
      have hjc : (j : Int) ≤ (cx : Int) := by have := HM.out; omega
      have HR := Lib.hid (HB3.out.trans (hbr.mono HB3.out.size))
      clear hlen HLT hbr HFR HS
      go_wp2_with fail
      refine HLV.out.mono ?_
      rintro e w5 ⟨rfl, hb5⟩
      have HR5 := Lib.hid (HR.out.trans (hb5.mono HR.out.size))
      clear HLV hb5
      cases s
      all_goals
        go_wp2_with fail
        go_ret
        exact ⟨rfl, HR5.out⟩
end Go.Proofs.Ytiepflaghfjijaa
