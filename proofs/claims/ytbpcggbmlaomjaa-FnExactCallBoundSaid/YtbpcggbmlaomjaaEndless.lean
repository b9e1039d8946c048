/-
  endless: false at every expression that lies in memory as a tree of nodes.
-/
import Derived.Test.YtbpcggbmlaomjaaGraph
import Derived.Test.YtbpcggbmlaomjaaSmall
import Derived.Deep.LoopGhost
import Derived.OwnWalk
namespace Go.Proofs.Ytbpcggbmlaomjaa
open Go.RowKit
set_option maxRecDepth 100000

theorem allRows_on {w : World} {L B : Nat} (h : AllRows w L B) {a : Addr} (h1 : L ≤ a.block) (h2 : a.block < B) : OnRow w a :=
  let ⟨t, cs, hr⟩ := h a.block h1 h2; ⟨cs, t, hr⟩
theorem OnRow.below {w w' : World} {a : Addr} {B : Nat} (h : OnRow w a) (hb : Below B w w') (ha : a.block < B) : OnRow w' a :=
  let ⟨cs, t, hr⟩ := h; ⟨cs, t, (hb.block _ ha).trans hr⟩
def ptrs (st : List Addr) : List Value := st.map fun a => .pointer (some a)

theorem plain_add (b o j : Nat) : (⟨b, o, none⟩ : Addr).add j = ⟨b, o + j, none⟩ := by unfold Addr.add; split <;> simp_all

/-- The search under way: the list, the marks. -/
structure Sea (w3 : World) (G : Gr) (gL : Nat) (st : List Addr) (es : Ents) (v : Value) (wr : World) : Prop where
  own : wr.ownsRow gL 108 1 v st.length (ptrs st)
  pm : PM wr (gL + 1) es
  below : Below gL w3 wr
  size : gL + 2 ≤ wr.heap.size

/-- What the search needs to know of the nodes. -/
structure Gnd (w3 : World) (G : Gr) (gL : Nat) : Prop where
  on : ∀ a ∈ G.univ, OnRow w3 a ∧ a.block < gL
  kids : ∀ a ∈ G.univ, a.spot = none ∧ ∃ A n c, n ≤ c ∧ c ≤ maxLen ∧ w3.cell? ⟨a.block, a.off + 2, none⟩ = some (.slice A n c) ∧ G.kid a = addrRow A n ∧ (0 < n → ∃ b o, A = some ⟨b, o, Option.none⟩)

/-- The graph of an expression at whose root stands p; what the search needs to know; what bounds it. -/
theorem start_graph {w3 : World} {L B gL : Nat} {op n : Int} {k : Fo} {A : Option Addr} {c : Nat} {p : Addr} (hp : p.spot = none) (hk : Lies w3 L B A 0 k) (hal : AllRows w3 L B) (hB : B ≤ gL) (hpg : p.block < gL) (hon : OnRow w3 p)
    (g0 : w3.cell? ⟨p.block, p.off, none⟩ = some (.int .i64 op)) (g1 : w3.cell? ⟨p.block, p.off + 1, none⟩ = some (.int .i64 n)) (g2 : w3.cell? ⟨p.block, p.off + 2, none⟩ = some (.slice A k.len c)) (h1 : k.len ≤ c) (h2 : c ≤ maxLen) :
    ∃ G : Gr, Gnd w3 G gL ∧ p ∈ G.univ ∧ pot G [p] [] ≤ 2 * k.size + 2 := by
  have hn : NodeAt w3 L B p k := ⟨op, n, A, c, hp, g0, g1, g2, h1, h2, hk⟩
  have hs : kidSlice w3 p = (A, k.len) := kidSlice_of g2
  refine ⟨exprGr w3 L B p A k hn hs hk, ⟨?_, ?_⟩, List.mem_cons_self .., ?_⟩
  · intro a ha
    rcases List.mem_cons.1 ha with rfl | ha
    · exact ⟨hon, hpg⟩
    · obtain ⟨_, h3, h4, _⟩ := addrs_node hk a ha
      exact ⟨allRows_on hal h3 h4, by omega⟩
  · intro a ha
    have key : ∀ k', NodeAt w3 L B a k' → a.spot = none ∧ ∃ A n c, n ≤ c ∧ c ≤ maxLen ∧ w3.cell? ⟨a.block, a.off + 2, none⟩ = some (.slice A n c) ∧ kidsAt w3 a = addrRow A n ∧ (0 < n → ∃ b o, A = some ⟨b, o, Option.none⟩) := by
      rintro k' ⟨_, _, A', c', h3, _, _, h4, h5, h6, h7⟩
      refine ⟨h3, A', k'.len, c', h5, h6, h4, by unfold kidsAt; rw [kidSlice_of h4], fun h0 => ?_⟩
      cases k' with
      | nil => simp [Fo.len] at h0
      | cons _ _ _ _ => obtain ⟨⟨b, o, _, _, hA, _⟩, _⟩ := h7; exact ⟨b, o, hA⟩
    rcases List.mem_cons.1 ha with rfl | ha
    · exact key k hn
    · obtain ⟨⟨k', h3, _⟩, _⟩ := addrs_node hk a ha
      exact key k' h3
  · have e1 : todo (exprGr w3 L B p A k hn hs hk) [] (exprGr w3 L B p A k hn hs hk).univ = weight w3 (p :: addrs w3 A 0 k) := todo_weight _ w3 rfl _
    have h3 := addrs_weight hk
    have h4 : (kidsAt w3 p).length ≤ k.len := by unfold kidsAt; rw [hs]; exact length_kidsAt_le _ _
    unfold pot
    rw [e1]
    simp only [weight, List.length_cons, List.length_nil]
    omega

/-- The search begins. -/
theorem start_inv {G : Gr} {p : Addr} (hp : p ∈ G.univ) : DInv G [p] [] where
  stack a ha := by rw [List.mem_singleton.1 ha]; exact hp
  marks a ha := by simp [look] at ha
  under a ha := by simp [look] at ha

theorem HeapBut.below {r B : Nat} {w w' : World} (h : HeapBut r w w') (hr : B ≤ r) : Below B w w' := ⟨h.1, h.2.1, h.2.2.1, by rw [h.2.2.2.1]; exact Nat.le_refl _, fun k hk => h.2.2.2.2 k (by omega)⟩
theorem take_ptrs {l : List Value} {st : List Addr} {x : Addr} (h : l.take ((st.length + 1) * 1) = ptrs (st ++ [x])) : l.take (st.length * 1) = ptrs st := by
  have h1 : (l.take ((st.length + 1) * 1)).take (st.length * 1) = (ptrs (st ++ [x])).take (st.length * 1) := by rw [h]
  rw [List.take_take, Nat.min_eq_left (by omega)] at h1
  rw [h1]
  simp [ptrs]
theorem row_ne_map {w : World} {g r : Nat} {cur : Array Value} {t : TypeId} {es : Ents} (h : w.heap[g]? = some (.cells cur t (0, 0))) (hm : PM w r es) : g ≠ r := by
  rintro rfl
  obtain ⟨_, _, h2, _⟩ := hm
  rw [h] at h2
  cases h2

set_option maxHeartbeats 1000000 in
theorem endless_big (op n : Int) (k : Fo) (A : Option Addr) (c L B : Nat) (w : World) (hl : Lies w L B A 0 k) (hB : B ≤ w.heap.size) (hal : AllRows w L B) (hk1 : k.len ≤ c) (hk2 : c ≤ maxLen) (hsz : k.size ≤ 1048576) (hsm : smallOk k 14 80 = false) :
    Calls Try.prog 94 #[.agg #[.int .i64 op, .int .i64 n, .slice A k.len c]] w (Gives (.bool false) w) := by
  have hb0 : Below w.heap.size w (w.alloc (Obj.cells #[Value.int IntKind.i64 op, Value.int IntKind.i64 n, Value.slice A k.len c] 40)) := (Below.refl _ _).alloc (Nat.le_refl _) _
  have hr0 := Row.fresh w 40 #[Value.int IntKind.i64 op, Value.int IntKind.i64 n, Value.slice A k.len c]
  have hs0 : w.heap.size + 1 ≤ (w.alloc (Obj.cells #[Value.int IntKind.i64 op, Value.int IntKind.i64 n, Value.slice A k.len c] 40)).heap.size := by simp
  have hl0 := (hl.mono_ (Nat.zero_le _) hB).below hb0
  have hmm := @run_makeMap Try.prog
  go_enter Try.func94, Try.ntmps94
  go_wp2_with fail
  refine (withinLimits_any op n k A c _ (hl0.mono_ (Nat.le_refl _) hb0.size) (by omega)).mono ?_
  rintro e w2 ⟨rfl, hb2'⟩
  rw [hsm]
  have hb2 := hb0.trans (hb2'.mono hb0.size)
  have hr2 := hr0.below hb2' (by omega)
  have hs2 : w.heap.size + 1 ≤ w2.heap.size := Nat.le_trans hs0 hb2'.size
  have q0 := hr2.cell (i := 0) rfl
  have q1 := hr2.cell (i := 1) rfl
  have q2 := hr2.cell (i := 2) rfl
  clear hb0 hr0 hs0 hl0 hb2'
  have hb3 : Below w.heap.size w (((w2.alloc (Obj.cells #[Value.int IntKind.i64 op, Value.int IntKind.i64 n, Value.slice A k.len c] 40)).alloc (Obj.cells #[Value.pointer (some ⟨w2.heap.size, 0, none⟩)] 108)).alloc (Obj.map #[] 0)) :=
    ((hb2.alloc hb2.size _).alloc (by simp; omega) _).alloc (by simp; omega) _
  have rR : Row (((w2.alloc (Obj.cells #[Value.int IntKind.i64 op, Value.int IntKind.i64 n, Value.slice A k.len c] 40)).alloc (Obj.cells #[Value.pointer (some ⟨w2.heap.size, 0, none⟩)] 108)).alloc (Obj.map #[] 0)) w2.heap.size 40 #[Value.int IntKind.i64 op, Value.int IntKind.i64 n, Value.slice A k.len c] :=
    ((Row.fresh _ _ _).alloc _).alloc _
  have rL : Row (((w2.alloc (Obj.cells #[Value.int IntKind.i64 op, Value.int IntKind.i64 n, Value.slice A k.len c] 40)).alloc (Obj.cells #[Value.pointer (some ⟨w2.heap.size, 0, none⟩)] 108)).alloc (Obj.map #[] 0)) (w2.heap.size + 1) 108 #[Value.pointer (some ⟨w2.heap.size, 0, none⟩)] := by
    have := Row.fresh (w2.alloc (Obj.cells #[Value.int IntKind.i64 op, Value.int IntKind.i64 n, Value.slice A k.len c] 40)) 108 #[Value.pointer (some ⟨w2.heap.size, 0, none⟩)]
    rw [World.size_alloc] at this
    exact this.alloc _
  have pm : PM (((w2.alloc (Obj.cells #[Value.int IntKind.i64 op, Value.int IntKind.i64 n, Value.slice A k.len c] 40)).alloc (Obj.cells #[Value.pointer (some ⟨w2.heap.size, 0, none⟩)] 108)).alloc (Obj.map #[] 0)) (w2.heap.size + 1 + 1) [] := by
    refine ⟨#[], 0, ?_, rfl⟩
    have := heap_alloc_new ((w2.alloc (Obj.cells #[Value.int IntKind.i64 op, Value.int IntKind.i64 n, Value.slice A k.len c] 40)).alloc (Obj.cells #[Value.pointer (some ⟨w2.heap.size, 0, none⟩)] 108)) (Obj.map #[] 0)
    simpa using this
  have hz3 : (((w2.alloc (Obj.cells #[Value.int IntKind.i64 op, Value.int IntKind.i64 n, Value.slice A k.len c] 40)).alloc (Obj.cells #[Value.pointer (some ⟨w2.heap.size, 0, none⟩)] 108)).alloc (Obj.map #[] 0)).heap.size = w2.heap.size + 1 + 1 + 1 := by simp
  have hzz := hb2.size
  have H3 := Lib.hid hb3
  have HR3 := Lib.hid rR
  have HL3 := Lib.hid rL
  have HP3 := Lib.hid pm
  have HZ3 := Lib.hid hz3
  clear hb3 rR rL pm hz3
  go_wp2_with fail
  generalize ((w2.alloc (Obj.cells #[Value.int IntKind.i64 op, Value.int IntKind.i64 n, Value.slice A k.len c] 40)).alloc (Obj.cells #[Value.pointer (some ⟨w2.heap.size, 0, none⟩)] 108)).alloc (Obj.map #[] 0) = w3 at *
  have hl3 : Lies w3 L B A 0 k := hl.below (H3.out.mono hB)
  have hal3 : AllRows w3 L B := hal.below H3.out hB
  obtain ⟨G, gnd, hpu, hpot⟩ := start_graph (w3 := w3) (gL := w2.heap.size + 1) (p := ⟨w2.heap.size, 0, none⟩) rfl hl3 hal3 (by omega) (Nat.lt_succ_self _) ⟨_, _, HR3.out⟩ (HR3.out.cell (i := 0) rfl) (HR3.out.cell (i := 1) rfl) (HR3.out.cell (i := 2) rfl) hk1 hk2
  have sea0 : Sea w3 G (w2.heap.size + 1) [⟨w2.heap.size, 0, none⟩] [] (.slice (some ⟨w2.heap.size + 1, 0, none⟩) 1 1) w3 :=
    ⟨⟨rfl, .inr ⟨_, 1, _, rfl, Nat.le_refl _, HL3.out, Nat.le_refl _, by decide, rfl, rfl⟩⟩, HP3.out, Below.refl _ _, by rw [HZ3.out]; omega⟩
  have inv0 := start_inv hpu
  go_loopg [4] (pot G [⟨w2.heap.size, 0, none⟩] []) (fun gk v wr => ∃ st es, gk = pot G st es ∧ gk ≤ 2097154 ∧ Sea w3 G (w2.heap.size + 1) st es v wr ∧ DInv G st es)
  case atStart => exact ⟨_, _, rfl, by omega, sea0, inv0⟩
  case round =>
    clear sea0 inv0
    obtain ⟨st, es, hgk, hgm, hsea, hinv⟩ := hrel
    have hbw : Below w.heap.size w wr := H3.out.trans (hsea.below.mono (by omega))
    rcases List.eq_nil_or_concat st with rfl | ⟨st', x, hst⟩
    · rcases hsea.own.2 with ⟨rfl, _⟩ | ⟨g, cap, cur, rfl, _⟩
      all_goals
        clear hsea hinv hgk
        go_wp2
        go_ret
        exact ⟨rfl, hbw⟩
    · rw [List.concat_eq_append] at hst
      subst hst
      rcases hsea.own.2 with ⟨_, h0⟩ | ⟨g, cap, cur, hv, hgg, hgh, hgn, hgc, hgs, hgt⟩
      · simp at h0
      rw [List.length_append] at hv hgn hgt
      simp only [List.length_singleton] at hv hgn hgt
      subst hv
      have hpot := hgm
      have hxu : x ∈ G.univ := hinv.stack x (by simp)
      have hlen : st'.length + 1 ≤ 2097154 := by
        have : (st' ++ [x]).length ≤ pot G (st' ++ [x]) es := Nat.le_add_right _ _
        simp at this
        omega
      have hctop : wr.cell? ⟨g, st'.length, none⟩ = some (.pointer (some x)) := by
        refine (cell_of_row wr g st'.length cur _ _ hgh).trans ?_
        have h1 : (cur.toList.take ((st'.length + 1) * 1))[st'.length]? = (ptrs (st' ++ [x]))[st'.length]? := by rw [hgt]
        rw [List.getElem?_take_of_lt (by omega), Array.getElem?_toList] at h1
        rw [h1]
        simp [ptrs]
      have hons : ∀ p ∈ es, OnRow wr p.1 := by
        intro p hp
        have h1 : (look es p.1).isSome = true := by
          cases hq : look es p.1 with
          | some _ => rfl
          | none =>
            unfold look at hq
            rw [Option.map_eq_none_iff, List.find?_eq_none] at hq
            have h9 := hq p hp
            simp at h9
        obtain ⟨h2, h3⟩ := gnd.on p.1 (hinv.marks _ h1)
        exact h2.below hsea.below h3
      obtain ⟨hxo, hxb⟩ := gnd.on x hxu
      have hxo' := hxo.below hsea.below hxb
      obtain ⟨jT, hjT, hjz⟩ : ∃ j, Try.prog.info? 40 = some j ∧ j.size ≠ 0 := by
        obtain ⟨i, hi, _, hz1, _⟩ := info_parts (show (Try.prog.info? 40).map (fun i => (i.zero, i.size, i.bytes)) = some (some (.agg #[.int .i64 0, .int .i64 0, .slice Option.none 0 0]), 3, 40) by kernel_rfl)
        exact ⟨i, hi, by rw [hz1]; decide⟩
      have hlk := pm_lookup (P := Try.prog) Try.underlying110 Try.underlying108 hjT hjz (by kernel_rfl) hsea.pm hons hxo'
      have HT := Lib.hid hgt
      have HH := Lib.hid hgh
      have HS := Lib.hid hgs
      have HGK := Lib.hid hgk
      clear hgt hgh hgs hgk
      cases hlook : look es x with
      | some b =>
        rw [hlook] at hlk
        simp only [Option.getD_some, Option.isSome_some] at hlk
        obtain ⟨wu, hup, hpm2, hbut⟩ := pm_update (P := Try.prog) Try.underlying110 Try.underlying108 hjT hjz hsea.pm hons hxo' true
        have HLK := Lib.hid hlook
        clear hlook
        have HB := Lib.hid hbut
        have HE := Lib.hid hmm
        have HPM2 := Lib.hid hpm2
        clear hmm hbut hpm2
        go_wp2
        have hne := row_ne_map HH.out hsea.pm
        have sea2 : Sea w3 G (w2.heap.size + 1) st' (put es x true) (.slice (some ⟨g, 0, none⟩) st'.length cap) wu :=
          ⟨⟨by simp [ptrs], .inr ⟨g, cap, cur, rfl, hgg, (HB.out.2.2.2.2 g hne).trans HH.out, by omega, hgc, HS.out, take_ptrs HT.out⟩⟩, HPM2.out, hsea.below.trans (HB.out.below (by omega)), by rw [HB.out.2.2.2.1]; exact hsea.size⟩
        have inv2 := hinv.pop (by rw [HLK.out]; simp)
        have pot2 := pot_pop (G := G) (st := st') (es := es) (x := x)
        rw [← HGK.out] at pot2
        go_roundg (pot G st' (put es x true))
        case measure => omega
        case rel => exact ⟨_, _, rfl, by omega, sea2, inv2⟩
      | none =>
        rw [hlook] at hlk
        simp only [Option.getD_none, Option.isSome_none] at hlk
        obtain ⟨wu, hup, hpm2, hbut⟩ := pm_update (P := Try.prog) Try.underlying110 Try.underlying108 hjT hjz hsea.pm hons hxo' false
        obtain ⟨hinv2, hkids⟩ := hinv.expand hlook
        have pot2 := pot_expand hinv hlook
        rw [← HGK.out] at pot2
        have hne := row_ne_map HH.out hsea.pm
        have sea2 : Sea w3 G (w2.heap.size + 1) (st' ++ [x]) (put es x false) (.slice (some ⟨g, 0, none⟩) (st'.length + 1) cap) wu :=
          ⟨⟨by simp [ptrs], .inr ⟨g, cap, cur, by simp, hgg, (hbut.2.2.2.2 g hne).trans HH.out, by simp; omega, hgc, HS.out, by simpa using HT.out⟩⟩, hpm2, hsea.below.trans (hbut.below (by omega)), by rw [hbut.2.2.2.1]; exact hsea.size⟩
        obtain ⟨hspot, KA, kn, kc, hkn, hkc, hkcell, hkid, hkA⟩ := gnd.kids x hxu
        obtain ⟨xb, xo, xs⟩ := x
        simp only at hspot hxb hkcell
        subst hspot
        have hkl : (G.kid ⟨xb, xo, none⟩).length ≤ kn := by rw [hkid]; exact length_kidsAt_le _ _
        have hkl2 : (G.kid ⟨xb, xo, none⟩).length = kn := by
          rw [hkid]
          rcases Nat.eq_zero_or_pos kn with h0 | h0
          · subst h0; have := length_kidsAt_le KA 0; omega
          · obtain ⟨b, o, rfl⟩ := hkA h0; simp [addrRow]
        have xc : wu.cell? ⟨xb, xo + 2, none⟩ = some (.slice KA kn kc) := ((hbut.below (B := w2.heap.size + 1) (by omega)).cell hxb).trans ((hsea.below.cell hxb).trans hkcell)
        have hkcell' : ∀ wi, Below (w2.heap.size + 1) w3 wi → wi.cell? ⟨xb, xo + 2, none⟩ = some (.slice KA kn kc) := fun wi hi => (hi.cell hxb).trans hkcell
        have hm63 : kn ≤ 9223372036854775807 := by have := hkc; unfold maxLen at this; omega
        have HSEA2 := Lib.hid sea2
        have HINV2 := Lib.hid hinv2
        have HKIDS := Lib.hid hkids
        have HPOT2 := Lib.hid pot2
        have HKC := Lib.hid hkcell'
        have HKID := Lib.hid hkid
        have HKL := Lib.hid hkl2
        clear hmm hbut hpm2 sea2 hinv2 hkids pot2 hkcell' hkid hkl hkl2 hlook hkcell
        go_wp2_with fail
        clear hup xc hlk hctop
        go_loopw [4, 48] (fun v i wi => ∃ (j : Nat) (ks : List Addr), j ≤ kn ∧ i = .int .i64 j ∧ ks.length ≤ j ∧ Sea w3 G (w2.heap.size + 1) (st' ++ [⟨xb, xo, none⟩] ++ ks) (put es ⟨xb, xo, none⟩ false) v wi ∧ DInv2 G (st' ++ [⟨xb, xo, none⟩] ++ ks) (put es ⟨xb, xo, none⟩ false) ⟨xb, xo, none⟩)
          (fun _ i _ => kn - (intOf i).toNat)
        case atStart => exact ⟨0, [], by omega, rfl, by simp, by simpa using HSEA2.out, by simpa using HINV2.out⟩
        case round =>
          obtain ⟨j, ks, hj, rfl, hks, hsi, hii⟩ := hrel
          have xc := HKC.out _ hsi.below
          have HII := Lib.hid hii
          by_cases hlt : j < kn
          · obtain ⟨b, o, rfl⟩ := hkA (by omega)
            have hy : (⟨b, o + j * 3, none⟩ : Addr) ∈ G.kid ⟨xb, xo, none⟩ := by
              rw [HKID.out]
              exact List.mem_map.2 ⟨j, List.mem_range.2 hlt, rfl⟩
            have hyu := (G.closed _ hxu _ hy).1
            obtain ⟨hyo, hyb⟩ := gnd.on _ hyu
            have hyo' := hyo.below hsi.below hyb
            have hons2 : ∀ p ∈ put es ⟨xb, xo, none⟩ false, OnRow wr p.1 := by
              intro p hp
              have h1 : (look (put es ⟨xb, xo, none⟩ false) p.1).isSome = true := by
                cases hq : look (put es ⟨xb, xo, none⟩ false) p.1 with
                | some _ => rfl
                | none =>
                  unfold look at hq
                  rw [Option.map_eq_none_iff, List.find?_eq_none] at hq
                  have h9 := hq p hp
                  simp at h9
              obtain ⟨h2, h3⟩ := gnd.on p.1 (HII.out.marks _ h1)
              exact h2.below hsi.below h3
            have hlk := pm_lookup (P := Try.prog) Try.underlying110 Try.underlying108 hjT hjz (by kernel_rfl) hsi.pm hons2 hyo'
            have HT2 := Lib.hid hsi
            have hnf := HKIDS.out _ hy
            cases hlook : look (put es ⟨xb, xo, none⟩ false) ⟨b, o + j * 3, none⟩ with
            | some d =>
              cases d with
              | false => exact absurd hlook hnf
              | true =>
                rw [hlook] at hlk
                simp only [Option.getD_some, Option.isSome_some] at hlk
                clear hsi hnf hlook
                go_wp2
                go_roundw
                case rel => exact ⟨j + 1, ks, by omega, by go_num, by omega, HT2.out, HII.out⟩
                case measure => simp [intOf]; omega
            | none =>
              rw [hlook] at hlk
              simp only [Option.getD_none, Option.isSome_none] at hlk
              clear hnf hlook
              obtain ⟨iT, hiT, hiz0, hiz1, hiz2⟩ := info_parts (show (Try.prog.info? 108).map (fun i => (i.zero, i.size, i.bytes)) = some (some (.pointer none), 1, 8) by kernel_rfl)
              have hown := hsi.own
              have hslen : (st' ++ [(⟨xb, xo, none⟩ : Addr)] ++ ks).length ≤ 2097154 := by
                have h1 := HPOT2.out
                have h2 := HKL.out
                have h3 : (st' ++ [(⟨xb, xo, none⟩ : Addr)]).length ≤ pot G (st' ++ [⟨xb, xo, none⟩]) (put es ⟨xb, xo, none⟩ false) := Nat.le_add_right _ _
                rw [List.length_append]
                omega
              have hsz1 := hsi.size
              have HOWN := Lib.hid (hown.alloc (.cells #[Value.pointer (some ⟨b, o + j * 3, none⟩)] 108))
              clear hsi hown
              go_wp2_with (at_builtin; refine wpList_append_own _ rfl _ _ 109 rfl (w2.heap.size + 1) 108 iT (.pointer none) 1 8 Try.underlying109 hiT hiz0 hiz1 hiz2 rfl (by decide) _ _ _ rfl HOWN.out ⟨wr.heap.size, 0, none⟩ 1 1 [.pointer (some ⟨b, o + j * 3, none⟩)] rfl rfl ?c1 ?c2 ?c3 ?c4 ?c5 ?_)
              case c2 => rfl
              case c3 => simp [maxLen] at hslen ⊢; omega
              case c4 => simp at hslen ⊢; omega
              case c5 => omega
              intro v' w1 h1 h2 h3
              have hb1 : Below (w2.heap.size + 1) w3 w1 := by
                refine (HT2.out.below.alloc (by omega) _).grown h2 (by simp; omega) fun g' hg' => ?_
                rcases HT2.out.own.2 with ⟨rfl, _⟩ | ⟨g2, _, _, rfl, hgg2, _⟩
                · simp [Value.ownBlock] at hg'
                · have : g2 = g' := by simpa [Value.ownBlock] using hg'
                  omega
              have hpm1 : PM w1 (w2.heap.size + 1 + 1) (put es ⟨xb, xo, none⟩ false) := by
                obtain ⟨ents, clock, hh, hm⟩ := HT2.out.pm
                refine ⟨ents, clock, ?_, hm⟩
                rw [h2.block _ (by simp; omega) ?_]
                · rw [Below.heap_alloc _ _ _ (by omega)]
                  exact hh
                · rcases HT2.out.own.2 with ⟨rfl, _⟩ | ⟨g2, _, _, rfl, hgg2, hgh2, _⟩
                  · simp [Value.ownBlock]
                  · have := row_ne_map hgh2 HT2.out.pm
                    simp [Value.ownBlock]
                    omega
              have sea4 : Sea w3 G (w2.heap.size + 1) (st' ++ [⟨xb, xo, none⟩] ++ (ks ++ [⟨b, o + j * 3, none⟩])) (put es ⟨xb, xo, none⟩ false) v' w1 := by
                refine ⟨?_, hpm1, hb1, ?_⟩
                · simpa [ptrs, Nat.add_assoc] using h1
                · have := h2.size
                  simp at this
                  omega
              have inv4 := HII.out.push hxu hy
              rw [List.append_assoc] at inv4
              have SEA4 := Lib.hid sea4
              have INV4 := Lib.hid inv4
              clear h1 h2 h3 hb1 hpm1 sea4 inv4
              go_wp2
              go_roundw
              case rel => exact ⟨j + 1, ks ++ [(⟨b, o + j * 3, none⟩ : Addr)], by omega, by go_num, by simp; omega, SEA4.out, INV4.out⟩
              case measure => simp [intOf]; omega
          · have hjk : j = kn := by omega
            have HT2 := Lib.hid hsi
            clear hsi
            go_wp2
            go_roundg (pot G (st' ++ [⟨xb, xo, none⟩] ++ ks) (put es ⟨xb, xo, none⟩ false))
            case measure =>
              have h1 := HPOT2.out
              have h2 := HKL.out
              have h3 : pot G (st' ++ [⟨xb, xo, none⟩] ++ ks) (put es ⟨xb, xo, none⟩ false) = pot G (st' ++ [⟨xb, xo, none⟩]) (put es ⟨xb, xo, none⟩ false) + ks.length := by unfold pot; rw [List.length_append]; omega
              omega
            case rel =>
              refine ⟨_, _, rfl, ?_, HT2.out, HII.out.toDInv⟩
              have h1 := HPOT2.out
              have h2 := HKL.out
              have h3 : pot G (st' ++ [⟨xb, xo, none⟩] ++ ks) (put es ⟨xb, xo, none⟩ false) = pot G (st' ++ [⟨xb, xo, none⟩]) (put es ⟨xb, xo, none⟩ false) + ks.length := by unfold pot; rw [List.length_append]; omega
              omega

/-- What is too large for an expression lies in plain rows. -/
def RowsIf (w : World) (L B : Nat) (k : Fo) : Prop := smallOk k 14 80 = false → AllRows w L B
theorem RowsIf.below {w w' : World} {L B C : Nat} {k : Fo} (h : RowsIf w L B k) (hb : Below C w w') (hC : B ≤ C) : RowsIf w' L B k := fun hs => (h hs).below hb hC
theorem RowsIf.small {w : World} {L B : Nat} {k : Fo} (h : smallOk k 14 80 = true) : RowsIf w L B k := fun hs => by rw [h] at hs; cases hs

set_option maxHeartbeats 1000000 in
theorem endless_r (op n : Int) (k : Fo) (A : Option Addr) (c L B : Nat) (w : World) (hl : Lies w L B A 0 k) (hB : B ≤ w.heap.size) (hal : RowsIf w L B k) (hk1 : k.len ≤ c) (hk2 : c ≤ maxLen) (hsz : k.size ≤ 1048576) :
    Calls Try.prog 94 #[.agg #[.int .i64 op, .int .i64 n, .slice A k.len c]] w (Gives (.bool false) w) := by
  cases hsm : smallOk k 14 80 with
  | false => exact endless_big op n k A c L B w hl hB (hal hsm) hk1 hk2 hsz hsm
  | true =>
    have hb0 : Below w.heap.size w (w.alloc (Obj.cells #[Value.int IntKind.i64 op, Value.int IntKind.i64 n, Value.slice A k.len c] 40)) := (Below.refl _ _).alloc (Nat.le_refl _) _
    have hl0 := (hl.mono_ (Nat.zero_le _) hB).below hb0
    go_enter Try.func94, Try.ntmps94
    go_wp2_with fail
    refine (withinLimits_any op n k A c _ (hl0.mono_ (Nat.le_refl _) hb0.size) (by omega)).mono ?_
    rintro e w2 ⟨rfl, hb2'⟩
    rw [hsm]
    have hb2 := hb0.trans (hb2'.mono hb0.size)
    clear hb0 hl0 hb2'
    go_wp2
    go_ret
    exact ⟨rfl, hb2⟩
theorem endless_any (op n : Int) (k : Fo) (A : Option Addr) (c L B : Nat) (w : World) (hl : Lies w L B A 0 k) (hB : B ≤ w.heap.size) (hal : AllRows w L B) (hk1 : k.len ≤ c) (hk2 : c ≤ maxLen) (hsz : k.size ≤ 1048576) :
    Calls Try.prog 94 #[.agg #[.int .i64 op, .int .i64 n, .slice A k.len c]] w (Gives (.bool false) w) :=
  endless_r op n k A c L B w hl hB (fun _ => hal) hk1 hk2 hsz
end Go.Proofs.Ytbpcggbmlaomjaa
