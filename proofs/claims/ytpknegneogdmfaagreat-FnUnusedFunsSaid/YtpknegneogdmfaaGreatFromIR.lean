/-
  A search through a graph by a list of work, as data: what has been come to, what is still to do. A set of numbers in a map.
  impl.CallsFrom.
-/
import Derived.Test.YtpknegneogdmfaaGreatEffD
import Derived.Lib.SlKeysI
import Derived.Maps.OwnSet
import Derived.Maps.Views
import Derived.Test.YtpknegneogdmfaaGreatLayKeys
import Derived.Test.YtpknegneogdmfaaGreatLibVI
import Derived.Test.YtpknegneogdmfaaGreatCallsM
import Derived.Deep.LoopGhost
import Derived.Maps.AppendAt
import Derived.Shelf.SlIterI.Nil
import Derived.Shelf.SortM.Plain
import Derived.Shelf.SortM.SortNone
namespace Go.Proofs.YtpknegneogdmfaaGreat
open Go.RowKit Go.Maps
set_option maxRecDepth 100000

/-- ks: come to; ws: to do. -/
structure Srch (ds : List De) (S : Nat → Bool) (ks ws : List Int) : Prop where
  nd : ks.Nodup
  kin : ∀ x ∈ ks, inVar x = true ∧ Rch S (edge ds) x.toNat
  win : ∀ x ∈ ws, inVar x = true ∧ Rch S (edge ds) x.toNat
  start : ∀ v, S v = true → (v : Int) ∈ ks ∨ (v : Int) ∈ ws
  next : ∀ x ∈ ks, ∀ g, edge ds x.toNat g = true → (g : Int) ∈ ks ∨ (g : Int) ∈ ws

theorem vars_len : ∀ (m : Nat) (ks : List Int), ks.Nodup → (∀ x ∈ ks, 0 ≤ x ∧ x < (m : Int)) → ks.length ≤ m
  | 0, [], _, _ => Nat.le_refl _
  | 0, x :: _, _, h => by have := h x (List.mem_cons_self ..); omega
  | m + 1, ks, hn, h => by
    have h1 := vars_len m (ks.filter fun x => decide (x ≠ (m : Int))) (hn.filter _) (fun x hx => by
      obtain ⟨h2, h3⟩ := List.mem_filter.1 hx
      have := h x h2
      have := of_decide_eq_true h3
      omega)
    by_cases hm : (m : Int) ∈ ks
    · have h2 : ks.filter (fun x => decide (x ≠ (m : Int))) = ks.erase (m : Int) := by
        rw [hn.erase_eq_filter]
        refine List.filter_congr fun x _ => ?_
        by_cases hxm : x = (m : Int) <;> simp [hxm]
      rw [h2, List.length_erase_of_mem hm] at h1
      omega
    · have h2 : ks.filter (fun x => decide (x ≠ (m : Int))) = ks := List.filter_eq_self.2 fun x hx => decide_eq_true fun e => hm (e ▸ hx)
      rw [h2] at h1
      omega
theorem Srch.len {ds : List De} {S : Nat → Bool} {ks ws : List Int} (h : Srch ds S ks ws) : ks.length ≤ 8 :=
  vars_len 8 ks h.nd fun x hx => by have := inVar_nat (h.kin x hx).1; omega

/-- A number that is there already is left out of the work. -/
theorem Srch.old {ds : List De} {S : Nat → Bool} {ks ws : List Int} {x : Int} (h : Srch ds S ks (ws ++ [x])) (hx : x ∈ ks) : Srch ds S ks ws := by
  have hm : ∀ y, y ∈ ks ∨ y ∈ ws ++ [x] → y ∈ ks ∨ y ∈ ws := by
    rintro y (hy | hy)
    · exact .inl hy
    · rcases List.mem_append.1 hy with hy | hy
      · exact .inr hy
      · rw [List.mem_singleton] at hy; subst hy; exact .inl hx
  exact ⟨h.nd, h.kin, fun y hy => h.win y (List.mem_append_left _ hy), fun v hv => hm _ (h.start v hv), fun y hy g hg => hm _ (h.next y hy g hg)⟩
/-- A new one: what it calls is to do. -/
theorem Srch.new {ds : List De} {S : Nat → Bool} {ks ws zs : List Int} {x : Int} (h : Srch ds S ks (ws ++ [x])) (hx : x ∉ ks) (hz : ∀ y, y ∈ zs ↔ ∃ g, y = ((g : Nat) : Int) ∧ edge ds x.toNat g = true ∧ g < 8) (h8 : ∀ g, edge ds x.toNat g = true → g < 8) : Srch ds S (ks ++ [x]) (ws ++ zs) := by
  have hxw := h.win x (List.mem_append_right _ (List.mem_singleton.2 rfl))
  have hm : ∀ y, y ∈ ks ∨ y ∈ ws ++ [x] → y ∈ ks ++ [x] ∨ y ∈ ws ++ zs := by
    rintro y (hy | hy)
    · exact .inl (List.mem_append_left _ hy)
    · rcases List.mem_append.1 hy with hy | hy
      · exact .inr (List.mem_append_left _ hy)
      · exact .inl (List.mem_append_right _ hy)
  refine ⟨List.nodup_append.2 ⟨h.nd, by simp, fun a ha b hb => ?_⟩, ?_, ?_, fun v hv => hm _ (h.start v hv), ?_⟩
  · rw [List.mem_singleton] at hb
    subst hb
    intro e
    subst e
    exact hx ha
  · intro y hy
    rcases List.mem_append.1 hy with hy | hy
    · exact h.kin y hy
    · rw [List.mem_singleton] at hy; subst hy; exact hxw
  · intro y hy
    rcases List.mem_append.1 hy with hy | hy
    · exact h.win y (List.mem_append_left _ hy)
    · obtain ⟨g, rfl, he, hg⟩ := (hz y).1 hy
      exact ⟨by unfold inVar; simp; omega, .step hxw.2 he⟩
  · intro y hy g hg
    rcases List.mem_append.1 hy with hy | hy
    · exact hm _ (h.next y hy g hg)
    · rw [List.mem_singleton] at hy
      subst hy
      exact .inr (List.mem_append_right _ ((hz _).2 ⟨g, rfl, hg, h8 g hg⟩))
/-- At the end. -/
theorem Srch.fin {ds : List De} {S : Nat → Bool} {ks : List Int} (h : Srch ds S ks []) (v : Nat) : (v : Int) ∈ ks ↔ Rch S (edge ds) v := by
  constructor
  · intro hv
    exact (h.kin _ hv).2
  · intro hv
    induction hv with
    | base h1 =>
      rcases h.start _ h1 with h2 | h2
      · exact h2
      · simp at h2
    | step _ e ih =>
      rcases h.next _ ih _ e with h2 | h2
      · exact h2
      · simp at h2

theorem numsUpto_iff (S : Nat → Bool) : ∀ (j : Nat) (x : Int), x ∈ numsUpto S j ↔ ∃ v, v < j ∧ x = (v : Int) ∧ S v = true
  | 0, x => by simp [numsUpto]
  | j + 1, x => by
    constructor
    · exact numsUpto_mem (j + 1) x
    · rintro ⟨v, h1, rfl, h2⟩
      by_cases hv : v = j
      · subst hv
        rw [numsUpto_yes h2]
        exact List.mem_append_right _ (List.mem_singleton.2 rfl)
      · have h3 := (numsUpto_iff S j _).2 ⟨v, by omega, rfl, h2⟩
        cases hs : S j with
        | true => rw [numsUpto_yes hs]; exact List.mem_append_left _ h3
        | false => rw [numsUpto_no hs]; exact h3
theorem numsUpto_asc (S : Nat → Bool) : ∀ j, (numsUpto S j).Pairwise (· < ·)
  | 0 => .nil
  | j + 1 => by
    cases hs : S j with
    | true =>
      rw [numsUpto_yes hs]
      refine List.pairwise_append.2 ⟨numsUpto_asc S j, List.pairwise_singleton _ _, fun a ha b hb => ?_⟩
      rw [List.mem_singleton] at hb
      obtain ⟨v, h1, rfl, _⟩ := numsUpto_mem j a ha
      omega
    | false => rw [numsUpto_no hs]; exact numsUpto_asc S j
/-- Numbers in whatever order, sorted. -/
theorem sorted_nums {S : Nat → Bool} {ks ss : List Int} (hn : ks.Nodup) (hk : ∀ x ∈ ks, inVar x = true) (h : ∀ v : Nat, (v : Int) ∈ ks ↔ S v = true) (hp : ss.Perm ks) : ss.mergeSort (fun x y => decide (x ≤ y)) = numsUpto S 8 := by
  have hnd : (numsUpto S 8).Nodup := (numsUpto_asc S 8).imp fun h => by omega
  have h2 : ks.Perm (numsUpto S 8) := (List.perm_ext_iff_of_nodup hn hnd).2 fun x => by
    rw [numsUpto_iff]
    constructor
    · intro hx
      have h3 := inVar_nat (hk x hx)
      exact ⟨x.toNat, h3.2, h3.1.symm, (h _).1 (by rw [h3.1]; exact hx)⟩
    · rintro ⟨v, _, rfl, h3⟩
      exact (h v).2 h3
  have h3 := mergeSort_of_perm_i (hp.trans h2)
  refine h3.trans ?_
  exact List.mergeSort_of_pairwise ((numsUpto_asc S 8).imp fun h => decide_eq_true (Int.le_of_lt h))

/-- The map holds just the numbers ks. -/
def SetB (D : DataW Unit) (ks : List Int) : Prop := IsMap D ∧ ∀ x : Int, D.atKey (.int .i64 x) (.lit (.bool false)) = .lit (.bool (decide (x ∈ ks))) ∧ has D (.int .i64 x) = decide (x ∈ ks)
theorem SetB.nil : SetB (.map []) [] := ⟨isMap_empty, fun _ => ⟨rfl, rfl⟩⟩
theorem SetB.put {D : DataW Unit} {ks : List Int} (h : SetB D ks) (x : Int) : SetB (D.put (.int .i64 x) (.lit (.bool true))) (ks ++ [x]) := by
  refine ⟨h.1.put _ _, fun y => ?_⟩
  by_cases hy : y = x
  · subst hy
    rw [atKey_put_same h.1 (show WideAt.IsKeyLit (.int .i64 y) from trivial), has_put_same h.1 (show WideAt.IsKeyLit (.int .i64 y) from trivial)]
    simp
  · have hne : (Lit.int .i64 y) ≠ .int .i64 x := by simpa using hy
    rw [atKey_put_other hne, has_put_other hne, (h.2 y).1, (h.2 y).2]
    simp [hy]
end Go.Proofs.YtpknegneogdmfaaGreat

namespace Go.Proofs.YtpknegneogdmfaaGreat
open Go.RowKit Go.Maps Go.Sort Go.Shelf
set_option maxRecDepth 100000

theorem sortsA (m : Nat) : AnyZI.SortsIn Tryz.prog Tryz.sortedA_ren Fence.wide m :=
  ⟨fun blk off cap ss W hH hblk hsz => callsIn_wide.2 (AnyM.slices_Sort_int Tryz.sortA blk off cap ss W hH hblk hsz),
   fun p cap W => callsIn_wide.2 (AnyM.slices_Sort_int_none Tryz.sortA p cap W)⟩
theorem mapsKeys_any (mb : Option Nat) (W : World) : Calls Tryz.prog 40 #[.map mb] W fun e w' => e = .returned (.func (.func 57) #[] #[.pointer (some ⟨W.heap.size, 0, none⟩)]) ∧ w' = W.alloc (.cells #[.map mb] 69) :=
  (callsIn_wide (n := 5)).1 (AnyZI.keys_in Tryz.keysA Fence.wide 5 trivial rfl mb W)

set_option maxHeartbeats 1000000 in
theorem sortedKeys_any (b nn : Nat) (D0 : DataW Unit) (R : Value → Option (DataW Unit × List MemPlace)) (w : World) (hown : w.ownsMap Tryz.prog 3 R b nn D0) (hmax : Maps.size D0 ≤ maxLen) (hbytes : Maps.size D0 * 8 ≤ 140737488355328) :
    Calls Tryz.prog 39 #[.func (.func 57) #[] #[.pointer (some ⟨w.heap.size, 0, none⟩)]] (w.alloc (.cells #[.map (some b)] 69)) fun e w' => ∃ (v : Value) (ss : List Int), e = .returned v ∧ ss.Perm (intKeys D0) ∧
      w'.ownsRow (w.alloc (.cells #[.map (some b)] 69)).heap.size 3 1 v ss.length ((ss.mergeSort (fun x y => decide (x ≤ y))).map encZ) ∧ (v = .slice none 0 0 ↔ ss = []) ∧ Below (w.alloc (.cells #[.map (some b)] 69)).heap.size (w.alloc (.cells #[.map (some b)] 69)) w' := by
  have hbl := hown.lt
  have hseq : SeqGives Fence.wide 2 Tryz.prog 57 #[.pointer (some ⟨w.heap.size, 0, none⟩)] encZ (fun ss => ss.Perm (intKeys D0)) (Maps.size D0) (w.alloc (.cells #[.map (some b)] 69)) :=
    AnyZI.keys_gives (ρ := Tryz.keysA_ren) { Tryz.keysA with } Fence.wide _ trivial rfl (by omega) w.heap.size b nn D0 _ (by simp) (by simp) (by
      obtain ⟨es, clock, hb, Ft, hs, hD⟩ := hown
      exact ⟨es, clock, (Below.heap_alloc _ _ b hbl).trans hb, Ft, hs, hD⟩)
  exact (callsIn_wide (n := 5)).1 (AnyZI.sorted_in Tryz.sortedA Fence.wide 5 trivial trivial trivial trivial rfl (by omega) (sortsA _) (enters_of Tryz.func56 (by kernel_rfl) rfl) 57 #[.pointer (some ⟨w.heap.size, 0, none⟩)] trivial (enters_of Tryz.func57 (by kernel_rfl) rfl) _ _ hmax hbytes _ hseq)

/-- Nothing is appended to a list of the call's own. -/
theorem append_none_run {w : World} {base : Nat} {v : Value} {n c : Nat} {xs : List Value} (h : w.ownsRow base 3 1 v n xs) : (Builtin.append_ #[27, 27] 27 #[v, .slice none 0 c]).run Tryz.prog w = .ok v w := by
  obtain ⟨iT, hiT, hiz0, hiz1, hiz2⟩ := info_parts (show (Tryz.prog.info? 3).map (fun i => (i.zero, i.size, i.bytes)) = some (some (.int .i64 0), 1, 8) by kernel_rfl)
  have hu := Tryz.underlying27
  rcases h.2 with ⟨rfl, _⟩ | ⟨g, cap, cur, rfl, _, _, hn, _⟩
  · simp [Builtin.append_, run_underlying hu, sizeOf, typeInfo, hiT, Builtin.lenOf, Builtin.firstCells]
  · simp [Builtin.append_, run_underlying hu, sizeOf, typeInfo, hiT, Builtin.lenOf, Builtin.firstCells, hn, storeCells]

theorem ownsMap_kept {w w' : World} {P : Program} {k : TypeId} {R : Value → Option (DataW Unit × List MemPlace)} {b n : Nat} {D : DataW Unit} (h : w.ownsMap P k R b n D) (hb : w'.heap[b]? = w.heap[b]?) : w'.ownsMap P k R b n D := by
  obtain ⟨es, clock, h1, h2⟩ := h
  exact ⟨es, clock, hb.trans h1, h2⟩
theorem lookB {w : World} {b n : Nat} {D : DataW Unit} {ks : List Int} (h : w.ownsMap Tryz.prog 3 (plainElem Tryz.prog 4) b n D) (hs : SetB D ks) (x : Int) (hx : inVar x = true) :
    (Instr.lookup 69 (.map (some b)) (.int .i64 x) false).run Tryz.prog w = .ok (.bool (decide (x ∈ ks))) w := by
  have hx9 := inVar_nat hx
  have hR : plainElem (H := Unit) Tryz.prog 4 (.bool false) = some (.lit (.bool false), []) := by unfold plainElem; rw [Tryz.underlying4]
  obtain ⟨v, ps, h1, h2⟩ := h.lookup (int_keyed Tryz.underlying3) Tryz.underlying69 (show (zeroValue 4).run Tryz.prog w = .ok (.bool false) w by kernel_rfl) hR (keyOf_int_mk Tryz.underlying3 (a := x) (by simp [Lit.wf, IntKind.min, IntKind.max, IntKind.signed, IntKind.bits]; omega))
  rw [(hs.2 x).1] at h2
  rw [h1]
  unfold plainElem at h2
  rw [Tryz.underlying4] at h2
  cases v <;> simp at h2
  rw [h2.1]
theorem storeB {w : World} {b n : Nat} {D : DataW Unit} (h : w.ownsMap Tryz.prog 3 (plainElem Tryz.prog 4) b n D) (hn : n < maxLen) (x : Int) (hx : inVar x = true) :
    ∃ w', (Instr.mapUpdate 69 (.map (some b)) (.int .i64 x) (.bool true)).run Tryz.prog w = .ok () w' ∧ w'.ownsMap Tryz.prog 3 (plainElem Tryz.prog 4) b (n + 1) (D.put (.int .i64 x) (.lit (.bool true))) ∧ w.grownBy w' (some b) := by
  have hx9 := inVar_nat hx
  have hR : plainElem (H := Unit) Tryz.prog 4 (.bool true) = some (.lit (.bool true), []) := by unfold plainElem; rw [Tryz.underlying4]
  exact h.update (int_keyed Tryz.underlying3) Tryz.underlying69 hn (keyOf_int_mk Tryz.underlying3 (a := x) (by simp [Lit.wf, IntKind.min, IntKind.max, IntKind.signed, IntKind.bits]; omega)) hR

theorem edge_calls {ds : List De} {x : Int} {d : De} (hx : inVar x = true) (hf : fnd x ds = some d) (y : Int) : y ∈ numsUpto (callB ⟨d.op, d.n, d.k⟩) 8 ↔ ∃ g, y = ((g : Nat) : Int) ∧ edge ds x.toNat g = true ∧ g < 8 := by
  rw [numsUpto_iff]
  have he : ∀ g, edge ds x.toNat g = callB ⟨d.op, d.n, d.k⟩ g := fun g => by unfold edge; rw [(inVar_nat hx).1, hf]
  constructor
  · rintro ⟨v, h1, rfl, h2⟩
    exact ⟨v, rfl, by rw [he]; exact h2, h1⟩
  · rintro ⟨g, rfl, h1, h2⟩
    exact ⟨g, h2, rfl, by rw [← he]; exact h1⟩
theorem edge_lt {ds : List De} (h : libOk ds = true) {f g : Nat} (he : edge ds f g = true) : g < 8 := by
  obtain ⟨d, hd⟩ := edge_there h he
  obtain ⟨hm, hx⟩ := fnd_mem hd
  have h2 := inVar_nat (libOk_named h d hm).1
  rw [hx] at h2
  omega
theorem Srch.zero {ds : List De} {op n : Int} {k : Fo} (h : libOk ds = true) (hf : callsFitB ds op n k = true) : Srch ds (callB ⟨op, n, k⟩) [] (numsUpto (callB ⟨op, n, k⟩) 8) := by
  refine ⟨.nil, fun x hx => by simp at hx, fun x hx => ?_, fun v hv => .inr ?_, fun x hx => by simp at hx⟩
  · obtain ⟨v, h1, rfl, h2⟩ := numsUpto_mem 8 x hx
    exact ⟨(called_there hf _ hx).1, .base h2⟩
  · obtain ⟨d, hd⟩ := rch_there h hf v (.base hv)
    obtain ⟨hm, hx⟩ := fnd_mem hd
    have h2 := inVar_nat (libOk_named h d hm).1
    rw [hx] at h2
    exact (numsUpto_iff _ 8 _).2 ⟨v, by omega, rfl, hv⟩

def FromRel (ds : List De) (S : Nat → Bool) (B rm : Nat) (w0 : World) (gk : Nat) (v : Value) (wr : World) : Prop :=
  ∃ (ws ks : List Int) (D : DataW Unit), wr.ownsRow B 3 1 v ws.length (ws.map (Value.int .i64)) ∧ wr.ownsMap Tryz.prog 3 (plainElem Tryz.prog 4) rm ks.length D ∧ SetB D ks ∧ Srch ds S ks ws ∧ ws.length + 9 * (8 - ks.length) ≤ gk ∧ ws.length ≤ 8 + 8 * ks.length ∧ B ≤ wr.heap.size ∧ Below rm w0 wr

set_option maxHeartbeats 8000000 in
theorem implFrom_r (ds : List De) (DA : Option Addr) (DC : Nat) (op n : Int) (k : Fo) (A : Option Addr) (c : Nat) (LD BD L B : Nat) (w : World) (hd : LiesD w LD BD DA ds) (hBD : BD ≤ w.heap.size) (hl : Lies w L B A 0 k) (hB : B ≤ w.heap.size) (hdz : sizeD ds ≤ 1048576) (hk1 : k.len ≤ c) (hk2 : c ≤ maxLen) (hsz : k.size ≤ 1048576) :
    Calls Tryz.prog 22 #[.slice DA ds.length DC, .agg #[.int .i64 op, .int .i64 n, .slice A k.len c]] w (ListPost (fromL ds op n k) w) := by
  have hds := Nat.le_trans (sizeD_len ds) hdz
  obtain ⟨hb1, hr1⟩ := one_box w 36 #[Value.int IntKind.i64 op, Value.int IntKind.i64 n, Value.slice A k.len c]
  have HA := Lib.hid (implLibValid_r ds DA DC LD BD _ (hd.below (hb1.mono hBD)) (Nat.le_trans hBD hb1.size) hdz)
  have HB1 := Lib.hid hb1
  have HR1 := Lib.hid hr1
  have HDR := Lib.hid hd
  have HD := Lib.hid (hd.mono_ (Nat.zero_le _) hBD)
  have HL := Lib.hid hl
  clear hb1 hr1 hd hl
  cases hv : libOk ds with
  | false =>
    rw [hv] at HA
    have HZ := Lib.hid (fromL_no (op := op) (n := n) (k := k) (ds := ds) (by rw [hv]; rfl))
    clear hv
    go_enter Tryz.func22, Tryz.ntmps22
    go_wp2_with fail
    refine HA.out.mono ?_
    rintro e w2 ⟨rfl, hb2⟩
    have HB2 := Lib.hid (HB1.out.trans (hb2.mono HB1.out.size))
    clear hb2 HA HB1 HR1
    go_wp2
    go_ret
    exact ⟨_, rfl, by rw [HZ.out]; exact World.ownsRow_nil _ _ _ _, HB2.out⟩
  | true =>
    rw [hv] at HA
    generalize hf : callsFitB ds op n k = z
    cases z with
    | false =>
      have HZ := Lib.hid (fromL_no (op := op) (n := n) (k := k) (ds := ds) (by rw [hv, hf]; rfl))
      have HF := Lib.hid hf
      clear hv hf
      go_enter Tryz.func22, Tryz.ntmps22
      go_wp2_with fail
      refine HA.out.mono ?_
      rintro e w2 ⟨rfl, hb2⟩
      have HB2 := Lib.hid (HB1.out.trans (hb2.mono HB1.out.size))
      have HR2 := HR1.out.below hb2 HR1.out.size
      have q0 := HR2.cell (i := 0) rfl
      have q1 := HR2.cell (i := 1) rfl
      have q2 := HR2.cell (i := 2) rfl
      clear hb2 HA HB1 HR1 HR2
      go_wp2_with fail
      refine (implCallsFit_r ds DA DC op n k A c L B w2 (HD.out.up HB2.out) (HL.out.below (HB2.out.mono hB)) (Nat.le_trans hB HB2.out.size) hds hk1 hk2 hsz).mono ?_
      rintro e w3 ⟨rfl, hb3⟩
      rw [HF.out]
      have HB3 := Lib.hid (HB2.out.trans (hb3.mono HB2.out.size))
      clear hb3 HB2 q0 q1 q2
      go_wp2
      go_ret
      exact ⟨_, rfl, by rw [HZ.out]; exact World.ownsRow_nil _ _ _ _, HB3.out⟩
    | true =>
      have HZ := Lib.hid (fromL_yes hv hf)
      have HF := Lib.hid hf
      have HSM := Lib.hid (callsFit_small hf)
      have HV := Lib.hid hv
      have HS0 := Lib.hid (Srch.zero hv hf)
      have HRT := Lib.hid (rch_there hv hf)
      have HIFF := Lib.hid (fromS_iff hv hf)
      have hmm : ∀ W : World, (Instr.makeMap 69 none).run Tryz.prog W = .ok (.map (some W.heap.size)) (W.alloc (.map #[] 0)) := fun W => by kernel_rfl
      have HMM := Lib.hid hmm
      clear hv hf hmm
      go_enter Tryz.func22, Tryz.ntmps22
      go_wp2_with fail
      refine HA.out.mono ?_
      rintro e w2 ⟨rfl, hb2⟩
      have HB2 := Lib.hid (HB1.out.trans (hb2.mono HB1.out.size))
      have HR2 := HR1.out.below hb2 HR1.out.size
      have q0 := HR2.cell (i := 0) rfl
      have q1 := HR2.cell (i := 1) rfl
      have q2 := HR2.cell (i := 2) rfl
      have HR2' := Lib.hid HR2
      clear hb2 HA HB1 HR1 HR2
      go_wp2_with fail
      refine (implCallsFit_r ds DA DC op n k A c L B w2 (HD.out.up HB2.out) (HL.out.below (HB2.out.mono hB)) (Nat.le_trans hB HB2.out.size) hds hk1 hk2 hsz).mono ?_
      rintro e w3 ⟨rfl, hb3⟩
      rw [HF.out]
      have HB3 := Lib.hid (HB2.out.trans (hb3.mono HB2.out.size))
      have HR3 := Lib.hid (HR2'.out.below hb3 HR2'.out.size)
      clear hb3 HB2 q0 q1 q2 HR2'
      go_wp2_with fail
      refine (defsByName_any ds DA DC w3 LD BD (HDR.out.below (HB3.out.mono hBD)) (Nat.le_trans hBD HB3.out.size) hds).mono ?_
      rintro e w4 ⟨es, rfl, hm4, hent4, hb4, hlt4⟩
      have HB4 := Lib.hid (HB3.out.trans (hb4.mono HB3.out.size))
      have HR4 := Lib.hid (HR3.out.below hb4 HR3.out.size)
      have HM4 := Lib.hid hm4
      have HE4 := Lib.hid hent4
      have HS4 := Lib.hid (show w3.heap.size < w4.heap.size ∧ w.heap.size ≤ w3.heap.size ∧ w.heap.size ≤ w4.heap.size from ⟨hlt4, HB3.out.size, HB4.out.size⟩)
      clear hb4 HB3 HR3 hm4 hent4 hlt4
      -- the map of what is reached
      obtain ⟨w5, hw5⟩ : ∃ w5, w5 = w4.alloc (Obj.map #[] 0) := ⟨_, rfl⟩
      have hb45 : Below w4.heap.size w4 w5 := by rw [hw5]; exact (Below.refl _ _).alloc (Nat.le_refl _) _
      have hz5 : w5.heap.size = w4.heap.size + 1 := by rw [hw5]; simp
      have hom5 : w5.ownsMap Tryz.prog 3 (plainElem (H := Unit) Tryz.prog 4) w4.heap.size 0 (.map []) := by rw [hw5]; exact World.ownsMap_made _ _ _ _
      have HR5 := HR4.out.below hb45 HR4.out.size
      have q0 : (w4.alloc (Obj.map #[] 0)).cell? ⟨w.heap.size, 0, none⟩ = some (.int .i64 op) := by rw [← hw5]; exact HR5.cell (i := 0) rfl
      have q1 : (w4.alloc (Obj.map #[] 0)).cell? ⟨w.heap.size, 1, none⟩ = some (.int .i64 n) := by rw [← hw5]; exact HR5.cell (i := 1) rfl
      have q2 : (w4.alloc (Obj.map #[] 0)).cell? ⟨w.heap.size, 2, none⟩ = some (.slice A k.len c) := by rw [← hw5]; exact HR5.cell (i := 2) rfl
      have HB5 := Lib.hid (HB4.out.trans (hb45.mono HB4.out.size))
      have HB45 := Lib.hid hb45
      have HZ5 := Lib.hid hz5
      have HOM5 := Lib.hid hom5
      have HW5 := Lib.hid hw5
      have hmm := HMM.out
      clear hw5 hb45 hz5 hom5 HR5 HR4 HMM
      go_wp2_with fail
      rw [← HW5.out]
      refine (implCalls_r op n k A c L B w5 (HL.out.below (HB5.out.mono hB)) (Nat.le_trans hB HB5.out.size) (RowsIf.small HSM.out) hk1 hk2 hsz).mono ?_
      rintro e w6 ⟨v6, rfl, hown6, hb6⟩
      have hom6 : w6.ownsMap Tryz.prog 3 (plainElem (H := Unit) Tryz.prog 4) w4.heap.size 0 (.map []) := ownsMap_kept HOM5.out (hb6.block _ (by rw [HZ5.out]; omega))
      have hb46 : Below w4.heap.size w4 w6 := HB45.out.trans (hb6.mono (by rw [HZ5.out]; omega))
      have hz6 : w4.heap.size < w5.heap.size ∧ w5.heap.size ≤ w6.heap.size := ⟨by rw [HZ5.out]; omega, hb6.size⟩
      have hstart : FromRel ds (callB ⟨op, n, k⟩) w5.heap.size w4.heap.size w4 (8 + 9 * 8) v6 w6 := by
        have h8 := numsUpto_len (callB ⟨op, n, k⟩) 8
        exact ⟨_, [], _, hown6, hom6, SetB.nil, HS0.out, by simp; omega, by simp; omega, hz6.2, hb46⟩
      have HST := Lib.hid hstart
      have HS6 := Lib.hid hz6
      generalize callB ⟨op, n, k⟩ = S at HST HIFF HRT
      clear hb6 hown6 hom6 hb46 hz6 hstart q0 q1 q2 hmm HF HS0 HOM5 HB45 HB5 HW5
      go_wp2
      go_loopg [7] (8 + 9 * 8) (fun gk v wr => FromRel ds S w5.heap.size w4.heap.size w4 gk v wr)
      case atStart => exact HST.out
      case round =>
        clear HST
        obtain ⟨ws, ks, D, hown, hmap, hset, hsr, hg, hwl, hBz, hb⟩ := hrel
        have hkl := hsr.len
        rcases List.eq_nil_or_concat ws with rfl | ⟨ws', x, rfl⟩
        · -- nothing is left to do
          obtain ⟨Av, cv, rfl, _⟩ := own_ints hown (fun x hx => by simp at hx)
          have HP : ks.Perm (intKeys D) := CollectedI.perm ⟨hsr.nd, fun x => by rw [(hset.2 x).2]; simp⟩ hmap (int_keyed Tryz.underlying3) Tryz.underlying3 (fun _ => rfl)
          have hms : Maps.size D ≤ 8 := Nat.le_trans hmap.size_le hkl
          have HQ := Lib.hid (fun (ss : List Int) (hp : ss.Perm (intKeys D)) => sorted_nums hsr.nd (fun x hx => (hsr.kin x hx).1) (fun v => (hsr.fin v).trans (HIFF.out v).symm) (hp.trans HP.symm))
          have HMAP := Lib.hid hmap
          have HBF := Lib.hid (hb.trans (Below.refl _ _))
          have hbz := hb.size
          clear hown hset hsr HP hmap hb
          simp only [List.length_nil] at *
          go_wp2_with fail
          refine (mapsKeys_any (some w4.heap.size) wr).mono ?_
          rintro e w7 ⟨rfl, rfl⟩
          go_wp2_with fail
          refine (sortedKeys_any w4.heap.size ks.length D _ wr HMAP.out (by unfold maxLen; omega) (by omega)).mono ?_
          rintro e w8 ⟨vv, ss, rfl, hp, hrow, _, hb8⟩
          have hq := HQ.out ss hp
          have hlen : ss.length = (numsUpto (fromS ds op n k) 8).length := by rw [← hq, List.length_mergeSort]
          rw [hq, hlen] at hrow
          have hb9 : Below w4.heap.size w4 w8 := (HBF.out.alloc hbz _).trans (hb8.mono (by simp; omega))
          have HO := Lib.hid (own_less (base' := w.heap.size) hrow (by have := HS4.out; simp; omega))
          have HBB := Lib.hid (HB4.out.trans (hb9.mono HS4.out.2.2))
          clear hrow hb8 hb9 hp hq hlen
          go_wp2
          go_ret
          exact ⟨_, rfl, by rw [HZ.out]; exact HO.out, HBB.out⟩
        · -- the last one
          rw [List.concat_eq_append] at *
          have hxw := hsr.win x (List.mem_append_right _ (List.mem_singleton.2 rfl))
          obtain ⟨d, hfd0⟩ := HRT.out _ hxw.2
          have hxn := inVar_nat hxw.1
          rw [hxn.1] at hfd0
          obtain ⟨A', c', hil, hlk0, hkc, hkm⟩ := HE4.out.1 x d hxw.1 hfd0
          have hwl' : (ws' ++ [x]).length = ws'.length + 1 := by simp
          rcases hown.2 with ⟨_, h0⟩ | ⟨g, cap, cur, rfl, hg1, hg2, hg3, hg4, hg5, hg6⟩
          · omega
          rw [hwl'] at hg hwl hg3 hg6 ⊢
          have hcell : wr.cell? ⟨g, ws'.length, none⟩ = some (.int .i64 x) := by
            refine (cell_of_row wr g _ cur _ _ hg2).trans ?_
            have h7 : (cur.toList.take ((ws'.length + 1) * 1))[ws'.length]? = ((ws' ++ [x]).map (Value.int .i64))[ws'.length]? := by rw [hg6]
            rw [List.getElem?_take_of_lt (by omega)] at h7
            simpa using h7
          have hown' : wr.ownsRow w5.heap.size 3 1 (.slice (some ⟨g, 0, none⟩) ws'.length cap) ws'.length (ws'.map (Value.int .i64)) := by
            refine ⟨by simp, .inr ⟨g, cap, cur, rfl, hg1, hg2, by omega, hg4, hg5, ?_⟩⟩
            have h7 : (cur.toList.take ((ws'.length + 1) * 1)).take (ws'.length * 1) = ((ws' ++ [x]).map (Value.int .i64)).take (ws'.length * 1) := by rw [hg6]
            rw [List.take_take, Nat.min_eq_left (by omega)] at h7
            rw [h7]
            simp
          have hlk := lookB hmap hset x hxw.1
          have hgz : g < wr.heap.size := (Array.getElem?_eq_some_iff.1 hg2).1
          have HOWN := Lib.hid hown'
          have HMAP := Lib.hid hmap
          have HSET := Lib.hid hset
          have HSR := Lib.hid hsr
          have HBW := Lib.hid hb
          have HG := Lib.hid (show ws'.length + 1 + 9 * (8 - ks.length) ≤ gk ∧ ws'.length + 1 ≤ 8 + 8 * ks.length ∧ w5.heap.size ≤ wr.heap.size ∧ ws'.length + 1 ≤ cap ∧ cap ≤ maxLen ∧ w5.heap.size ≤ g ∧ g < wr.heap.size from ⟨hg, hwl, hBz, hg3, hg4, hg1, hgz⟩)
          have hcl : ws'.length + 1 ≤ cap := hg3
          have hwm : ws'.length ≤ 80 := by omega
          clear hown hown' hset hb hg hwl hBz hg1 hg2 hg3 hg4 hg5 hg6 hwl' hgz
          by_cases hx : x ∈ ks
          · rw [decide_eq_true hx] at hlk
            have HN := Lib.hid (hsr.old hx)
            clear hx hsr hmap hil hlk0 hxw hxn hfd0
            go_wp2
            have hgo := HG.out
            go_roundg (gk - 1)
            case measure => omega
            case rel => exact ⟨ws', ks, D, HOWN.out, HMAP.out, HSET.out, HN.out, by omega, by omega, hgo.2.2.1, HBW.out⟩
          · rw [decide_eq_false hx] at hlk
            have hdm := fnd_mem hfd0
            have hdk : d.k.size ≤ 1048576 := by
              obtain ⟨i, hi⟩ := List.mem_iff_getElem?.1 hdm.1
              have := sizeD_at hi
              omega
            have HN := Lib.hid (hsr.new (zs := numsUpto (callB ⟨d.op, d.n, d.k⟩) 8) hx (edge_calls hxw.1 hfd0) (fun g hg => edge_lt HV.out hg))
            have hkl2 := HN.out.len
            have hkl3 : (ks ++ [x]).length = ks.length + 1 := by simp
            obtain ⟨w7, hup, hmap7, hgrow7⟩ := storeB hmap (by unfold maxLen; omega) x hxw.1
            have hb7 : Below w4.heap.size w4 w7 := Below.grown HBW.out hgrow7 HBW.out.size (fun k hk => by injection hk with hk; omega)
            have hm7 := HM4.out.below hb7 HS4.out.1
            have hlk2 := im_lookup1 (P := Tryz.prog) (a := x) Tryz.underlying64 Tryz.underlying3 (show (zeroValue 38).run Tryz.prog w7 = .ok (.agg #[.int .i64 0, .int .i64 0, .bool false, .int .i64 0, .int .i64 0, .slice none 0 0]) w7 by kernel_rfl) hm7
            rw [hil, Option.getD_some] at hlk2
            unfold valD at hlk2
            have hfl : ∀ w : World, (Instr.field 38 (.agg #[.int .i64 d.nm, .int .i64 d.ar, .bool d.old, .int .i64 d.op, .int .i64 d.n, .slice A' d.k.len c']) 3).run Tryz.prog w = .ok (.agg #[.int .i64 d.op, .int .i64 d.n, .slice A' d.k.len c']) w := fun _ => by kernel_rfl
            have hgo := HG.out
            have hs4 := HS4.out
            have hs6 := HS6.out
            have HB7 := Lib.hid hb7
            have HMAP7 := Lib.hid hmap7
            have HZ7 := Lib.hid hgrow7.size
            have HO7 := Lib.hid (HOWN.out.kept hgrow7 (.inr (by simp [Value.ownBlock]; omega)))
            have HL7 := Lib.hid (hlk0.below (hb7.mono (Nat.le_trans hBD hs4.2.2)))
            have HA7 := Lib.hid (libOk_small HV.out d hdm.1)
            have HHK := Lib.hid (show d.k.len ≤ c' ∧ c' ≤ maxLen from ⟨hkc, hkm⟩)
            clear hx hsr hmap hmap7 hgrow7 hb7 hm7 hil hlk0 hxn hfd0 hgo hs4 hs6 hkc hkm hdm hxw
            go_wp2_with fail
            refine (implCalls_r d.op d.n d.k A' c' LD BD w7 HL7.out (Nat.le_trans hBD (Nat.le_trans HS4.out.2.2 HB7.out.size)) (RowsIf.small HA7.out) HHK.out.1 HHK.out.2 hdk).mono ?_
            rintro e w8 ⟨v8, rfl, hown8, hb8⟩
            have hz78 : w4.heap.size < w7.heap.size := by have := HG.out; have := HZ7.out; have := HS6.out; omega
            have HB8 := Lib.hid (HB7.out.trans (hb8.mono HB7.out.size))
            have HM8 := Lib.hid (ownsMap_kept HMAP7.out (hb8.block _ hz78))
            have HO8 := Lib.hid (own_below HO7.out hb8)
            have hz8 : w5.heap.size ≤ w8.heap.size := by have := HG.out; have := HZ7.out; have := hb8.size; omega
            have h8l := numsUpto_len (callB ⟨d.op, d.n, d.k⟩) 8
            have hz4 := HB8.out.size
            obtain ⟨zs, hzs⟩ : ∃ zs, zs = numsUpto (callB ⟨d.op, d.n, d.k⟩) 8 := ⟨_, rfl⟩
            rw [← hzs] at hown8 HN h8l
            clear hzs hb8 hlk hlk2 hfl hup HB7 HMAP7 HO7 HL7 HA7
            rcases hown8.2 with ⟨rfl, h0⟩ | ⟨g8, cap8, cur8, rfl, k1, k2, k3, k4, k5, k6⟩
            · have hz0 : zs = [] := List.eq_nil_of_length_eq_zero h0
              subst hz0
              have hrun := append_none_run (c := 0) HO8.out
              clear hown8 h0 h8l
              go_wp2
              have hgo := HG.out
              go_roundg (gk - 1)
              case measure => omega
              case rel => exact ⟨ws', ks ++ [x], _, HO8.out, by rw [hkl3]; exact HM8.out, HSET.out.put x, by simpa using HN.out, by rw [hkl3]; omega, by rw [hkl3]; omega, hz8, HB8.out⟩
            · have hnews : ∀ (j : Nat) (u : Value), (zs.map (Value.int .i64))[j]? = some u → w8.cell? ((⟨g8, 0, none⟩ : Addr).add j) = some u := by
                intro j u hj
                have hjl : j < zs.length := by have := (List.getElem?_eq_some_iff.1 hj).1; simpa using this
                have ea : ((⟨g8, 0, none⟩ : Addr).add j) = ⟨g8, j, none⟩ := by unfold Addr.add; split <;> simp_all
                rw [ea]
                refine (cell_of_row w8 g8 _ cur8 _ _ k2).trans ?_
                have h7 : (cur8.toList.take (zs.length * 1))[j]? = (zs.map (Value.int .i64))[j]? := by rw [k6]
                rw [List.getElem?_take_of_lt (by omega), hj, Array.getElem?_toList] at h7
                exact h7
              obtain ⟨iT, hiT, hiz0, hiz1, hiz2⟩ := info_parts (show (Tryz.prog.info? 3).map (fun i => (i.zero, i.size, i.bytes)) = some (some (.int .i64 0), 1, 8) by kernel_rfl)
              have HIT := Lib.hid hiT
              have HIZ0 := Lib.hid hiz0
              have HIZ1 := Lib.hid hiz1
              have HIZ2 := Lib.hid hiz2
              have C1 := Lib.hid hnews
              have C0 := Lib.hid (show (zs.map (Value.int .i64)).length = zs.length * 1 by simp)
              have HC2 := Lib.hid (show ∀ u ∈ zs.map (Value.int .i64), u.oneCell' = true by intro u hu; obtain ⟨y, _, rfl⟩ := List.mem_map.1 hu; rfl)
              have HC3 := Lib.hid (show ws'.length + zs.length ≤ maxLen by unfold maxLen; omega)
              have HC4 := Lib.hid (show (ws'.length + zs.length) * 8 ≤ 140737488355328 by omega)
              have HC5 := Lib.hid hz8
              clear hiT hiz0 hiz1 hiz2 hnews hown8 k1 k2 k3 k4 k5 k6
              go_wp2_with (at_builtin; refine wpList_append_own_at _ rfl _ _ 27 rfl w5.heap.size 3 iT _ 1 8 Tryz.underlying27 HIT.out HIZ0.out HIZ1.out HIZ2.out rfl (by decide) _ _ _ rfl HO8.out ⟨g8, 0, none⟩ zs.length cap8 (zs.map (Value.int .i64)) rfl C0.out C1.out HC2.out HC3.out HC4.out HC5.out ?_; intro v9 w9 hown9 hgrow9 _ hblk)
              have hgo := HG.out
              have hb9 : Below w4.heap.size w4 w9 := Below.grown HB8.out hgrow9 hz4 (fun k' hk => by have hk2 : some g = some k' := hk; injection hk2 with hk3; have := HS6.out; omega)
              have hm9 : w9.ownsMap Tryz.prog 3 (plainElem (H := Unit) Tryz.prog 4) w4.heap.size (ks.length + 1) _ := ownsMap_kept HM8.out (hgrow9.block _ (by have := HS6.out; omega) (by intro hc; have hk2 : some w4.heap.size = some g := hc; injection hk2 with hk3; have := HS6.out; omega))
              have hz9 : w5.heap.size ≤ w9.heap.size := Nat.le_trans hz8 hgrow9.size
              have HO9 := Lib.hid hown9
              have HB9 := Lib.hid hb9
              have HM9 := Lib.hid hm9
              clear hown9 hgrow9 hblk hb9 hm9
              go_wp2_with fail
              go_roundg (gk - 1)
              case measure => omega
              case rel =>
                refine ⟨ws' ++ zs, ks ++ [x], _, ?_, by rw [hkl3]; exact HM9.out, HSET.out.put x, HN.out, by rw [hkl3, List.length_append]; omega, by rw [hkl3, List.length_append]; omega, hz9, HB9.out⟩
                rw [List.length_append, List.map_append]
                exact HO9.out

theorem implFrom_any (ds : List De) (DA : Option Addr) (DC : Nat) (op n : Int) (k : Fo) (A : Option Addr) (c : Nat) (LD BD L B : Nat) (w : World) (hd : LiesD w LD BD DA ds) (hBD : BD ≤ w.heap.size) (_hald : AllRows w LD BD) (hl : Lies w L B A 0 k) (hB : B ≤ w.heap.size) (_hal : AllRows w L B) (hdz : sizeD ds ≤ 1048576) (hk1 : k.len ≤ c) (hk2 : c ≤ maxLen) (hsz : k.size ≤ 1048576) :
    Calls Tryz.prog 22 #[.slice DA ds.length DC, .agg #[.int .i64 op, .int .i64 n, .slice A k.len c]] w (ListPost (fromL ds op n k) w) :=
  implFrom_r ds DA DC op n k A c LD BD L B w hd hBD hl hB hdz hk1 hk2 hsz
end Go.Proofs.YtpknegneogdmfaaGreat
