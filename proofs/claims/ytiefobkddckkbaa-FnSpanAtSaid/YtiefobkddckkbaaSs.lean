/-
  Lists of lists of numbers: how one lies in memory; one of the call's own (all rows apart); append of such lists.
-/
import Derived.Test.YtiefobkddckkbaaCopyI
import Derived.Test.YtiefobkddckkbaaOwnM
import Derived.Maps.AppendAt
namespace Go.Proofs.Ytiefobkddckkbaa
open Go.RowKit
set_option maxRecDepth 100000

theorem own_liesS {w : World} {base : Nat} {e : TypeId} {A : Option Addr} {c : Nat} {zs : List Int} (h : w.ownsRow base e 1 (.slice A zs.length c) zs.length (zs.map (Value.int .i64))) (hz : ∀ x ∈ zs, I64 x) : LiesI w base w.heap.size A zs := by
  obtain ⟨A', c', hv, hl⟩ := own_ints h hz
  injection hv with h1 _ _
  rw [h1]
  exact hl

/-- A list of lists of numbers lies in the slice at A. -/
def LiesSS (w : World) (L B : Nat) (A : Option Addr) (zss : List (List Int)) : Prop :=
  ∀ i zs, zss[i]? = some zs → ∃ b o A' c, A = some ⟨b, o, none⟩ ∧ L ≤ b ∧ b < B ∧ w.cell? ⟨b, o + i, none⟩ = some (.slice A' zs.length c) ∧ LiesI w L B A' zs
theorem LiesSS.keep {w w' : World} {L L' B B' : Nat} {A : Option Addr} {zss : List (List Int)} (hL : L' ≤ L) (hB : B ≤ B') (hk : ∀ p : Addr, L ≤ p.block → p.block < B → w'.cell? p = w.cell? p) (h : LiesSS w L B A zss) : LiesSS w' L' B' A zss := by
  intro i zs hi
  obtain ⟨b, o, A', c, h1, h2, h3, h4, h5⟩ := h i zs hi
  exact ⟨b, o, A', c, h1, by omega, by omega, (hk _ h2 h3).trans h4, h5.keep hL hB hk⟩
theorem LiesSS.below {w w' : World} {L B : Nat} {A : Option Addr} {zss : List (List Int)} (h : LiesSS w L B A zss) (hb : Below B w w') : LiesSS w' L B A zss := h.keep (Nat.le_refl _) (Nat.le_refl _) fun _ _ hp => hb.cell hp
theorem LiesSS.mono_ {w : World} {L L' B B' : Nat} {A : Option Addr} {zss : List (List Int)} (h : LiesSS w L B A zss) (hL : L' ≤ L) (hB : B ≤ B') : LiesSS w L' B' A zss := h.keep hL hB fun _ _ _ => rfl
theorem LiesSS.up {w w' : World} {L : Nat} {A : Option Addr} {zss : List (List Int)} (h : LiesSS w L w.heap.size A zss) (hb : Below w.heap.size w w') : LiesSS w' L w'.heap.size A zss := (h.below hb).mono_ (Nat.le_refl _) hb.size

/-- The head of a list in a list of lists. -/
structure Hd where
  A : Option Addr
  zs : List Int
  c : Nat
def Hd.val (h : Hd) : Value := .slice h.A h.zs.length h.c

/-- The lists' own rows. -/
def InS (w : World) (base : Nat) : List Hd → List Nat → Prop
  | [], bs => bs = []
  | h :: r, bs => ∃ b2, w.ownsRow base 3 1 h.val h.zs.length (h.zs.map (Value.int .i64)) ∧ (∀ x ∈ h.zs, I64 x) ∧ InS w base r b2 ∧ bs = blkOf h.A ++ b2

/-- A list of lists that the call has made, in the rows bs, all apart. -/
def OwnSS (w : World) (base : Nat) (v : Value) (zss : List (List Int)) (bs : List Nat) : Prop :=
  ∃ st b1, st.map Hd.zs = zss ∧ w.ownsRow base 25 1 v zss.length (st.map Hd.val) ∧ InS w base st b1 ∧ bs = blkV v ++ b1 ∧ bs.Nodup

section
variable {w w' : World} {base base' : Nat}

theorem InS.keep : ∀ {st : List Hd} {bs : List Nat}, InS w base st bs → (∀ b, b ∈ bs → w'.heap[b]? = w.heap[b]?) → InS w' base st bs
  | [], _, h, _ => h
  | h :: _, _, ⟨b2, h1, h2, h3, h4⟩, hk => by
    subst h4
    refine ⟨b2, own_at h1 fun g hg => hk g ?_, h2, h3.keep fun b hb => hk b (by simp [hb]), rfl⟩
    have : g ∈ blkV h.val := by unfold blkV; rw [hg]; simp
    rw [Hd.val, blkV_slice] at this
    simp [this]
theorem InS.lower (hb : base' ≤ base) : ∀ {st : List Hd} {bs : List Nat}, InS w base st bs → InS w base' st bs
  | [], _, h => h
  | _ :: _, _, ⟨b2, h1, h2, h3, h4⟩ => ⟨b2, own_lower h1 hb, h2, h3.lower hb, h4⟩
theorem InS.lt : ∀ {st : List Hd} {bs : List Nat}, InS w base st bs → ∀ b, b ∈ bs → base ≤ b ∧ b < w.heap.size
  | [], _, h, b, hb => by have h : _ = [] := h; rw [h] at hb; cases hb
  | _ :: _, _, ⟨b2, h1, h2, h3, h4⟩, b, hb => by
    subst h4
    rcases List.mem_append.1 hb with hb | hb
    · exact blk_lt h1 (by rw [Hd.val, blkV_slice]; exact hb)
    · exact h3.lt b hb
theorem InS.append : ∀ {st st2 : List Hd} {bs b2 : List Nat}, InS w base st bs → InS w base st2 b2 → InS w base (st ++ st2) (bs ++ b2)
  | [], _, _, _, h, h2 => by have h : _ = [] := h; subst h; exact h2
  | h :: r, _, _, _, ⟨b2, h1, h2, h3, h4⟩, k => ⟨_, h1, h2, h3.append k, by rw [h4, List.append_assoc]⟩
/-- One of the lists. -/
theorem InS.at_ : ∀ {st : List Hd} {bs : List Nat} {i : Nat} {h : Hd}, InS w base st bs → st[i]? = some h → w.ownsRow base 3 1 h.val h.zs.length (h.zs.map (Value.int .i64)) ∧ (∀ x ∈ h.zs, I64 x) ∧ ∃ p q, bs = p ++ (blkOf h.A ++ q)
  | [], _, i, h, _, e => by simp at e
  | x :: r, _, 0, h, ⟨b2, h1, h2, h3, h4⟩, e => by
    simp at e
    subst e
    exact ⟨h1, h2, [], b2, h4⟩
  | x :: r, _, i + 1, h, ⟨b2, h1, h2, h3, h4⟩, e => by
    obtain ⟨g1, g2, p, q, g3⟩ := h3.at_ (i := i) (by simpa using e)
    exact ⟨g1, g2, blkOf x.A ++ p, q, by rw [h4, g3, List.append_assoc]⟩

theorem OwnSS.keep {v : Value} {zss : List (List Int)} {bs : List Nat} (h : OwnSS w base v zss bs) (hk : ∀ b, b ∈ bs → w'.heap[b]? = w.heap[b]?) : OwnSS w' base v zss bs := by
  obtain ⟨st, b1, h0, h1, h2, rfl, h4⟩ := h
  exact ⟨st, b1, h0, own_at h1 fun g hg => hk g (by simp [blkV, hg]), h2.keep fun b hb => hk b (by simp [hb]), rfl, h4⟩
theorem OwnSS.lower {v : Value} {zss : List (List Int)} {bs : List Nat} (h : OwnSS w base v zss bs) (hb : base' ≤ base) : OwnSS w base' v zss bs := by
  obtain ⟨st, b1, h0, h1, h2, h3, h4⟩ := h
  exact ⟨st, b1, h0, own_lower h1 hb, h2.lower hb, h3, h4⟩
theorem OwnSS.lt {v : Value} {zss : List (List Int)} {bs : List Nat} (h : OwnSS w base v zss bs) : ∀ b, b ∈ bs → base ≤ b ∧ b < w.heap.size := by
  obtain ⟨st, b1, h0, h1, h2, rfl, h4⟩ := h
  intro b hb
  rcases List.mem_append.1 hb with hb | hb
  · exact blk_lt h1 hb
  · exact h2.lt b hb
theorem OwnSS.over {v : Value} {zss : List (List Int)} {bs : List Nat} (h : OwnSS w base v zss bs) (hb : Below w.heap.size w w') : OwnSS w' base v zss bs := h.keep fun b hbs => hb.block b (h.lt b hbs).2
theorem OwnSS.nil (w : World) (base : Nat) : OwnSS w base (.slice none 0 0) [] [] := ⟨[], [], rfl, World.ownsRow_nil _ _ _ _, rfl, rfl, List.nodup_nil⟩
theorem OwnSS.slice {v : Value} {zss : List (List Int)} {bs : List Nat} (h : OwnSS w base v zss bs) : ∃ A c, v = .slice A zss.length c ∧ zss.length ≤ c ∧ c ≤ maxLen := by
  obtain ⟨st, b1, h0, h1, _⟩ := h
  exact own_slice h1
theorem OwnSS.own {v : Value} {zss : List (List Int)} {bs : List Nat} (h : OwnSS w base v zss bs) : ∀ g, v.ownBlock = some g → g ∈ bs := by
  obtain ⟨st, b1, h0, h1, h2, rfl, h4⟩ := h
  intro g hg
  simp [blkV, hg]
theorem OwnSS.lies {A : Option Addr} {l c : Nat} {zss : List (List Int)} {bs : List Nat} (h : OwnSS w base (.slice A l c) zss bs) : LiesSS w base w.heap.size A zss := by
  obtain ⟨st, b1, h0, h1, h2, rfl, h4⟩ := h
  intro i zs hi
  rw [← h0, List.getElem?_map] at hi
  cases hs : st[i]? with
  | none => rw [hs] at hi; cases hi
  | some x =>
    rw [hs] at hi
    simp only [Option.map_some, Option.some.injEq] at hi
    subst hi
    obtain ⟨g1, g2, _⟩ := h2.at_ hs
    obtain ⟨A', c', hv, hl⟩ := own_ints g1 g2
    injection hv with e1 _ e3
    have hcell : (st.map Hd.val)[i]? = some x.val := by rw [List.getElem?_map, hs]; rfl
    rcases h1.2 with ⟨_, hn⟩ | ⟨g, cap, cur, hv2, hq, hh, _⟩
    · have h5 : (st.map Hd.val).length = 0 := by rw [h1.1, hn]
      have h6 := (List.getElem?_eq_some_iff.1 hcell).1
      omega
    · injection hv2 with e4
      subst e4
      have hc := h1.cells (g := g) rfl i _ hcell
      rw [add_plainP, Nat.zero_add] at hc
      exact ⟨g, 0, x.A, x.c, rfl, hq, (Array.getElem?_eq_some_iff.1 hh).1, by rw [Nat.zero_add]; exact hc, by rw [e1]; exact hl⟩
theorem OwnSS.lies0 {A : Option Addr} {l c : Nat} {zss : List (List Int)} {bs : List Nat} (h : OwnSS w base (.slice A l c) zss bs) : LiesSS w 0 w.heap.size A zss := h.lies.mono_ (Nat.zero_le _) (Nat.le_refl _)
end

section
variable {w : World} {base : Nat}

/-- append of a list of lists whose heads stand in memory. -/
theorem OwnSS.append_run {v : Value} {pre : List (List Int)} {bs : List Nat} (h : OwnSS w base v pre bs) (gb ob c2 : Nat) (st2 : List Hd) (b2 : List Nat) (hc : ∀ j u, (st2.map Hd.val)[j]? = some u → w.cell? ⟨gb, ob + j, none⟩ = some u) (hin : InS w base st2 b2) (nd2 : b2.Nodup)
    (hd : ∀ b, b ∈ bs → b ∈ b2 → False) (hn : pre.length + st2.length ≤ 1048576) (hb : base ≤ w.heap.size) :
    ∃ A' c' w' bs', (∀ ty, (Builtin.append_ #[74, 74] ty #[v, .slice (some ⟨gb, ob, none⟩) st2.length c2]).run Try.prog w = .ok (.slice A' (pre ++ st2.map Hd.zs).length c') w') ∧ OwnSS w' base (.slice A' (pre ++ st2.map Hd.zs).length c') (pre ++ st2.map Hd.zs) bs' ∧ w.grownBy w' v.ownBlock ∧
      (∀ b, b ∈ bs' → b ∈ bs ∨ b ∈ b2 ∨ b = w.heap.size) ∧ (A'.map Addr.block = v.ownBlock ∨ ∀ a, A' = some a → w.heap.size ≤ a.block) := by
  obtain ⟨iT, hiT, hiz0, hiz1, hiz2⟩ := info_parts (show (Try.prog.info? 25).map (fun i => (i.zero, i.size, i.bytes)) = some (some (.slice none 0 0), 1, 24) by kernel_rfl)
  have hu := Try.underlying74
  obtain ⟨st, b1, h0, h1, h2, h3, h4⟩ := h
  have hone : ∀ u ∈ st2.map Hd.val, u.oneCell' = true := by
    intro u hu
    obtain ⟨x, _, rfl⟩ := List.mem_map.1 hu
    rfl
  have key : ∀ ty, ∃ v' w', (Builtin.append_ #[74, 74] ty #[v, .slice (some ⟨gb, ob, none⟩) st2.length c2]).run Try.prog w = .ok v' w' ∧ w'.ownsRow base 25 1 v' (pre.length + st2.length) (st.map Hd.val ++ st2.map Hd.val) ∧ w.grownBy w' v.ownBlock ∧
      (v' = .slice none 0 0 ↔ v = .slice none 0 0 ∧ st2.length = 0) ∧ (v'.ownBlock = v.ownBlock ∨ v'.ownBlock = some w.heap.size) := fun ty =>
    run_append_own_at (P := Try.prog) w base 74 ty 25 iT _ 1 24 hu hiT hiz0 hiz1 hiz2 rfl (by decide) v pre.length (st.map Hd.val) h1 ⟨gb, ob, none⟩ st2.length c2 (st2.map Hd.val) (by simp)
      (fun j u hj => by rw [add_plainP]; exact hc j u hj) hone (by unfold maxLen; omega) (by omega) hb
  obtain ⟨v', w', hrun, ho, hg, _, hblk⟩ := key 0
  obtain ⟨A', c', rfl, _, _⟩ := own_slice ho
  have hlen : (pre ++ st2.map Hd.zs).length = pre.length + st2.length := by simp
  have hlt1 := h2.lt
  have hlt2 := hin.lt
  have hnv : ∀ b, b ∈ b1 ++ b2 → some b ≠ v.ownBlock := by
    intro b hbm e
    have hv : b ∈ blkV v := by unfold blkV; rw [← e]; simp
    rcases List.mem_append.1 hbm with hbm | hbm
    · rw [h3] at h4
      exact (List.nodup_append.1 h4).2.2 b hv b hbm rfl
    · exact hd b (by rw [h3]; simp [hv]) hbm
  have hin2 : InS w' base (st ++ st2) (b1 ++ b2) := (h2.append hin).keep fun b hbm => hg.block b (by
    rcases List.mem_append.1 hbm with h | h
    · exact (hlt1 b h).2
    · exact (hlt2 b h).2) (hnv b hbm)
  have hsame : ∀ ty, (Builtin.append_ #[74, 74] ty #[v, .slice (some ⟨gb, ob, none⟩) st2.length c2]).run Try.prog w = .ok (.slice A' (pre.length + st2.length) c') w' := fun ty => hrun
  refine ⟨A', c', w', blkV (.slice A' (pre.length + st2.length) c') ++ (b1 ++ b2), fun ty => by rw [hlen]; exact hsame ty, ⟨st ++ st2, b1 ++ b2, by rw [List.map_append, h0], by rw [hlen, List.map_append]; exact ho, hin2, by rw [hlen], ?_⟩, hg, ?_, ?_⟩
  · refine List.nodup_append.2 ⟨by unfold blkV; cases (Value.slice A' (pre.length + st2.length) c').ownBlock <;> simp, List.nodup_append.2 ⟨?_, nd2, fun x hx y hy e => ?_⟩, fun x hx y hy e => ?_⟩
    · rw [h3] at h4
      exact (List.nodup_append.1 h4).2.1
    · exact hd x (by rw [h3]; simp [hx]) (by rw [e]; exact hy)
    · subst e
      unfold blkV at hx
      rcases hblk with e | e
      · rw [e] at hx
        refine hnv x hy ?_
        cases hvb : v.ownBlock with
        | none => rw [hvb] at hx; cases hx
        | some g => rw [hvb] at hx; simp at hx; rw [hx]
      · rw [e] at hx
        simp at hx
        rcases List.mem_append.1 hy with h | h
        · have := (hlt1 x h).2; omega
        · have := (hlt2 x h).2; omega
  · intro b hbm
    rcases List.mem_append.1 hbm with h | h
    · unfold blkV at h
      rcases hblk with e | e
      · rw [e] at h
        exact .inl (by rw [h3]; simp only [List.mem_append]; exact .inl (by unfold blkV; exact h))
      · rw [e] at h
        simp at h
        exact .inr (.inr h)
    · rcases List.mem_append.1 h with h | h
      · exact .inl (by rw [h3]; simp [h])
      · exact .inr (.inl h)
  · rcases hblk with e | e
    · exact .inl (by rw [← e]; cases A' <;> rfl)
    · refine .inr fun a ha => ?_
      subst ha
      have e : some a.block = some w.heap.size := e
      injection e with e
      omega

/-- append of another list of lists of the call's own. -/
theorem OwnSS.append_own {v x : Value} {pre new : List (List Int)} {bs b2 : List Nat} (h : OwnSS w base v pre bs) (h2 : OwnSS w base x new b2) (hd : ∀ b, b ∈ bs → b ∈ b2 → False) (hn : pre.length + new.length ≤ 1048576) (hb : base ≤ w.heap.size) :
    ∃ A' c' w' bs', (∀ ty, (Builtin.append_ #[74, 74] ty #[v, x]).run Try.prog w = .ok (.slice A' (pre ++ new).length c') w') ∧ OwnSS w' base (.slice A' (pre ++ new).length c') (pre ++ new) bs' ∧ w.grownBy w' v.ownBlock ∧ (∀ b, b ∈ bs' → b ∈ bs ∨ b ∈ b2 ∨ b = w.heap.size) ∧ (A'.map Addr.block = v.ownBlock ∨ ∀ a, A' = some a → w.heap.size ≤ a.block) := by
  obtain ⟨st2, b3, k0, k1, k2, k3, k4⟩ := h2
  have hl2 : new.length = st2.length := by rw [← k0]; simp
  rcases k1.2 with ⟨hv, hz⟩ | ⟨g, cap, cur, hv, hq, hh, _⟩
  · have hz2 : new = [] := List.eq_nil_of_length_eq_zero hz
    subst hz2 hv
    obtain ⟨A, c, rfl, _, _⟩ := h.slice
    obtain ⟨iT, hiT, hiz0, hiz1, hiz2⟩ := info_parts (show (Try.prog.info? 25).map (fun i => (i.zero, i.size, i.bytes)) = some (some (.slice none 0 0), 1, 24) by kernel_rfl)
    have hu := Try.underlying74
    have hrun : ∀ ty, (Builtin.append_ #[74, 74] ty #[.slice A pre.length c, .slice none 0 0]).run Try.prog w = .ok (.slice A pre.length c) w := fun ty => by
      obtain ⟨st, b1, h0, h1, h2, h3, h4⟩ := h
      rcases h1.2 with ⟨hv, hz⟩ | ⟨g, cap, cur, hv, hq, hh, hle, _⟩
      · injection hv with e1 e2 e3
        subst e1 e3
        rw [hz]
        simp [Builtin.append_, run_underlying hu, sizeOf, typeInfo, hiT, Builtin.lenOf, Builtin.firstCells]
      · injection hv with e1 e2 e3
        subst e1 e3
        simp [Builtin.append_, run_underlying hu, sizeOf, typeInfo, hiT, Builtin.lenOf, Builtin.firstCells, storeCells, hle]
    refine ⟨A, c, w, bs, fun ty => by rw [List.append_nil]; exact hrun ty, by rw [List.append_nil]; exact h, ⟨rfl, rfl, rfl, Nat.le_refl _, fun _ _ _ => rfl⟩, fun b hb => .inl hb, .inl (by cases A <;> rfl)⟩
  · subst hv
    have hc : ∀ j u, (st2.map Hd.val)[j]? = some u → w.cell? ⟨g, 0 + j, none⟩ = some u := fun j u hj => by
      have := k1.cells (g := g) rfl j u hj
      rw [add_plainP] at this
      exact this
    have nd3 : b3.Nodup := by rw [k3] at k4; exact (List.nodup_append.1 k4).2.1
    obtain ⟨A', c', w', bs', r1, r2, r3, r4, r5⟩ := h.append_run g 0 cap st2 b3 hc k2 nd3 (fun b h1 h2 => hd b h1 (by rw [k3]; simp [h2])) (by omega) hb
    rw [k0] at r1 r2
    refine ⟨A', c', w', bs', fun ty => ?_, r2, r3, fun b hbm => ?_, r5⟩
    · rw [hl2]; exact r1 ty
    · rcases r4 b hbm with h | h | h
      · exact .inl h
      · exact .inr (.inl (by rw [k3]; simp [h]))
      · exact .inr (.inr h)

/-- append of one list that stands in a row just made. -/
theorem OwnSS.push_run {v : Value} {pre : List (List Int)} {bs : List Nat} (h : OwnSS w base v pre bs) {A : Option Addr} {zs : List Int} {c : Nat} (ho : w.ownsRow base 3 1 (.slice A zs.length c) zs.length (zs.map (Value.int .i64))) (hi : ∀ x ∈ zs, I64 x) (hd : ∀ b, b ∈ bs → b ∈ blkOf A → False)
    (hn : pre.length + 1 ≤ 1048576) (hb : base ≤ w.heap.size) :
    ∃ A' c' w' bs', (∀ ty, (Builtin.append_ #[74, 74] ty #[v, .slice (some ⟨w.heap.size, 0, none⟩) 1 1]).run Try.prog (w.alloc (.cells #[.slice A zs.length c] 25)) = .ok (.slice A' (pre.length + 1) c') w') ∧ OwnSS w' base (.slice A' (pre.length + 1) c') (pre ++ [zs]) bs' ∧ w.grownBy w' v.ownBlock ∧
      (∀ b, b ∈ bs' → b ∈ bs ∨ b ∈ blkOf A ∨ w.heap.size ≤ b) ∧ (A'.map Addr.block = v.ownBlock ∨ ∀ a, A' = some a → w.heap.size ≤ a.block) := by
  have hbl := (Below.refl w.heap.size w).alloc (Nat.le_refl _) (.cells #[.slice A zs.length c] 25)
  have hin : InS (w.alloc (.cells #[.slice A zs.length c] 25)) base [⟨A, zs, c⟩] (blkOf A) := ⟨[], own_below ho hbl, hi, rfl, by simp⟩
  obtain ⟨A', c', w', bs', r1, r2, r3, r4, r5⟩ := (h.over hbl).append_run w.heap.size 0 1 [⟨A, zs, c⟩] (blkOf A) (fun j u hj => by
    match j with
    | 0 => simp at hj; subst hj; exact (Row.fresh w 25 #[.slice A zs.length c]).cell (i := 0) rfl
    | j + 1 => simp at hj) hin (by cases A <;> simp [blkOf]) hd (by simpa using hn) (Nat.le_trans hb hbl.size)
  have e : (pre ++ [(⟨A, zs, c⟩ : Hd)].map Hd.zs).length = pre.length + 1 := by simp
  refine ⟨A', c', w', bs', fun ty => by rw [← e]; exact r1 ty, by rw [← e]; exact r2, ⟨r3.os, r3.tape, r3.output, Nat.le_trans hbl.size r3.size, fun q hq hr => (r3.block q (Nat.lt_of_lt_of_le hq hbl.size) hr).trans (hbl.block q hq)⟩, fun b hbm => ?_, ?_⟩
  rotate_left
  · rcases r5 with h | h
    · exact .inl h
    · exact .inr fun a ha => Nat.le_trans hbl.size (h a ha)
  rcases r4 b hbm with h | h | h
  · exact .inl h
  · exact .inr (.inl h)
  · exact .inr (.inr (by rw [h]; exact hbl.size))
end
end Go.Proofs.Ytiefobkddckkbaa
