/-
  A part of an expression replaced: as data, and in a tree of the call's own.
-/
import Derived.Test.YtdpiklnadhpjjaaPath
import Derived.Test.YtdpiklnadhpjjaaCopyI
namespace Go.Proofs.Ytdpiklnadhpjjaa
open Go.RowKit Go.Shelf
set_option maxRecDepth 100000

/-- The node p with x in the place of the part that the path leads to (as it was, where it leads nowhere). -/
def replN : Nd → List Int → Nd → Nd
  | _, [], x => x
  | p, i :: r, x => if 0 ≤ i then (match p.k.drop i.toNat with
    | .cons o m k _ => ⟨p.op, p.n, setN i.toNat p.k (replN ⟨o, m, k⟩ r x).op (replN ⟨o, m, k⟩ r x).n (replN ⟨o, m, k⟩ r x).k⟩
    | .nil => p) else p
theorem replN_in {p x : Nd} {i : Int} {r : List Int} {o m : Int} {k s : Fo} (h : 0 ≤ i) (e : p.k.drop i.toNat = .cons o m k s) :
    replN p (i :: r) x = ⟨p.op, p.n, setN i.toNat p.k (replN ⟨o, m, k⟩ r x).op (replN ⟨o, m, k⟩ r x).n (replN ⟨o, m, k⟩ r x).k⟩ := by simp [replN, h, e]
theorem replN_len (p x : Nd) (i : Int) (r : List Int) : (replN p (i :: r) x).k.len = p.k.len := by
  unfold replN
  split
  · split
    · exact setN_len _ _ _ _ _
    · rfl
  · rfl
theorem replN_top (p x : Nd) (i : Int) (r : List Int) : (replN p (i :: r) x).op = p.op ∧ (replN p (i :: r) x).n = p.n := by
  unfold replN
  split
  · split <;> exact ⟨rfl, rfl⟩
  · exact ⟨rfl, rfl⟩

/-- What ReplaceAt answers. -/
def resR (p : Nd) (zs : List Int) (x : Nd) : Option Nd := if (partN p zs).isSome && ndIs p && ndIs x && ndIs (replN p zs x) then some (replN p zs x) else none

section
variable {w : World} {base : Nat}

/-- A row of the call's own in which node j is another one. -/
theorem own_turn3 {g cap j len : Nat} {st : List Nx} (y : Nx) (h : w.ownsRow base 25 3 (.slice (some ⟨g, 0, none⟩) len cap) len (cells3 st)) :
    (((w.setCell ⟨g, j * 3, none⟩ (.int .i64 y.op)).setCell ⟨g, j * 3 + 1, none⟩ (.int .i64 y.n)).setCell ⟨g, j * 3 + 2, none⟩ (.slice y.A y.k.len y.c)).ownsRow base 25 3 (.slice (some ⟨g, 0, none⟩) len cap) len (cells3 (st.set j y)) := by
  rcases h.2 with ⟨hv, _⟩ | ⟨q, cap2, cur, hv, hq, hh, h4, h5, h6, h7⟩
  · cases hv
  injection hv with hA _ hcap
  injection hA with hA
  injection hA with hA
  subst hA hcap
  rw [cells3_set]
  refine ⟨by rw [List.length_set, List.length_set, List.length_set]; exact h.1, .inr ⟨g, cap, ((cur.setIfInBounds (j * 3) (.int .i64 y.op)).setIfInBounds (j * 3 + 1) (.int .i64 y.n)).setIfInBounds (j * 3 + 2) (.slice y.A y.k.len y.c), rfl, hq, ?_, h4, h5, by simp only [Array.size_setIfInBounds]; exact h6, ?_⟩⟩
  · exact Row.put (Row.put (Row.put (show Row w g 25 cur from hh) _ _) _ _) _ _
  · rw [Array.toList_setIfInBounds, List.take_set, Array.toList_setIfInBounds, List.take_set, Array.toList_setIfInBounds, List.take_set, h7]

/-- One node of a forest, and the forest with another node in its place. -/
theorem OwnF.at2 : ∀ {f : Fo} {st : List Nx} {b1 : List Nat} (j : Nat) {o m : Int} {k r : Fo}, OwnF w base f st b1 → f.drop j = .cons o m k r →
    ∃ A c stk bk p q, (I64 o ∧ I64 m) ∧ st[j]? = some ⟨o, m, k, A, c⟩ ∧ w.ownsRow base 25 3 (.slice A k.len c) k.len (cells3 stk) ∧ OwnF w base k stk bk ∧ b1 = p ++ ((blkOf A ++ bk) ++ q) ∧
      ∀ (w' : World) (y y' : Int) (k' : Fo) (A' : Option Addr) (c' : Nat) (stk' : List Nx) (bk' : List Nat), (∀ z, z ∈ p ++ q → w'.heap[z]? = w.heap[z]?) → (I64 y ∧ I64 y') → w'.ownsRow base 25 3 (.slice A' k'.len c') k'.len (cells3 stk') → OwnF w' base k' stk' bk' →
        OwnF w' base (setN j f y y' k') (st.set j ⟨y, y', k', A', c'⟩) (p ++ ((blkOf A' ++ bk') ++ q))
  | .nil, _, _, j, _, _, _, _, _, e => by rw [Fo.drop_nil] at e; cases e
  | .cons o' m' k0 r0, st, b1, 0, o, m, k, r, h, e => by
    rw [Fo.drop_zero] at e
    cases e
    obtain ⟨A, c, stk, bk, st', b2, h1, h2, h3, h4, h5, h6⟩ := h
    subst h4 h6
    refine ⟨A, c, stk, bk, [], b2, h1, rfl, h2, h3, rfl, fun w' y y' k' A' c' stk' bk' hk hi ho hof => ?_⟩
    exact ⟨A', c', stk', bk', st', b2, hi, ho, hof, rfl, h5.keep (fun z hz => hk z (by simpa using hz)), rfl⟩
  | .cons o' m' k0 r0, st, b1, j + 1, o, m, k, r, h, e => by
    obtain ⟨A0, c0, stk0, bk0, st', b2, h1, h2, h3, h4, h5, h6⟩ := h
    subst h4 h6
    obtain ⟨A, c, stk, bk, p, q, g1, g2, g3, g4, g5, g6⟩ := OwnF.at2 (f := r0) j h5 e
    subst g5
    refine ⟨A, c, stk, bk, (blkOf A0 ++ bk0) ++ p, q, g1, by simpa using g2, g3, g4, by simp [List.append_assoc], fun w' y y' k' A' c' stk' bk' hk hi ho hof => ?_⟩
    refine ⟨A0, c0, stk0, bk0, _, p ++ ((blkOf A' ++ bk') ++ q), h1, own_at h2 fun z hz => hk z ?_, h3.keep fun z hz => hk z (by simp [hz]), rfl, g6 w' y y' k' A' c' stk' bk' (fun z hz => hk z ?_) hi ho hof, by simp [List.append_assoc]⟩
    · cases A0 with
      | none => cases hz
      | some a => cases hz; simp [blkOf]
    · simp only [List.mem_append] at hz ⊢
      rcases hz with hz | hz
      · exact .inl (.inr hz)
      · exact .inr hz

/-- The world in which the node y has been stored at b. -/
def put3 (w : World) (b : Addr) (y : Nx) : World := ((w.setCell ⟨b.block, b.off, none⟩ (.int .i64 y.op)).setCell ⟨b.block, b.off + 1, none⟩ (.int .i64 y.n)).setCell ⟨b.block, b.off + 2, none⟩ (.slice y.A y.k.len y.c)
theorem put3_heap (w : World) (b : Addr) (y : Nx) {z : Nat} (h : z ≠ b.block) : (put3 w b y).heap[z]? = w.heap[z]? := by
  unfold put3
  rw [Below.heap_setCell _ ⟨b.block, b.off + 2, none⟩ _ z h, Below.heap_setCell _ ⟨b.block, b.off + 1, none⟩ _ z h, Below.heap_setCell _ ⟨b.block, b.off, none⟩ _ z h]

theorem nodup_swap {g p a b q : List Nat} (h : (g ++ (p ++ (a ++ q))).Nodup) (hb : b.Nodup) (hd : ∀ z, z ∈ b → z ∉ g ++ (p ++ q)) : (g ++ (p ++ (b ++ q))).Nodup := by
  obtain ⟨n1, n2, n3⟩ := List.nodup_append.1 h
  obtain ⟨n4, n5, n6⟩ := List.nodup_append.1 n2
  obtain ⟨n7, n8, n9⟩ := List.nodup_append.1 n5
  refine List.nodup_append.2 ⟨n1, List.nodup_append.2 ⟨n4, List.nodup_append.2 ⟨hb, n8, fun x hx y hy e => hd x hx (by subst e; simp [hy])⟩, fun x hx y hy e => ?_⟩, fun x hx y hy e => ?_⟩
  · rcases List.mem_append.1 hy with h1 | h1
    · exact hd y h1 (by subst e; simp [hx])
    · exact n6 x hx y (List.mem_append_right _ h1) e
  · rcases List.mem_append.1 hy with h1 | h1
    · exact n3 x hx y (List.mem_append_left _ h1) e
    · rcases List.mem_append.1 h1 with h2 | h2
      · exact hd y h2 (by subst e; simp [hx])
      · exact n3 x hx y (List.mem_append_right _ (List.mem_append_right _ h2)) e

/-- A node stored at the end of a way, in a tree of the call's own. -/
theorem tree_put (y : Nx) {stx : List Nx} {bx : List Nat} (hyi : I64 y.op ∧ I64 y.n) (hxo : w.ownsRow base 25 3 (.slice y.A y.k.len y.c) y.k.len (cells3 stx)) (hxf : OwnF w base y.k stx bx) (hxn : (blkOf y.A ++ bx).Nodup) :
    ∀ (r : List Int) (i : Int) {o m : Int} {f : Fo} {A : Option Addr} {c : Nat} {bs : List Nat} {q : Nd} {a b : Addr}, Tree w base (.slice A f.len c) f bs → w.cell? ⟨a.block, a.off + 2, none⟩ = some (.slice A f.len c) → partN ⟨o, m, f⟩ (i :: r) = some q → Down w a (i :: r) b → (∀ z, z ∈ blkOf y.A ++ bx → z ∉ bs) →
      b.spot = none ∧ b.block ∈ bs ∧ ∃ bs', Tree (put3 w b y) base (.slice A f.len c) (replN ⟨o, m, f⟩ (i :: r) ⟨y.op, y.n, y.k⟩).k bs' ∧ ∀ z, z ∈ bs' → z ∈ bs ∨ z ∈ blkOf y.A ++ bx := by
  intro r
  induction r with
  | nil =>
    intro i o m f A c bs q a b ht hc hp hd hdis
    obtain ⟨g, o2, l, c2, d1, d2, d3, d4⟩ := hd
    have d4 : (⟨g, o2 + i.toNat * 3, none⟩ : Addr) = b := d4
    have e2 := hc.symm.trans d1
    injection e2 with e2
    injection e2 with e3 e4 _
    subst e3
    obtain ⟨st, b1, h1, h2, rfl, hnd⟩ := ht
    have ho2 : o2 = 0 := by
      rcases h1.2 with ⟨hv, _⟩ | ⟨_, _, _, hv, _⟩
      · cases hv
      · injection hv with hv _ _; injection hv with hv; injection hv
    subst ho2
    rw [Nat.zero_add] at d4
    subst d4
    obtain ⟨o1, m1, k1, x1, _, _⟩ := Fo.drop_of_lt f i.toNat (by omega)
    obtain ⟨Ak, ck, stk, bk, p, q2, g1, g2, g3, g4, rfl, g6⟩ := h2.at2 i.toNat x1
    have hbg : blkV (.slice (some ⟨g, 0, none⟩) f.len c) = [g] := by rw [blkV_slice]; rfl
    rw [hbg] at hnd hdis ⊢
    refine ⟨rfl, by simp, [g] ++ (p ++ ((blkOf y.A ++ bx) ++ q2)), ?_, ?_⟩
    · have hz : ∀ z, z ∈ p ++ q2 → z ≠ g := fun z hz e => by
        subst e
        have := (List.nodup_append.1 hnd).2.2 z (by simp) z (by
          rcases List.mem_append.1 hz with h | h
          · exact List.mem_append_left _ h
          · exact List.mem_append_right _ (List.mem_append_right _ h))
        exact this rfl
      have hx : ∀ z, z ∈ blkOf y.A ++ bx → z ≠ g := fun z hz e => hdis z hz (by rw [e]; simp)
      rw [replN_in d2 x1]
      refine ⟨_, _, ?_, g6 (put3 w ⟨g, i.toNat * 3, none⟩ y) y.op y.n y.k y.A y.c stx bx (fun z h => put3_heap w ⟨g, i.toNat * 3, none⟩ y (hz z h)) hyi (own_at hxo fun z h => put3_heap w ⟨g, i.toNat * 3, none⟩ y (hx z (by rw [← blkV_slice y.A y.k.len y.c]; unfold blkV; rw [h]; simp))) (hxf.keep fun z h => put3_heap w ⟨g, i.toNat * 3, none⟩ y (hx z (List.mem_append_right _ h))), ?_, ?_⟩
      · have := own_turn3 (j := i.toNat) y h1
        simp only [setN_len, put3]
        exact this
      · rw [hbg]
      · exact nodup_swap hnd hxn fun z hz h => hdis z hz (by simp only [List.mem_append] at h ⊢; rcases h with h | h | h; exact .inl h; exact .inr (.inl h); exact .inr (.inr (.inr h)))
    · intro z hz
      simp only [List.mem_append, List.mem_singleton] at hz ⊢
      rcases hz with h | h | (h | h) | h
      · exact .inl (.inl h)
      · exact .inl (.inr (.inl h))
      · exact .inr (.inl h)
      · exact .inr (.inr h)
      · exact .inl (.inr (.inr (.inr h)))
  | cons i2 r2 ih =>
    intro i o m f A c bs q a b ht hc hp hd hdis
    obtain ⟨g, o2, l, c2, d1, d2, d3, d4⟩ := hd
    have e2 := hc.symm.trans d1
    injection e2 with e2
    injection e2 with e3 e4 _
    subst e3
    obtain ⟨st, b1, h1, h2, rfl, hnd⟩ := ht
    have ho2 : o2 = 0 := by
      rcases h1.2 with ⟨hv, _⟩ | ⟨_, _, _, hv, _⟩
      · cases hv
      · injection hv with hv _ _; injection hv with hv; injection hv
    subst ho2
    rw [Nat.zero_add] at d4
    obtain ⟨o1, m1, k1, x1, _, _⟩ := Fo.drop_of_lt f i.toNat (by omega)
    rw [partN_in d2 x1] at hp
    obtain ⟨Ak, ck, stk, bk, p, q2, g1, g2, g3, g4, rfl, g6⟩ := h2.at2 i.toNat x1
    have hbg : blkV (.slice (some ⟨g, 0, none⟩) f.len c) = [g] := by rw [blkV_slice]; rfl
    rw [hbg] at hnd hdis ⊢
    obtain ⟨n1, n2, n3⟩ := List.nodup_append.1 hnd
    have nk : (blkOf Ak ++ bk).Nodup := (List.nodup_append.1 (List.nodup_append.1 n2).2.1).1
    have htk : Tree w base (.slice Ak k1.len ck) k1 (blkOf Ak ++ bk) := ⟨stk, bk, g3, g4, by rw [blkV_slice], nk⟩
    have hck : w.cell? ⟨g, i.toNat * 3 + 2, none⟩ = some (.slice Ak k1.len ck) := by
      have h5 := h1.cells (g := g) rfl (i.toNat * 3 + 2) _ (cells3_at st i.toNat _ g2).2.2
      rw [add_plainP, Nat.zero_add] at h5
      exact h5
    obtain ⟨s1, s2, bs', s3, s4⟩ := ih i2 (o := o1) (m := m1) htk hck hp d4 (fun z hz h => hdis z hz (by simp only [List.mem_append] at h ⊢; rcases h with h | h; exact .inr (.inr (.inl (.inl h))); exact .inr (.inr (.inl (.inr h)))))
    have hbb : b.block ≠ g := fun e => n3 g (by simp) b.block (by simp only [List.mem_append] at s2 ⊢; rcases s2 with h | h; exact .inr (.inl (.inl h)); exact .inr (.inl (.inr h))) e.symm
    obtain ⟨stk', bk', u1, u2, rfl, u4⟩ := s3
    rw [blkV_slice] at s4 u4
    have hlen := replN_len ⟨o1, m1, k1⟩ ⟨y.op, y.n, y.k⟩ i2 r2
    obtain ⟨ht1, ht2⟩ := replN_top ⟨o1, m1, k1⟩ ⟨y.op, y.n, y.k⟩ i2 r2
    refine ⟨s1, by simp only [List.mem_append] at s2 ⊢; rcases s2 with h | h; exact .inr (.inr (.inl (.inl h))); exact .inr (.inr (.inl (.inr h))), [g] ++ (p ++ ((blkOf Ak ++ bk') ++ q2)), ?_, ?_⟩
    · have hz : ∀ z, z ∈ p ++ q2 → z ≠ b.block := fun z hz e => by
        subst e
        have n5 := List.nodup_append.1 n2
        have n6 := List.nodup_append.1 n5.2.1
        rcases List.mem_append.1 hz with h | h
        · exact n5.2.2 _ h _ (List.mem_append_left _ s2) rfl
        · exact n6.2.2 _ s2 _ h rfl
      rw [replN_in d2 x1, ht1, ht2]
      have hf := g6 (put3 w b y) o1 m1 (replN ⟨o1, m1, k1⟩ (i2 :: r2) ⟨y.op, y.n, y.k⟩).k Ak ck stk' bk' (fun z h => put3_heap w b y (hz z h)) g1 (by rw [hlen]; rw [hlen] at u1; exact u1) u2
      refine ⟨_, _, ?_, hf, by rw [hbg], ?_⟩
      · obtain ⟨c0, c1, c3⟩ := cells3_at st i.toNat _ g2
        simp only [setN_len]
        rw [cells3_set]
        simp only [hlen]
        rw [list_set_same c0, list_set_same c1, list_set_same c3]
        exact own_at h1 fun z h => put3_heap w b y (by cases h; exact fun e => hbb e.symm)
      · refine nodup_swap hnd u4 fun z hz h => ?_
        rcases s4 z hz with h4 | h4
        · have n5 := List.nodup_append.1 n2
          have n6 := List.nodup_append.1 n5.2.1
          simp only [List.mem_append] at h
          rcases h with h | h | h
          · exact n3 z h z (List.mem_append_right _ (List.mem_append_left _ h4)) rfl
          · exact n5.2.2 z h z (List.mem_append_left _ h4) rfl
          · exact n6.2.2 z h4 z h rfl
        · exact hdis z h4 (by simp only [List.mem_append] at h ⊢; rcases h with h | h | h; exact .inl h; exact .inr (.inl h); exact .inr (.inr (.inr h)))
    · intro z hz
      simp only [List.mem_append, List.mem_singleton] at hz ⊢
      rcases hz with h | h | h | h
      · exact .inl (.inl h)
      · exact .inl (.inr (.inl h))
      · rcases s4 z (by simpa only [List.mem_append] using h) with h | h
        · simp only [List.mem_append] at h
          exact .inl (.inr (.inr (.inl h)))
        · simp only [List.mem_append] at h
          exact .inr h
      · exact .inl (.inr (.inr (.inr h)))
end
end Go.Proofs.Ytdpiklnadhpjjaa
