/-
  The model's ParseLibrary.
-/
import Derived.Test.YtpknegneogdmfaaGreatParE
import Derived.Test.YtpknegneogdmfaaGreatCutL
import Derived.Test.YtpknegneogdmfaaGreatTreeD
import Derived.Test.YtpknegneogdmfaaGreatLibVD
import Derived.Test.YtpknegneogdmfaaGreatLibVS
import Derived.Test.YtpknegneogdmfaaGreatTake
namespace Go.Proofs.YtpknegneogdmfaaGreat
open Go.RowKit Go.Shelf
set_option maxRecDepth 100000

theorem okL_ar {ds : List De} : ∀ (r : List De) (p : Option Int), okL ds p r = true → ∀ d ∈ r, arOk d = true
  | [], _, _, d, hd => by simp at hd
  | d0 :: r, p, h, d, hd => by
    have e : okL ds p (d0 :: r) = ((headOk p d0 && bodyOk ds d0) && okL ds (some d0.nm) r) := rfl
    rw [e, Bool.and_eq_true, Bool.and_eq_true] at h
    obtain ⟨⟨h1, h2⟩, h3⟩ := h
    unfold headOk at h1
    simp only [Bool.and_eq_true] at h1
    rcases List.mem_cons.1 hd with rfl | hd
    · exact h1.1.2
    · exact okL_ar r _ h3 d hd
theorem libOk_line {ds : List De} (h : libOk ds = true) : ∀ d ∈ ds, okLine d := by
  unfold libOk at h
  rw [Bool.and_eq_true] at h
  intro d hd
  obtain ⟨hv, hb, _⟩ := okL_named ds none h.2 d hd
  have ha := okL_ar ds none h.2 d hd
  unfold arOk at ha
  unfold bodyOk at hb
  unfold inVar at hv
  simp only [Bool.and_eq_true, decide_eq_true_eq] at ha hb hv
  exact ⟨by omega, by omega, nodeIs_txt hb.1⟩

/-- The function that a line stands for. -/
def defOf (l : List UInt8) : Option De :=
  match l[0]?, l[1]?, l[2]? with
  | some a, some b, some c => if 4 ≤ l.length ∧ (65 ≤ a.toNat ∧ a.toNat ≤ 90) ∧ 48 ≤ b.toNat ∧ b.toNat ≤ 57 then match parseE (l.drop 3) with
      | none => none
      | some e => some ⟨(a.toNat : Int) - 65, (b.toNat : Int) - 48, (c.toNat : Int) == 126, e.op, e.n, e.k⟩
    else none
  | _, _, _ => none
def linesD : List (List UInt8) → Option (List De)
  | [] => some []
  | l :: r => match defOf l with
    | none => none
    | some d => match linesD r with
      | none => none
      | some ds => some (d :: ds)
def preD (pre : List De) : Option (List De) → Option (List De)
  | none => none
  | some ds => some (pre ++ ds)
/-- The library that a text stands for. -/
def parseL (s : List UInt8) : Option (List De) :=
  match linesD ((cutL 10 s).dropLast.take 9) with
  | none => none
  | some ds => if libOk ds = true ∧ libT ds = s then some ds else none
/-- What lies from Lo on in V lies there still; the rows bs are none of these. -/
def Mid (Lo g : Nat) (V V' : World) (bs : List Nat) : Prop := (∀ b, Lo ≤ b → b < V.heap.size → V'.heap[b]? = V.heap[b]?) ∧ V.heap.size ≤ V'.heap.size ∧ ∀ b, b ∈ bs → b = g ∨ V.heap.size ≤ b
def ParLPost (r : Option (List De)) (w : World) (e : Ending) (w' : World) : Prop :=
  ∃ (v : Value) (ds : List De) (bs : List Nat) (ok : Bool), e = .returned (.tuple #[v, .bool ok]) ∧ TreeD w' w.heap.size v ds bs ∧ Below w.heap.size w w' ∧
    (match r with
     | some ds' => ds = ds' ∧ ok = true
     | none => ds = [] ∧ ok = false)
def LiesT (w : World) (Lo B : Nat) (A : Option Addr) (l : List (List UInt8)) : Prop := ∀ i x, l[i]? = some x → ∃ b, A = some ⟨b, 0, none⟩ ∧ Lo ≤ b ∧ b < B ∧ w.cell? ⟨b, i, none⟩ = some (txt x)
theorem cell_heap {w w' : World} {b i : Nat} (h : w'.heap[b]? = w.heap[b]?) : w'.cell? ⟨b, i, none⟩ = w.cell? ⟨b, i, none⟩ := by
  unfold World.cell?
  simp only [h]
theorem LiesT.keep {w w' : World} {Lo B : Nat} {A : Option Addr} {l : List (List UInt8)} (h : LiesT w Lo B A l) (hk : ∀ b, Lo ≤ b → b < B → w'.heap[b]? = w.heap[b]?) : LiesT w' Lo B A l := fun i x hx => by
  obtain ⟨b, h1, h2, h3, h4⟩ := h i x hx
  exact ⟨b, h1, h2, h3, (cell_heap (hk b h2 h3)).trans h4⟩
theorem own_strs {w : World} {base : Nat} {v : Value} {l : List (List UInt8)} (h : w.ownsRow base 9 1 v l.length (l.map txt)) : ∃ A c, v = .slice A l.length c ∧ LiesT w base w.heap.size A l := by
  rcases h.2 with ⟨rfl, h0⟩ | ⟨g, cap, cur, rfl, h2, h3, h4, _, h5, h6⟩
  · exact ⟨none, 0, by rw [h0], fun i x hx => absurd (List.getElem?_eq_some_iff.1 hx).1 (by omega)⟩
  · refine ⟨_, cap, rfl, fun i x hx => ⟨g, rfl, h2, (Array.getElem?_eq_some_iff.1 h3).1, ?_⟩⟩
    have hi := (List.getElem?_eq_some_iff.1 hx).1
    have h7 : (cur.toList.take (l.length * 1))[i]? = (l.map txt)[i]? := by rw [h6]
    rw [List.getElem?_take_of_lt (by omega), List.getElem?_map, hx, Array.getElem?_toList] at h7
    exact (cell_of_row w g i cur _ _ h3).trans h7
theorem sizeD_snoc : ∀ (ds : List De) (d : De), sizeD (ds ++ [d]) = sizeD ds + d.k.size + 1
  | [], d => by simp [sizeD]
  | e :: r, d => by have := sizeD_snoc r d; simp only [List.cons_append, sizeD, this]; omega
theorem parseE_size {s : List UInt8} {e : Nd} (h : parseE s = some e) : e.k.size + 1 ≤ 80 := by
  unfold parseE at h
  split at h
  · cases h
  · split at h
    · rename_i h2
      injection h with h
      subst h
      exact nodeIs_size h2.2.1
    · cases h

set_option maxHeartbeats 8000000 in
theorem specParL_any (s : List UInt8) (hs : s.length ≤ 50000) (w : World) : Calls Tryz.prog 28 #[.string ⟨s.toArray⟩] w (ParLPost (parseL s) w) := by
  obtain ⟨W, hW⟩ : ∃ W, W = (w.alloc (Obj.cells #[] 38)).alloc (Obj.cells #[] 38) := ⟨_, rfl⟩
  obtain ⟨hbW, hr0, hr1⟩ := two_boxes w 38 38 #[] #[]
  rw [← hW] at hbW hr0 hr1
  have HB := Lib.hid hbW
  have HR0 := Lib.hid hr0
  have HT0 := Lib.hid (TreeD.fresh (base := w.heap.size + 1) hr1 (Nat.le_refl _))
  have HZ := Lib.hid (show w.heap.size + 1 + 1 ≤ W.heap.size by rw [hW]; simp)
  obtain ⟨r, hr⟩ : ∃ r : Option (List De), r = parseL s := ⟨_, rfl⟩
  rw [← hr]
  obtain ⟨L, hL⟩ : ∃ L, L = cutL 10 s := ⟨_, rfl⟩
  obtain ⟨K, hK⟩ : ∃ K, K = L.dropLast.take 9 := ⟨_, rfl⟩
  have HC := Lib.hid (show Calls Tryz.prog 45 #[.string ⟨s.toArray⟩, .int .u8 10] W (StrsPost L W) by rw [hL]; exact l16Cut_any s (by omega) 10 10 rfl W)
  have HX := Lib.hid (show r = (match linesD K with
    | none => none
    | some ds => if libOk ds = true ∧ libT ds = s then some ds else none) by rw [hr, hK, hL]; rfl)
  have hLl : L.length ≤ 50001 := by rw [hL]; have := cutL_len 10 s; omega
  have hKl : K.length = min 9 (L.length - 1) := by rw [hK, List.length_take, List.length_dropLast]
  have hL1 : 1 ≤ L.length := by
    rcases Nat.eq_zero_or_pos L.length with h | h
    · rw [hL] at h; exact absurd (List.eq_nil_of_length_eq_zero h) (cutL_ne 10 s)
    · exact h
  have HKL := Lib.hid (show ∀ j, j < K.length → L[j]? = K[j]? from fun j hj => by
    rw [hK] at hj ⊢
    rw [List.length_take, List.length_dropLast] at hj
    rw [List.getElem?_take_of_lt (by omega), List.getElem?_dropLast, if_pos (by omega)])
  have HLS := Lib.hid (show ∀ x, x ∈ L → x.length ≤ 50000 from fun x hx => by
    have : ∀ (t : List UInt8) (y : List UInt8), y ∈ cutL 10 t → y.length ≤ t.length := by
      intro t
      induction t with
      | nil => intro y hy; simp [cutL] at hy; subst hy; simp
      | cons a t ih =>
        intro y hy
        unfold cutL at hy
        split at hy
        · rcases List.mem_cons.1 hy with rfl | hy
          · simp
          · have := ih y hy; simp only [List.length_cons]; omega
        · split at hy
          · simp at hy; subst hy; simp
          · rename_i h0 t0 e0
            rcases List.mem_cons.1 hy with rfl | hy
            · have := ih h0 (by rw [e0]; simp); simp only [List.length_cons]; omega
            · have := ih y (by rw [e0]; simp [hy]); simp only [List.length_cons]; omega
    rw [hL] at hx
    have := this s x hx
    omega)
  clear hbW hr0 hr1 hr hL hK
  go_enter Tryz.func28, Tryz.ntmps28
  go_upto_region 3 with fail
  rw [← hW]
  clear hW
  go_wp2_with fail
  refine HC.out.mono ?_
  rintro e w1 ⟨v1, rfl, ho1, hb1⟩
  obtain ⟨LA, Lc, rfl, hlt1⟩ := own_strs ho1
  have HLT := Lib.hid hlt1
  have HB1 := Lib.hid (HB.out.trans (hb1.mono HB.out.size))
  have HR01 := Lib.hid (HR0.out.below hb1 HR0.out.size)
  have HT1 := Lib.hid (HT0.out.over hb1)
  have HZ1 := Lib.hid (Nat.le_trans HZ.out hb1.size)
  clear ho1 hb1 hlt1 HC HB HR0 HT0
  go_wp2_with fail
  go_loopw [5, 7] (fun v u wr => ∃ (j : Nat) (v0 : Value) (pre : List De) (bs : List Nat), j ≤ K.length ∧ u = .int .i64 (j : Int) ∧ v = v0 ∧ pre.length = j ∧ sizeD pre ≤ 81 * j ∧ linesD K = preD pre (linesD (K.drop j)) ∧
      TreeD wr (w.heap.size + 1) v0 pre bs ∧ Row wr w.heap.size 38 #[] ∧ Below w.heap.size w wr ∧ Mid W.heap.size (w.heap.size + 1) w1 wr bs) (fun _ u _ => K.length - (intOf u).toNat)
  case atStart => exact ⟨0, _, [], _, Nat.zero_le _, rfl, rfl, rfl, by simp [sizeD], by rw [List.drop_zero]; cases linesD K <;> rfl, HT1.out, HR01.out, HB1.out, ⟨fun _ _ _ => rfl, Nat.le_refl _, fun b hb => .inl (by simpa using hb)⟩⟩
  case round =>
    clear HB1 HR01 HT1
    obtain ⟨j, v0, pre, bs, hj, rfl, hv, hpl, hsz, hpre, ht, hr0, hb, hb1⟩ := hrel
    obtain rfl := hv.symm
    have HT := Lib.hid ht
    have HR0 := Lib.hid hr0
    have HB := Lib.hid hb
    have HB1 := Lib.hid hb1
    have HPRE := Lib.hid hpre
    have HPL := Lib.hid (And.intro hpl hsz)
    have HLTR := Lib.hid (HLT.out.keep hb1.1)
    -- nothing: the empty list
    have HN := Lib.hid (fun (V : World) (hbV : Below w.heap.size w V) (hrV : Row V w.heap.size 38 #[]) (hr : r = none) => show ParLPost r w (.returned (.tuple #[.slice (some ⟨w.heap.size, 0, none⟩) 0 0, .bool false])) V by
      rw [hr]
      exact ⟨_, [], _, _, rfl, TreeD.fresh hrV (Nat.le_refl _), hbV, rfl, rfl⟩)
    have HNB := Lib.hid (show ∀ j', j' = j + 1 → True from fun _ _ => trivial)
    clear ht hr0 hb hb1 hpre
    by_cases hlt : j < K.length
    · have c1 : (j : Int) < (L.length : Int) - 1 := by omega
      have c2 : (j : Int) ≤ 8 := by omega
      have ek := List.getElem?_eq_getElem hlt
      generalize K[j] = li at ek
      have el : L[j]? = some li := (HKL.out j hlt).trans ek
      obtain ⟨lb, hLA, _, hlb, hlc⟩ := HLTR.out j li el
      subst hLA
      have hli := HLS.out li (List.mem_of_getElem? el)
      have hdr : K.drop j = li :: K.drop (j + 1) := by
        obtain ⟨h1, h2⟩ := List.getElem?_eq_some_iff.1 ek
        rw [← h2]; exact List.drop_eq_getElem_cons h1
      have HBAD := Lib.hid (show defOf li = none → r = none from fun h => by
        rw [HX.out, HPRE.out, hdr]; simp only [linesD, h, preD])
      have hlj : j < L.length := by omega
      unfold txt at hlc
      clear ek el
      by_cases h4 : li.length < 4
      · have HF := Lib.hid (HBAD.out (by
          unfold defOf
          split
          · rw [if_neg (by omega)]
          · rfl))
        have h4i : (li.length : Int) < 4 := by omega
        have HEND := Lib.hid (HN.out wr HB.out HR0.out HF.out)
        clear hdr h4
        go_wp2_with fail
        go_ret2
        exact HEND.out
      have h4i : ¬ (li.length : Int) < 4 := by omega
      obtain ⟨a, ea⟩ : ∃ a, li[0]? = some a := ⟨_, List.getElem?_eq_getElem (by omega)⟩
      obtain ⟨b, eb⟩ : ∃ b, li[1]? = some b := ⟨_, List.getElem?_eq_getElem (by omega)⟩
      obtain ⟨c, ec⟩ : ∃ c, li[2]? = some c := ⟨_, List.getElem?_eq_getElem (by omega)⟩
      have ia := idx_ofC ea
      have ib := idx_ofC eb
      have ic := idx_ofC ec
      have hn0 : 0 < li.length := by omega
      have hn1 : 1 < li.length := by omega
      have hn2 : 2 < li.length := by omega
      have hi0 : (0 : Int) < (li.length : Int) := by omega
      have hi1 : (1 : Int) < (li.length : Int) := by omega
      have hi2 : (2 : Int) < (li.length : Int) := by omega
      have HD := Lib.hid (show defOf li = if 4 ≤ li.length ∧ (65 ≤ a.toNat ∧ a.toNat ≤ 90) ∧ 48 ≤ b.toNat ∧ b.toNat ≤ 57 then (match parseE (li.drop 3) with
          | none => none
          | some e => some ⟨(a.toNat : Int) - 65, (b.toNat : Int) - 48, (c.toNat : Int) == 126, e.op, e.n, e.k⟩) else none by
        unfold defOf; rw [ea, eb, ec])
      by_cases a65 : a.toNat < 65
      · have HF := Lib.hid (HBAD.out (by rw [HD.out, if_neg (by omega)]))
        have g1 : (a.toNat : Int) < 65 := by omega
        have HEND := Lib.hid (HN.out wr HB.out HR0.out HF.out)
        clear hdr ea eb ec
        go_wp2_with fail
        go_ret2
        exact HEND.out
      by_cases a90 : 90 < a.toNat
      · have HF := Lib.hid (HBAD.out (by rw [HD.out, if_neg (by omega)]))
        have g1 : ¬ (a.toNat : Int) < 65 := by omega
        have g2 : 90 < (a.toNat : Int) := by omega
        have HEND := Lib.hid (HN.out wr HB.out HR0.out HF.out)
        clear hdr ea eb ec
        go_wp2_with fail
        go_ret2
        exact HEND.out
      by_cases b48 : b.toNat < 48
      · have HF := Lib.hid (HBAD.out (by rw [HD.out, if_neg (by omega)]))
        have g1 : ¬ (a.toNat : Int) < 65 := by omega
        have g2 : ¬ 90 < (a.toNat : Int) := by omega
        have g3 : (b.toNat : Int) < 48 := by omega
        have HEND := Lib.hid (HN.out wr HB.out HR0.out HF.out)
        clear hdr ea eb ec
        go_wp2_with fail
        go_ret2
        exact HEND.out
      by_cases b57 : 57 < b.toNat
      · have HF := Lib.hid (HBAD.out (by rw [HD.out, if_neg (by omega)]))
        have g1 : ¬ (a.toNat : Int) < 65 := by omega
        have g2 : ¬ 90 < (a.toNat : Int) := by omega
        have g3 : ¬ (b.toNat : Int) < 48 := by omega
        have g4 : 57 < (b.toNat : Int) := by omega
        have HEND := Lib.hid (HN.out wr HB.out HR0.out HF.out)
        clear hdr ea eb ec
        go_wp2_with fail
        go_ret2
        exact HEND.out
      have g1 : ¬ (a.toNat : Int) < 65 := by omega
      have g2 : ¬ 90 < (a.toNat : Int) := by omega
      have g3 : ¬ (b.toNat : Int) < 48 := by omega
      have g4 : ¬ 57 < (b.toNat : Int) := by omega
      obtain ⟨X, hX⟩ : ∃ X, X = (ByteArray.mk li.toArray).extract 3 li.length := ⟨_, rfl⟩
      have hX2 : (ByteArray.mk li.toArray).extract 3 li.length = X := hX.symm
      have hi3 : (3 : Int) ≤ (li.length : Int) := by omega
      have HCE := Lib.hid (show Calls Tryz.prog 46 #[.string X] wr (ParEPost (parseE (li.drop 3)) wr) by
        rw [hX, ByteArray.extract_mk, List.take_of_length_le (by rw [List.length_drop]; exact Nat.le_refl _)]
        exact specParE_any (li.drop 3) (by rw [List.length_drop]; omega) wr)
      clear hX ea eb ec
      go_wp2_with fail
      refine HCE.out.mono ?_
      rintro e w2 ⟨y, YA, yc, yb, ok, rfl, hiy, hty, hb2, hres⟩
      obtain ⟨W2, hW2⟩ : ∃ W2, W2 = w2.alloc (Obj.cells #[.int .i64 y.op, .int .i64 y.n, .slice YA y.k.len yc] 36) := ⟨_, rfl⟩
      have hbw2 : Below w2.heap.size w2 W2 := by rw [hW2]; exact (Below.refl _ _).alloc (Nat.le_refl _) _
      have hb02 := hb2.trans (hbw2.mono hb2.size)
      have HB2 := Lib.hid (HB.out.trans (hb02.mono HB.out.size))
      have HR2 := Lib.hid (HR0.out.below hb02 HR0.out.size)
      cases hpe : parseE (li.drop 3) with
      | none =>
        rw [hpe] at hres
        obtain ⟨-, rfl⟩ : y = zeroNd ∧ ok = false := hres
        have HF := Lib.hid (HBAD.out (by rw [HD.out, hpe]; split <;> rfl))
        have HEND := Lib.hid (HN.out W2 HB2.out HR2.out HF.out)
        rw [hW2] at HEND
        clear hdr hty hb2 hbw2 hb02 hiy HB2 HR2 hW2
        go_wp2_with fail
        go_ret2
        exact HEND.out
      | some y' =>
        rw [hpe] at hres
        obtain ⟨rfl, rfl⟩ : y = y' ∧ ok = true := hres
        obtain ⟨d, hd⟩ : ∃ d : De, d = ⟨(a.toNat : Int) - 65, (b.toNat : Int) - 48, (c.toNat : Int) == 126, y.op, y.n, y.k⟩ := ⟨_, rfl⟩
        have hdef : defOf li = some d := by rw [HD.out, hpe, hd, if_pos (by omega)]
        have HNEXT := Lib.hid (show linesD K = preD (pre ++ [d]) (linesD (K.drop (j + 1))) by
          rw [HPRE.out, hdr]
          simp only [linesD, hdef]
          cases linesD (K.drop (j + 1)) with
          | none => rfl
          | some x => simp [preD])
        have hysz := parseE_size hpe
        have HSZ := Lib.hid (show sizeD (pre ++ [d]) ≤ 81 * (j + 1) by
          have h1 := sizeD_snoc pre d
          have h2 := HPL.out.2
          have h3 : d.k.size = y.k.size := by rw [hd]
          omega)
        have HX2 := Lib.hid (show Row W2 w2.heap.size 36 #[.int .i64 y.op, .int .i64 y.n, .slice YA y.k.len yc] by rw [hW2]; exact Row.fresh _ _ _)
        have hbw2d : Below W2.heap.size W2 W2.drew := (Below.refl _ _).drew
        have HT2 := Lib.hid ((HT.out.over hb02).over hbw2d)
        have HK2 := Lib.hid ((((hty.over hbw2).over hbw2d)).lower (base' := w.heap.size + 1) (by have := HB1.out.2.1; have := HZ1.out; omega))
        have HFT := Lib.hid (show d.fits by rw [hd]; exact ⟨by show I64 ((a.toNat : Int) - 65); unfold I64; omega, by show I64 ((b.toNat : Int) - 48); unfold I64; omega, hiy.1, hiy.2⟩)
        have HDJ := Lib.hid (show ∀ q, q ∈ bs → q ∈ yb → False from fun q h1 h2 => by
          have e1 := (HT.out.lt q h1).2
          have e2 := (hty.lt q h2).1
          omega)
        have HLEN := Lib.hid (show pre.length ≤ 1048576 by have := HPL.out.1; omega)
        have HBA := Lib.hid (show w.heap.size + 1 ≤ W2.drew.heap.size from by
          have h1 := HZ1.out; have h2 := HB1.out.2.1; have h3 := hb02.size
          show w.heap.size + 1 ≤ W2.heap.size
          omega)
        have HYB := Lib.hid (show ∀ q, q ∈ yb → w1.heap.size ≤ q from fun q hq => Nat.le_trans HB1.out.2.1 (hty.lt q hq).1)
        have HK02 := Lib.hid (show ∀ z, z < wr.heap.size → W2.heap[z]? = wr.heap[z]? from fun z hz => hb02.block z hz)
        have HOB := Lib.hid (show ∀ g, v0.ownBlock = some g → w.heap.size + 1 ≤ g ∧ g < wr.heap.size from fun g hg => by
          obtain ⟨st, b1', k1', k2', rfl, _⟩ := HT.out
          exact blk_lt k1' (by unfold blkV; rw [hg]; simp))
        have HWW := Lib.hid (show w1.heap.size ≤ wr.heap.size ∧ wr.heap.size ≤ W2.heap.size from ⟨HB1.out.2.1, hb02.size⟩)
        have HWX := Lib.hid hb2.size
        have ha256 : a.toNat < 256 := a.toNat_lt
        have hb256 : b.toNat < 256 := b.toNat_lt
        have eua : IntKind.u8.wrap ((a.toNat : Int) - 65) = (a.toNat : Int) - 65 := by rw [IntKind.wrap_u8]; omega
        have eia : IntKind.i64.wrap ((a.toNat : Int) - 65) = (a.toNat : Int) - 65 := by rw [IntKind.wrap_i64]; omega
        have eub : IntKind.u8.wrap ((b.toNat : Int) - 48) = (b.toNat : Int) - 48 := by rw [IntKind.wrap_u8]; omega
        have eib : IntKind.i64.wrap ((b.toNat : Int) - 48) = (b.toNat : Int) - 48 := by rw [IntKind.wrap_i64]; omega
        have c0 := HX2.out.cell (i := 0) rfl
        have c1' := HX2.out.cell (i := 1) rfl
        have c2' := HX2.out.cell (i := 2) rfl
        have HSD := Lib.hid (show ∀ w' : World, Below W2.heap.size W2 w' → w'.cell? ⟨w2.heap.size, 0, none⟩ = some (Value.int .i64 y.op) ∧ w'.cell? ⟨w2.heap.size, 1, none⟩ = some (Value.int .i64 y.n) ∧ w'.cell? ⟨w2.heap.size, 2, none⟩ = some (Value.slice YA y.k.len yc) from
          fun w' hb => ⟨(hb.cell (p := ⟨w2.heap.size, 0, none⟩) HX2.out.size).trans (HX2.out.cell (i := 0) rfl), (hb.cell (p := ⟨w2.heap.size, 1, none⟩) HX2.out.size).trans (HX2.out.cell (i := 1) rfl), (hb.cell (p := ⟨w2.heap.size, 2, none⟩) HX2.out.size).trans (HX2.out.cell (i := 2) rfl)⟩)
        clear hdr hty hb2 hbw2 hb02 hbw2d hiy hpe hdef hysz
        go_upto_region 13 with fail
        rw [← hW2]
        clear hW2
        refine wp_region_held_drew (S := fun w' => w'.cell? ⟨w2.heap.size, 0, none⟩ = some (Value.int .i64 y.op) ∧ w'.cell? ⟨w2.heap.size, 1, none⟩ = some (Value.int .i64 y.n) ∧ w'.cell? ⟨w2.heap.size, 2, none⟩ = some (Value.slice YA y.k.len yc)) (by kernel_rfl) (HSD.out _ (Below.refl _ _).drew) (fun hHeld => ?_)
        refine takeW 0 (v := ?vz_0) rfl (by kernel_rfl) (fun _ _ _ h => h) (by rfl) (by assumption) ?yz_0 ?rz_0
        case yz_0 => (intro w' hSw; (try dsimp only at hSw); go_simp; try with_reducible rfl)
        try simp only [Act.put, List.setIfInBounds_toArray, List.set_cons_zero, List.set_cons_succ, List.getElem_toArray, List.getElem_cons_zero]
        refine takeW 1 (v := ?vz_1) rfl (by kernel_rfl) (fun _ _ _ h => h) (by rfl) (by assumption) ?yz_1 ?rz_1
        case yz_1 => (intro w' hSw; (try dsimp only at hSw); go_simp; try with_reducible rfl)
        try simp only [Act.put, List.setIfInBounds_toArray, List.set_cons_zero, List.set_cons_succ, List.getElem_toArray, List.getElem_cons_succ, List.getElem_cons_zero]
        refine takeW 2 (v := ?vz_2) rfl (by kernel_rfl) (fun _ _ _ h => h) (by rfl) (by assumption) ?yz_2 ?rz_2
        case yz_2 => (intro w' hSw; (try dsimp only at hSw); go_simp; try with_reducible rfl)
        try simp only [Act.put, List.setIfInBounds_toArray, List.set_cons_zero, List.set_cons_succ, List.getElem_toArray, List.getElem_cons_succ, List.getElem_cons_zero]
        refine takeW 3 (v := ?vz_3) rfl (by kernel_rfl) (fun _ _ _ h => h) (by rfl) (by assumption) ?yz_3 ?rz_3
        case yz_3 => (intro w' hSw; (try dsimp only at hSw); go_simp; try with_reducible rfl)
        try simp only [Act.put, List.setIfInBounds_toArray, List.set_cons_zero, List.set_cons_succ, List.getElem_toArray, List.getElem_cons_succ, List.getElem_cons_zero]
        refine takeW 4 (v := ?vz_4) rfl (by kernel_rfl) (fun _ _ _ h => h) (by rfl) (by assumption) ?yz_4 ?rz_4
        case yz_4 => (intro w' hSw; (try dsimp only at hSw); go_simp; try with_reducible rfl)
        try simp only [Act.put, List.setIfInBounds_toArray, List.set_cons_zero, List.set_cons_succ, List.getElem_toArray, List.getElem_cons_succ, List.getElem_cons_zero]
        refine takeW 5 (v := ?vz_5) rfl (by kernel_rfl) (fun _ _ _ h => h) (by rfl) (by assumption) ?yz_5 ?rz_5
        case yz_5 => (intro w' hSw; (try dsimp only at hSw); go_simp; try with_reducible rfl)
        try simp only [Act.put, List.setIfInBounds_toArray, List.set_cons_zero, List.set_cons_succ, List.getElem_toArray, List.getElem_cons_succ, List.getElem_cons_zero]
        refine takeW 6 (v := ?vz_6) rfl (by kernel_rfl) (fun _ _ _ h => h) (by rfl) (by assumption) ?yz_6 ?rz_6
        case yz_6 => (intro w' hSw; (try dsimp only at hSw); go_simp; try with_reducible rfl)
        try simp only [Act.put, List.setIfInBounds_toArray, List.set_cons_zero, List.set_cons_succ, List.getElem_toArray, List.getElem_cons_succ, List.getElem_cons_zero]
        refine takeW 7 (v := ?vz_7) rfl (by kernel_rfl) (fun _ _ _ h => h) (by rfl) (by assumption) ?yz_7 ?rz_7
        case yz_7 => (intro w' hSw; (try dsimp only at hSw); go_simp; try with_reducible rfl)
        try simp only [Act.put, List.setIfInBounds_toArray, List.set_cons_zero, List.set_cons_succ, List.getElem_toArray, List.getElem_cons_succ, List.getElem_cons_zero]
        refine takeW 8 (v := ?vz_8) rfl (by kernel_rfl) (fun _ _ _ h => h) (by rfl) (by assumption) ?yz_8 ?rz_8
        case yz_8 => (intro w' hSw; (try dsimp only at hSw); go_simp; try with_reducible rfl)
        try simp only [Act.put, List.setIfInBounds_toArray, List.set_cons_zero, List.set_cons_succ, List.getElem_toArray, List.getElem_cons_succ, List.getElem_cons_zero]
        refine takeW 9 (v := ?vz_9) rfl (by kernel_rfl) (fun _ _ _ h => h) (by rfl) (by assumption) ?yz_9 ?rz_9
        case yz_9 => (intro w' hSw; (try dsimp only at hSw); go_simp; try with_reducible rfl)
        try simp only [Act.put, List.setIfInBounds_toArray, List.set_cons_zero, List.set_cons_succ, List.getElem_toArray, List.getElem_cons_succ, List.getElem_cons_zero]
        refine takeW 10 (v := ?vz_10) rfl (by kernel_rfl) (fun _ _ _ h => h) (by rfl) (by assumption) ?yz_10 ?rz_10
        case yz_10 => (intro w' hSw; (try dsimp only at hSw); go_simp; try with_reducible rfl)
        try simp only [Act.put, List.setIfInBounds_toArray, List.set_cons_zero, List.set_cons_succ, List.getElem_toArray, List.getElem_cons_succ, List.getElem_cons_zero]
        refine takeW 11 (v := ?vz_11) rfl (by kernel_rfl) (fun _ _ _ h => h) (by rfl) (by assumption) ?yz_11 ?rz_11
        case yz_11 => (intro w' hSw; (try dsimp only at hSw); go_simp; try with_reducible rfl)
        try simp only [Act.put, List.setIfInBounds_toArray, List.set_cons_zero, List.set_cons_succ, List.getElem_toArray, List.getElem_cons_succ, List.getElem_cons_zero]
        refine takeW 12 (v := ?vz_12) rfl (by kernel_rfl) (fun _ _ _ h => h) (by rfl) (by assumption) ?yz_12 ?rz_12
        case yz_12 => (intro w' hSw; (try dsimp only at hSw); go_simp; try with_reducible rfl)
        try simp only [Act.put, List.setIfInBounds_toArray, List.set_cons_zero, List.set_cons_succ, List.getElem_toArray, List.getElem_cons_succ, List.getElem_cons_zero]
        refine takeW 13 (v := ?vz_13) rfl (by kernel_rfl) (fun _ _ _ h => h) (by rfl) (by assumption) ?yz_13 ?rz_13
        case yz_13 => (intro w' hSw; (try dsimp only at hSw); go_simp; try with_reducible rfl)
        try simp only [Act.put, List.setIfInBounds_toArray, List.set_cons_zero, List.set_cons_succ, List.getElem_toArray, List.getElem_cons_succ, List.getElem_cons_zero]
        refine wpAnyH_ready (rs := [14]) (by kernel_rfl) (by simp) ?_
        refine AllReadyH.cons rfl (fun K hK => ?_) AllReadyH.nil
        go_simp
        refine hK.out _ _ (HSD.out _ ((Below.refl W2.heap.size W2).drew.alloc (Nat.le_refl _) _)) (fun hHeld2 => ?_)
        clear hK K
        try simp only [Act.put, List.setIfInBounds_toArray, List.set_cons_zero, List.set_cons_succ, List.getElem_toArray, List.getElem_cons_succ, List.getElem_cons_zero]
        refine wpAnyH_ready (rs := [15]) (by kernel_rfl) (by simp) ?_
        refine AllReadyH.cons rfl (fun K hK => ?_) AllReadyH.nil
        refine step_pushD (wk := W2.drew) rfl (.tmp 63) (.tmp 77) rfl (w.heap.size + 1) v0 pre bs yb ⟨(a.toNat : Int) - 65, (b.toNat : Int) - 48, (c.toNat : Int) == 126, y.op, y.n, y.k⟩ YA yc rfl rfl HT2.out (by exact HK2.out) (by rw [← hd]; exact HFT.out) HDJ.out HLEN.out HBA.out ?_
        intro v6 w6 bs6 ht6 hg6 hin6
        rw [← hd] at ht6
        have hx6 := row_grown (w := W2.drew) HX2.out.drew hg6 (fun e => by have h1 := HOB.out _ e.symm; have h2 := HWX.out; omega)
        have hr6 := row_grown (w := W2.drew) HR2.out.drew hg6 (fun e => by have h1 := HOB.out _ e.symm; omega)
        have hm6 : Mid W.heap.size (w.heap.size + 1) w1 w6 bs6 := by
          obtain ⟨m1, m2, m3⟩ := HB1.out
          have hz := HWW.out
          refine ⟨fun q h1 h2 => ?_, Nat.le_trans (Nat.le_trans m2 hz.2) hg6.size, fun q hq => ?_⟩
          · refine (hg6.block q (Nat.lt_of_lt_of_le h2 (Nat.le_trans m2 hz.2)) (fun e => ?_)).trans ((HK02.out q (by omega)).trans (m1 q h1 h2))
            obtain ⟨st, b1', k1', k2', rfl, _⟩ := HT.out
            rcases m3 q (by simp [blkV, ← e]) with h | h
            · have := HZ.out; omega
            · omega
          · rcases hin6 q hq with h | h | h
            · exact m3 q h
            · exact .inr (HYB.out q h)
            · exact .inr (Nat.le_trans (Nat.le_trans m2 hz.2) h)
        have hb6 : Below w.heap.size w w6 := Below.grown (HB2.out.drew) hg6 HB2.out.size (fun g' hg' => by have := HOB.out g' hg'; omega)
        have HREL := Lib.hid (And.intro ht6 (And.intro hr6 (And.intro hb6 hm6)))
        have HELD := Lib.hid (show w6.cell? ⟨w2.heap.size, 0, none⟩ = some (Value.int .i64 y.op) ∧ w6.cell? ⟨w2.heap.size, 1, none⟩ = some (Value.int .i64 y.n) ∧ w6.cell? ⟨w2.heap.size, 2, none⟩ = some (Value.slice YA y.k.len yc) from ⟨hx6.cell (i := 0) rfl, hx6.cell (i := 1) rfl, hx6.cell (i := 2) rfl⟩)
        clear ht6 hr6 hb6 hm6 hg6 hin6 hx6
        refine hK.out _ _ HELD.out (fun hHeld3 => ?_)
        clear hK K
        try simp only [Act.put, List.setIfInBounds_toArray, List.set_cons_zero, List.set_cons_succ, List.getElem_toArray, List.getElem_cons_succ, List.getElem_cons_zero]
        refine takeW 16 (v := ?vz_16) rfl (by kernel_rfl) (fun _ _ _ h => h) (by rfl) (by assumption) ?yz_16 ?rz_16
        case yz_16 => (intro w' hSw; (try dsimp only at hSw); go_simp; try with_reducible rfl)
        try simp only [Act.put, List.setIfInBounds_toArray, List.set_cons_zero, List.set_cons_succ, List.getElem_toArray, List.getElem_cons_succ, List.getElem_cons_zero]
        refine wpAnyH_done (by kernel_rfl) ?_ _
        go_wp2_with fail
        go_roundw
        case rel =>
          obtain ⟨r1, r2, r3, r4⟩ := HREL.out
          exact ⟨j + 1, _, pre ++ [d], bs6, hlt, by go_num, rfl, by rw [List.length_append, HPL.out.1]; rfl, HSZ.out, HNEXT.out, r1, r2, r3, r4⟩
        case measure => simp [intOf]; omega
    · have e9 : j = K.length := by omega
      have HRX := Lib.hid (show r = if libOk pre = true ∧ libT pre = s then some pre else none by
        have h : linesD K = some pre := by rw [HPRE.out, e9, List.drop_length]; simp [linesD, preD]
        rw [HX.out, h])
      obtain ⟨A0, c0, hv0, hk1, hk2⟩ := HT.out.slice
      subst hv0
      have hsz2 : sizeD pre ≤ 1048576 := by have := HPL.out.2; omega
      have HLD := Lib.hid ((HT.out.lies (B := wr.heap.size) fun b hb => (HT.out.lt b hb).2).mono_ (Nat.zero_le _) (Nat.le_refl _))
      have HCV := Lib.hid (specLibValid_any pre A0 c0 wr HLD.out hsz2)
      have stop : (j : Int) < (L.length : Int) - 1 ∧ ¬ (j : Int) ≤ 8 ∨ ¬ (j : Int) < (L.length : Int) - 1 := by omega
      cases hv : libOk pre with
      | false =>
        have HF := Lib.hid (show r = none by rw [HRX.out, hv]; simp)
        rw [hv] at HCV
        clear hv e9 hlt hpl hk1 hk2
        rcases stop with ⟨s1, s2⟩ | s1
        all_goals
          go_wp2_with fail
          refine HCV.out.mono ?_
          rintro e w2 ⟨rfl, hb2⟩
          have HEND := Lib.hid (HN.out w2 (HB.out.trans (hb2.mono HB.out.size)) (HR0.out.below hb2 HR0.out.size) HF.out)
          clear hb2
          go_wp2_with fail
          go_ret2
          exact HEND.out
      | true =>
        rw [hv] at HCV
        have HCT := Lib.hid (fun (w' : World) (hb : Below wr.heap.size wr w') => l2Text_any pre (libOk_line hv) hsz2 A0 c0 w' (HLD.out.up hb))
        by_cases htx : libT pre = s
        · have HF := Lib.hid (show r = some pre by rw [HRX.out, if_pos ⟨hv, htx⟩])
          rw [htx] at HCT
          clear hv e9 hlt hpl hk1 hk2 htx
          rcases stop with ⟨s1, s2⟩ | s1
          all_goals
            go_wp2_with fail
            refine HCV.out.mono ?_
            rintro e w2 ⟨rfl, hb2⟩
            have HB2 := Lib.hid hb2
            clear hb2
            go_wp2_with fail
            refine (HCT.out w2 HB2.out).mono ?_
            rintro e w3 ⟨rfl, hb3⟩
            have hb03 := HB2.out.trans (hb3.mono HB2.out.size)
            have HEND := Lib.hid (show ParLPost r w (.returned (.tuple #[.slice A0 pre.length c0, .bool true])) w3 by
              rw [HF.out]
              exact ⟨_, pre, bs, true, rfl, (HT.out.over hb03).lower (Nat.le_succ _), HB.out.trans (hb03.mono HB.out.size), rfl, rfl⟩)
            clear hb3 hb03
            unfold txt
            go_wp2_with fail
            go_ret2
            exact HEND.out
        · have HF := Lib.hid (show r = none by rw [HRX.out, if_neg (fun h => htx h.2)])
          have hbn : (libT pre == s) = false := by rw [beq_eq_false_iff_ne]; exact htx
          clear hv e9 hlt hpl hk1 hk2 htx
          rcases stop with ⟨s1, s2⟩ | s1
          all_goals
            go_wp2_with fail
            refine HCV.out.mono ?_
            rintro e w2 ⟨rfl, hb2⟩
            have HB2 := Lib.hid hb2
            clear hb2
            go_wp2_with fail
            refine (HCT.out w2 HB2.out).mono ?_
            rintro e w3 ⟨rfl, hb3⟩
            have hb03 := HB2.out.trans (hb3.mono HB2.out.size)
            have HEND := Lib.hid (HN.out w3 (HB.out.trans (hb03.mono HB.out.size)) (HR0.out.below hb03 HR0.out.size) HF.out)
            clear hb3 hb03
            unfold txt
            go_wp2_with fail
            go_ret2
            exact HEND.out
end Go.Proofs.YtpknegneogdmfaaGreat
