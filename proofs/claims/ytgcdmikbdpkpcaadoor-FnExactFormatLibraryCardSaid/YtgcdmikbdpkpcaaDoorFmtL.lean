/-
  FormatLibrary: the text of a library, on both sides.
-/
import Derived.Test.YtgcdmikbdpkpcaaDoorFmtM
import Derived.Test.YtgcdmikbdpkpcaaDoorBldB
import Derived.Test.YtgcdmikbdpkpcaaDoorCutL
import Derived.Test.YtgcdmikbdpkpcaaDoorLibVI
import Derived.Test.YtgcdmikbdpkpcaaDoorLibVS
namespace Go.Proofs.YtgcdmikbdpkpcaaDoor
open Go.RowKit Go.Shelf
set_option maxRecDepth 100000

def fmtLib (ds : List De) : List UInt8 := if libOk ds = true then libT ds else []
theorem fl_ar {ds : List De} : ∀ (r : List De) (p : Option Int), okL ds p r = true → ∀ d ∈ r, arOk d = true
  | [], _, _, d, hd => by simp at hd
  | d0 :: r, p, h, d, hd => by
    have e : okL ds p (d0 :: r) = ((headOk p d0 && bodyOk ds d0) && okL ds (some d0.nm) r) := rfl
    rw [e] at h
    unfold headOk at h
    simp only [Bool.and_eq_true] at h
    rcases List.mem_cons.1 hd with rfl | hd
    · exact h.1.1.1.2
    · exact fl_ar r _ h.2 d hd
theorem lib_mok {ds : List De} (h : libOk ds = true) : ∀ d ∈ ds, (0 ≤ d.nm ∧ d.nm < 8) ∧ (0 ≤ d.ar ∧ d.ar ≤ 3) ∧ mokN d.op d.n d.k = true := by
  intro d hd
  have hn := (libOk_named h d hd).1
  have h2 := h
  unfold libOk at h2
  rw [Bool.and_eq_true] at h2
  obtain ⟨_, hb, _⟩ := okL_named ds none h2.2 d hd
  have ha := fl_ar ds none h2.2 d hd
  unfold arOk at ha
  rw [Bool.and_eq_true] at ha
  unfold bodyOk at hb
  rw [Bool.and_eq_true] at hb
  exact ⟨inVar_true hn, ⟨of_decide_eq_true ha.1, of_decide_eq_true ha.2⟩, mok_is hb.1⟩
theorem mokN_ok {op n : Int} {k : Fo} (h : mokN op n k = true) : okT op n k = true := by
  have h3 := mok_txt (.cons op n k .nil) (by rw [mokF_cons rfl, h]; rfl)
  rw [okF_cons rfl, Bool.and_eq_true] at h3
  exact h3.1
theorem lib_lines {ds : List De} (h : libOk ds = true) : ∀ d ∈ ds, okLine d := fun d hd => by
  obtain ⟨h1, h2, h3⟩ := lib_mok h d hd
  exact ⟨⟨h1.1, by omega⟩, ⟨h2.1, by omega⟩, mokN_ok h3⟩

set_option maxHeartbeats 1000000 in
theorem specFmtL_any (ds : List De) (DA : Option Addr) (DC : Nat) (w : World) (hd : LiesD w 0 w.heap.size DA ds) (hdz : sizeD ds ≤ 1048576) :
    Calls Tryd.prog 5 #[.slice DA ds.length DC] w (Gives (.string ⟨(fmtLib ds).toArray⟩) w) := by
  have HA := Lib.hid (specLibValid_any ds DA DC w hd hdz)
  have HD := Lib.hid hd
  clear hd
  unfold fmtLib
  cases hv : libOk ds with
  | false =>
    rw [hv] at HA
    rw [if_neg (by simp)]
    clear hv
    go_enter Tryd.func5, Tryd.ntmps5
    go_wp2_with fail
    refine HA.out.mono ?_
    rintro e w2 ⟨rfl, hb2⟩
    have HB2 := Lib.hid hb2
    clear hb2 HA
    go_wp2
    go_ret
    exact ⟨rfl, HB2.out⟩
  | true =>
    rw [hv] at HA
    rw [if_pos rfl]
    have HT := Lib.hid (fun (V : World) (hV : Below w.heap.size w V) => show Calls Tryd.prog 11 #[.slice DA ds.length DC] V (Gives (.string ⟨(libT ds).toArray⟩) V) from l2Text_any ds (lib_lines hv) hdz DA DC V (HD.out.up hV))
    clear hv
    generalize (libT ds).toArray = tx at *
    go_enter Tryd.func5, Tryd.ntmps5
    go_wp2_with fail
    refine HA.out.mono ?_
    rintro e w2 ⟨rfl, hb2⟩
    have HB2 := Lib.hid hb2
    clear hb2 HA
    go_wp2_with fail
    refine (HT.out w2 HB2.out).mono ?_
    rintro e w3 ⟨rfl, hb3⟩
    have HB3 := Lib.hid (HB2.out.trans (hb3.mono HB2.out.size))
    clear hb3
    go_wp2
    go_ret
    exact ⟨rfl, HB3.out⟩

theorem byte_snoc (l : List UInt8) (x : UInt8) : Lib.byteCells l ++ [Value.int .u8 (x.toNat : Int)] = Lib.byteCells (l ++ [x]) := by rw [Lib.byteCells_append]; rfl
def lineT0 (d : De) (m : UInt8) : List UInt8 := letL 65 d.nm ++ decL d.ar ++ [m] ++ txtN d.op d.n d.k
theorem lib_let (n : Int) (h : 0 ≤ n ∧ n < 8) : ∀ h2 : n.toNat < (⟨#[65, 66, 67, 68, 69, 70, 71, 72]⟩ : ByteArray).size, (⟨#[65, 66, 67, 68, 69, 70, 71, 72]⟩ : ByteArray)[n.toNat]'h2 = UInt8.ofNat (65 + n.toNat) := by
  intro h2
  rcases (show n = 0 ∨ n = 1 ∨ n = 2 ∨ n = 3 ∨ n = 4 ∨ n = 5 ∨ n = 6 ∨ n = 7 by omega) with e | e | e | e | e | e | e | e <;> subst e <;> rfl

set_option maxHeartbeats 4000000 in
theorem implFmtL_any (ds : List De) (DA : Option Addr) (DC L B : Nat) (w : World) (hd : LiesD w L B DA ds) (hB : B ≤ w.heap.size) (hdz : sizeD ds ≤ 1048576) :
    Calls Tryd.prog 7 #[.slice DA ds.length DC] w (Gives (.string ⟨(fmtLib ds).toArray⟩) w) := by
  have HA := Lib.hid (implLibValid_r ds DA DC L B w hd hB hdz)
  have HD := Lib.hid (hd.mono_ (Nat.zero_le L) hB)
  clear hd
  unfold fmtLib
  cases hv : libOk ds with
  | false =>
    rw [hv] at HA
    rw [if_neg (by simp)]
    clear hv
    go_enter Tryd.func7, Tryd.ntmps7
    go_wp2_with fail
    refine HA.out.mono ?_
    rintro e w2 ⟨rfl, hb2⟩
    have HB2 := Lib.hid hb2
    clear hb2 HA
    go_wp2
    go_ret
    exact ⟨rfl, HB2.out⟩
  | true =>
    rw [hv] at HA
    rw [if_pos rfl]
    have HOK := Lib.hid (lib_mok hv)
    have HLN := Lib.hid (libOk_len hv)
    clear hv
    go_enter Tryd.func7, Tryd.ntmps7
    go_wp2_with fail
    refine HA.out.mono ?_
    rintro e w2 ⟨rfl, hb2⟩
    have HB2 := Lib.hid hb2
    obtain ⟨V, hV⟩ : ∃ V, V = w2.alloc (Obj.cells #[.pointer none, .slice none 0 0] 45) := ⟨_, rfl⟩
    have hbv : Below w2.heap.size w2 V := by rw [hV]; exact (Below.refl _ _).alloc (Nat.le_refl _) _
    have his : IsBld w2.heap.size w2.heap.size (Lib.byteCells []) V := by rw [hV]; exact Lib.fresh_isBuilder 45 5 w2
    have HIS := Lib.hid his
    have HBV := Lib.hid hbv
    clear hb2 HA hbv his
    go_upto_region 4 with fail
    rw [← hV]
    clear hV
    go_wp2_with fail
    go_loopw [11] (fun i wr => ∃ (j : Nat), j ≤ ds.length ∧ i = .int .i64 j ∧ IsBld w2.heap.size w2.heap.size (Lib.byteCells (libT (ds.take j))) wr ∧ Below w2.heap.size w2 wr)
      (fun i _ => ds.length - (intOf i).toNat)
    case atStart => exact ⟨0, Nat.zero_le _, rfl, by simpa [libT] using HIS.out, HBV.out⟩
    case round =>
      clear HIS HBV
      obtain ⟨j, hj, rfl, his, hb⟩ := hrel
      by_cases hlt : j < ds.length
      · have e1 := List.getElem?_eq_getElem hlt
        generalize ds[j] = d at e1
        have hd := (HD.out.below ((HB2.out.trans (hb.mono HB2.out.size)))) j d e1
        obtain ⟨b, o, A', c', hA, _, hbb, hf, g0, g1, g2, g3, g4, g5, h1, h2, hld⟩ := hd
        subst hA
        obtain ⟨hnm, har, hmk⟩ := HOK.out d (List.mem_of_getElem? e1)
        obtain ⟨n0, n1⟩ := hnm
        have hlib := libT_take ds j d e1
        have hsz := libT_len (ds.take j)
        have hs2 : sizeD (ds.take j) ≤ sizeD ds := by
          have : ∀ (l : List De) (n : Nat), sizeD (l.take n) ≤ sizeD l := fun l => by
            induction l with
            | nil => intro n; simp
            | cons d r ih => intro n; cases n with
              | zero => simp [sizeD]
              | succ n => have := ih n; simp only [List.take_succ_cons, sizeD]; omega
          exact this ds j
        have hs3 := sizeD_at e1
        obtain ⟨V1, hV1⟩ : ∃ V, V = wr.alloc (Obj.cells #[.int .i64 d.nm, .int .i64 d.ar, .bool d.old, .int .i64 d.op, .int .i64 d.n, .slice A' d.k.len c'] 40) := ⟨_, rfl⟩
        have hv1 : Below wr.heap.size wr V1 := by rw [hV1]; exact (Below.refl _ _).alloc (Nat.le_refl _) _
        have hx1 : Row V1 wr.heap.size 40 #[.int .i64 d.nm, .int .i64 d.ar, .bool d.old, .int .i64 d.op, .int .i64 d.n, .slice A' d.k.len c'] := by rw [hV1]; exact Row.fresh _ _ _
        have HX1 := Lib.hid hx1
        have HIS1 := Lib.hid (isBld_below his hv1)
        have HB1 := Lib.hid (hb.trans (hv1.mono hb.size))
        have HR1 := Lib.hid (Below.refl w2.heap.size V1)
        have HSZ := Lib.hid (And.intro hsz (And.intro hs2 hs3))
        have HLIB := Lib.hid hlib
        have HMK := Lib.hid hmk
        have HIT := Lib.hid (show ∀ W, Calls Tryd.prog 16 #[.int .i64 d.ar] W (fun e w' => e = .returned (.string ⟨(decL d.ar).toArray⟩) ∧ w' = W) from fun W => by
          obtain ⟨u, hu⟩ := Int.eq_ofNat_of_zero_le har.1
          have h := Tryd.strconv_Itoa_small u (by omega) W
          rw [show Lib.decDigits u = decL d.ar by rw [← dec_is har.1 (by omega), hu]; rfl] at h
          rw [hu]
          rw [hu] at h
          exact h)
        have HLD := Lib.hid (((hld.below (hv1.mono (Nat.le_trans HB2.out.size hb.size))).mono_ (Nat.le_refl _) HB2.out.size : Lies V1 0 w2.heap.size A' 0 d.k))
        have HCE := Lib.hid (show ∀ U, KeepsR V1 U → U.cell? ⟨wr.heap.size, 0, none⟩ = some (.int .i64 d.nm) ∧ U.cell? ⟨wr.heap.size, 1, none⟩ = some (.int .i64 d.ar) ∧ U.cell? ⟨wr.heap.size, 2, none⟩ = some (.bool d.old) ∧ U.cell? ⟨wr.heap.size, 3, none⟩ = some (.int .i64 d.op) ∧ U.cell? ⟨wr.heap.size, 4, none⟩ = some (.int .i64 d.n) ∧ U.cell? ⟨wr.heap.size, 5, none⟩ = some (.slice A' d.k.len c') from fun U hU => by
          have h := hU.2 _ _ _ (by decide) (by decide) HX1.out
          exact ⟨h.cell rfl, h.cell rfl, h.cell rfl, h.cell rfl, h.cell rfl, h.cell rfl⟩)
        clear his hb hv1 hx1 hsz hs2 hs3 hlib hmk har hld
        go_upto_region 7 with fail
        rw [← hV1]
        clear hV1 g0 g1 g2 g3 g4 g5
        --ROUND
        obtain ⟨q0, q1, q2, q3, q4, q5⟩ := HCE.out V1 (KeepsR.refl _)
        have h := writeB_any w2.heap.size w2.heap.size (Lib.byteCells (libT (ds.take j))) (UInt8.ofNat (65 + d.nm.toNat)) V1 HIS1.out (by have h1 := HSZ.out.1; have h2 := HSZ.out.2.1; simp only [Lib.byteCells_length]; omega) (by have := (IsBld.lt HIS1.out).1; omega)
        rw [byte_snoc] at h
        have HW := Lib.hid h
        have HK1 := Lib.hid (KeepsR.refl V1)
        clear h
        go_wp2_with fail
        rw [lib_let d.nm ⟨n0, n1⟩]
        refine HW.out.mono ?_
        rintro e w3 ⟨rfl, hbd, hb, hk⟩
        clear HW
        have HB2 := Lib.hid (HB1.out.trans hb)
        have HK2 := Lib.hid (HK1.out.trans hk)
        have HR2 := Lib.hid (HR1.out.trans hb)
        have HBD2 := Lib.hid (show BldAt w2.heap.size w2.heap.size (.pointer (some ⟨w2.heap.size, 0, none⟩)) (Lib.byteCells (libT (ds.take j) ++ letL 65 d.nm)) w3 from hbd)
        have HZ2 := Lib.hid (show w2.heap.size ≤ w3.heap.size by have := Lib.BuilderAt.lt hbd; omega)
        clear hb hk hbd q0 q1 q2 q3 q4 q5
        obtain ⟨q0, q1, q2, q3, q4, q5⟩ := HCE.out w3 HK2.out
        go_wp2_with fail
        refine (HIT.out w3).mono ?_
        rintro e w4 ⟨rfl, rfl⟩
        have h := write_any w2.heap.size w2.heap.size (Lib.byteCells (libT (ds.take j) ++ letL 65 d.nm)) ⟨(decL d.ar).toArray⟩ w4 (.inr HBD2.out) (by have h1 := HSZ.out.1; have h2 := HSZ.out.2.1; have h3 := HSZ.out.2.2; have h4 := decL_len d.ar; simp only [Lib.byteCells_length, List.length_append, List.length_cons, List.length_nil, size_list, letL]; omega) HZ2.out
        rw [strc_list, ← Lib.byteCells_append] at h
        have HW := Lib.hid h
        clear h
        go_wp2_with fail
        refine HW.out.mono ?_
        rintro e w5 ⟨rfl, hbd, hb, hk⟩
        clear HW
        have HB3 := Lib.hid (HB2.out.trans hb)
        have HK3 := Lib.hid (HK2.out.trans hk)
        have HR3 := Lib.hid (HR2.out.trans hb)
        have HBD3 := Lib.hid (show BldAt w2.heap.size w2.heap.size (.pointer (some ⟨w2.heap.size, 0, none⟩)) (Lib.byteCells (libT (ds.take j) ++ letL 65 d.nm ++ decL d.ar)) w5 from hbd)
        have HZ3 := Lib.hid (show w2.heap.size ≤ w5.heap.size by have := Lib.BuilderAt.lt hbd; omega)
        clear hb hk hbd q0 q1 q2 q3 q4 q5
        obtain ⟨q0, q1, q2, q3, q4, q5⟩ := HCE.out w5 HK3.out
        cases hold : d.old with
        | true =>
          rw [hold] at q2
          have h := writeB_any w2.heap.size w2.heap.size (Lib.byteCells (libT (ds.take j) ++ letL 65 d.nm ++ decL d.ar)) 126 w5 (.inr HBD3.out) (by have h1 := HSZ.out.1; have h2 := HSZ.out.2.1; have h3 := HSZ.out.2.2; have h4 := decL_len d.ar; simp only [Lib.byteCells_length, List.length_append, List.length_cons, List.length_nil, letL]; omega) HZ3.out
          rw [byte_snoc, show (((126 : UInt8).toNat : Nat) : Int) = 126 from rfl] at h
          have HW := Lib.hid h
          have HOLD := Lib.hid hold
          clear h hold
          go_wp2_with fail
          refine HW.out.mono ?_
          rintro e w6 ⟨rfl, hbd, hb, hk⟩
          clear HW
          have HB4 := Lib.hid (HB3.out.trans hb)
          have HK4 := Lib.hid (HK3.out.trans hk)
          have HR4 := Lib.hid (HR3.out.trans hb)
          have HBD4 := Lib.hid (show BldAt w2.heap.size w2.heap.size (.pointer (some ⟨w2.heap.size, 0, none⟩)) (Lib.byteCells (libT (ds.take j) ++ letL 65 d.nm ++ decL d.ar ++ [126])) w6 from hbd)
          have HZ4 := Lib.hid (show w2.heap.size ≤ w6.heap.size by have := Lib.BuilderAt.lt hbd; omega)
          clear hb hk hbd q0 q1 q2 q3 q4 q5
          have HLD6 := Lib.hid (HLD.out.below HR4.out)
          obtain ⟨q0, q1, q2, q3, q4, q5⟩ := HCE.out w6 HK4.out
          have h := wr_any w2.heap.size w2.heap.size (d.k.size + 1) d.op d.n d.k A' c' (libT (ds.take j) ++ letL 65 d.nm ++ decL d.ar ++ [126]) w6 (Nat.lt_succ_self _) HMK.out HLD6.out (.inr HBD4.out) (by have h1 := HSZ.out.1; have h2 := HSZ.out.2.1; have h3 := HSZ.out.2.2; have h4 := decL_len d.ar; have h5 := txtN_len d.op d.n d.k; simp only [List.length_append, List.length_cons, List.length_nil, letL]; omega)
          have HW := Lib.hid h
          clear h
          go_wp2_with fail
          refine HW.out.mono ?_
          rintro e w7 ⟨rfl, hbd, hb, hk⟩
          clear HW
          have HB5 := Lib.hid (HB4.out.trans hb)
          have HK5 := Lib.hid (HK4.out.trans hk)
          have HR5 := Lib.hid (HR4.out.trans hb)
          have HBD5 := Lib.hid (show BldAt w2.heap.size w2.heap.size (.pointer (some ⟨w2.heap.size, 0, none⟩)) (Lib.byteCells (libT (ds.take j) ++ letL 65 d.nm ++ decL d.ar ++ [126] ++ txtN d.op d.n d.k)) w7 from hbd)
          have HZ5 := Lib.hid (show w2.heap.size ≤ w7.heap.size by have := Lib.BuilderAt.lt hbd; omega)
          clear hb hk hbd q0 q1 q2 q3 q4 q5
          obtain ⟨q0, q1, q2, q3, q4, q5⟩ := HCE.out w7 HK5.out
          have h := writeB_any w2.heap.size w2.heap.size (Lib.byteCells (libT (ds.take j) ++ letL 65 d.nm ++ decL d.ar ++ [126] ++ txtN d.op d.n d.k)) 10 w7 (.inr HBD5.out) (by have h1 := HSZ.out.1; have h2 := HSZ.out.2.1; have h3 := HSZ.out.2.2; have h4 := decL_len d.ar; have h5 := txtN_len d.op d.n d.k; simp only [Lib.byteCells_length, List.length_append, List.length_cons, List.length_nil, letL]; omega) HZ5.out
          rw [byte_snoc, show (((10 : UInt8).toNat : Nat) : Int) = 10 from rfl] at h
          have HW := Lib.hid h
          clear h
          go_wp2_with fail
          refine HW.out.mono ?_
          rintro e w8 ⟨rfl, hbd, hb, hk⟩
          clear HW
          have HBF := Lib.hid (HB5.out.trans hb)
          have HBDF := Lib.hid (show BldAt w2.heap.size w2.heap.size (.pointer (some ⟨w2.heap.size, 0, none⟩)) (Lib.byteCells (libT (ds.take (j + 1)))) w8 by
            rw [HLIB.out]
            have e1 : libT (ds.take j) ++ lineT0 d 126 ++ [10] = libT (ds.take j) ++ letL 65 d.nm ++ decL d.ar ++ [126] ++ txtN d.op d.n d.k ++ [10] := by unfold lineT0; simp only [List.append_assoc]
            rw [show (lineT d : List UInt8) = lineT0 d 126 from by unfold lineT lineT0; rw [HOLD.out]; rfl, e1]
            exact hbd)
          clear hb hk hbd q0 q1 q2 q3 q4 q5
          have hln := HLN.out
          go_wp2
          go_roundw
          case rel => exact ⟨j + 1, hlt, by go_num, .inr HBDF.out, HBF.out⟩
          case measure => simp [intOf]; omega
        | false =>
          rw [hold] at q2
          have h := writeB_any w2.heap.size w2.heap.size (Lib.byteCells (libT (ds.take j) ++ letL 65 d.nm ++ decL d.ar)) 61 w5 (.inr HBD3.out) (by have h1 := HSZ.out.1; have h2 := HSZ.out.2.1; have h3 := HSZ.out.2.2; have h4 := decL_len d.ar; simp only [Lib.byteCells_length, List.length_append, List.length_cons, List.length_nil, letL]; omega) HZ3.out
          rw [byte_snoc, show (((61 : UInt8).toNat : Nat) : Int) = 61 from rfl] at h
          have HW := Lib.hid h
          have HOLD := Lib.hid hold
          clear h hold
          go_wp2_with fail
          refine HW.out.mono ?_
          rintro e w6 ⟨rfl, hbd, hb, hk⟩
          clear HW
          have HB4 := Lib.hid (HB3.out.trans hb)
          have HK4 := Lib.hid (HK3.out.trans hk)
          have HR4 := Lib.hid (HR3.out.trans hb)
          have HBD4 := Lib.hid (show BldAt w2.heap.size w2.heap.size (.pointer (some ⟨w2.heap.size, 0, none⟩)) (Lib.byteCells (libT (ds.take j) ++ letL 65 d.nm ++ decL d.ar ++ [61])) w6 from hbd)
          have HZ4 := Lib.hid (show w2.heap.size ≤ w6.heap.size by have := Lib.BuilderAt.lt hbd; omega)
          clear hb hk hbd q0 q1 q2 q3 q4 q5
          have HLD6 := Lib.hid (HLD.out.below HR4.out)
          obtain ⟨q0, q1, q2, q3, q4, q5⟩ := HCE.out w6 HK4.out
          have h := wr_any w2.heap.size w2.heap.size (d.k.size + 1) d.op d.n d.k A' c' (libT (ds.take j) ++ letL 65 d.nm ++ decL d.ar ++ [61]) w6 (Nat.lt_succ_self _) HMK.out HLD6.out (.inr HBD4.out) (by have h1 := HSZ.out.1; have h2 := HSZ.out.2.1; have h3 := HSZ.out.2.2; have h4 := decL_len d.ar; have h5 := txtN_len d.op d.n d.k; simp only [List.length_append, List.length_cons, List.length_nil, letL]; omega)
          have HW := Lib.hid h
          clear h
          go_wp2_with fail
          refine HW.out.mono ?_
          rintro e w7 ⟨rfl, hbd, hb, hk⟩
          clear HW
          have HB5 := Lib.hid (HB4.out.trans hb)
          have HK5 := Lib.hid (HK4.out.trans hk)
          have HR5 := Lib.hid (HR4.out.trans hb)
          have HBD5 := Lib.hid (show BldAt w2.heap.size w2.heap.size (.pointer (some ⟨w2.heap.size, 0, none⟩)) (Lib.byteCells (libT (ds.take j) ++ letL 65 d.nm ++ decL d.ar ++ [61] ++ txtN d.op d.n d.k)) w7 from hbd)
          have HZ5 := Lib.hid (show w2.heap.size ≤ w7.heap.size by have := Lib.BuilderAt.lt hbd; omega)
          clear hb hk hbd q0 q1 q2 q3 q4 q5
          obtain ⟨q0, q1, q2, q3, q4, q5⟩ := HCE.out w7 HK5.out
          have h := writeB_any w2.heap.size w2.heap.size (Lib.byteCells (libT (ds.take j) ++ letL 65 d.nm ++ decL d.ar ++ [61] ++ txtN d.op d.n d.k)) 10 w7 (.inr HBD5.out) (by have h1 := HSZ.out.1; have h2 := HSZ.out.2.1; have h3 := HSZ.out.2.2; have h4 := decL_len d.ar; have h5 := txtN_len d.op d.n d.k; simp only [Lib.byteCells_length, List.length_append, List.length_cons, List.length_nil, letL]; omega) HZ5.out
          rw [byte_snoc, show (((10 : UInt8).toNat : Nat) : Int) = 10 from rfl] at h
          have HW := Lib.hid h
          clear h
          go_wp2_with fail
          refine HW.out.mono ?_
          rintro e w8 ⟨rfl, hbd, hb, hk⟩
          clear HW
          have HBF := Lib.hid (HB5.out.trans hb)
          have HBDF := Lib.hid (show BldAt w2.heap.size w2.heap.size (.pointer (some ⟨w2.heap.size, 0, none⟩)) (Lib.byteCells (libT (ds.take (j + 1)))) w8 by
            rw [HLIB.out]
            have e1 : libT (ds.take j) ++ lineT0 d 61 ++ [10] = libT (ds.take j) ++ letL 65 d.nm ++ decL d.ar ++ [61] ++ txtN d.op d.n d.k ++ [10] := by unfold lineT0; simp only [List.append_assoc]
            rw [show (lineT d : List UInt8) = lineT0 d 61 from by unfold lineT lineT0; rw [HOLD.out]; rfl, e1]
            exact hbd)
          clear hb hk hbd q0 q1 q2 q3 q4 q5
          have hln := HLN.out
          go_wp2
          go_roundw
          case rel => exact ⟨j + 1, hlt, by go_num, .inr HBDF.out, HBF.out⟩
          case measure => simp [intOf]; omega
      · have e9 : j = ds.length := by omega
        subst e9
        rw [List.take_length] at his
        have HS := Lib.hid (Tryd.Builder_String_any w2.heap.size w2.heap.size (libT ds) wr his (Nat.le_of_lt (IsBld.lt his).1))
        have HBE := Lib.hid (HB2.out.trans (hb.mono HB2.out.size))
        clear his hb
        go_wp2_with fail
        refine HS.out.mono ?_
        rintro e w9 ⟨rfl, hb9⟩
        have HBZ := Lib.hid (HBE.out.trans (hb9.mono HB2.out.size))
        clear hb9
        go_wp2
        go_ret
        exact ⟨rfl, HBZ.out⟩
end Go.Proofs.YtgcdmikbdpkpcaaDoor
