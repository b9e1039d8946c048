/-
  impl.QuietFuns and impl.EndingFuns.
-/
import Derived.Test.YtbpcggbmlaomjaaSetB
import Derived.Test.YtbpcggbmlaomjaaLibVI
namespace Go.Proofs.Ytbpcggbmlaomjaa
open Go.RowKit Go.Shelf
set_option maxRecDepth 100000

set_option maxHeartbeats 1000000 in
theorem implQuietFuns_any (ds : List De) (DA : Option Addr) (DC L B : Nat) (w : World) (hd : LiesD w L B DA ds) (hB : B ≤ w.heap.size) (hal : AllRows w L B) (hdz : sizeD ds ≤ 1048576) :
    Calls Try.prog 12 #[.slice DA ds.length DC] w (ListPost (funsP (quietS ds) ds) w) := by
  have hds := Nat.le_trans (sizeD_len ds) hdz
  have HV := Lib.hid (implLibValid_any ds DA DC L B w hd hB hal hdz)
  have HD := Lib.hid hd
  have HAL := Lib.hid hal
  clear hd hal
  cases hok : libOk ds with
  | false =>
    have HZ := Lib.hid (funsP_no (p := quietS ds) hok)
    rw [hok] at HV
    clear hok
    go_enter Try.func12, Try.ntmps12
    go_wp2_with fail
    refine HV.out.mono ?_
    rintro e w2 ⟨rfl, hb2⟩
    go_wp2
    go_ret
    exact ⟨_, rfl, by rw [HZ.out]; exact World.ownsRow_nil _ _ _ _, hb2⟩
  | true =>
    have HZ := Lib.hid ((funsP_yes (p := quietS ds) hok).trans (namesT_filter (T := quietT ds) (fun d hd => quietT_at hok hd)).symm)
    have HN := Lib.hid (fun d (hd : d ∈ ds) => (libOk_named hok d hd).1)
    have HC := Lib.hid (fun W (hb : Below w.heap.size w W) => quietFuns_any ds DA DC L B W (HD.out.below (hb.mono hB)) (Nat.le_trans hB hb.size) (HAL.out.below hb hB) hdz hok)
    rw [hok] at HV
    clear hok
    go_enter Try.func12, Try.ntmps12
    go_wp2_with fail
    refine HV.out.mono ?_
    rintro e w2 ⟨rfl, hb2⟩
    have HB2 := Lib.hid hb2
    clear hb2
    go_wp2_with fail
    refine (HC.out w2 HB2.out).mono ?_
    rintro e w3 ⟨rfl, hb3⟩
    have HB3 := Lib.hid (HB2.out.trans (hb3.mono HB2.out.size))
    clear hb3 HB2
    go_wp2_with fail
    refine (namesIn_any (quietT ds) ds DA DC w3 ((HD.out.below (HB3.out.mono hB)).mono_ (Nat.zero_le _) (Nat.le_trans hB HB3.out.size)) hds HN.out).mono ?_
    rintro e w4 ⟨v4, rfl, hown4, hb4⟩
    have HB4 := Lib.hid (HB3.out.trans (hb4.mono HB3.out.size))
    have HO4 := Lib.hid (own_less hown4 HB3.out.size)
    clear hb4 hown4 HB3
    go_wp2
    go_ret
    exact ⟨_, rfl, by rw [HZ.out]; exact HO4.out, HB4.out⟩

set_option maxHeartbeats 1000000 in
theorem implEndingFuns_any (ds : List De) (DA : Option Addr) (DC L B : Nat) (w : World) (hd : LiesD w L B DA ds) (hB : B ≤ w.heap.size) (hal : AllRows w L B) (hdz : sizeD ds ≤ 1048576) :
    Calls Try.prog 19 #[.slice DA ds.length DC] w (ListPost (funsP (endingS ds) ds) w) := by
  have hds := Nat.le_trans (sizeD_len ds) hdz
  have HV := Lib.hid (implLibValid_any ds DA DC L B w hd hB hal hdz)
  have HD := Lib.hid hd
  have HAL := Lib.hid hal
  clear hd hal
  cases hok : libOk ds with
  | false =>
    have HZ := Lib.hid (funsP_no (p := endingS ds) hok)
    rw [hok] at HV
    clear hok
    go_enter Try.func19, Try.ntmps19
    go_wp2_with fail
    refine HV.out.mono ?_
    rintro e w2 ⟨rfl, hb2⟩
    go_wp2
    go_ret
    exact ⟨_, rfl, by rw [HZ.out]; exact World.ownsRow_nil _ _ _ _, hb2⟩
  | true =>
    have HZ := Lib.hid ((funsP_yes (p := endingS ds) hok).trans (namesT_filter (T := endingT ds) (fun d hd => endingT_at hok hd)).symm)
    have HN := Lib.hid (fun d (hd : d ∈ ds) => (libOk_named hok d hd).1)
    have HC := Lib.hid (fun W (hb : Below w.heap.size w W) => endingFuns_any ds DA DC L B W (HD.out.below (hb.mono hB)) (Nat.le_trans hB hb.size) (HAL.out.below hb hB) hdz hok)
    rw [hok] at HV
    clear hok
    go_enter Try.func19, Try.ntmps19
    go_wp2_with fail
    refine HV.out.mono ?_
    rintro e w2 ⟨rfl, hb2⟩
    have HB2 := Lib.hid hb2
    clear hb2
    go_wp2_with fail
    refine (HC.out w2 HB2.out).mono ?_
    rintro e w3 ⟨rfl, hb3⟩
    have HB3 := Lib.hid (HB2.out.trans (hb3.mono HB2.out.size))
    clear hb3 HB2
    go_wp2_with fail
    refine (namesIn_any (endingT ds) ds DA DC w3 ((HD.out.below (HB3.out.mono hB)).mono_ (Nat.zero_le _) (Nat.le_trans hB HB3.out.size)) hds HN.out).mono ?_
    rintro e w4 ⟨v4, rfl, hown4, hb4⟩
    have HB4 := Lib.hid (HB3.out.trans (hb4.mono HB3.out.size))
    have HO4 := Lib.hid (own_less hown4 HB3.out.size)
    clear hb4 hown4 HB3
    go_wp2
    go_ret
    exact ⟨_, rfl, by rw [HZ.out]; exact HO4.out, HB4.out⟩

end Go.Proofs.Ytbpcggbmlaomjaa
