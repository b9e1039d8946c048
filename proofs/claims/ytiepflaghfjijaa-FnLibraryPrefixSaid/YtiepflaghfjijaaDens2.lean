/-
  The rows of the table from 401 on.
-/
import Derived.Test.YtiepflaghfjijaaDens
set_option maxRecDepth 100000
namespace Go.Proofs.Ytiepflaghfjijaa.Dens
theorem g401 : goods 22 6 401 40 = true := by kernel_rfl
theorem g441 : goods 22 6 441 40 = true := by kernel_rfl
theorem g481 : goods 22 6 481 40 = true := by kernel_rfl
theorem g521 : goods 22 6 521 40 = true := by kernel_rfl
theorem g561 : goods 22 6 561 40 = true := by kernel_rfl
theorem g601 : goods 22 6 601 40 = true := by kernel_rfl
theorem g641 : goods 22 6 641 40 = true := by kernel_rfl
theorem g681 : goods 22 6 681 40 = true := by kernel_rfl
theorem g721 : goods 22 6 721 40 = true := by kernel_rfl
theorem g761 : goods 22 6 761 40 = true := by kernel_rfl
theorem G2 {m : Nat} (h1 : 401 ≤ m) (h2 : m < 801) (hs : skip m = false) : good m := by
  by_cases e0 : m < 441
  · exact goods_at _ _ _ g401 (by omega) (by omega) hs
  by_cases e1 : m < 481
  · exact goods_at _ _ _ g441 (by omega) (by omega) hs
  by_cases e2 : m < 521
  · exact goods_at _ _ _ g481 (by omega) (by omega) hs
  by_cases e3 : m < 561
  · exact goods_at _ _ _ g521 (by omega) (by omega) hs
  by_cases e4 : m < 601
  · exact goods_at _ _ _ g561 (by omega) (by omega) hs
  by_cases e5 : m < 641
  · exact goods_at _ _ _ g601 (by omega) (by omega) hs
  by_cases e6 : m < 681
  · exact goods_at _ _ _ g641 (by omega) (by omega) hs
  by_cases e7 : m < 721
  · exact goods_at _ _ _ g681 (by omega) (by omega) hs
  by_cases e8 : m < 761
  · exact goods_at _ _ _ g721 (by omega) (by omega) hs
  by_cases e9 : m < 801
  · exact goods_at _ _ _ g761 (by omega) (by omega) hs
  omega
end Go.Proofs.Ytiepflaghfjijaa.Dens
