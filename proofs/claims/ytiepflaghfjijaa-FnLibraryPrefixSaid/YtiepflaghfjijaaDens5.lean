/-
  The rows of the table from 1601 on.
-/
import Derived.Test.YtiepflaghfjijaaDens
set_option maxRecDepth 100000
namespace Go.Proofs.Ytiepflaghfjijaa.Dens
theorem g1601 : goods 22 6 1601 40 = true := by kernel_rfl
theorem g1641 : goods 22 6 1641 40 = true := by kernel_rfl
theorem g1681 : goods 22 6 1681 40 = true := by kernel_rfl
theorem g1721 : goods 22 6 1721 40 = true := by kernel_rfl
theorem g1761 : goods 22 6 1761 40 = true := by kernel_rfl
theorem g1801 : goods 22 6 1801 40 = true := by kernel_rfl
theorem g1841 : goods 22 6 1841 40 = true := by kernel_rfl
theorem g1881 : goods 22 6 1881 40 = true := by kernel_rfl
theorem g1921 : goods 22 6 1921 40 = true := by kernel_rfl
theorem g1961 : goods 22 6 1961 40 = true := by kernel_rfl
theorem G5 {m : Nat} (h1 : 1601 ≤ m) (h2 : m < 2001) (hs : skip m = false) : good m := by
  by_cases e0 : m < 1641
  · exact goods_at _ _ _ g1601 (by omega) (by omega) hs
  by_cases e1 : m < 1681
  · exact goods_at _ _ _ g1641 (by omega) (by omega) hs
  by_cases e2 : m < 1721
  · exact goods_at _ _ _ g1681 (by omega) (by omega) hs
  by_cases e3 : m < 1761
  · exact goods_at _ _ _ g1721 (by omega) (by omega) hs
  by_cases e4 : m < 1801
  · exact goods_at _ _ _ g1761 (by omega) (by omega) hs
  by_cases e5 : m < 1841
  · exact goods_at _ _ _ g1801 (by omega) (by omega) hs
  by_cases e6 : m < 1881
  · exact goods_at _ _ _ g1841 (by omega) (by omega) hs
  by_cases e7 : m < 1921
  · exact goods_at _ _ _ g1881 (by omega) (by omega) hs
  by_cases e8 : m < 1961
  · exact goods_at _ _ _ g1921 (by omega) (by omega) hs
  by_cases e9 : m < 2001
  · exact goods_at _ _ _ g1961 (by omega) (by omega) hs
  omega
end Go.Proofs.Ytiepflaghfjijaa.Dens
