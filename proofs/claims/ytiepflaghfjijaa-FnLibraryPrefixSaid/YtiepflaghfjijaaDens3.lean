/-
  The rows of the table from 801 on.
-/
import Derived.Test.YtiepflaghfjijaaDens
set_option maxRecDepth 100000
namespace Go.Proofs.Ytiepflaghfjijaa.Dens
theorem g801 : goods 22 6 801 40 = true := by kernel_rfl
theorem g841 : goods 22 6 841 40 = true := by kernel_rfl
theorem g881 : goods 22 6 881 40 = true := by kernel_rfl
theorem g921 : goods 22 6 921 40 = true := by kernel_rfl
theorem g961 : goods 22 6 961 40 = true := by kernel_rfl
theorem g1001 : goods 22 6 1001 40 = true := by kernel_rfl
theorem g1041 : goods 22 6 1041 40 = true := by kernel_rfl
theorem g1081 : goods 22 6 1081 40 = true := by kernel_rfl
theorem g1121 : goods 22 6 1121 40 = true := by kernel_rfl
theorem g1161 : goods 22 6 1161 40 = true := by kernel_rfl
theorem G3 {m : Nat} (h1 : 801 ≤ m) (h2 : m < 1201) (hs : skip m = false) : good m := by
  by_cases e0 : m < 841
  · exact goods_at _ _ _ g801 (by omega) (by omega) hs
  by_cases e1 : m < 881
  · exact goods_at _ _ _ g841 (by omega) (by omega) hs
  by_cases e2 : m < 921
  · exact goods_at _ _ _ g881 (by omega) (by omega) hs
  by_cases e3 : m < 961
  · exact goods_at _ _ _ g921 (by omega) (by omega) hs
  by_cases e4 : m < 1001
  · exact goods_at _ _ _ g961 (by omega) (by omega) hs
  by_cases e5 : m < 1041
  · exact goods_at _ _ _ g1001 (by omega) (by omega) hs
  by_cases e6 : m < 1081
  · exact goods_at _ _ _ g1041 (by omega) (by omega) hs
  by_cases e7 : m < 1121
  · exact goods_at _ _ _ g1081 (by omega) (by omega) hs
  by_cases e8 : m < 1161
  · exact goods_at _ _ _ g1121 (by omega) (by omega) hs
  by_cases e9 : m < 1201
  · exact goods_at _ _ _ g1161 (by omega) (by omega) hs
  omega
end Go.Proofs.Ytiepflaghfjijaa.Dens
