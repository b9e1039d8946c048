/-
  The rows of the table from 1201 on.
-/
import Derived.Test.YtiepflaghfjijaaDens
set_option maxRecDepth 100000
namespace Go.Proofs.Ytiepflaghfjijaa.Dens
theorem g1201 : goods 22 6 1201 40 = true := by kernel_rfl
theorem g1241 : goods 22 6 1241 40 = true := by kernel_rfl
theorem g1281 : goods 22 6 1281 40 = true := by kernel_rfl
theorem g1321 : goods 22 6 1321 40 = true := by kernel_rfl
theorem g1361 : goods 22 6 1361 40 = true := by kernel_rfl
theorem g1401 : goods 22 6 1401 40 = true := by kernel_rfl
theorem g1441 : goods 22 6 1441 40 = true := by kernel_rfl
theorem g1481 : goods 22 6 1481 40 = true := by kernel_rfl
theorem g1521 : goods 22 6 1521 40 = true := by kernel_rfl
theorem g1561 : goods 22 6 1561 40 = true := by kernel_rfl
theorem G4 {m : Nat} (h1 : 1201 ≤ m) (h2 : m < 1601) (hs : skip m = false) : good m := by
  by_cases e0 : m < 1241
  · exact goods_at _ _ _ g1201 (by omega) (by omega) hs
  by_cases e1 : m < 1281
  · exact goods_at _ _ _ g1241 (by omega) (by omega) hs
  by_cases e2 : m < 1321
  · exact goods_at _ _ _ g1281 (by omega) (by omega) hs
  by_cases e3 : m < 1361
  · exact goods_at _ _ _ g1321 (by omega) (by omega) hs
  by_cases e4 : m < 1401
  · exact goods_at _ _ _ g1361 (by omega) (by omega) hs
  by_cases e5 : m < 1441
  · exact goods_at _ _ _ g1401 (by omega) (by omega) hs
  by_cases e6 : m < 1481
  · exact goods_at _ _ _ g1441 (by omega) (by omega) hs
  by_cases e7 : m < 1521
  · exact goods_at _ _ _ g1481 (by omega) (by omega) hs
  by_cases e8 : m < 1561
  · exact goods_at _ _ _ g1521 (by omega) (by omega) hs
  by_cases e9 : m < 1601
  · exact goods_at _ _ _ g1561 (by omega) (by omega) hs
  omega
end Go.Proofs.Ytiepflaghfjijaa.Dens
