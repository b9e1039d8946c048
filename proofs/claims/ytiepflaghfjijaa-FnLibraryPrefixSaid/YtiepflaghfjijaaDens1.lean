/-
  The rows of the table from 1 on.
-/
import Derived.Test.YtiepflaghfjijaaDens
set_option maxRecDepth 100000
namespace Go.Proofs.Ytiepflaghfjijaa.Dens
theorem g1 : goods 22 6 1 40 = true := by kernel_rfl
theorem g41 : goods 22 6 41 40 = true := by kernel_rfl
theorem g81 : goods 22 6 81 40 = true := by kernel_rfl
theorem g121 : goods 22 6 121 40 = true := by kernel_rfl
theorem g161 : goods 22 6 161 40 = true := by kernel_rfl
theorem g201 : goods 22 6 201 40 = true := by kernel_rfl
theorem g241 : goods 22 6 241 40 = true := by kernel_rfl
theorem g281 : goods 22 6 281 40 = true := by kernel_rfl
theorem g321 : goods 22 6 321 40 = true := by kernel_rfl
theorem g361 : goods 22 6 361 40 = true := by kernel_rfl
theorem G1 {m : Nat} (h1 : 1 ≤ m) (h2 : m < 401) (hs : skip m = false) : good m := by
  by_cases e0 : m < 41
  · exact goods_at _ _ _ g1 (by omega) (by omega) hs
  by_cases e1 : m < 81
  · exact goods_at _ _ _ g41 (by omega) (by omega) hs
  by_cases e2 : m < 121
  · exact goods_at _ _ _ g81 (by omega) (by omega) hs
  by_cases e3 : m < 161
  · exact goods_at _ _ _ g121 (by omega) (by omega) hs
  by_cases e4 : m < 201
  · exact goods_at _ _ _ g161 (by omega) (by omega) hs
  by_cases e5 : m < 241
  · exact goods_at _ _ _ g201 (by omega) (by omega) hs
  by_cases e6 : m < 281
  · exact goods_at _ _ _ g241 (by omega) (by omega) hs
  by_cases e7 : m < 321
  · exact goods_at _ _ _ g281 (by omega) (by omega) hs
  by_cases e8 : m < 361
  · exact goods_at _ _ _ g321 (by omega) (by omega) hs
  by_cases e9 : m < 401
  · exact goods_at _ _ _ g361 (by omega) (by omega) hs
  omega
end Go.Proofs.Ytiepflaghfjijaa.Dens
