/-
  The rows of the table from 1 on.
  The rows of the table from 401 on.
  The rows of the table from 801 on.
  The rows of the table from 1201 on.
  The rows of the table from 1601 on.
-/
import Derived.Test.YtpknegneogdmfaaGreatDens
set_option maxRecDepth 100000
namespace Go.Proofs.YtpknegneogdmfaaGreat.Dens
theorem g1 : goods 22 6 1 40 = true := by kernel_rfl
theorem g41 : goods 22 6 41 40 = true := by kernel_rfl
theorem g81 : goods 22 6 81 40 = true := by kernel_rfl
theorem g121 : goods 22 6 121 40 = true := by kernel_rfl
theorem g161 : goods 22 6 161 40 = true := by kernel_rfl
theorem g201 : goods 22 6 201 40 = true := by kernel_rfl
theorem g241 : goods 22 6 241 40 = true := by kernel_rfl
theorem g281 : goods 22 6 281 40 = true := by kernel_rfl
theorem g321 : goods 22 6 321 40 = true := by kernel_rfl
theorem g361 : goods 22 6 361 40 = true := by kernel_rfl
theorem G1 {m : Nat} (h1 : 1 ≤ m) (h2 : m < 401) (hs : skip m = false) : good m := by
  by_cases e0 : m < 41
  · exact goods_at _ _ _ g1 (by omega) (by omega) hs
  by_cases e1 : m < 81
  · exact goods_at _ _ _ g41 (by omega) (by omega) hs
  by_cases e2 : m < 121
  · exact goods_at _ _ _ g81 (by omega) (by omega) hs
  by_cases e3 : m < 161
  · exact goods_at _ _ _ g121 (by omega) (by omega) hs
  by_cases e4 : m < 201
  · exact goods_at _ _ _ g161 (by omega) (by omega) hs
  by_cases e5 : m < 241
  · exact goods_at _ _ _ g201 (by omega) (by omega) hs
  by_cases e6 : m < 281
  · exact goods_at _ _ _ g241 (by omega) (by omega) hs
  by_cases e7 : m < 321
  · exact goods_at _ _ _ g281 (by omega) (by omega) hs
  by_cases e8 : m < 361
  · exact goods_at _ _ _ g321 (by omega) (by omega) hs
  by_cases e9 : m < 401
  · exact goods_at _ _ _ g361 (by omega) (by omega) hs
  omega
end Go.Proofs.YtpknegneogdmfaaGreat.Dens

set_option maxRecDepth 100000
namespace Go.Proofs.YtpknegneogdmfaaGreat.Dens
theorem g401 : goods 22 6 401 40 = true := by kernel_rfl
theorem g441 : goods 22 6 441 40 = true := by kernel_rfl
theorem g481 : goods 22 6 481 40 = true := by kernel_rfl
theorem g521 : goods 22 6 521 40 = true := by kernel_rfl
theorem g561 : goods 22 6 561 40 = true := by kernel_rfl
theorem g601 : goods 22 6 601 40 = true := by kernel_rfl
theorem g641 : goods 22 6 641 40 = true := by kernel_rfl
theorem g681 : goods 22 6 681 40 = true := by kernel_rfl
theorem g721 : goods 22 6 721 40 = true := by kernel_rfl
theorem g761 : goods 22 6 761 40 = true := by kernel_rfl
theorem G2 {m : Nat} (h1 : 401 ≤ m) (h2 : m < 801) (hs : skip m = false) : good m := by
  by_cases e0 : m < 441
  · exact goods_at _ _ _ g401 (by omega) (by omega) hs
  by_cases e1 : m < 481
  · exact goods_at _ _ _ g441 (by omega) (by omega) hs
  by_cases e2 : m < 521
  · exact goods_at _ _ _ g481 (by omega) (by omega) hs
  by_cases e3 : m < 561
  · exact goods_at _ _ _ g521 (by omega) (by omega) hs
  by_cases e4 : m < 601
  · exact goods_at _ _ _ g561 (by omega) (by omega) hs
  by_cases e5 : m < 641
  · exact goods_at _ _ _ g601 (by omega) (by omega) hs
  by_cases e6 : m < 681
  · exact goods_at _ _ _ g641 (by omega) (by omega) hs
  by_cases e7 : m < 721
  · exact goods_at _ _ _ g681 (by omega) (by omega) hs
  by_cases e8 : m < 761
  · exact goods_at _ _ _ g721 (by omega) (by omega) hs
  by_cases e9 : m < 801
  · exact goods_at _ _ _ g761 (by omega) (by omega) hs
  omega
end Go.Proofs.YtpknegneogdmfaaGreat.Dens

set_option maxRecDepth 100000
namespace Go.Proofs.YtpknegneogdmfaaGreat.Dens
theorem g801 : goods 22 6 801 40 = true := by kernel_rfl
theorem g841 : goods 22 6 841 40 = true := by kernel_rfl
theorem g881 : goods 22 6 881 40 = true := by kernel_rfl
theorem g921 : goods 22 6 921 40 = true := by kernel_rfl
theorem g961 : goods 22 6 961 40 = true := by kernel_rfl
theorem g1001 : goods 22 6 1001 40 = true := by kernel_rfl
theorem g1041 : goods 22 6 1041 40 = true := by kernel_rfl
theorem g1081 : goods 22 6 1081 40 = true := by kernel_rfl
theorem g1121 : goods 22 6 1121 40 = true := by kernel_rfl
theorem g1161 : goods 22 6 1161 40 = true := by kernel_rfl
theorem G3 {m : Nat} (h1 : 801 ≤ m) (h2 : m < 1201) (hs : skip m = false) : good m := by
  by_cases e0 : m < 841
  · exact goods_at _ _ _ g801 (by omega) (by omega) hs
  by_cases e1 : m < 881
  · exact goods_at _ _ _ g841 (by omega) (by omega) hs
  by_cases e2 : m < 921
  · exact goods_at _ _ _ g881 (by omega) (by omega) hs
  by_cases e3 : m < 961
  · exact goods_at _ _ _ g921 (by omega) (by omega) hs
  by_cases e4 : m < 1001
  · exact goods_at _ _ _ g961 (by omega) (by omega) hs
  by_cases e5 : m < 1041
  · exact goods_at _ _ _ g1001 (by omega) (by omega) hs
  by_cases e6 : m < 1081
  · exact goods_at _ _ _ g1041 (by omega) (by omega) hs
  by_cases e7 : m < 1121
  · exact goods_at _ _ _ g1081 (by omega) (by omega) hs
  by_cases e8 : m < 1161
  · exact goods_at _ _ _ g1121 (by omega) (by omega) hs
  by_cases e9 : m < 1201
  · exact goods_at _ _ _ g1161 (by omega) (by omega) hs
  omega
end Go.Proofs.YtpknegneogdmfaaGreat.Dens

set_option maxRecDepth 100000
namespace Go.Proofs.YtpknegneogdmfaaGreat.Dens
theorem g1201 : goods 22 6 1201 40 = true := by kernel_rfl
theorem g1241 : goods 22 6 1241 40 = true := by kernel_rfl
theorem g1281 : goods 22 6 1281 40 = true := by kernel_rfl
theorem g1321 : goods 22 6 1321 40 = true := by kernel_rfl
theorem g1361 : goods 22 6 1361 40 = true := by kernel_rfl
theorem g1401 : goods 22 6 1401 40 = true := by kernel_rfl
theorem g1441 : goods 22 6 1441 40 = true := by kernel_rfl
theorem g1481 : goods 22 6 1481 40 = true := by kernel_rfl
theorem g1521 : goods 22 6 1521 40 = true := by kernel_rfl
theorem g1561 : goods 22 6 1561 40 = true := by kernel_rfl
theorem G4 {m : Nat} (h1 : 1201 ≤ m) (h2 : m < 1601) (hs : skip m = false) : good m := by
  by_cases e0 : m < 1241
  · exact goods_at _ _ _ g1201 (by omega) (by omega) hs
  by_cases e1 : m < 1281
  · exact goods_at _ _ _ g1241 (by omega) (by omega) hs
  by_cases e2 : m < 1321
  · exact goods_at _ _ _ g1281 (by omega) (by omega) hs
  by_cases e3 : m < 1361
  · exact goods_at _ _ _ g1321 (by omega) (by omega) hs
  by_cases e4 : m < 1401
  · exact goods_at _ _ _ g1361 (by omega) (by omega) hs
  by_cases e5 : m < 1441
  · exact goods_at _ _ _ g1401 (by omega) (by omega) hs
  by_cases e6 : m < 1481
  · exact goods_at _ _ _ g1441 (by omega) (by omega) hs
  by_cases e7 : m < 1521
  · exact goods_at _ _ _ g1481 (by omega) (by omega) hs
  by_cases e8 : m < 1561
  · exact goods_at _ _ _ g1521 (by omega) (by omega) hs
  by_cases e9 : m < 1601
  · exact goods_at _ _ _ g1561 (by omega) (by omega) hs
  omega
end Go.Proofs.YtpknegneogdmfaaGreat.Dens

set_option maxRecDepth 100000
namespace Go.Proofs.YtpknegneogdmfaaGreat.Dens
theorem g1601 : goods 22 6 1601 40 = true := by kernel_rfl
theorem g1641 : goods 22 6 1641 40 = true := by kernel_rfl
theorem g1681 : goods 22 6 1681 40 = true := by kernel_rfl
theorem g1721 : goods 22 6 1721 40 = true := by kernel_rfl
theorem g1761 : goods 22 6 1761 40 = true := by kernel_rfl
theorem g1801 : goods 22 6 1801 40 = true := by kernel_rfl
theorem g1841 : goods 22 6 1841 40 = true := by kernel_rfl
theorem g1881 : goods 22 6 1881 40 = true := by kernel_rfl
theorem g1921 : goods 22 6 1921 40 = true := by kernel_rfl
theorem g1961 : goods 22 6 1961 40 = true := by kernel_rfl
theorem G5 {m : Nat} (h1 : 1601 ≤ m) (h2 : m < 2001) (hs : skip m = false) : good m := by
  by_cases e0 : m < 1641
  · exact goods_at _ _ _ g1601 (by omega) (by omega) hs
  by_cases e1 : m < 1681
  · exact goods_at _ _ _ g1641 (by omega) (by omega) hs
  by_cases e2 : m < 1721
  · exact goods_at _ _ _ g1681 (by omega) (by omega) hs
  by_cases e3 : m < 1761
  · exact goods_at _ _ _ g1721 (by omega) (by omega) hs
  by_cases e4 : m < 1801
  · exact goods_at _ _ _ g1761 (by omega) (by omega) hs
  by_cases e5 : m < 1841
  · exact goods_at _ _ _ g1801 (by omega) (by omega) hs
  by_cases e6 : m < 1881
  · exact goods_at _ _ _ g1841 (by omega) (by omega) hs
  by_cases e7 : m < 1921
  · exact goods_at _ _ _ g1881 (by omega) (by omega) hs
  by_cases e8 : m < 1961
  · exact goods_at _ _ _ g1921 (by omega) (by omega) hs
  by_cases e9 : m < 2001
  · exact goods_at _ _ _ g1961 (by omega) (by omega) hs
  omega
end Go.Proofs.YtpknegneogdmfaaGreat.Dens
