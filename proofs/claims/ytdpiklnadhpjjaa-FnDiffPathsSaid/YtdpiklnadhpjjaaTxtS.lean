/-
  The model's texts: spec.l1At, spec.l16Dec, spec.l1Text.
-/
import Derived.Test.YtdpiklnadhpjjaaLetter
import Derived.Test.YtdpiklnadhpjjaaTxtD
import Derived.Test.YtdpiklnadhpjjaaDe
import Derived.Deep.CutRange
namespace Go.Proofs.Ytdpiklnadhpjjaa
open Go.RowKit
set_option maxRecDepth 100000

/-- Is the byte c at the offset i? -/
def atB (s : List UInt8) (i : Int) (c : UInt8) : Bool := decide (0 ≤ i) && decide (s[i.toNat]? = some c)
theorem byte_at (s : List UInt8) (n : Nat) (h : n < (⟨s.toArray⟩ : ByteArray).size) (h2 : n < s.length) : (⟨s.toArray⟩ : ByteArray)[n]'h = s[n]'h2 := rfl
theorem size_txt (s : List UInt8) : (⟨s.toArray⟩ : ByteArray).size = s.length := rfl

theorem atB_none (s : List UInt8) (c : UInt8) : atB s (-1) c = false := rfl
theorem atB_nat (s : List UInt8) (p : Nat) (c : UInt8) : atB s (p : Int) c = decide (s[p]? = some c) := by
  unfold atB
  rw [decide_eq_true (Int.natCast_nonneg p), Bool.true_and, Int.toNat_natCast]

/-- string([]byte{x}) -/
theorem conv1 (b : UInt8) (x : Int) (h : x = (b.toNat : Int)) (W : World) : (convert 22 9 (.slice (some ⟨W.heap.size, 0, none⟩) 1 1)).run Try.prog (W.alloc (Obj.cells #[.int .u8 x] 5)) = .ok (.string ⟨#[b]⟩) (W.alloc (Obj.cells #[.int .u8 x] 5)) := by
  have := run_convert_bytes_back (P := Try.prog) (W.alloc (Obj.cells #[.int .u8 x] 5)) 22 9 5 ⟨W.heap.size, 0, none⟩ 1 [b] Try.underlying22 Try.underlying5 Try.underlying9 (fun j hj => by
    have hj0 : j = 0 := by simpa using hj
    subst hj0
    have e : ((⟨W.heap.size, 0, none⟩ : Addr).add 0) = ⟨W.heap.size, 0, none⟩ := rfl
    rw [e, (Row.fresh W 5 #[.int .u8 x]).cell (i := 0) (v := .int .u8 x) rfl]
    simp only [List.getElem_cons_zero, h])
  simpa only [List.length_singleton] using this

end Go.Proofs.Ytdpiklnadhpjjaa
