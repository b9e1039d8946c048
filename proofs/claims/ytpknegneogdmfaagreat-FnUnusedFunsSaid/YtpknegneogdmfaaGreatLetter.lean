/-
  A letter with a number: spec.l1Letter. Strings as lists of bytes.
-/
import Derived.Test.YtpknegneogdmfaaGreatProg
import Derived.Test.YtpknegneogdmfaaGreatFo
import Derived.Laws.IdiomStrings
import Derived.Laws.Concat
import Derived.Laws.Strings2
import Derived.Laws.Strings3
namespace Go.Proofs.YtpknegneogdmfaaGreat
open Go.RowKit
set_option maxRecDepth 100000

/-- A text, given by its bytes. -/
def txt (l : List UInt8) : Value := .string ⟨l.toArray⟩

set_option maxHeartbeats 1000000 in
theorem l1Letter_any (b : UInt8) (f n : Int) (hf : 0 ≤ f) (hn : 0 ≤ n) (h : f + n = (b.toNat : Int)) (w : World) :
    Calls Tryz.prog 80 #[.int .u8 f, .int .i64 n] w (Gives (txt [b]) w) := by
  have hlt : b.toNat < 256 := b.toNat_lt
  have e1 : IntKind.u8.wrap n = n := by rw [IntKind.wrap_u8]; omega
  have e2 : IntKind.u8.wrap (f + n) = f + n := by rw [IntKind.wrap_u8]; omega
  have hb := (Below.refl w.heap.size w).alloc (Nat.le_refl _) (Obj.cells #[.int .u8 (f + n)] 5)
  have hcv := run_convert_bytes_back (P := Tryz.prog) (w.alloc (Obj.cells #[.int .u8 (f + n)] 5)) 22 9 5 ⟨w.heap.size, 0, none⟩ 1 [b] Tryz.underlying22 Tryz.underlying5 Tryz.underlying9 (fun j hj => by
    have hj0 : j = 0 := by simpa using hj
    subst hj0
    have e : ((⟨w.heap.size, 0, none⟩ : Addr).add 0) = ⟨w.heap.size, 0, none⟩ := rfl
    rw [e, (Row.fresh w 5 #[.int .u8 (f + n)]).cell (i := 0) (v := .int .u8 (f + n)) rfl]
    simp only [List.getElem_cons_zero, h])
  have HB := Lib.hid hb
  clear hb hlt h
  simp only [List.length_singleton] at hcv
  unfold txt
  go_enter Tryz.func80, Tryz.ntmps80
  go_wp2_with fail
  go_ret
  exact ⟨rfl, HB.out⟩
end Go.Proofs.YtpknegneogdmfaaGreat
