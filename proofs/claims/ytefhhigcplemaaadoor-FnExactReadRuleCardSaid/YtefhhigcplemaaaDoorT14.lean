/- Texts of graduations, in the model. -/
import Derived.Test.YtefhhigcplemaaaDoorT13
import Derived.Test.YtefhhigcplemaaaDoor7A
import Derived.Deep.RegionLaw
namespace Go.Proofs.YtefhhigcplemaaaDoor
open Go.RowKit
set_option linter.unusedVariables false
set_option linter.unusedSimpArgs false

theorem gd_small {zs : List P3} (h : gd zs = true) : ∀ p ∈ zs, Small3 p := by
  intro p hp
  obtain ⟨a, ho, ha⟩ := gd_parts h p hp
  obtain ⟨e1, e2⟩ := prN_is ho
  obtain ⟨p1, p2, p3, p4, -⟩ := (ptOk_iff _ _).1 ho
  have hm := Int.mul_le_mul_of_nonneg_left (show (1 : Int) ≤ (prN p : Int) by omega) (show 0 ≤ p.2.2 by omega)
  rw [Int.mul_one] at hm
  exact ⟨(vl_iff _).2 (by omega), (vl_iff _).2 (by omega), (vl_iff _).2 (by omega)⟩
theorem gd_len {zs : List P3} (h : gd zs = true) : zs.length ≤ 12 := ((gd_iff zs).1 h).1.2
def gtS (zs : List P3) : ByteArray := if gd zs = true then gtB zs zs.length else ⟨#[]⟩

end Go.Proofs.YtefhhigcplemaaaDoor
