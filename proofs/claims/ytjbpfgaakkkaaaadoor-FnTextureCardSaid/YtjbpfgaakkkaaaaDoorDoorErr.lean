/- What the listed errors of package strconv give, and a world in which they hold what is listed (for the witness). -/
import Derived.Test.YtjbpfgaakkkaaaaDoorRows
import Derived.Test.YtjbpfgaakkkaaaaDoorDoor
import Derived.Test.YtjbpfgaakkkaaaaDoorParse
import Derived.Stop.LaidErr
namespace Go.Proofs.YtjbpfgaakkkaaaaDoor
open Go.RowKit

theorem gSynType : (Tryd.prog.globals[1]?).map (·.type) = some 70 := by kernel_rfl
theorem gRanType : (Tryd.prog.globals[2]?).map (·.type) = some 70 := by kernel_rfl
theorem cellsErrS : Tryd.prog.cellsOf 114 = 1 := by kernel_rfl
theorem cellsStr : Tryd.prog.cellsOf 9 = 1 := by kernel_rfl
theorem star : "*" ++ "errors.errorString" = "*errors.errorString" := by decide
theorem rowErrS (u : TypeId) (h : Tryd.prog.typeName? 3 u = some "*errors.errorString") : u = 112 :=
  typeName_ptr_named (nm := "errors.errorString") (by rw [star]; kernel_rfl) (by kernel_rfl) (by decide) u (by rw [star]; exact h)
theorem errs_of {W : World} (l : List (String × DataW Unit)) (h1 : l.filter (fun x => x.1 == "strconv.ErrSyntax") = [("strconv.ErrSyntax", Rows.laid_strconv_ErrSyntax)]) (h2 : l.filter (fun x => x.1 == "strconv.ErrRange") = [("strconv.ErrRange", Rows.laid_strconv_ErrRange)]) (h : laidMetH Tryd.prog l W) : Errs W := by
  have e1 := laidMetH.filter (fun x => x.1 == "strconv.ErrSyntax") h
  have e2 := laidMetH.filter (fun x => x.1 == "strconv.ErrRange") h
  rw [h1] at e1
  rw [h2] at e2
  obtain ⟨a0, s0, hv0, -, -, -⟩ := laid_sentinel e1 gSyn gSynType Tryd.underlying70 rowErrS Tryd.underlying112 Tryd.underlying114 rfl rfl Tryd.underlying9 cellsErrS cellsStr
  obtain ⟨a1, s1, hv1, -, -, -⟩ := laid_sentinel e2 gRan gRanType Tryd.underlying70 rowErrS Tryd.underlying112 Tryd.underlying114 rfl rfl Tryd.underlying9 cellsErrS cellsStr
  exact ⟨⟨_, _, hv0⟩, _, _, hv1⟩
noncomputable def low : Nat := (World.holding Tryd.prog default ⟨#[], #[], []⟩).heap.size
noncomputable def laidWorldE (os : Os) : World :=
  let w0 := World.holding Tryd.prog os ⟨#[.cells #[.string ⟨#[105, 110, 118, 97, 108, 105, 100, 32, 115, 121, 110, 116, 97, 120]⟩] 114, .cells #[.string ⟨#[118, 97, 108, 117, 101, 32, 111, 117, 116, 32, 111, 102, 32, 114, 97, 110, 103, 101]⟩] 114], #[], []⟩
  { w0 with heap := ((((w0.heap.modify 3 (putVals (tabVals Rows.laid_internal_strconv_uint64pow10))).modify 4 (putVals (tabVals Rows.laid_math_bits_deBruijn32tab))).modify 5 (putVals (tabVals Rows.laid_math_bits_deBruijn64tab))).modify
      1 (putVals #[.iface 112 (.pointer (some ⟨low, 0, none⟩))])).modify 2 (putVals #[.iface 112 (.pointer (some ⟨low + 1, 0, none⟩))]) }
end Go.Proofs.YtjbpfgaakkkaaaaDoor
