/- A texture's text; FormatTexture of the model. -/
import Derived.Test.YtjbpfgaakkkaaaaDoorProg
import Derived.Test.YtjbpfgaakkkaaaaDoorInts
import Derived.Test.YtjbpfgaakkkaaaaDoorVbox
import Derived.Test.YtjbpfgaakkkaaaaDoorHeld
import Derived.Test.YtjbpfgaakkkaaaaDoorMem
import Derived.Test.YtjbpfgaakkkaaaaDoorFlat
import Derived.Test.YtjbpfgaakkkaaaaDoorRowC
import Derived.Test.YtjbpfgaakkkaaaaDoorKS
import Derived.Test.YtjbpfgaakkkaaaaDoorStrS
import Derived.Test.YtjbpfgaakkkaaaaDoorIntS
import Derived.Test.YtjbpfgaakkkaaaaDoorSS
import Derived.Test.YtjbpfgaakkkaaaaDoorVi
import Derived.Test.YtjbpfgaakkkaaaaDoorVa
import Derived.Test.YtjbpfgaakkkaaaaDoorVb
import Derived.Test.YtjbpfgaakkkaaaaDoorVc
import Derived.Test.YtjbpfgaakkkaaaaDoorVd
import Derived.Test.YtjbpfgaakkkaaaaDoorNumP
import Derived.Test.YtjbpfgaakkkaaaaDoorIn
import Derived.Test.YtjbpfgaakkkaaaaDoorFmt
import Derived.Test.YtjbpfgaakkkaaaaDoorBuilder
import Derived.Test.YtjbpfgaakkkaaaaDoorFmts
import Derived.WalkKit
import Derived.WalkSpells
import Derived.WalkLawsBesides
import Derived.Lib.Hide
import Derived.Deep.RegionHeld3
import Derived.Deep.QuietTactic
import Derived.BigQuiet
import Derived.Handy
import Derived.Deep.DeepCutAuto
import Derived.OwnWalk
namespace Go.Proofs.YtjbpfgaakkkaaaaDoor
open Go.RowKit

def colonT : ByteArray := ⟨#[58]⟩
/-- a texture's text -/
def fmtTx (L : Int) (ts : List Int) : ByteArray := if okX L ts = true then (fmtP L ++ colonT) ++ fmtsP ts else ⟨#[]⟩
theorem fmtsX_size (l : List Int) (hl : l.length ≤ 1000) : (fmtsP l).size ≤ 1048576 := by
  unfold fmtsP
  split
  · decide
  · split
    · unfold joinP
      rw [strOf_size]
      have h1 := joinN_len comma (l.map fmtP) (l.map fmtP).length
      have h2 := sizeN_fmt l (l.map fmtP).length
      have h3 : comma.size = 1 := rfl
      rw [h3] at h1
      simp only [List.length_map] at h1 h2 ⊢
      omega
    · decide
theorem ret_strX {a b : ByteArray} (h : a = b) : Ending.returned (.string a) = .returned (.string b) := by rw [h]
theorem okX_len2 {L : Int} {ts : List Int} (h : okX L ts = true) : ts.length ≤ 256 := by
  have h1 : okTx L ts := of_decide_eq_true h
  rw [h1.2.1]
  exact sq_le h1.1
theorem rowX_drew {W : World} {A : Option Addr} {xs : List Int} (h : Row I64 W W.heap.size A xs) : Row I64 W.drew W.drew.heap.size A xs := h.keep fun _ _ => rfl

set_option maxRecDepth 100000 in
set_option maxHeartbeats 8000000 in
theorem sFmtTx_any (L : Int) (A : Option Addr) (c : Nat) (ts : List Int) (w : World) (hR : Row I64 w w.heap.size A ts) (hl : ts.length ≤ 1099511627776) :
    Calls Tryd.prog 14 #[txv L A ts.length c] w fun e w' => e = .returned (.string (fmtTx L ts)) ∧ Below w.heap.size w w' := by
  have HT : Held w (w.alloc (.cells #[.int .i64 L, .slice A ts.length c] 25)) [(w.heap.size, [.int .i64 L, .slice A ts.length c])] := by
    have h := (Held.nil w).new #[.int .i64 L, .slice A ts.length c] 25
    simpa only [World.size_alloc] using h
  have HI : ∀ {bs : List (Nat × List Value)} (W : World), Held w W bs → Row I64 W W.heap.size A ts := fun W h => (hR.below h.below).more h.size
  have HC : ∀ W', Held w W' [(w.heap.size, [.int .i64 L, .slice A ts.length c])] → (W'.cell? ⟨w.heap.size, 0, none⟩ = some (.int .i64 L) ∧ W'.cell? ⟨w.heap.size, 1, none⟩ = some (.slice A ts.length c)) := fun W' h => ⟨(h.box 0).c 0, (h.box 0).c 1⟩
  have HLEN := Lib.hid hl
  clear hl hR
  go_enter Tryd.func14, Tryd.ntmps14
  have c0' := (HT.box 0).c 0
  have c1' := (HT.box 0).c 1
  go_wp2_with fail
  refine (sIsValidT_big L A c ts _ (HI _ HT) HLEN.out).mono ?_
  rintro e w1 ⟨rfl, hb1⟩
  have HT := HT.later hb1
  clear hb1 c0' c1'
  rcases h0 : okX L ts with _ | _
  · go_wp2_with fail
    go_ret
    exact ⟨ret_strX (by unfold fmtTx; rw [h0]; rfl), HT.below⟩
  · have hn := okX_len2 h0
    obtain ⟨F1, hf1⟩ : ∃ F1, F1 = fmtP L := ⟨_, rfl⟩
    obtain ⟨F2, hf2⟩ : ∃ F2, F2 = fmtsP ts := ⟨_, rfl⟩
    have hs1 : F1.size ≤ 1048576 := by rw [hf1]; exact Nat.le_trans (fmtP_size L) (by omega)
    have hs2 : F2.size ≤ 1048576 := by rw [hf2]; exact fmtsX_size _ (by omega)
    have hq1 : ¬ 9223372036854775807 < F1.size + 1 := by omega
    have hq2 : ¬ 9223372036854775807 < F1.size + 1 + F2.size := by omega
    have hr1 : ∀ W : World, (Op.stringOp .add F1 ⟨#[58]⟩).run Tryd.prog W = .ok (.string (F1 ++ ⟨#[58]⟩)) W := fun W => run_string_add_sum W _ _ (by show F1.size + 1 ≤ _; omega)
    have hr2 : ∀ W : World, (Op.stringOp .add (F1 ++ ⟨#[58]⟩) F2).run Tryd.prog W = .ok (.string ((F1 ++ ⟨#[58]⟩) ++ F2)) W := fun W => run_string_add_sum W _ _ (by rw [ByteArray.size_append]; show F1.size + 1 + F2.size ≤ _; omega)
    have HF1 := Lib.hid hf1
    have HF2 := Lib.hid hf2
    have HLEN : Hid (ts.length ≤ 1048576) := Lib.hid (by omega)
    clear hf1 hf2 hn
    go_wp2_with fail
    go_region_held3 (fun W' => W'.cell? ⟨w.heap.size, 0, none⟩ = some (.int .i64 L) ∧ W'.cell? ⟨w.heap.size, 1, none⟩ = some (.slice A ts.length c))
      (first | (with_reducible exact HC _ HT) | (with_reducible exact HC _ HT.drew))
      (first | (go_at_call 37; (first | refine (sFormats_any A c ts _ (HI _ HT) HLEN.out).mono ?_ | refine (sFormats_any A c ts _ (HI _ HT.drew) HLEN.out).mono ?_); rintro e w1 ⟨rfl, hb1⟩; (first | (have HT := HT.later hb1) | (have HT := HT.drew.later hb1)); rw [← HF2.out]) | (go_at_call 36; refine (sFormat_any L _).mono ?_; rintro e w1 ⟨rfl, hb1⟩; (first | (have HT := HT.later hb1) | (have HT := HT.drew.later hb1)); rw [← HF1.out]))
    clear HI HC
    go_wp2
    go_ret
    exact ⟨ret_strX (by unfold fmtTx; rw [h0, HF1.out, HF2.out]; rfl), HT.below⟩
end Go.Proofs.YtjbpfgaakkkaaaaDoor
