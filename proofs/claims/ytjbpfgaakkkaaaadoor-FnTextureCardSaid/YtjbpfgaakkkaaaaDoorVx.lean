/- Lookup lies between the least and the greatest texel. -/
import Derived.Test.YtjbpfgaakkkaaaaDoorProg
import Derived.Test.YtjbpfgaakkkaaaaDoorInts
import Derived.Test.YtjbpfgaakkkaaaaDoorVbox
import Derived.Test.YtjbpfgaakkkaaaaDoorHeld
import Derived.Test.YtjbpfgaakkkaaaaDoorMem
import Derived.Test.YtjbpfgaakkkaaaaDoorFlat
import Derived.Test.YtjbpfgaakkkaaaaDoorRowC
import Derived.Test.YtjbpfgaakkkaaaaDoorKS
import Derived.Test.YtjbpfgaakkkaaaaDoorStrS
import Derived.Test.YtjbpfgaakkkaaaaDoorIntS
import Derived.Test.YtjbpfgaakkkaaaaDoorSS
import Derived.Test.YtjbpfgaakkkaaaaDoorVi
import Derived.Test.YtjbpfgaakkkaaaaDoorVa
import Derived.Test.YtjbpfgaakkkaaaaDoorVb
import Derived.Test.YtjbpfgaakkkaaaaDoorVc
import Derived.Test.YtjbpfgaakkkaaaaDoorVd
import Derived.Test.YtjbpfgaakkkaaaaDoorVe
import Derived.Test.YtjbpfgaakkkaaaaDoorVf
import Derived.Test.YtjbpfgaakkkaaaaDoorVg
import Derived.WalkKit
import Derived.WalkSpells
import Derived.WalkLawsBesides
import Derived.Lib.Hide
import Derived.Deep.RegionHeld3
import Derived.Deep.QuietTactic
import Derived.BigQuiet
import Derived.Handy
import Derived.Deep.DeepCutAuto
namespace Go.Proofs.YtjbpfgaakkkaaaaDoor
open Go.RowKit

section
variable {L lo hi : Int} {ts : List Int}
theorem txl_within (h : okTx L ts) (hb : ∀ x ∈ ts, lo ≤ x ∧ x ≤ hi) (x y : Int) : lo ≤ txl L ts x y ∧ txl L ts x y ≤ hi := by
  obtain ⟨hk, e⟩ := txl_at h x y
  rw [e]
  exact hb _ (List.getElem_mem hk)
theorem blkT_in (h : okTx L ts) (hb : ∀ x ∈ ts, lo ≤ x ∧ x ≤ hi) (x y : Int) : lo ≤ blkT L ts x y ∧ blkT L ts x y ≤ hi := by
  unfold blkT
  have h1 := txl_within h hb (2 * x) (2 * y)
  have h2 := txl_within h hb (2 * x + 1) (2 * y)
  have h3 := txl_within h hb (2 * x) (2 * y + 1)
  have h4 := txl_within h hb (2 * x + 1) (2 * y + 1)
  omega
theorem half_in (h : okTx L ts) (hb : ∀ x ∈ ts, lo ≤ x ∧ x ≤ hi) : ∀ x ∈ halfL L ts, lo ≤ x ∧ x ≤ hi := fun x hx => by
  unfold halfL hfL at hx
  obtain ⟨j, _, rfl⟩ := List.mem_map.1 hx
  exact blkT_in h hb _ _
end
theorem mip_in {lo hi : Int} : ∀ (k : Nat) (L : Int) (ts : List Int), okTx L ts → (k : Int) ≤ L → (∀ x ∈ ts, lo ≤ x ∧ x ≤ hi) → ∀ x ∈ mipL L ts k, lo ≤ x ∧ x ≤ hi
  | 0, _, _, _, _, hb => hb
  | k + 1, L, ts, h, hk, hb => mip_in k (L - 1) (halfL L ts) (half_ok h (by omega)) (by omega) (half_in h hb)
theorem itT_in {a b f lo hi : Int} (ha : lo ≤ a ∧ a ≤ hi) (hb : lo ≤ b ∧ b ≤ hi) (hf : 0 ≤ f ∧ f ≤ 256) : lo * 256 ≤ itT a b f ∧ itT a b f ≤ hi * 256 := by
  unfold itT
  have h1 := Int.mul_le_mul_of_nonneg_right ha.1 (show 0 ≤ 256 - f by omega)
  have h2 := Int.mul_le_mul_of_nonneg_right ha.2 (show 0 ≤ 256 - f by omega)
  have h3 := Int.mul_le_mul_of_nonneg_right hb.1 hf.1
  have h4 := Int.mul_le_mul_of_nonneg_right hb.2 hf.1
  have e1 : lo * (256 - f) + lo * f = lo * 256 := by rw [← Int.mul_add]; congr 1; omega
  have e2 : hi * (256 - f) + hi * f = hi * 256 := by rw [← Int.mul_add]; congr 1; omega
  omega
theorem lkL_in {L lo hi : Int} {M : List Int} (h : okTx L M) (hb : ∀ x ∈ M, lo ≤ x ∧ x ≤ hi) (u v : Int) : lo ≤ lkL L M u v ∧ lkL L M u v ≤ hi := by
  unfold lkL
  simp only
  generalize ccT u * (sd L : Int) - 128 = s
  generalize ccT v * (sd L : Int) - 128 = r
  have hs : 0 ≤ s - 256 * (s / 256) ∧ s - 256 * (s / 256) ≤ 256 := by omega
  have hr : 0 ≤ r - 256 * (r / 256) ∧ r - 256 * (r / 256) ≤ 256 := by omega
  have h1 := itT_in (txl_within h hb (s / 256) (r / 256)) (txl_within h hb (s / 256 + 1) (r / 256)) hs
  have h2 := itT_in (txl_within h hb (s / 256) (r / 256 + 1)) (txl_within h hb (s / 256 + 1) (r / 256 + 1)) hs
  have h3 := itT_in h1 h2 hr
  unfold fdivP
  rw [if_neg (by omega)]
  generalize itT _ _ _ = Z at h3 ⊢
  omega
/-- a lookup in a valid texture lies between bounds of its texels -/
theorem lkP_in {L lo hi : Int} {ts : List Int} (h : okX L ts = true) (hb : ∀ x ∈ ts, lo ≤ x ∧ x ≤ hi) (u v lv : Int) : lo ≤ lkP L ts u v lv ∧ lkP L ts u v lv ≤ hi := by
  have ht : okTx L ts := of_decide_eq_true h
  unfold lkP
  rw [if_pos h]
  obtain ⟨k, hk⟩ : ∃ k, k = clampP lv 0 L := ⟨_, rfl⟩
  have hkb : 0 ≤ k ∧ k ≤ L := by rw [hk]; exact clampP_bd lv 0 L ht.1.1
  rw [← hk]
  have hn : ((k.toNat : Nat) : Int) = k := by omega
  have hm := mip_ok k.toNat L ts ht (by omega)
  rw [hn] at hm
  exact lkL_in hm (mip_in k.toNat L ts ht (by omega) hb) u v
end Go.Proofs.YtjbpfgaakkkaaaaDoor
