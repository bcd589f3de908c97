/- Contracts of the laws own helpers over slices of transforms. -/
import Derived.Test.YtjflkapdnnecjaaProg
import Derived.Test.YtjflkapdnnecjaaInts
import Derived.Test.YtjflkapdnnecjaaVbox
import Derived.Test.YtjflkapdnnecjaaVec
import Derived.Test.YtjflkapdnnecjaaHeld
import Derived.Test.YtjflkapdnnecjaaMem
import Derived.Test.YtjflkapdnnecjaaFlat
import Derived.Test.YtjflkapdnnecjaaRowC
import Derived.Test.YtjflkapdnnecjaaArr
import Derived.Test.YtjflkapdnnecjaaTr
import Derived.Test.YtjflkapdnnecjaaTTo
import Derived.Test.YtjflkapdnnecjaaVecS
import Derived.Test.YtjflkapdnnecjaaT12
import Derived.WalkKit
import Derived.WalkSpells
import Derived.WalkLawsBesides
import Derived.Lib.Hide
import Derived.Deep.RegionHeld3
import Derived.Deep.QuietTactic
import Derived.BigQuiet
import Derived.Handy
import Derived.Deep.DeepCutAuto
import Derived.OwnWalk
namespace Go.Proofs.Ytjflkapdnnecjaa
open Go.RowKit

set_option maxHeartbeats 4000000 in
theorem toTransformS_any (A : Option Addr) (c : Nat) (xs : List V12) (w : World) (hR : RowC 12 tg w w.heap.size A xs) (hl : xs.length ≤ 1099511627776) :
    Calls Try.prog 34 #[.slice A xs.length c] w fun e w' => e = .returned (.slice (some ⟨w.heap.size, 0, none⟩) xs.length xs.length) ∧ Below w.heap.size w w' ∧ RowC 12 tg w' w'.heap.size (some ⟨w.heap.size, 0, none⟩) xs := by
  obtain ⟨i0, hi, hz0, hz1, hz2⟩ := info_parts infoTr
  go_enter Try.func34, Try.ntmps34
  go_wp2_with (at_make; refine wpList_make_full _ rfl _ _ 57 rfl w.heap.size 90 i0 (tr 0 0 0 0 0 0 0 0 0 0 0 0) 12 Try.underlying57 hi hz0 hz1 .i64 .i64 _ _ xs.length rfl rfl rfl rfl (by rw [hz2]; omega) (by unfold maxLen; omega) (by omega) ?_)
  intro w1 hown hgrow
  have hb0 : Below w.heap.size w w1 := (Below.refl _ _).grown hgrow (Nat.le_refl _) (fun k h => by cases h)
  have hown : w1.ownsRow w.heap.size 90 12 (.slice (some ⟨w.heap.size, 0, none⟩) xs.length xs.length) xs.length ((halfA ((0, 0, 0), (0, 0, 0), (0, 0, 0), (0, 0, 0)) xs 0).flatMap tg) := by
    rw [halfA_zero, replT, ← made12]; exact hown
  clear hgrow
  have HO := Lib.hid hown
  have HB0 := Lib.hid hb0
  clear hown hb0
  go_wp2
  go_loopw [4] (fun i wr => ∃ k : Nat, k ≤ xs.length ∧ i = .int .i64 k ∧ wr.ownsRow w.heap.size 90 12 (.slice (some ⟨w.heap.size, 0, none⟩) xs.length xs.length) xs.length ((halfA ((0, 0, 0), (0, 0, 0), (0, 0, 0), (0, 0, 0)) xs k).flatMap tg) ∧ Below w.heap.size w wr) (fun i _ => xs.length - (intOf i).toNat)
  case atStart => exact ⟨0, Nat.zero_le _, rfl, HO.out, HB0.out⟩
  case round =>
    obtain ⟨k, hk, rfl, hown, hb⟩ := hrel
    clear HO HB0
    by_cases hlt : k < xs.length
    · obtain ⟨b, o, rfl, hbl, hc⟩ := hR.at hlt
      obtain ⟨c0, c1, c2, c3, c4, c5, c6, c7, c8, c9, c10, c11⟩ := tg_at hc
      have c0 := (hb.cell (p := ⟨b, o + k * 12, none⟩) hbl).trans c0
      have c1 := (hb.cell (p := ⟨b, o + k * 12 + 1, none⟩) hbl).trans c1
      have c2 := (hb.cell (p := ⟨b, o + k * 12 + 2, none⟩) hbl).trans c2
      have c3 := (hb.cell (p := ⟨b, o + k * 12 + 3, none⟩) hbl).trans c3
      have c4 := (hb.cell (p := ⟨b, o + k * 12 + 4, none⟩) hbl).trans c4
      have c5 := (hb.cell (p := ⟨b, o + k * 12 + 5, none⟩) hbl).trans c5
      have c6 := (hb.cell (p := ⟨b, o + k * 12 + 6, none⟩) hbl).trans c6
      have c7 := (hb.cell (p := ⟨b, o + k * 12 + 7, none⟩) hbl).trans c7
      have c8 := (hb.cell (p := ⟨b, o + k * 12 + 8, none⟩) hbl).trans c8
      have c9 := (hb.cell (p := ⟨b, o + k * 12 + 9, none⟩) hbl).trans c9
      have c10 := (hb.cell (p := ⟨b, o + k * 12 + 10, none⟩) hbl).trans c10
      have c11 := (hb.cell (p := ⟨b, o + k * 12 + 11, none⟩) hbl).trans c11
      obtain ⟨v, hv⟩ : ∃ v, v = xs[k] := ⟨_, rfl⟩
      have HV := Lib.hid hv
      rw [← hv] at c0 c1 c2 c3 c4 c5 c6 c7 c8 c9 c10 c11
      have hlt' : (k : Int) < (xs.length : Int) := by omega
      have hge' : (0 : Int) ≤ (k : Int) := by omega
      have HO := Lib.hid hown
      have HB := Lib.hid hb
      clear hv hR hb hown hc
      go_wp2_with fail
      refine (toTransform_any _ _ _ _ _ _ _ _ _ _ _ _ _).mono ?_
      rintro e w2 ⟨rfl, hb2⟩
      have hb := bcall HB.out hb2 HB.out.size
      have hown := own_keep' HO.out hb2
      clear hb2 HO HB c0 c1 c2 c3 c4 c5 c6 c7 c8 c9 c10 c11
      obtain ⟨x0, x1, x2, x3, x4, x5, x6, x7, x8, x9, x10, x11, d0, d1, d2, d3, d4, d5, d6, d7, d8, d9, d10, d11⟩ := own_tr hown (halfA_len _ _ _ hk) hlt
      have f0 := hown.frozenAt (k * 12)
      have f1 := hown.frozenAt (k * 12 + 1)
      have f2 := hown.frozenAt (k * 12 + 2)
      have f3 := hown.frozenAt (k * 12 + 3)
      have f4 := hown.frozenAt (k * 12 + 4)
      have f5 := hown.frozenAt (k * 12 + 5)
      have f6 := hown.frozenAt (k * 12 + 6)
      have f7 := hown.frozenAt (k * 12 + 7)
      have f8 := hown.frozenAt (k * 12 + 8)
      have f9 := hown.frozenAt (k * 12 + 9)
      have f10 := hown.frozenAt (k * 12 + 10)
      have f11 := hown.frozenAt (k * 12 + 11)
      have hs := ((((((((((((hown.stored (k * 12) (.int .i64 v.1.1)).1.stored (k * 12 + 1) (.int .i64 v.1.2.1)).1.stored (k * 12 + 2) (.int .i64 v.1.2.2)).1.stored (k * 12 + 3) (.int .i64 v.2.1.1)).1.stored (k * 12 + 4) (.int .i64 v.2.1.2.1)).1.stored (k * 12 + 5) (.int .i64 v.2.1.2.2)).1.stored (k * 12 + 6) (.int .i64 v.2.2.1.1)).1.stored (k * 12 + 7) (.int .i64 v.2.2.1.2.1)).1.stored (k * 12 + 8) (.int .i64 v.2.2.1.2.2)).1.stored (k * 12 + 9) (.int .i64 v.2.2.2.1)).1.stored (k * 12 + 10) (.int .i64 v.2.2.2.2.1)).1.stored (k * 12 + 11) (.int .i64 v.2.2.2.2.2)).1
      rw [tg_set, HV.out, halfA_step _ _ _ hlt, ← HV.out] at hs
      have hs' := ((((((((((((hb.setCell (p := ⟨w.heap.size, k * 12, none⟩) (Nat.le_refl _) (.int .i64 v.1.1)).setCell (p := ⟨w.heap.size, k * 12 + 1, none⟩) (Nat.le_refl _) (.int .i64 v.1.2.1)).setCell (p := ⟨w.heap.size, k * 12 + 2, none⟩) (Nat.le_refl _) (.int .i64 v.1.2.2)).setCell (p := ⟨w.heap.size, k * 12 + 3, none⟩) (Nat.le_refl _) (.int .i64 v.2.1.1)).setCell (p := ⟨w.heap.size, k * 12 + 4, none⟩) (Nat.le_refl _) (.int .i64 v.2.1.2.1)).setCell (p := ⟨w.heap.size, k * 12 + 5, none⟩) (Nat.le_refl _) (.int .i64 v.2.1.2.2)).setCell (p := ⟨w.heap.size, k * 12 + 6, none⟩) (Nat.le_refl _) (.int .i64 v.2.2.1.1)).setCell (p := ⟨w.heap.size, k * 12 + 7, none⟩) (Nat.le_refl _) (.int .i64 v.2.2.1.2.1)).setCell (p := ⟨w.heap.size, k * 12 + 8, none⟩) (Nat.le_refl _) (.int .i64 v.2.2.1.2.2)).setCell (p := ⟨w.heap.size, k * 12 + 9, none⟩) (Nat.le_refl _) (.int .i64 v.2.2.2.1)).setCell (p := ⟨w.heap.size, k * 12 + 10, none⟩) (Nat.le_refl _) (.int .i64 v.2.2.2.2.1)).setCell (p := ⟨w.heap.size, k * 12 + 11, none⟩) (Nat.le_refl _) (.int .i64 v.2.2.2.2.2))
      have HS := Lib.hid hs
      have HS' := Lib.hid hs'
      clear hb hown hs hs' HV
      go_wp2
      go_roundw
      case rel => exact ⟨k + 1, by omega, by go_num, HS.out, HS'.out⟩
      case measure => simp [intOf]; omega
    · have e : k = xs.length := by omega
      have hown : wr.ownsRow w.heap.size 90 12 (.slice (some ⟨w.heap.size, 0, none⟩) xs.length xs.length) xs.length (xs.flatMap tg) := by rw [e, halfA_all] at hown; exact hown
      have HO := Lib.hid hown
      have HB := Lib.hid hb
      clear e hown hb hR
      go_wp2
      go_ret
      exact ⟨rfl, HB.out, RowC.of_own tg_len HO.out rfl⟩

set_option maxHeartbeats 4000000 in
theorem eqTransformS_same (A A' : Option Addr) (c c' : Nat) (xs : List V12) (w : World) (hR : RowC 12 tg w w.heap.size A xs) (hR' : RowC 12 tg w w.heap.size A' xs) (hl : xs.length ≤ 1099511627776) :
    Calls Try.prog 37 #[.slice A xs.length c, .slice A' xs.length c'] w fun e w' => e = .returned (.bool true) ∧ Below w.heap.size w w' := by
  go_enter Try.func37, Try.ntmps37
  go_wp2
  go_loopw [5] (fun i wr => ∃ k : Nat, k ≤ xs.length ∧ i = .int .i64 k ∧ Below w.heap.size w wr) (fun i _ => xs.length - (intOf i).toNat)
  case atStart => exact ⟨0, Nat.zero_le _, rfl, Below.refl _ _⟩
  case round =>
    obtain ⟨k, hk, rfl, HB⟩ := hrel
    by_cases hlt : k < xs.length
    · obtain ⟨b, o, rfl, hbl, hc⟩ := hR.at hlt
      obtain ⟨b', o', rfl, hbl', hc'⟩ := hR'.at hlt
      obtain ⟨c0, c1, c2, c3, c4, c5, c6, c7, c8, c9, c10, c11⟩ := tg_at hc
      obtain ⟨d0, d1, d2, d3, d4, d5, d6, d7, d8, d9, d10, d11⟩ := tg_at hc'
      obtain ⟨v, hv⟩ : ∃ v, v = xs[k] := ⟨_, rfl⟩
      rw [← hv] at c0 c1 c2 c3 c4 c5 c6 c7 c8 c9 c10 c11 d0 d1 d2 d3 d4 d5 d6 d7 d8 d9 d10 d11
      have HC : ∀ W, Below w.heap.size w W → (W.cell? ⟨b, o + k * 12, none⟩ = some (.int .i64 v.1.1) ∧ W.cell? ⟨b, o + k * 12 + 1, none⟩ = some (.int .i64 v.1.2.1) ∧ W.cell? ⟨b, o + k * 12 + 2, none⟩ = some (.int .i64 v.1.2.2) ∧ W.cell? ⟨b, o + k * 12 + 3, none⟩ = some (.int .i64 v.2.1.1) ∧ W.cell? ⟨b, o + k * 12 + 4, none⟩ = some (.int .i64 v.2.1.2.1) ∧ W.cell? ⟨b, o + k * 12 + 5, none⟩ = some (.int .i64 v.2.1.2.2) ∧ W.cell? ⟨b, o + k * 12 + 6, none⟩ = some (.int .i64 v.2.2.1.1) ∧ W.cell? ⟨b, o + k * 12 + 7, none⟩ = some (.int .i64 v.2.2.1.2.1) ∧ W.cell? ⟨b, o + k * 12 + 8, none⟩ = some (.int .i64 v.2.2.1.2.2) ∧ W.cell? ⟨b, o + k * 12 + 9, none⟩ = some (.int .i64 v.2.2.2.1) ∧ W.cell? ⟨b, o + k * 12 + 10, none⟩ = some (.int .i64 v.2.2.2.2.1) ∧ W.cell? ⟨b, o + k * 12 + 11, none⟩ = some (.int .i64 v.2.2.2.2.2) ∧ W.cell? ⟨b', o' + k * 12, none⟩ = some (.int .i64 v.1.1) ∧ W.cell? ⟨b', o' + k * 12 + 1, none⟩ = some (.int .i64 v.1.2.1) ∧ W.cell? ⟨b', o' + k * 12 + 2, none⟩ = some (.int .i64 v.1.2.2) ∧ W.cell? ⟨b', o' + k * 12 + 3, none⟩ = some (.int .i64 v.2.1.1) ∧ W.cell? ⟨b', o' + k * 12 + 4, none⟩ = some (.int .i64 v.2.1.2.1) ∧ W.cell? ⟨b', o' + k * 12 + 5, none⟩ = some (.int .i64 v.2.1.2.2) ∧ W.cell? ⟨b', o' + k * 12 + 6, none⟩ = some (.int .i64 v.2.2.1.1) ∧ W.cell? ⟨b', o' + k * 12 + 7, none⟩ = some (.int .i64 v.2.2.1.2.1) ∧ W.cell? ⟨b', o' + k * 12 + 8, none⟩ = some (.int .i64 v.2.2.1.2.2) ∧ W.cell? ⟨b', o' + k * 12 + 9, none⟩ = some (.int .i64 v.2.2.2.1) ∧ W.cell? ⟨b', o' + k * 12 + 10, none⟩ = some (.int .i64 v.2.2.2.2.1) ∧ W.cell? ⟨b', o' + k * 12 + 11, none⟩ = some (.int .i64 v.2.2.2.2.2)) := fun W h =>
        ⟨(h.cell (p := ⟨b, o + k * 12, none⟩) hbl).trans c0, (h.cell (p := ⟨b, o + k * 12 + 1, none⟩) hbl).trans c1, (h.cell (p := ⟨b, o + k * 12 + 2, none⟩) hbl).trans c2, (h.cell (p := ⟨b, o + k * 12 + 3, none⟩) hbl).trans c3, (h.cell (p := ⟨b, o + k * 12 + 4, none⟩) hbl).trans c4, (h.cell (p := ⟨b, o + k * 12 + 5, none⟩) hbl).trans c5, (h.cell (p := ⟨b, o + k * 12 + 6, none⟩) hbl).trans c6, (h.cell (p := ⟨b, o + k * 12 + 7, none⟩) hbl).trans c7, (h.cell (p := ⟨b, o + k * 12 + 8, none⟩) hbl).trans c8, (h.cell (p := ⟨b, o + k * 12 + 9, none⟩) hbl).trans c9, (h.cell (p := ⟨b, o + k * 12 + 10, none⟩) hbl).trans c10, (h.cell (p := ⟨b, o + k * 12 + 11, none⟩) hbl).trans c11, (h.cell (p := ⟨b', o' + k * 12, none⟩) hbl').trans d0, (h.cell (p := ⟨b', o' + k * 12 + 1, none⟩) hbl').trans d1, (h.cell (p := ⟨b', o' + k * 12 + 2, none⟩) hbl').trans d2, (h.cell (p := ⟨b', o' + k * 12 + 3, none⟩) hbl').trans d3, (h.cell (p := ⟨b', o' + k * 12 + 4, none⟩) hbl').trans d4, (h.cell (p := ⟨b', o' + k * 12 + 5, none⟩) hbl').trans d5, (h.cell (p := ⟨b', o' + k * 12 + 6, none⟩) hbl').trans d6, (h.cell (p := ⟨b', o' + k * 12 + 7, none⟩) hbl').trans d7, (h.cell (p := ⟨b', o' + k * 12 + 8, none⟩) hbl').trans d8, (h.cell (p := ⟨b', o' + k * 12 + 9, none⟩) hbl').trans d9, (h.cell (p := ⟨b', o' + k * 12 + 10, none⟩) hbl').trans d10, (h.cell (p := ⟨b', o' + k * 12 + 11, none⟩) hbl').trans d11⟩
      have hlt' : (k : Int) < (xs.length : Int) := by omega
      have hge' : (0 : Int) ≤ (k : Int) := by omega
      clear hv hR hR' hc hc' c0 c1 c2 c3 c4 c5 c6 c7 c8 c9 c10 c11 d0 d1 d2 d3 d4 d5 d6 d7 d8 d9 d10 d11 hbl hbl'
      go_wp2_with fail
      go_region_held3 (fun w' => w'.cell? ⟨b, o + k * 12, none⟩ = some (.int .i64 v.1.1) ∧ w'.cell? ⟨b, o + k * 12 + 1, none⟩ = some (.int .i64 v.1.2.1) ∧ w'.cell? ⟨b, o + k * 12 + 2, none⟩ = some (.int .i64 v.1.2.2) ∧ w'.cell? ⟨b, o + k * 12 + 3, none⟩ = some (.int .i64 v.2.1.1) ∧ w'.cell? ⟨b, o + k * 12 + 4, none⟩ = some (.int .i64 v.2.1.2.1) ∧ w'.cell? ⟨b, o + k * 12 + 5, none⟩ = some (.int .i64 v.2.1.2.2) ∧ w'.cell? ⟨b, o + k * 12 + 6, none⟩ = some (.int .i64 v.2.2.1.1) ∧ w'.cell? ⟨b, o + k * 12 + 7, none⟩ = some (.int .i64 v.2.2.1.2.1) ∧ w'.cell? ⟨b, o + k * 12 + 8, none⟩ = some (.int .i64 v.2.2.1.2.2) ∧ w'.cell? ⟨b, o + k * 12 + 9, none⟩ = some (.int .i64 v.2.2.2.1) ∧ w'.cell? ⟨b, o + k * 12 + 10, none⟩ = some (.int .i64 v.2.2.2.2.1) ∧ w'.cell? ⟨b, o + k * 12 + 11, none⟩ = some (.int .i64 v.2.2.2.2.2) ∧ w'.cell? ⟨b', o' + k * 12, none⟩ = some (.int .i64 v.1.1) ∧ w'.cell? ⟨b', o' + k * 12 + 1, none⟩ = some (.int .i64 v.1.2.1) ∧ w'.cell? ⟨b', o' + k * 12 + 2, none⟩ = some (.int .i64 v.1.2.2) ∧ w'.cell? ⟨b', o' + k * 12 + 3, none⟩ = some (.int .i64 v.2.1.1) ∧ w'.cell? ⟨b', o' + k * 12 + 4, none⟩ = some (.int .i64 v.2.1.2.1) ∧ w'.cell? ⟨b', o' + k * 12 + 5, none⟩ = some (.int .i64 v.2.1.2.2) ∧ w'.cell? ⟨b', o' + k * 12 + 6, none⟩ = some (.int .i64 v.2.2.1.1) ∧ w'.cell? ⟨b', o' + k * 12 + 7, none⟩ = some (.int .i64 v.2.2.1.2.1) ∧ w'.cell? ⟨b', o' + k * 12 + 8, none⟩ = some (.int .i64 v.2.2.1.2.2) ∧ w'.cell? ⟨b', o' + k * 12 + 9, none⟩ = some (.int .i64 v.2.2.2.1) ∧ w'.cell? ⟨b', o' + k * 12 + 10, none⟩ = some (.int .i64 v.2.2.2.2.1) ∧ w'.cell? ⟨b', o' + k * 12 + 11, none⟩ = some (.int .i64 v.2.2.2.2.2))
        (first | (with_reducible exact HC _ HB) | (with_reducible exact HC _ HB.drew))
        (first | (go_at_call 64; refine (eqTransform_same _ _ _ _ _ _ _ _ _ _ _ _ _).mono ?_; rintro e w1 ⟨rfl, hb1⟩; (first | (have HB := bcall HB hb1 HB.size) | (have HB := bcall HB.drew hb1 HB.size))))
      clear HC
      go_wp2
      go_roundw
      case rel => exact ⟨k + 1, by omega, by go_num, HB⟩
      case measure => simp [intOf]; omega
    · clear hR hR'
      go_wp2
      go_ret
      exact ⟨rfl, HB⟩

theorem szTransformS_yes (A : Option Addr) (c n : Nat) (m : Int) (w : World) (h : (n : Int) ≤ m) (hm : m ≤ 4611686018427387904) :
    Calls Try.prog 32 #[.slice A n c, .int .i64 m] w fun e w' => e = .returned (.int .i64 (m - n)) ∧ w = w' := by
  go_enter Try.func32, Try.ntmps32
  go_wp2_with fail
  go_ret
  exact ⟨rfl, rfl⟩
theorem szTransformS_no (A : Option Addr) (c n : Nat) (m : Int) (w : World) (h : m < (n : Int)) (h0 : 0 ≤ m) (hn : n ≤ maxLen) :
    Calls Try.prog 32 #[.slice A n c, .int .i64 m] w fun e w' => e = .returned (.int .i64 (-1)) ∧ w = w' := by
  unfold maxLen at hn
  go_enter Try.func32, Try.ntmps32
  go_wp2_with fail
  go_ret
  exact ⟨rfl, rfl⟩
end Go.Proofs.Ytjflkapdnnecjaa
