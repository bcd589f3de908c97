/- Contract of SplitSubPatch: the model. -/
import Derived.Test.YtjflkapdnnecjaaProg
import Derived.Test.YtjflkapdnnecjaaInts
import Derived.Test.YtjflkapdnnecjaaVbox
import Derived.Test.YtjflkapdnnecjaaVec
import Derived.Test.YtjflkapdnnecjaaHeld
import Derived.Test.YtjflkapdnnecjaaMem
import Derived.Test.YtjflkapdnnecjaaFlat
import Derived.Test.YtjflkapdnnecjaaRowC
import Derived.Test.YtjflkapdnnecjaaArr
import Derived.Test.YtjflkapdnnecjaaTr
import Derived.Test.YtjflkapdnnecjaaSub
import Derived.Test.YtjflkapdnnecjaaSplW
import Derived.WalkKit
import Derived.WalkSpells
import Derived.WalkLawsBesides
import Derived.Lib.Hide
import Derived.Deep.RegionHeld3
import Derived.Deep.QuietTactic
import Derived.BigQuiet
import Derived.Handy
import Derived.Deep.DeepCutAuto
namespace Go.Proofs.Ytjflkapdnnecjaa
open Go.RowKit

set_option maxHeartbeats 8000000 in
theorem sSplit_any (u v n : Int) (w : World) :
    Calls Try.prog 27 #[vec u v n] w (SubsOut (splS u v n) w) := by
  have HT : Held w (w.alloc (.cells #[.int .i64 u, .int .i64 v, .int .i64 n] 33)) [(w.heap.size, [.int .i64 u, .int .i64 v, .int .i64 n])] := by
    have h := (Held.nil w).new #[.int .i64 u, .int .i64 v, .int .i64 n] 33
    simpa only [World.size_alloc] using h
  rcases hk : okS u v n with _ | _
  · have HE : Hid (splS u v n = []) := Lib.hid (by unfold splS; rw [if_neg (by rw [hk]; simp)])
    go_enter Try.func27, Try.ntmps27
    go_wp2_with fail
    refine (sIsValidSub_any _ _ _ _).mono ?_
    rintro e w1 ⟨rfl, hb1⟩
    have HT := HT.later hb1
    rw [hk]
    clear hb1 hk
    go_wp2_with fail
    go_ret
    exact ⟨none, 0, by rw [HE.out]; rfl, by rw [HE.out]; exact World.ownsRow_nil _ _ _ _, HT.below⟩
  · by_cases h64 : n = 64
    · have HE : Hid (splS u v n = []) := Lib.hid (by unfold splS; rw [if_neg (fun h => h.2 h64)])
      subst h64
      go_enter Try.func27, Try.ntmps27
      go_wp2_with fail
      refine (sIsValidSub_any _ _ _ _).mono ?_
      rintro e w1 ⟨rfl, hb1⟩
      have HT := HT.later hb1
      rw [hk]
      have c0 := (HT.box 0).c 0
      have c1 := (HT.box 0).c 1
      have c2 := (HT.box 0).c 2
      clear hb1 hk
      go_wp2_with fail
      go_ret
      exact ⟨none, 0, by rw [HE.out]; rfl, by rw [HE.out]; exact World.ownsRow_nil _ _ _ _, HT.below⟩
    · have HE : Hid (splS u v n = quar u v n) := Lib.hid (by unfold splS; rw [if_pos ⟨hk, h64⟩])
      have hb := (okS_iff u v n).1 hk
      have hu : 0 ≤ u ∧ u ≤ 64 := by omega
      have hv : 0 ≤ v ∧ v ≤ 64 := by omega
      have hn : 1 ≤ n ∧ n ≤ 64 := by omega
      have hd : (n == 64) = false := by simpa using h64
      have HK := Lib.hid hk
      have HU := Lib.hid hu
      have HV := Lib.hid hv
      have HNN := Lib.hid hn
      clear hb hu hv hn hk h64
      go_enter Try.func27, Try.ntmps27
      go_wp2_with fail
      refine (sIsValidSub_any _ _ _ _).mono ?_
      rintro e w1 ⟨rfl, hb1⟩
      have HT := HT.later hb1
      have hs1 := hb1.size
      simp only [World.size_alloc] at hs1
      rw [HK.out]
      have c0 := (HT.box 0).c 0
      have c1 := (HT.box 0).c 1
      have c2 := (HT.box 0).c 2
      clear hb1
      have ho0 : (w1.alloc (.cells #[] 33)).ownsRow w1.heap.size 33 3 (.slice (some ⟨w1.heap.size, 0, none⟩) 0 0) 0 (((quar u v n).take 0).flatMap vg) := World.ownsRow_made w1 #[] 0 (Nat.le_refl _) (by unfold maxLen; omega) rfl
      obtain ⟨B, hB⟩ : ∃ B, B = w1.heap.size := ⟨_, rfl⟩
      have hB1 : w.heap.size + 1 ≤ B := by omega
      have ho1 : (w1.alloc (.cells #[] 33)).ownsRow B 33 3 (.slice (some ⟨w1.heap.size, 0, none⟩) 0 0) 0 (((quar u v n).take 0).flatMap vg) := by rw [hB]; exact ho0
      have HO0 := Lib.hid ho1
      have HT0 := Lib.hid (HT.alloc (.cells #[] 33))
      have HS0 := Lib.hid (show B ≤ (w1.alloc (.cells #[] 33)).heap.size by simp; omega)
      clear ho0 ho1 hB HT hs1
      go_upto_region 4 with fail
      clear c0 c1 c2 hd
      go_wp2
      go_loopw [3, 4] (fun s i wr => ∃ k : Nat, k ≤ 2 ∧ i = .int .i64 k ∧ wr.ownsRow B 33 3 s (2 * k) (((quar u v n).take (2 * k)).flatMap vg) ∧ Held w wr [(w.heap.size, [.int .i64 u, .int .i64 v, .int .i64 n])] ∧ B ≤ wr.heap.size) (fun _ i _ => 2 - (intOf i).toNat)
      case atStart => exact ⟨0, Nat.zero_le _, rfl, HO0.out, HT0.out, HS0.out⟩
      case round =>
        obtain ⟨k, hk, rfl, hown, HT, hsz⟩ := hrel
        have HO := Lib.hid hown
        have HS := Lib.hid hsz
        clear hown hsz HO0 HT0 HS0
        by_cases hlt : k < 2
        · have hlt' : (k : Int) < 2 := by omega
          have HLT := Lib.hid hlt
          clear hlt hk
          go_wp2
          go_loopw [3, 5] (fun s i wr => ∃ j : Nat, j ≤ 2 ∧ i = .int .i64 j ∧ wr.ownsRow B 33 3 s (2 * k + j) (((quar u v n).take (2 * k + j)).flatMap vg) ∧ Held w wr [(w.heap.size, [.int .i64 u, .int .i64 v, .int .i64 n])] ∧ B ≤ wr.heap.size) (fun _ i _ => 2 - (intOf i).toNat)
          case atStart => exact ⟨0, Nat.zero_le _, rfl, HO.out, HT, HS.out⟩
          case round =>
            clear HT HO HS
            obtain ⟨j, hj, rfl, hown, HT, hsz⟩ := hrel
            have HO := Lib.hid hown
            have HS := Lib.hid hsz
            clear hown hsz
            by_cases hjt : j < 2
            · have hjt' : (j : Int) < 2 := by omega
              have HQ := Lib.hid (quar_step u v n j k hjt HLT.out)
              have HJT := Lib.hid hjt
              have hu := HU.out
              have hv := HV.out
              have hn := HNN.out
              have hjk : 2 * k + j ≤ 4 := by have := HLT.out; omega
              have HWR := Lib.hid (HT.alloc (.cells #[.int .i64 (2 * u + (j : Int)), .int .i64 (2 * v + (k : Int)), .int .i64 (2 * n)] 33))
              have c0 := (HT.box 0).c 0
              have c1 := (HT.box 0).c 1
              have c2 := (HT.box 0).c 2
              clear hjt hj
              go_wp2_with (at_builtin; refine wpList_app3 _ rfl _ _ 30 rfl B 33 (vec 0 0 0) 24 Try.underlying30 infoSub rfl _ _ _ (by rfl) HO.out _ _ _ (by rfl) ⟨by rfl, by rfl, by rfl⟩ (by unfold maxLen; omega) (by omega) HS.out ?_)
              intro v' w4 ho4 hg4
              have HO4 := Lib.hid ho4
              have HB4 := Lib.hid ((Below.refl B _).grown hg4 HS.out (own_block HO.out))
              have HT4 := Lib.hid (HT.laterS HB4.out (by omega) (by simp <;> omega))
              have HS4 := Lib.hid (Nat.le_trans HS.out hg4.size)
              clear ho4 hg4 HT HWR c0 c1 c2 hjk
              go_wp2_with fail
              go_roundw
              case rel => exact ⟨j + 1, by have := HJT.out; omega, by go_num, by
                have h := HO4.out
                rw [← Nat.add_assoc, HQ.out, List.flatMap_append]
                exact h, HT4.out, HS4.out⟩
              case measure => have := HJT.out; simp [intOf]; omega
            · have e : j = 2 := by omega
              subst e
              have HLT2 := Lib.hid HLT.out
              clear hj hjt
              go_wp2
              go_roundw
              case rel => exact ⟨k + 1, by have := HLT.out; omega, by go_num, by have h := HO.out; rw [show 2 * (k + 1) = 2 * k + 2 by omega]; exact h, HT, HS.out⟩
              case measure => have := HLT.out; simp [intOf]; omega
        · have e : k = 2 := by omega
          subst e
          clear hk hlt
          obtain ⟨A2, c2, rfl⟩ := own_shape HO.out
          go_wp2
          go_ret
          exact ⟨A2, c2, by rw [HE.out]; rfl, by
            rw [HE.out]
            exact own_base HO.out (base' := w.heap.size) (by omega), HT.below⟩
end Go.Proofs.Ytjflkapdnnecjaa
