/- Textures of the model: validity and texels. -/
import Derived.Test.YtjbpfgaakkkaaaaDoorProg
import Derived.Test.YtjbpfgaakkkaaaaDoorInts
import Derived.Test.YtjbpfgaakkkaaaaDoorVbox
import Derived.Test.YtjbpfgaakkkaaaaDoorHeld
import Derived.Test.YtjbpfgaakkkaaaaDoorMem
import Derived.Test.YtjbpfgaakkkaaaaDoorFlat
import Derived.Test.YtjbpfgaakkkaaaaDoorRowC
import Derived.Test.YtjbpfgaakkkaaaaDoorKS
import Derived.Test.YtjbpfgaakkkaaaaDoorStrS
import Derived.Test.YtjbpfgaakkkaaaaDoorIntS
import Derived.Test.YtjbpfgaakkkaaaaDoorSS
import Derived.Test.YtjbpfgaakkkaaaaDoorVi
import Derived.Test.YtjbpfgaakkkaaaaDoorVa
import Derived.Test.YtjbpfgaakkkaaaaDoorVb
import Derived.Test.YtjbpfgaakkkaaaaDoorVc
import Derived.WalkKit
import Derived.WalkSpells
import Derived.WalkLawsBesides
import Derived.Lib.Hide
import Derived.Deep.RegionHeld3
import Derived.Deep.QuietTactic
import Derived.BigQuiet
import Derived.Handy
import Derived.Deep.DeepCutAuto
import Derived.OwnWalk
namespace Go.Proofs.YtjbpfgaakkkaaaaDoor
open Go.RowKit

theorem okX_iff {L : Int} {ts : List Int} : okX L ts = true ↔ okTx L ts := by simp [okX]
theorem okX_no {L : Int} {ts : List Int} (h : ¬ okTx L ts) : okX L ts = false := by simp [okX, h]

set_option maxRecDepth 100000 in
set_option maxHeartbeats 8000000 in
theorem sIsValidT_big (L : Int) (A : Option Addr) (c : Nat) (ts : List Int) (w : World) (hR : Row I64 w w.heap.size A ts) (hl : ts.length ≤ 1099511627776) :
    Calls Tryd.prog 35 #[txv L A ts.length c] w fun e w' => e = .returned (.bool (okX L ts)) ∧ Below w.heap.size w w' := by
  have M := Mbox.new w #[.int .i64 L, .slice A ts.length c] 25
  have hB : Below w.heap.size w (w.alloc (.cells #[.int .i64 L, .slice A ts.length c] 25)) := by go_grown
  obtain ⟨W1, hW1⟩ : ∃ W, W = w.alloc (.cells #[.int .i64 L, .slice A ts.length c] 25) := ⟨_, rfl⟩
  have hR1 := hR.later hB
  rw [← hW1] at M hB hR1
  have HM := Lib.hid M
  have HB := Lib.hid hB
  have HR := Lib.hid hR1
  have m0 := M.c 0
  have m1 := M.c 1
  clear M hB hR1 hR
  have HI := Lib.hid (fun W => l01InV L 0 4 W)
  by_cases hL : 0 ≤ L ∧ L ≤ 4
  · rw [(inV_iff ..).2 hL] at HI
    have HS := Lib.hid (fun W => sSize_any L W hL)
    have hsq := sq_le hL
    obtain ⟨s, hs⟩ : ∃ s, s = sd L := ⟨_, rfl⟩
    rw [← hs] at HS hsq
    have hs16 : s ≤ 16 := by rw [hs]; exact sd_le hL
    have ew : IntKind.i64.wrap ((s : Int) * (s : Int)) = (s : Int) * (s : Int) := wrap_v (by rw [← Int.natCast_mul]; omega)
    by_cases hlen : ts.length = s * s
    · have hq : ((ts.length : Int) != (s : Int) * (s : Int)) = false := by rw [← Int.natCast_mul, hlen]; simp
      have HOK : Hid (okTx L ts ↔ ∀ x ∈ ts, 0 ≤ x ∧ x ≤ 256) := Lib.hid ⟨fun h => h.2.2, fun h => ⟨hL, by rw [← hs]; exact hlen, h⟩⟩
      clear hs hL hsq hlen
      go_enter Tryd.func35, Tryd.ntmps35
      go_upto_region 1 with fail
      rw [← hW1]
      clear hW1
      go_quiet (first | (go_at_call 61; with_reducible exact Calls.quiet_of_same ((HI.out _).mono fun _ _ h => ⟨h.1, h.2.symm⟩)) | (go_at_call 46; with_reducible exact Calls.quiet_of_same ((HS.out _).mono fun _ _ h => h)))
      have m1 := (HM.out.drewN nq).c 1
      have HRD : Hid (Row I64 (W1.drewN nq) W1.heap.size A ts) := Lib.hid HR.out
      have HBD := Lib.hid (below_drewN HB.out nq)
      obtain ⟨W2, hW2⟩ : ∃ W, W = W1.drewN nq := ⟨_, rfl⟩
      rw [← hW2] at m1 HRD HBD ⊢
      clear hW2 hq ew m0
      go_wp2_with fail
      go_loop [25] (fun i => ∃ k : Nat, k ≤ ts.length ∧ i = .int .i64 k ∧ ∀ j (h : j < ts.length), j < k → 0 ≤ ts[j] ∧ ts[j] ≤ 256) (fun i => ts.length - (intOf i).toNat)
      case atStart => exact ⟨0, Nat.zero_le _, rfl, fun j _ h => by omega⟩
      case round =>
        obtain ⟨k, hk, rfl, hno⟩ := hrel
        have HNO := Lib.hid hno
        clear hno
        by_cases hlt : k < ts.length
        · obtain ⟨b, o, rfl, _, hc⟩ := HRD.out.at hlt
          obtain ⟨x, hx⟩ : ∃ x, x = ts[k] := ⟨_, rfl⟩
          have HX := Lib.hid hx
          rw [← hx] at hc
          have HIX := Lib.hid (l01InV x 0 256 W2)
          have hlt' : (k : Int) < (ts.length : Int) := by omega
          have hge' : (0 : Int) ≤ (k : Int) := by omega
          clear hx
          by_cases hin : 0 ≤ x ∧ x ≤ 256
          · rw [(inV_iff ..).2 hin] at HIX
            have HN2 : Hid (∀ j (h : j < ts.length), j < k + 1 → 0 ≤ ts[j] ∧ ts[j] ≤ 256) := Lib.hid (fun j h hj => by
              by_cases e : j = k
              · subst e
                rw [← HX.out]
                exact hin
              · exact HNO.out j h (by omega))
            clear hin
            go_wp2_with fail
            refine HIX.out.mono ?_
            rintro e w3 ⟨rfl, rfl⟩
            go_wp2_with fail
            go_round
            case rel => exact ⟨k + 1, by omega, by go_num, HN2.out⟩
            case measure => simp [intOf]; omega
          · rw [inV_no hin] at HIX
            have HV : Hid (okX L ts = false) := Lib.hid (okX_no (fun h => hin (by have := HOK.out.1 h _ (List.getElem_mem hlt); rw [← HX.out] at this; exact this)))
            clear hin
            go_wp2_with fail
            refine HIX.out.mono ?_
            rintro e w3 ⟨rfl, rfl⟩
            go_wp2_with fail
            go_ret
            exact ⟨by rw [HV.out]; rfl, HBD.out⟩
        · obtain rfl : k = ts.length := by omega
          have HV : Hid (okX L ts = true) := Lib.hid (okX_iff.2 (HOK.out.2 (fun x hx => by
            obtain ⟨j, hj, rfl⟩ := List.getElem_of_mem hx
            exact HNO.out j hj hj)))
          have hge2 : ¬ ((ts.length : Nat) : Int) < ((ts.length : Nat) : Int) := by omega
          go_wp2_with fail
          go_ret
          exact ⟨by rw [HV.out]; rfl, HBD.out⟩
    · have hq : ((ts.length : Int) != (s : Int) * (s : Int)) = true := by rw [bne_iff_ne, ← Int.natCast_mul]; omega
      have HV : Hid (okX L ts = false) := Lib.hid (okX_no (fun h => hlen (by rw [hs]; exact h.2.1)))
      clear hs hL hsq hlen
      go_enter Tryd.func35, Tryd.ntmps35
      go_upto_region 1 with fail
      rw [← hW1]
      clear hW1
      go_quiet (first | (go_at_call 61; with_reducible exact Calls.quiet_of_same ((HI.out _).mono fun _ _ h => ⟨h.1, h.2.symm⟩)) | (go_at_call 46; with_reducible exact Calls.quiet_of_same ((HS.out _).mono fun _ _ h => h)))
      go_wp2
      go_ret
      exact ⟨by rw [HV.out]; rfl, below_drewN HB.out nq⟩
  · rw [inV_no hL] at HI
    have HV : Hid (okX L ts = false) := Lib.hid (okX_no (fun h => hL h.1))
    clear hL
    go_enter Tryd.func35, Tryd.ntmps35
    go_upto_region 1 with fail
    rw [← hW1]
    clear hW1
    go_quiet ((go_at_call 61; with_reducible exact Calls.quiet_of_same ((HI.out _).mono fun _ _ h => ⟨h.1, h.2.symm⟩)))
    go_wp2
    go_ret
    exact ⟨by rw [HV.out]; rfl, below_drewN HB.out nq⟩
theorem sIsValidT_any (L : Int) (A : Option Addr) (c : Nat) (ts : List Int) (w : World) (hR : Row I64 w w.heap.size A ts) (hl : ts.length ≤ 1048576) :
    Calls Tryd.prog 35 #[txv L A ts.length c] w fun e w' => e = .returned (.bool (okX L ts)) ∧ Below w.heap.size w w' := sIsValidT_big L A c ts w hR (by omega)


end Go.Proofs.YtjbpfgaakkkaaaaDoor
