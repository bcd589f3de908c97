/- Textures of the model: validity and texels. -/
import Derived.Test.YtaelhbbfddcabaaProg
import Derived.Test.YtaelhbbfddcabaaInts
import Derived.Test.YtaelhbbfddcabaaVbox
import Derived.Test.YtaelhbbfddcabaaHeld
import Derived.Test.YtaelhbbfddcabaaMem
import Derived.Test.YtaelhbbfddcabaaFlat
import Derived.Test.YtaelhbbfddcabaaRowC
import Derived.Test.YtaelhbbfddcabaaKS
import Derived.Test.YtaelhbbfddcabaaStrS
import Derived.Test.YtaelhbbfddcabaaIntS
import Derived.Test.YtaelhbbfddcabaaSS
import Derived.Test.YtaelhbbfddcabaaVi
import Derived.Test.YtaelhbbfddcabaaVa
import Derived.Test.YtaelhbbfddcabaaVb
import Derived.Test.YtaelhbbfddcabaaVc
import Derived.WalkKit
import Derived.WalkSpells
import Derived.WalkLawsBesides
import Derived.Lib.Hide
import Derived.Deep.RegionHeld3
import Derived.Deep.QuietTactic
import Derived.BigQuiet
import Derived.Handy
import Derived.Deep.DeepCutAuto
import Derived.OwnWalk
namespace Go.Proofs.Ytaelhbbfddcabaa
open Go.RowKit

theorem okX_iff {L : Int} {ts : List Int} : okX L ts = true ↔ okTx L ts := by simp [okX]
theorem okX_no {L : Int} {ts : List Int} (h : ¬ okTx L ts) : okX L ts = false := by simp [okX, h]

set_option maxRecDepth 100000 in
set_option maxHeartbeats 8000000 in
theorem sIsValidT_big (L : Int) (A : Option Addr) (c : Nat) (ts : List Int) (w : World) (hR : Row I64 w w.heap.size A ts) (hl : ts.length ≤ 1099511627776) :
    Calls Try.prog 68 #[txv L A ts.length c] w fun e w' => e = .returned (.bool (okX L ts)) ∧ Below w.heap.size w w' := by
  have M := Mbox.new w #[.int .i64 L, .slice A ts.length c] 25
  have hB : Below w.heap.size w (w.alloc (.cells #[.int .i64 L, .slice A ts.length c] 25)) := by go_grown
  obtain ⟨W1, hW1⟩ : ∃ W, W = w.alloc (.cells #[.int .i64 L, .slice A ts.length c] 25) := ⟨_, rfl⟩
  have hR1 := hR.later hB
  rw [← hW1] at M hB hR1
  have HM := Lib.hid M
  have HB := Lib.hid hB
  have HR := Lib.hid hR1
  have m0 := M.c 0
  have m1 := M.c 1
  clear M hB hR1 hR
  have HI := Lib.hid (fun W => l01InV L 0 4 W)
  by_cases hL : 0 ≤ L ∧ L ≤ 4
  · rw [(inV_iff ..).2 hL] at HI
    have HS := Lib.hid (fun W => sSize_any L W hL)
    have hsq := sq_le hL
    obtain ⟨s, hs⟩ : ∃ s, s = sd L := ⟨_, rfl⟩
    rw [← hs] at HS hsq
    have hs16 : s ≤ 16 := by rw [hs]; exact sd_le hL
    have ew : IntKind.i64.wrap ((s : Int) * (s : Int)) = (s : Int) * (s : Int) := wrap_v (by rw [← Int.natCast_mul]; omega)
    by_cases hlen : ts.length = s * s
    · have hq : ((ts.length : Int) != (s : Int) * (s : Int)) = false := by rw [← Int.natCast_mul, hlen]; simp
      have HOK : Hid (okTx L ts ↔ ∀ x ∈ ts, 0 ≤ x ∧ x ≤ 256) := Lib.hid ⟨fun h => h.2.2, fun h => ⟨hL, by rw [← hs]; exact hlen, h⟩⟩
      clear hs hL hsq hlen
      go_enter Try.func68, Try.ntmps68
      go_upto_region 1 with fail
      rw [← hW1]
      clear hW1
      go_quiet (first | (go_at_call 60; with_reducible exact Calls.quiet_of_same ((HI.out _).mono fun _ _ h => ⟨h.1, h.2.symm⟩)) | (go_at_call 64; with_reducible exact Calls.quiet_of_same ((HS.out _).mono fun _ _ h => h)))
      have m1 := (HM.out.drewN nq).c 1
      have HRD : Hid (Row I64 (W1.drewN nq) W1.heap.size A ts) := Lib.hid HR.out
      have HBD := Lib.hid (below_drewN HB.out nq)
      obtain ⟨W2, hW2⟩ : ∃ W, W = W1.drewN nq := ⟨_, rfl⟩
      rw [← hW2] at m1 HRD HBD ⊢
      clear hW2 hq ew m0
      go_wp2_with fail
      go_loop [25] (fun i => ∃ k : Nat, k ≤ ts.length ∧ i = .int .i64 k ∧ ∀ j (h : j < ts.length), j < k → 0 ≤ ts[j] ∧ ts[j] ≤ 256) (fun i => ts.length - (intOf i).toNat)
      case atStart => exact ⟨0, Nat.zero_le _, rfl, fun j _ h => by omega⟩
      case round =>
        obtain ⟨k, hk, rfl, hno⟩ := hrel
        have HNO := Lib.hid hno
        clear hno
        by_cases hlt : k < ts.length
        · obtain ⟨b, o, rfl, _, hc⟩ := HRD.out.at hlt
          obtain ⟨x, hx⟩ : ∃ x, x = ts[k] := ⟨_, rfl⟩
          have HX := Lib.hid hx
          rw [← hx] at hc
          have HIX := Lib.hid (l01InV x 0 256 W2)
          have hlt' : (k : Int) < (ts.length : Int) := by omega
          have hge' : (0 : Int) ≤ (k : Int) := by omega
          clear hx
          by_cases hin : 0 ≤ x ∧ x ≤ 256
          · rw [(inV_iff ..).2 hin] at HIX
            have HN2 : Hid (∀ j (h : j < ts.length), j < k + 1 → 0 ≤ ts[j] ∧ ts[j] ≤ 256) := Lib.hid (fun j h hj => by
              by_cases e : j = k
              · subst e
                rw [← HX.out]
                exact hin
              · exact HNO.out j h (by omega))
            clear hin
            go_wp2_with fail
            refine HIX.out.mono ?_
            rintro e w3 ⟨rfl, rfl⟩
            go_wp2_with fail
            go_round
            case rel => exact ⟨k + 1, by omega, by go_num, HN2.out⟩
            case measure => simp [intOf]; omega
          · rw [inV_no hin] at HIX
            have HV : Hid (okX L ts = false) := Lib.hid (okX_no (fun h => hin (by have := HOK.out.1 h _ (List.getElem_mem hlt); rw [← HX.out] at this; exact this)))
            clear hin
            go_wp2_with fail
            refine HIX.out.mono ?_
            rintro e w3 ⟨rfl, rfl⟩
            go_wp2_with fail
            go_ret
            exact ⟨by rw [HV.out]; rfl, HBD.out⟩
        · obtain rfl : k = ts.length := by omega
          have HV : Hid (okX L ts = true) := Lib.hid (okX_iff.2 (HOK.out.2 (fun x hx => by
            obtain ⟨j, hj, rfl⟩ := List.getElem_of_mem hx
            exact HNO.out j hj hj)))
          have hge2 : ¬ ((ts.length : Nat) : Int) < ((ts.length : Nat) : Int) := by omega
          go_wp2_with fail
          go_ret
          exact ⟨by rw [HV.out]; rfl, HBD.out⟩
    · have hq : ((ts.length : Int) != (s : Int) * (s : Int)) = true := by rw [bne_iff_ne, ← Int.natCast_mul]; omega
      have HV : Hid (okX L ts = false) := Lib.hid (okX_no (fun h => hlen (by rw [hs]; exact h.2.1)))
      clear hs hL hsq hlen
      go_enter Try.func68, Try.ntmps68
      go_upto_region 1 with fail
      rw [← hW1]
      clear hW1
      go_quiet (first | (go_at_call 60; with_reducible exact Calls.quiet_of_same ((HI.out _).mono fun _ _ h => ⟨h.1, h.2.symm⟩)) | (go_at_call 64; with_reducible exact Calls.quiet_of_same ((HS.out _).mono fun _ _ h => h)))
      go_wp2
      go_ret
      exact ⟨by rw [HV.out]; rfl, below_drewN HB.out nq⟩
  · rw [inV_no hL] at HI
    have HV : Hid (okX L ts = false) := Lib.hid (okX_no (fun h => hL h.1))
    clear hL
    go_enter Try.func68, Try.ntmps68
    go_upto_region 1 with fail
    rw [← hW1]
    clear hW1
    go_quiet ((go_at_call 60; with_reducible exact Calls.quiet_of_same ((HI.out _).mono fun _ _ h => ⟨h.1, h.2.symm⟩)))
    go_wp2
    go_ret
    exact ⟨by rw [HV.out]; rfl, below_drewN HB.out nq⟩
theorem sIsValidT_any (L : Int) (A : Option Addr) (c : Nat) (ts : List Int) (w : World) (hR : Row I64 w w.heap.size A ts) (hl : ts.length ≤ 1048576) :
    Calls Try.prog 68 #[txv L A ts.length c] w fun e w' => e = .returned (.bool (okX L ts)) ∧ Below w.heap.size w w' := sIsValidT_big L A c ts w hR (by omega)

set_option maxRecDepth 100000 in
set_option maxHeartbeats 8000000 in
theorem sTxl_any (L : Int) (A : Option Addr) (c : Nat) (ts : List Int) (x y : Int) (w : World) (hR : Row I64 w w.heap.size A ts) (hok : okTx L ts) :
    Calls Try.prog 94 #[txv L A ts.length c, .int .i64 x, .int .i64 y] w fun e w' => e = .returned (.int .i64 (txl L ts x y)) ∧ Below w.heap.size w w' := by
  obtain ⟨hk, hV⟩ := txl_at hok x y
  have hlen := hok.2.1
  have hbx := tmod_bd x (sd_pos (L := L))
  have hby := tmod_bd y (sd_pos (L := L))
  have hwx := wrp_lt x (sd_pos (L := L))
  have hwy := wrp_lt y (sd_pos (L := L))
  have ex := tmod_wrp x (sd_pos (L := L))
  have ey := tmod_wrp y (sd_pos (L := L))
  have hs16 := sd_le hok.1
  have hs0 := sd_pos (L := L)
  have M := Mbox.new w #[.int .i64 L, .slice A ts.length c] 25
  have hB : Below w.heap.size w (w.alloc (.cells #[.int .i64 L, .slice A ts.length c] 25)) := by go_grown
  obtain ⟨W1, hW1⟩ : ∃ W, W = w.alloc (.cells #[.int .i64 L, .slice A ts.length c] 25) := ⟨_, rfl⟩
  have hR1 := hR.later hB
  rw [← hW1] at M hB hR1
  have HM := Lib.hid M
  have HB := Lib.hid hB
  have HR := Lib.hid hR1
  have m0 := M.c 0
  have m1 := M.c 1
  clear M hB hR1 hR
  have HS := Lib.hid (sSize_any L W1 hok.1)
  obtain ⟨s, hs⟩ : ∃ s, s = sd L := ⟨_, rfl⟩
  rw [← hs] at HS hbx hby hwx hwy ex ey hs16 hs0 hlen
  obtain ⟨b, o, hA, hbl, hc⟩ := HR.out.at hk
  rw [← hV] at hc
  have hVH := Lib.hid hV
  rw [← hs] at hc hk
  obtain ⟨z, hz⟩ : ∃ z, z = txl L ts x y := ⟨_, rfl⟩
  have HZ := Lib.hid hz
  rw [← hz] at hc
  obtain ⟨wx, hwx'⟩ : ∃ v, v = wrp x s := ⟨_, rfl⟩
  obtain ⟨wy, hwy'⟩ : ∃ v, v = wrp y s := ⟨_, rfl⟩
  rw [← hwx'] at hwx ex hc hk
  rw [← hwy'] at hwy ey hc hk
  clear hs hwx' hwy' hz hV hok
  have hw2 : wy * s ≤ 256 := by
    have h1 : wy * s ≤ 16 * 16 := Nat.mul_le_mul (by omega) hs16
    omega
  have e1 : IntKind.i64.wrap (x.tmod s) = x.tmod s := wrap_v (by omega)
  have e2 : IntKind.i64.wrap (x.tmod s + s) = x.tmod s + s := wrap_v (by omega)
  have e3 : IntKind.i64.wrap (wx : Int) = wx := wrap_v (by omega)
  have e4 : IntKind.i64.wrap (y.tmod s) = y.tmod s := wrap_v (by omega)
  have e5 : IntKind.i64.wrap (y.tmod s + s) = y.tmod s + s := wrap_v (by omega)
  have e6 : IntKind.i64.wrap (wy : Int) = wy := wrap_v (by omega)
  have e7 : IntKind.i64.wrap ((wy : Int) * (s : Int)) = (wy : Int) * (s : Int) := wrap_v (by rw [← Int.natCast_mul]; omega)
  have e8 : IntKind.i64.wrap ((wy : Int) * (s : Int) + (wx : Int)) = ((wy * s + wx : Nat) : Int) := by rw [show (wy : Int) * (s : Int) + (wx : Int) = ((wy * s + wx : Nat) : Int) by rw [Int.natCast_add, Int.natCast_mul]]; exact wrap_v (by omega)
  have hsn : ¬ (s : Int) = 0 := by omega
  have hsn2 : ¬ s = 0 := by omega
  obtain ⟨ix, hix⟩ : ∃ i, i = wy * s + wx := ⟨_, rfl⟩
  rw [← hix] at e8 hc hk
  have hilt : (ix : Int) < (ts.length : Int) := by omega
  have hige : (0 : Int) ≤ (ix : Int) := by omega
  subst hA
  clear hbx hby hwx hwy hs16 hs0 hlen hw2 hix
  go_enter Try.func94, Try.ntmps94
  go_upto_region 1 with fail
  rw [← hW1]
  clear hW1
  go_wp2_with fail
  refine HS.out.mono ?_
  rintro e w2 ⟨rfl, rfl⟩
  go_wp2_with fail
  go_ret
  exact ⟨by rw [← HZ.out]; rfl, HB.out⟩

end Go.Proofs.Ytaelhbbfddcabaa
