/- The model's lexer: l12Digit, l12Letter, l12Number, l12Scan, Tokenize. -/
import Derived.Test.YtkbdnjhgcoihhaaGreatDoorProg
import Derived.Test.YtkbdnjhgcoihhaaGreatDoorInts
import Derived.Test.YtkbdnjhgcoihhaaGreatDoorVbox
import Derived.Test.YtkbdnjhgcoihhaaGreatDoorHeld
import Derived.Test.YtkbdnjhgcoihhaaGreatDoorMem
import Derived.Test.YtkbdnjhgcoihhaaGreatDoorFlat
import Derived.Test.YtkbdnjhgcoihhaaGreatDoorRowC
import Derived.Test.YtkbdnjhgcoihhaaGreatDoorKS
import Derived.Test.YtkbdnjhgcoihhaaGreatDoorStrS
import Derived.Test.YtkbdnjhgcoihhaaGreatDoorTok
import Derived.Test.YtkbdnjhgcoihhaaGreatDoorFn
import Derived.Test.YtkbdnjhgcoihhaaGreatDoorTp
import Derived.WalkKit
import Derived.WalkSpells
import Derived.WalkLawsBesides
import Derived.Lib.Hide
import Derived.Deep.RegionHeld3
import Derived.Deep.QuietTactic
import Derived.BigQuiet
import Derived.Handy
import Derived.Deep.DeepCutAuto
import Derived.Deep.CutRange
namespace Go.Proofs.YtkbdnjhgcoihhaaGreatDoor
open Go.RowKit

theorem p6_bd {k : Nat} (h : k ≤ 6) : 1 ≤ p10 k ∧ p10 k ≤ 1000000 := ⟨Nat.pow_pos (by omega), Nat.le_trans (Nat.pow_le_pow_right (n := 10) (by omega) h) (by decide)⟩
theorem p10_succ (k : Nat) : p10 (k + 1) = p10 k * 10 := Nat.pow_succ ..

theorem sDig_any (b : UInt8) (w : World) :
    Calls Tryz.prog 37 #[.int .u8 b.toNat] w fun e w' => e = .returned (.bool (digB b)) ∧ w = w' := by
  unfold digB
  by_cases h0 : 48 ≤ b.toNat
  · by_cases h1 : b.toNat ≤ 57
    · have b0 : decide ((48 : Int) ≤ (b.toNat : Int)) = true := decide_eq_true (by omega)
      have b1 : decide ((b.toNat : Int) ≤ 57) = true := decide_eq_true (by omega)
      go_enter Tryz.func37, Tryz.ntmps37
      go_wp2
      go_ret
      exact ⟨by simp [h0, h1], rfl⟩
    · have b0 : decide ((48 : Int) ≤ (b.toNat : Int)) = true := decide_eq_true (by omega)
      have b1 : decide ((b.toNat : Int) ≤ 57) = false := decide_eq_false (by omega)
      go_enter Tryz.func37, Tryz.ntmps37
      go_wp2
      go_ret
      exact ⟨by simp [h0, h1], rfl⟩
  · have b0 : decide ((48 : Int) ≤ (b.toNat : Int)) = false := decide_eq_false (by omega)
    go_enter Tryz.func37, Tryz.ntmps37
    go_wp2
    go_ret
    exact ⟨by simp [h0], rfl⟩

theorem sLet_any (b : UInt8) (w : World) :
    Calls Tryz.prog 39 #[.int .u8 b.toNat] w fun e w' => e = .returned (.bool (letB b)) ∧ w = w' := by
  unfold letB
  by_cases h0 : 97 ≤ b.toNat
  · by_cases h1 : b.toNat ≤ 122
    · have b0 : decide ((97 : Int) ≤ (b.toNat : Int)) = true := decide_eq_true (by omega)
      have b1 : decide ((b.toNat : Int) ≤ 122) = true := decide_eq_true (by omega)
      go_enter Tryz.func39, Tryz.ntmps39
      go_wp2
      go_ret
      exact ⟨by simp [h0, h1], rfl⟩
    · have b0 : decide ((97 : Int) ≤ (b.toNat : Int)) = true := decide_eq_true (by omega)
      have b1 : decide ((b.toNat : Int) ≤ 122) = false := decide_eq_false (by omega)
      go_enter Tryz.func39, Tryz.ntmps39
      go_wp2
      go_ret
      exact ⟨by simp [h0, h1], rfl⟩
  · have b0 : decide ((97 : Int) ≤ (b.toNat : Int)) = false := decide_eq_false (by omega)
    go_enter Tryz.func39, Tryz.ntmps39
    go_wp2
    go_ret
    exact ⟨by simp [h0], rfl⟩

def NumOut (s : ByteArray) (k : Nat) (w : World) (e : Ending) (w' : World) : Prop := Below w.heap.size w w' ∧ match numS s k with
  | none => ∃ (q : Nat) (v : Int), e = .returned (.tuple #[.int .i64 q, .int .i64 v, .bool false]) ∧ k ≤ q ∧ q ≤ s.size
  | some (m, v) => e = .returned (.tuple #[.int .i64 (k + m : Nat), .int .i64 v, .bool true])

set_option maxRecDepth 100000 in
set_option maxHeartbeats 4000000 in
theorem sNum_any (s : ByteArray) (k : Nat) (w : World) (hk : k ≤ s.size) (hs : s.size ≤ 2000) :
    Calls Tryz.prog 38 #[.string s, .int .i64 k] w (NumOut s k w) := by
  have hle := runP_le (p := digB) (s := s) hk
  obtain ⟨n, hn⟩ : ∃ n, n = runP digB s k := ⟨_, rfl⟩
  go_enter Tryz.func38, Tryz.ntmps38
  go_wp2_with fail
  go_loop [7, 8] (fun i x => ∃ q : Nat, k ≤ q ∧ q ≤ k + n ∧ q ≤ k + 6 ∧ i = .int .i64 q ∧ x = .int .i64 (lval (dg s k (q - k)) : Nat)) (fun i _ => s.size - (intOf i).toNat)
  case atStart => exact ⟨k, Nat.le_refl _, by omega, by omega, rfl, by rw [Nat.sub_self, dg_zero]; rfl⟩
  case round =>
    obtain ⟨q, hq1, hq2, hq3, rfl, rfl⟩ := hrel
    have hx6 := lval6 (s := s) (k := k) (n := q - k) (by omega) (by omega) (by omega)
    obtain ⟨x, hx⟩ : ∃ x, x = lval (dg s k (q - k)) := ⟨_, rfl⟩
    rw [← hx] at hx6 ⊢
    have HX := Lib.hid hx
    clear hx
    go_upto_region 3 with fail
    go_cut [28] from 13 to 38 (fun y wx => w = wx ∧ ∃ c : Bool, y = .bool c ∧ (c = true → ∃ hl : q < s.size, digB s[q] = true ∧ q ≤ k + 5) ∧ (c = false → q = k + 6 ∨ q = k + n))
    case first =>
      by_cases hl : q < s.size
      · have hdc := fun W => sDig_any s[q] W
        have hl' : (q : Int) < (s.size : Int) := by omega
        cases hd : digB s[q] with
        | true =>
          rw [hd] at hdc
          have HD := Lib.hid hdc
          have HDD := Lib.hid hd
          clear hdc hd
          by_cases h5 : q ≤ k + 5
          · have h5' : decide ((q : Int) - (k : Int) ≤ 5) = true := decide_eq_true (by omega)
            go_wp2_with (go_at_call 37; refine (HD.out _).mono ?_; rintro e w1 ⟨rfl, rfl⟩)
            go_meet
            exact ⟨rfl, true, rfl, fun _ => ⟨hl, HDD.out, h5⟩, fun e => by cases e⟩
          · have h5' : decide ((q : Int) - (k : Int) ≤ 5) = false := decide_eq_false (by omega)
            go_wp2_with (go_at_call 37; refine (HD.out _).mono ?_; rintro e w1 ⟨rfl, rfl⟩)
            go_meet
            exact ⟨rfl, false, rfl, (fun e => by cases e), fun _ => .inl (by omega)⟩
        | false =>
          rw [hd] at hdc
          have HD := Lib.hid hdc
          have HDD := Lib.hid hd
          clear hdc hd
          go_wp2_with (go_at_call 37; refine (HD.out _).mono ?_; rintro e w1 ⟨rfl, rfl⟩)
          go_meet
          exact ⟨rfl, false, rfl, (fun e => by cases e), fun _ => .inr (by have := run_stop (p := digB) (s := s) (k := k) (q := q) (by omega) (by omega) (by omega) (fun _ => HDD.out); omega)⟩
      · have hl' : ¬ (q : Int) < (s.size : Int) := by omega
        go_wp2_with fail
        go_meet
        exact ⟨rfl, false, rfl, (fun e => by cases e), fun _ => .inr (by have := run_stop (p := digB) (s := s) (k := k) (q := q) (by omega) (by omega) (by omega) (fun h => by omega); omega)⟩
    case rest =>
      obtain ⟨rfl, c, rfl, hc1, hc2⟩ := hcut
      cases c with
      | true =>
        obtain ⟨hl, hd, h5⟩ := hc1 rfl
        have hst := lval_step (s := s) hq1 hl
        rw [← HX.out] at hst
        have hgo := run_go (p := digB) (s := s) (k := k) (q := q) (by omega) hl hd
        have hd2 := (digB_iff _).1 hd
        have HST := Lib.hid hst
        have HGO := Lib.hid hgo
        have hl' : (q : Int) < (s.size : Int) := by omega
        clear hc1 hc2 hst hgo hd
        go_wp2_with fail
        go_round
        case rel => exact ⟨q + 1, by omega, by have := HGO.out; omega, by omega, by go_num, by rw [HST.out]; go_num⟩
        case measure => simp [intOf]; omega
      | false =>
        have hstop := hc2 rfl
        clear hc1 hc2
        by_cases h4 : 4 < n
        · have hgt : decide ((4 : Int) < (q : Int) - (k : Int)) = true := decide_eq_true (by omega)
          have HN : Hid (numS s k = none) := Lib.hid (by unfold numS; rw [← hn, if_pos h4])
          go_wp2_with fail
          exact bodyPost_ret (v := .tuple #[.int .i64 (q : Nat), .int .i64 0, .bool false]) (by simp [results, Tryz.results38, go_sem]) rfl ⟨Below.refl _ _, by rw [HN.out]; exact ⟨q, 0, rfl, hq1, by omega⟩⟩
        · obtain rfl : q = k + n := by omega
          have hgt : decide ((4 : Int) < ((k + n : Nat) : Int) - (k : Int)) = false := decide_eq_false (by omega)
          rw [show k + n - k = n by omega] at HX
          have hN : numS s k = if dotAt s (k + n) = true then (if 1 ≤ runP digB s (k + n + 1) ∧ runP digB s (k + n + 1) ≤ 4 then some (n + 1 + runP digB s (k + n + 1), x * 256 + lval (dg s (k + n + 1) (runP digB s (k + n + 1))) * 256 / 10 ^ runP digB s (k + n + 1)) else none) else some (n, x * 256) := by
            rw [HX.out]; unfold numS; rw [← hn, if_neg h4]
          obtain ⟨g0, hg0⟩ : ∃ g0, g0 = k + n := ⟨_, rfl⟩
          rw [← hg0] at hN hgt ⊢
          have hg1 : (g0 : Int) = (k : Int) + (n : Int) := by omega
          have hkg : k + n = g0 := hg0.symm
          have HG1 := Lib.hid hg1
          have HKG := Lib.hid hkg
          clear hg1 hg0 hstop
          cases hdot : dotAt s g0 with
          | false =>
            rw [hdot, if_neg (by simp)] at hN
            have HN := Lib.hid hN
            clear hN
            by_cases hl : g0 < s.size
            · have hb : (((s[g0]).toNat : Int) != 46) = true := by have := dot_no hdot hl; simp; omega
              have he : ((g0 : Int) == (s.size : Int)) = false := by simp; omega
              go_wp2_with fail
              exact bodyPost_ret (v := .tuple #[.int .i64 (g0 : Nat), .int .i64 ((x * 256 : Nat) : Int), .bool true]) (by simp [results, Tryz.results38, go_sem]) rfl ⟨Below.refl _ _, by rw [HN.out]; show _ = Ending.returned (.tuple #[.int .i64 ((k + n : Nat) : Int), _, _]); rw [HKG.out]⟩
            · have he : ((g0 : Int) == (s.size : Int)) = true := by simp; omega
              go_wp2_with fail
              exact bodyPost_ret (v := .tuple #[.int .i64 (g0 : Nat), .int .i64 ((x * 256 : Nat) : Int), .bool true]) (by simp [results, Tryz.results38, go_sem]) rfl ⟨Below.refl _ _, by rw [HN.out]; show _ = Ending.returned (.tuple #[.int .i64 ((k + n : Nat) : Int), _, _]); rw [HKG.out]⟩
          | true =>
            rw [hdot, if_pos rfl] at hN
            obtain ⟨hl, hd46⟩ := dot_yes hdot
            have hb : (((s[g0]).toNat : Int) != 46) = false := by simp; omega
            have he : ((g0 : Int) == (s.size : Int)) = false := by simp; omega
            have hle2 := runP_le (p := digB) (s := s) (k := g0 + 1) (by omega)
            obtain ⟨g, hg⟩ : ∃ g, g = g0 + 1 := ⟨_, rfl⟩
            have hgi : (g0 : Int) + 1 = (g : Int) := by omega
            have HGI := Lib.hid hgi
            clear hgi
            rw [← hg] at hN hle2
            obtain ⟨m, hm⟩ : ∃ m, m = runP digB s g := ⟨_, rfl⟩
            rw [← hm] at hN hle2
            have HN := Lib.hid hN
            have HDOT := Lib.hid hdot
            have hgs : g ≤ s.size := by omega
            clear hN hdot hd46
            go_wp2_with fail
            go_loop [7, 10, 11] (fun i y u => ∃ q : Nat, g ≤ q ∧ q ≤ g + m ∧ q ≤ g + 6 ∧ i = .int .i64 q ∧ y = .int .i64 (lval (dg s g (q - g)) : Nat) ∧ u = .int .i64 (p10 (q - g) : Nat)) (fun i _ _ => s.size - (intOf i).toNat)
            case atStart => exact ⟨g, Nat.le_refl _, by omega, by omega, by rw [← HGI.out], by rw [Nat.sub_self, dg_zero]; rfl, by rw [Nat.sub_self]; rfl⟩
            case round =>
              obtain ⟨q, hq1, hq2, hq3, rfl, rfl, rfl⟩ := hrel
              have hy6 := lval6 (s := s) (k := g) (n := q - g) (by omega) (by omega) (by omega)
              obtain ⟨hp1, hp2⟩ := p6_bd (k := q - g) (by omega)
              have hps := p10_succ (q - g)
              obtain ⟨y, hy⟩ : ∃ y, y = lval (dg s g (q - g)) := ⟨_, rfl⟩
              obtain ⟨u, hu⟩ : ∃ u, u = p10 (q - g) := ⟨_, rfl⟩
              rw [← hy] at hy6 ⊢
              rw [← hu] at hp1 hp2 hps ⊢
              have HY := Lib.hid hy
              have HU := Lib.hid hu
              have HPS := Lib.hid hps
              clear hy hu hps
              go_upto_region 14 with fail
              go_cut [75] from 60 to 87 (fun y wx => w = wx ∧ ∃ c : Bool, y = .bool c ∧ (c = true → ∃ hl : q < s.size, digB s[q] = true ∧ q ≤ g + 5) ∧ (c = false → q = g + 6 ∨ q = g + m))
              case first =>
                by_cases hl : q < s.size
                · have hdc := fun W => sDig_any s[q] W
                  have hl' : (q : Int) < (s.size : Int) := by omega
                  cases hd : digB s[q] with
                  | true =>
                    rw [hd] at hdc
                    have HD := Lib.hid hdc
                    have HDD := Lib.hid hd
                    clear hdc hd
                    by_cases h5 : q ≤ g + 5
                    · have h5' : decide ((q : Int) - ((g0 : Int) + 1) ≤ 5) = true := decide_eq_true (by have := HGI.out; omega)
                      go_wp2_with (go_at_call 37; refine (HD.out _).mono ?_; rintro e w1 ⟨rfl, rfl⟩)
                      go_meet
                      exact ⟨rfl, true, rfl, fun _ => ⟨hl, HDD.out, h5⟩, fun e => by cases e⟩
                    · have h5' : decide ((q : Int) - ((g0 : Int) + 1) ≤ 5) = false := decide_eq_false (by have := HGI.out; omega)
                      go_wp2_with (go_at_call 37; refine (HD.out _).mono ?_; rintro e w1 ⟨rfl, rfl⟩)
                      go_meet
                      exact ⟨rfl, false, rfl, (fun e => by cases e), fun _ => .inl (by omega)⟩
                  | false =>
                    rw [hd] at hdc
                    have HD := Lib.hid hdc
                    have HDD := Lib.hid hd
                    clear hdc hd
                    go_wp2_with (go_at_call 37; refine (HD.out _).mono ?_; rintro e w1 ⟨rfl, rfl⟩)
                    go_meet
                    exact ⟨rfl, false, rfl, (fun e => by cases e), fun _ => .inr (by have := run_stop (p := digB) (s := s) (k := g) (q := q) (by omega) (by omega) (by omega) (fun _ => HDD.out); omega)⟩
                · have hl' : ¬ (q : Int) < (s.size : Int) := by omega
                  go_wp2_with fail
                  go_meet
                  exact ⟨rfl, false, rfl, (fun e => by cases e), fun _ => .inr (by have := run_stop (p := digB) (s := s) (k := g) (q := q) (by omega) (by omega) (by omega) (fun h => by omega); omega)⟩
              case rest =>
                obtain ⟨rfl, c, rfl, hc1, hc2⟩ := hcut
                cases c with
                | true =>
                  obtain ⟨hl2, hd, h5⟩ := hc1 rfl
                  have hst := lval_step (s := s) hq1 hl2
                  rw [← HY.out] at hst
                  have hgo := run_go (p := digB) (s := s) (k := g) (q := q) (by omega) hl2 hd
                  have hd2 := (digB_iff _).1 hd
                  have HST := Lib.hid hst
                  have HGO := Lib.hid hgo
                  have hl' : (q : Int) < (s.size : Int) := by omega
                  clear hc1 hc2 hst hgo hd
                  go_wp2_with fail
                  go_round
                  case rel => exact ⟨q + 1, by omega, by have := HGO.out; omega, by omega, by go_num, by rw [HST.out]; go_num, by rw [show q + 1 - g = q - g + 1 by omega, HPS.out]; go_num⟩
                  case measure => simp [intOf]; omega
                | false =>
                  have hstop2 := hc2 rfl
                  clear hc1 hc2
                  by_cases h0 : m = 0
                  · have hqg : ((q : Int) == (g0 : Int) + 1) = true := by have := HGI.out; simp; omega
                    have HN2 : Hid (numS s k = none) := Lib.hid (by rw [HN.out, if_neg (by omega)])
                    go_wp2_with fail
                    exact bodyPost_ret (v := .tuple #[.int .i64 (q : Nat), .int .i64 0, .bool false]) (by simp [results, Tryz.results38, go_sem]) rfl ⟨Below.refl _ _, by rw [HN2.out]; exact ⟨q, 0, rfl, by have := HKG.out; omega, by omega⟩⟩
                  · have hqg : ((q : Int) == (g0 : Int) + 1) = false := by have := HGI.out; simp; omega
                    by_cases hm4 : 4 < m
                    · have hgt2 : decide ((4 : Int) < (q : Int) - ((g0 : Int) + 1)) = true := decide_eq_true (by have := HGI.out; omega)
                      have HN2 : Hid (numS s k = none) := Lib.hid (by rw [HN.out, if_neg (by omega)])
                      go_wp2_with fail
                      exact bodyPost_ret (v := .tuple #[.int .i64 (q : Nat), .int .i64 0, .bool false]) (by simp [results, Tryz.results38, go_sem]) rfl ⟨Below.refl _ _, by rw [HN2.out]; exact ⟨q, 0, rfl, by have := HKG.out; omega, by omega⟩⟩
                    · have hqm : q = g + m := by omega
                      have hgt2 : decide ((4 : Int) < (q : Int) - ((g0 : Int) + 1)) = false := decide_eq_false (by have := HGI.out; omega)
                      rw [show q - g = m by omega] at HY HU
                      have HN2 : Hid (numS s k = some (n + 1 + m, x * 256 + y * 256 / u)) := Lib.hid (by rw [HN.out, if_pos ⟨by omega, by omega⟩, HY.out, HU.out]; rfl)
                      obtain ⟨v, hv⟩ : ∃ v, v = y * 256 / u := ⟨_, rfl⟩
                      have hv1 : (y : Int) * 256 / (u : Int) = (v : Int) := by rw [hv]; push_cast; rfl
                      have hv2 : ((y : Int) * 256).tdiv (u : Int) = (v : Int) := by rw [Int.tdiv_eq_ediv_of_nonneg (by omega)]; exact hv1
                      have hvb : v ≤ 256000000 := by rw [hv]; exact Nat.le_trans (Nat.div_le_self _ _) (by omega)
                      rw [← hv] at HN2
                      have hu0 : ¬ (u : Int) = 0 := by omega
                      have HE : Hid (q = k + (n + 1 + m)) := Lib.hid (by have := HKG.out; omega)
                      clear hv hqm hstop2
                      go_upto_region 20 with fail
                      go_quiet (fail)
                      go_wp2_with fail
                      exact bodyPost_ret (v := .tuple #[.int .i64 (q : Nat), .int .i64 ((x * 256 + v : Nat) : Int), .bool true]) (by simp [results, Tryz.results38, go_sem]) rfl ⟨below_drewN (Below.refl _ _) nq, by rw [HN2.out, HE.out]⟩
end Go.Proofs.YtkbdnjhgcoihhaaGreatDoor
