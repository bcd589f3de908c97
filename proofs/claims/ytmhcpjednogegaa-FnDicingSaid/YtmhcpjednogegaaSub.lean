/- Contracts of IsValidSubPatch: the program and its model. -/
import Derived.Test.YtmhcpjednogegaaProg
import Derived.Test.YtmhcpjednogegaaInts
import Derived.Test.YtmhcpjednogegaaVbox
import Derived.Test.YtmhcpjednogegaaVec
import Derived.Test.YtmhcpjednogegaaHeld
import Derived.Test.YtmhcpjednogegaaArr
import Derived.Test.YtmhcpjednogegaaTr
import Derived.WalkKit
import Derived.WalkSpells
import Derived.WalkLawsBesides
import Derived.Lib.Hide
import Derived.Deep.RegionHeld3
import Derived.Deep.QuietTactic
import Derived.BigQuiet
import Derived.Handy
import Derived.Deep.DeepCutAuto
namespace Go.Proofs.Ytmhcpjednogegaa
open Go.RowKit

def pow2 (n : Int) : Bool := decide (n = 1 ∨ n = 2 ∨ n = 4 ∨ n = 8 ∨ n = 16 ∨ n = 32 ∨ n = 64)
def okS (u v n : Int) : Bool := pow2 n && (decide (0 ≤ u ∧ u < n) && decide (0 ≤ v ∧ v < n))
theorem pow2_iff (n : Int) : pow2 n = true ↔ (n = 1 ∨ n = 2 ∨ n = 4 ∨ n = 8 ∨ n = 16 ∨ n = 32 ∨ n = 64) := by simp [pow2]
theorem pow2_bd {n : Int} (h : pow2 n = true) : 1 ≤ n ∧ n ≤ 64 := by rw [pow2_iff] at h; omega
theorem pow2_no {n : Int} (h : ¬ (1 ≤ n ∧ n ≤ 64)) : pow2 n = false := by
  rw [Bool.eq_false_iff]
  exact fun e => h (pow2_bd e)
theorem okS_iff (u v n : Int) : okS u v n = true ↔ (n = 1 ∨ n = 2 ∨ n = 4 ∨ n = 8 ∨ n = 16 ∨ n = 32 ∨ n = 64) ∧ (0 ≤ u ∧ u < n) ∧ 0 ≤ v ∧ v < n := by simp [okS, pow2_iff]
theorem okS_no {u v n : Int} (h : ¬ (pow2 n = true ∧ (0 ≤ u ∧ u < n) ∧ 0 ≤ v ∧ v < n)) : false = okS u v n := by
  rw [eq_comm, Bool.eq_false_iff]
  intro e
  rw [okS_iff, ← pow2_iff] at e
  exact h e
theorem okS_yes {u v n : Int} (h : pow2 n = true ∧ (0 ≤ u ∧ u < n) ∧ 0 ≤ v ∧ v < n) : true = okS u v n := by
  rw [eq_comm, okS_iff, ← pow2_iff]; exact h
theorem and_all : ∀ k : Fin 65, 1 ≤ k.val → (bits .and .i64 ((k.val : Nat) : Int) (((k.val : Nat) : Int) - 1) == 0) = pow2 ((k.val : Nat) : Int) := by decide +kernel
theorem and_pow {n : Int} (h : 1 ≤ n ∧ n ≤ 64) : (bits .and .i64 n (n - 1) == 0) = pow2 n := by
  have := and_all ⟨n.toNat, by omega⟩ (by show 1 ≤ n.toNat; omega)
  rw [show ((n.toNat : Nat) : Int) = n by omega] at this
  exact this
/-- a power of two below M -/
def pb (M n : Int) : Bool := pow2 n && decide (n < M)
def isPw (M : Int) : Prop := M = 1 ∨ M = 2 ∨ M = 4 ∨ M = 8 ∨ M = 16 ∨ M = 32 ∨ M = 64 ∨ M = 128
theorem pb_one (n : Int) : pb 1 n = false := by
  rw [Bool.eq_false_iff]
  intro e
  simp only [pb, Bool.and_eq_true, decide_eq_true_eq, pow2_iff] at e
  omega
theorem pb_end (n : Int) : pb 128 n = pow2 n := by
  rw [Bool.eq_iff_iff]
  simp only [pb, Bool.and_eq_true, decide_eq_true_eq, pow2_iff]
  omega
theorem pb_step {M n : Int} (h : isPw M) (h64 : M ≤ 64) : pb (2 * M) n = (pb M n || (M == n)) := by
  rw [Bool.eq_iff_iff]
  simp only [pb, Bool.and_eq_true, Bool.or_eq_true, decide_eq_true_eq, pow2_iff, beq_iff_eq]
  unfold isPw at h
  omega
theorem pw_step {M : Int} (h : isPw M) (h64 : M ≤ 64) : isPw (2 * M) := by unfold isPw at *; omega
theorem pw_bd {M : Int} (h : isPw M) : 1 ≤ M ∧ M ≤ 128 := by unfold isPw at h; omega

theorem pow_any (n : Int) (w : World) (h : 1 ≤ n ∧ n ≤ 64) :
    Calls Try.prog 58 #[.int .i64 n] w fun e w' => e = .returned (.bool (pow2 n)) ∧ w = w' := by
  have hb := and_pow h
  have ew : IntKind.i64.wrap (n - 1) = n - 1 := wrap_in (by omega)
  have HB := Lib.hid hb
  clear hb h
  go_enter Try.func58, Try.ntmps58
  go_wp2_with fail
  go_ret
  exact ⟨retB HB.out, rfl⟩

set_option maxHeartbeats 1000000 in
theorem toSub_any (u v n : Int) (w : World) :
    Calls Try.prog 26 #[vec u v n] w (VecOut u v n w) := by
  go_enter Try.func26, Try.ntmps26
  go_wp2
  exact bodyPost_ret (v := vec u v n) (by simp [results, Try.results26, go_sem]) rfl ⟨rfl, by go_grown⟩

set_option maxHeartbeats 4000000 in
theorem isValidSub_any (u v n : Int) (w : World) :
    Calls Try.prog 36 #[vec u v n] w (BOut (okS u v n) w) := by
  by_cases ha : n < 1
  · have HN := Lib.hid (show ¬ (pow2 n = true ∧ (0 ≤ u ∧ u < n) ∧ 0 ≤ v ∧ v < n) from fun e => by have := pow2_bd e.1; omega)
    have ea : decide (n < 1) = true := decide_eq_true ha
    clear ha
    go_enter Try.func36, Try.ntmps36
    go_wp2_with fail
    go_ret
    exact ⟨retB (okS_no HN.out), by go_grown⟩
  by_cases hb : 64 < n
  · have HN := Lib.hid (show ¬ (pow2 n = true ∧ (0 ≤ u ∧ u < n) ∧ 0 ≤ v ∧ v < n) from fun e => by have := pow2_bd e.1; omega)
    have ea : decide (n < 1) = false := decide_eq_false ha
    have eb : decide (64 < n) = true := decide_eq_true hb
    clear ha hb
    go_enter Try.func36, Try.ntmps36
    go_wp2_with fail
    go_ret
    exact ⟨retB (okS_no HN.out), by go_grown⟩
  have ea : decide (n < 1) = false := decide_eq_false ha
  have eb : decide (64 < n) = false := decide_eq_false hb
  have HP := Lib.hid (show 1 ≤ n ∧ n ≤ 64 by omega)
  clear ha hb
  rcases hp : pow2 n with _ | _
  · have HN := Lib.hid (show ¬ (pow2 n = true ∧ (0 ≤ u ∧ u < n) ∧ 0 ≤ v ∧ v < n) from fun e => by rw [hp] at e; cases e.1)
    go_enter Try.func36, Try.ntmps36
    go_wp2_with fail
    refine (pow_any _ _ HP.out).mono ?_
    rintro e w' ⟨rfl, rfl⟩
    rw [hp]
    go_wp2_with fail
    go_ret
    exact ⟨retB (okS_no HN.out), by go_grown⟩

  by_cases h0 : 0 ≤ u
  · have e0 : decide (0 ≤ u) = true := decide_eq_true h0
    by_cases h1 : u < n
    · have e1 : decide (u < n) = true := decide_eq_true h1
      by_cases h2 : 0 ≤ v
      · have e2 : decide (0 ≤ v) = true := decide_eq_true h2
        by_cases h3 : v < n
        · have e3 : decide (v < n) = true := decide_eq_true h3
          have HN := Lib.hid (show pow2 n = true ∧ (0 ≤ u ∧ u < n) ∧ 0 ≤ v ∧ v < n from ⟨hp, ⟨h0, h1⟩, h2, h3⟩)
          clear h0 h1 h2 h3
          go_enter Try.func36, Try.ntmps36
          go_wp2_with fail
          refine (pow_any _ _ HP.out).mono ?_
          rintro e w' ⟨rfl, rfl⟩
          rw [hp]
          go_wp2_with fail
          go_ret
          exact ⟨retB (okS_yes HN.out), by go_grown⟩
        · have e3 : decide (v < n) = false := decide_eq_false h3
          have HN := Lib.hid (show ¬ (pow2 n = true ∧ (0 ≤ u ∧ u < n) ∧ 0 ≤ v ∧ v < n) from fun e => h3 (by omega))
          clear h0 h1 h2 h3
          go_enter Try.func36, Try.ntmps36
          go_wp2_with fail
          refine (pow_any _ _ HP.out).mono ?_
          rintro e w' ⟨rfl, rfl⟩
          rw [hp]
          go_wp2_with fail
          go_ret
          exact ⟨retB (okS_no HN.out), by go_grown⟩
      · have e2 : decide (0 ≤ v) = false := decide_eq_false h2
        have HN := Lib.hid (show ¬ (pow2 n = true ∧ (0 ≤ u ∧ u < n) ∧ 0 ≤ v ∧ v < n) from fun e => h2 (by omega))
        clear h0 h1 h2
        go_enter Try.func36, Try.ntmps36
        go_wp2_with fail
        refine (pow_any _ _ HP.out).mono ?_
        rintro e w' ⟨rfl, rfl⟩
        rw [hp]
        go_wp2_with fail
        go_ret
        exact ⟨retB (okS_no HN.out), by go_grown⟩
    · have e1 : decide (u < n) = false := decide_eq_false h1
      have HN := Lib.hid (show ¬ (pow2 n = true ∧ (0 ≤ u ∧ u < n) ∧ 0 ≤ v ∧ v < n) from fun e => h1 (by omega))
      clear h0 h1
      go_enter Try.func36, Try.ntmps36
      go_wp2_with fail
      refine (pow_any _ _ HP.out).mono ?_
      rintro e w' ⟨rfl, rfl⟩
      rw [hp]
      go_wp2_with fail
      go_ret
      exact ⟨retB (okS_no HN.out), by go_grown⟩
  · have e0 : decide (0 ≤ u) = false := decide_eq_false h0
    have HN := Lib.hid (show ¬ (pow2 n = true ∧ (0 ≤ u ∧ u < n) ∧ 0 ≤ v ∧ v < n) from fun e => h0 (by omega))
    clear h0
    go_enter Try.func36, Try.ntmps36
    go_wp2_with fail
    refine (pow_any _ _ HP.out).mono ?_
    rintro e w' ⟨rfl, rfl⟩
    rw [hp]
    go_wp2_with fail
    go_ret
    exact ⟨retB (okS_no HN.out), by go_grown⟩

set_option maxHeartbeats 4000000 in
theorem sIsValidSub_any (u v n : Int) (w : World) :
    Calls Try.prog 53 #[vec u v n] w (BOut (okS u v n) w) := by
  have HT : Held w (w.alloc (.cells #[.int .i64 u, .int .i64 v, .int .i64 n] 39)) [(w.heap.size, [.int .i64 u, .int .i64 v, .int .i64 n])] := by
    have h := (Held.nil w).new #[.int .i64 u, .int .i64 v, .int .i64 n] 39
    simpa only [World.size_alloc] using h
  have HT0 := HT
  clear HT
  go_enter Try.func53, Try.ntmps53
  go_wp2
  go_loopw [3, 4] (fun p m wr => ∃ M : Int, m = .int .i64 M ∧ p = .bool (pb M n) ∧ isPw M ∧ Held w wr [(w.heap.size, [.int .i64 u, .int .i64 v, .int .i64 n])]) (fun _ m _ => (128 - intOf m).toNat)
  case atStart => exact ⟨1, rfl, by rw [pb_one], .inl rfl, HT0⟩
  case round =>
    clear HT0
    obtain ⟨M, rfl, rfl, hM, HT⟩ := hrel
    by_cases h64 : M ≤ 64
    · have hs := pb_step (n := n) hM h64
      have HM := Lib.hid (pw_step hM h64)
      have HB := Lib.hid (pw_bd hM)
      have ew : IntKind.i64.wrap (2 * M) = 2 * M := wrap_in (by have := pw_bd hM; omega)
      have c0 := (HT.box 0).c 0
      have c1 := (HT.box 0).c 1
      have c2 := (HT.box 0).c 2
      clear hM
      rcases hp : pb M n with _ | _
      · rw [hp, Bool.false_or] at hs
        have HS := Lib.hid hs
        clear hs hp
        go_wp2
        go_roundw
        case rel => exact ⟨2 * M, rfl, by rw [HS.out], HM.out, HT⟩
        case measure => have := HB.out; simp [intOf]; omega
      · rw [hp, Bool.true_or] at hs
        have HS := Lib.hid hs
        clear hs hp
        go_wp2
        go_roundw
        case rel => exact ⟨2 * M, rfl, by rw [HS.out], HM.out, HT⟩
        case measure => have := HB.out; simp [intOf]; omega
    · obtain rfl : M = 128 := by unfold isPw at hM; omega
      rw [pb_end]
      have c0 := (HT.box 0).c 0
      have c1 := (HT.box 0).c 1
      have c2 := (HT.box 0).c 2
      clear hM h64
      rcases hp : pow2 n with _ | _
      · have HN := Lib.hid (show ¬ (pow2 n = true ∧ (0 ≤ u ∧ u < n) ∧ 0 ≤ v ∧ v < n) from fun e => by rw [hp] at e; cases e.1)
        clear hp
        go_wp2_with fail
        go_ret
        exact ⟨retB (okS_no HN.out), HT.below⟩

      · have ew : IntKind.i64.wrap (n - 1) = n - 1 := wrap_in (by have := pow2_bd hp; omega)
        have HP := Lib.hid hp
        clear hp
        by_cases hu : 0 ≤ u ∧ u ≤ n - 1
        · have HU := Lib.hid hu
          clear hu
          by_cases hv : 0 ≤ v ∧ v ≤ n - 1
          · have HV := Lib.hid hv
            clear hv
            go_wp2_with fail
            refine (inV_yes _ _ _ _ HU.out.1 HU.out.2).mono ?_
            rintro e w' ⟨rfl, rfl⟩
            go_wp2_with fail
            refine (inV_yes _ _ _ _ HV.out.1 HV.out.2).mono ?_
            rintro e w' ⟨rfl, rfl⟩
            go_wp2_with fail
            go_ret
            exact ⟨retB (okS_yes ⟨HP.out, ⟨HU.out.1, by have := HU.out; omega⟩, HV.out.1, by have := HV.out; omega⟩), HT.below⟩

          · have HV := Lib.hid hv
            clear hv
            go_wp2_with fail
            refine (inV_yes _ _ _ _ HU.out.1 HU.out.2).mono ?_
            rintro e w' ⟨rfl, rfl⟩
            go_wp2_with fail
            refine (inV_no _ _ _ _ HV.out).mono ?_
            rintro e w' ⟨rfl, rfl⟩
            go_wp2_with fail
            go_ret
            exact ⟨retB (okS_no (fun e => HV.out (by omega))), HT.below⟩

        · have HU := Lib.hid hu
          clear hu
          go_wp2_with fail
          refine (inV_no _ _ _ _ HU.out).mono ?_
          rintro e w' ⟨rfl, rfl⟩
          go_wp2_with fail
          go_ret
          exact ⟨retB (okS_no (fun e => HU.out (by omega))), HT.below⟩
end Go.Proofs.Ytmhcpjednogegaa
