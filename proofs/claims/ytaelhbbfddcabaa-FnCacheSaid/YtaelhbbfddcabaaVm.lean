/- Textures of the program: validity, rows and texels. -/
import Derived.Test.YtaelhbbfddcabaaProg
import Derived.Test.YtaelhbbfddcabaaInts
import Derived.Test.YtaelhbbfddcabaaVbox
import Derived.Test.YtaelhbbfddcabaaHeld
import Derived.Test.YtaelhbbfddcabaaMem
import Derived.Test.YtaelhbbfddcabaaFlat
import Derived.Test.YtaelhbbfddcabaaRowC
import Derived.Test.YtaelhbbfddcabaaKS
import Derived.Test.YtaelhbbfddcabaaStrS
import Derived.Test.YtaelhbbfddcabaaIntS
import Derived.Test.YtaelhbbfddcabaaSS
import Derived.Test.YtaelhbbfddcabaaVi
import Derived.Test.YtaelhbbfddcabaaVa
import Derived.Test.YtaelhbbfddcabaaVb
import Derived.Test.YtaelhbbfddcabaaVc
import Derived.Test.YtaelhbbfddcabaaVd
import Derived.Test.YtaelhbbfddcabaaVl
import Derived.WalkKit
import Derived.WalkSpells
import Derived.WalkLawsBesides
import Derived.Lib.Hide
import Derived.Deep.RegionHeld3
import Derived.Deep.QuietTactic
import Derived.BigQuiet
import Derived.Handy
import Derived.Deep.DeepCutAuto
import Derived.OwnWalk
namespace Go.Proofs.Ytaelhbbfddcabaa
open Go.RowKit

theorem allIn_no {lo hi : Int} {xs : List Int} {k : Nat} (h : k < xs.length) (e : ¬ (lo ≤ xs[k] ∧ xs[k] ≤ hi)) : decide (∀ a ∈ xs, lo ≤ a ∧ a ≤ hi) = false := decide_eq_false fun hh => e (hh _ (List.getElem_mem h))
theorem allIn_yes {lo hi : Int} {xs : List Int} (h : ∀ j (h : j < xs.length), lo ≤ xs[j] ∧ xs[j] ≤ hi) : decide (∀ a ∈ xs, lo ≤ a ∧ a ≤ hi) = true := decide_eq_true fun a ha => by
  obtain ⟨j, hj, rfl⟩ := List.getElem_of_mem ha
  exact h j hj

set_option maxHeartbeats 2000000 in
theorem areWithinV (A : Option Addr) (c : Nat) (xs : List Int) (lo hi : Int) (w : World) (B : Nat) (hR : Row I64 w B A xs) (hl : xs.length ≤ 1099511627776) :
    Calls Try.prog 80 #[.slice A xs.length c, .int .i64 lo, .int .i64 hi] w fun e w' => e = .returned (.bool (decide (∀ a ∈ xs, lo ≤ a ∧ a ≤ hi))) ∧ w = w' := by
  go_enter Try.func80, Try.ntmps80
  go_wp2
  go_loop [11] (fun i => ∃ k : Nat, k ≤ xs.length ∧ i = .int .i64 k ∧ ∀ j (h : j < xs.length), j < k → lo ≤ xs[j] ∧ xs[j] ≤ hi) (fun i => xs.length - (intOf i).toNat)
  case atStart => exact ⟨0, Nat.zero_le _, rfl, fun j _ h => by omega⟩
  case round =>
    obtain ⟨k, hk, rfl, hin⟩ := hrel
    by_cases hlt : k < xs.length
    · obtain ⟨b, o, rfl, hbl, c0⟩ := hR.at hlt
      obtain ⟨v, hv⟩ : ∃ v, v = xs[k] := ⟨_, rfl⟩
      have hlt' : (k : Int) < (xs.length : Int) := by omega
      have hge' : (0 : Int) ≤ (k : Int) := by omega
      rw [← hv] at c0
      have HV := Lib.hid hv
      have HIN := Lib.hid hin
      clear hv hin hR
      go_wp2_with fail
      refine (isWithinV _ _ _ _).mono ?_
      rintro e w1 ⟨rfl, rfl⟩
      cases hb : inV lo hi v with
      | true =>
        have hvv := (inV_iff ..).1 hb
        have HST : Hid (∀ j (h : j < xs.length), j < k + 1 → lo ≤ xs[j] ∧ xs[j] ≤ hi) := Lib.hid fun j h hj => by
          rcases Nat.lt_or_ge j k with h1 | h1
          · exact HIN.out j h h1
          · obtain rfl : j = k := by omega
            rw [← HV.out]
            exact hvv
        clear hb hvv
        go_wp2_with fail
        go_round
        case rel => exact ⟨k + 1, by omega, by go_num, HST.out⟩
        case measure => simp [intOf]; omega
      | false =>
        have HZ : Hid (decide (∀ a ∈ xs, lo ≤ a ∧ a ≤ hi) = false) := Lib.hid (allIn_no hlt (by rw [← HV.out]; intro h; rw [(inV_iff ..).2 h] at hb; cases hb))
        clear hb
        go_wp2_with fail
        go_ret
        exact ⟨by rw [HZ.out]; rfl, rfl⟩
    · have HZ : Hid (decide (∀ a ∈ xs, lo ≤ a ∧ a ≤ hi) = true) := Lib.hid (allIn_yes fun j hj => hin j hj (by omega))
      clear hin hR
      go_wp2
      go_ret
      exact ⟨by rw [HZ.out]; rfl, rfl⟩

set_option maxHeartbeats 2000000 in
theorem sideOf_any (L : Int) (A : Option Addr) (n c : Nat) (w : World) (h : 0 ≤ L ∧ L ≤ 4) :
    Calls Try.prog 79 #[txv L A n c] w fun e w' => e = .returned (.int .i64 (sd L : Int)) ∧ Below w.heap.size w w' := by
  have M := Mbox.new w #[.int .i64 L, .slice A n c] 25
  have hB : Below w.heap.size w (w.alloc (.cells #[.int .i64 L, .slice A n c] 25)) := by go_grown
  obtain ⟨W1, hW1⟩ : ∃ W, W = w.alloc (.cells #[.int .i64 L, .slice A n c] 25) := ⟨_, rfl⟩
  rw [← hW1] at M hB
  have HB := Lib.hid hB
  have m0 := M.c 0
  clear M hB
  have HL : Hid (L = 0 ∨ L = 1 ∨ L = 2 ∨ L = 3 ∨ L = 4) := Lib.hid (by omega)
  clear h
  go_enter Try.func79, Try.ntmps79
  go_upto_region 1 with fail
  rw [← hW1]
  clear hW1
  have HL2 := HL.out
  clear HL
  rcases HL2 with h | h | h | h | h
  all_goals
    subst h
    go_wp2_with fail
    go_ret
    exact ⟨rfl, HB.out⟩

set_option maxRecDepth 100000 in
set_option maxHeartbeats 8000000 in
theorem isValidT_big (L : Int) (A : Option Addr) (c : Nat) (ts : List Int) (w : World) (hR : Row I64 w w.heap.size A ts) (hl : ts.length ≤ 1099511627776) :
    Calls Try.prog 48 #[txv L A ts.length c] w fun e w' => e = .returned (.bool (okX L ts)) ∧ Below w.heap.size w w' := by
  have M := Mbox.new w #[.int .i64 L, .slice A ts.length c] 25
  have hB : Below w.heap.size w (w.alloc (.cells #[.int .i64 L, .slice A ts.length c] 25)) := by go_grown
  obtain ⟨W1, hW1⟩ : ∃ W, W = w.alloc (.cells #[.int .i64 L, .slice A ts.length c] 25) := ⟨_, rfl⟩
  have hR1 := hR.later hB
  rw [← hW1] at M hB hR1
  have HM := Lib.hid M
  have HB := Lib.hid hB
  have HR := Lib.hid hR1
  have m0 := M.c 0
  have m1 := M.c 1
  clear M hB hR1 hR
  have HI := Lib.hid (fun W => isWithinV L 0 4 W)
  by_cases hL : 0 ≤ L ∧ L ≤ 4
  · rw [(inV_iff ..).2 hL] at HI
    have HS := Lib.hid (fun W => sideOf_any L A ts.length c W hL)
    have hsq := sq_le hL
    obtain ⟨s, hs⟩ : ∃ s, s = sd L := ⟨_, rfl⟩
    rw [← hs] at HS hsq
    have hs16 : s ≤ 16 := by rw [hs]; exact sd_le hL
    have ew : IntKind.i64.wrap ((s : Int) * (s : Int)) = (s : Int) * (s : Int) := wrap_v (by rw [← Int.natCast_mul]; omega)
    obtain ⟨q, hq⟩ : ∃ q, q = decide (ts.length = s * s) := ⟨_, rfl⟩
    have hqe : ((ts.length : Int) == (s : Int) * (s : Int)) = q := by
      rw [hq, ← Int.natCast_mul]
      by_cases h : ts.length = s * s
      · rw [decide_eq_true h, h]; simp
      · rw [decide_eq_false h, beq_eq_false_iff_ne]; omega
    obtain ⟨r, hr⟩ : ∃ r, r = decide (∀ a ∈ ts, 0 ≤ a ∧ a ≤ 256) := ⟨_, rfl⟩
    have HV : Hid (okX L ts = (q && r)) := Lib.hid (by
      unfold okX okTx
      rw [hq, hr, hs]
      simp [hL])
    clear hL hs hsq hq
    go_enter Try.func48, Try.ntmps48
    go_upto_region 1 with fail
    rw [← hW1]
    clear hW1
    go_wp2_with fail
    refine (HI.out _).mono ?_
    rintro e w2 ⟨rfl, rfl⟩
    go_wp2_with fail
    refine (HS.out _).mono ?_
    rintro e w2 ⟨rfl, hb2⟩
    have HB2 := Lib.hid (HB.out.trans (hb2.mono HB.out.size))
    have HA := Lib.hid (areWithinV A c ts 0 256 w2 _ (HR.out.later hb2) hl)
    rw [← hr] at HA
    have m1 := (HM.out.later hb2).c 1
    clear hb2 m0 hr
    cases q with
    | true =>
      go_wp2_with fail
      refine HA.out.mono ?_
      rintro e w3 ⟨rfl, rfl⟩
      go_wp2_with fail
      go_ret
      exact ⟨by rw [HV.out]; rfl, HB2.out⟩
    | false =>
      go_wp2_with fail
      go_ret
      exact ⟨by rw [HV.out]; rfl, HB2.out⟩
  · rw [inV_no hL] at HI
    have HV : Hid (okX L ts = false) := Lib.hid (okX_no (fun h => hL h.1))
    clear hL
    go_enter Try.func48, Try.ntmps48
    go_upto_region 1 with fail
    rw [← hW1]
    clear hW1
    go_wp2_with fail
    refine (HI.out _).mono ?_
    rintro e w2 ⟨rfl, rfl⟩
    go_wp2_with fail
    go_ret
    exact ⟨by rw [HV.out]; rfl, HB.out⟩
theorem isValidT_any (L : Int) (A : Option Addr) (c : Nat) (ts : List Int) (w : World) (hR : Row I64 w w.heap.size A ts) (hl : ts.length ≤ 1048576) :
    Calls Try.prog 48 #[txv L A ts.length c] w fun e w' => e = .returned (.bool (okX L ts)) ∧ Below w.heap.size w w' := isValidT_big L A c ts w hR (by omega)

set_option maxRecDepth 100000 in
set_option maxHeartbeats 4000000 in
theorem rowOf_any (L : Int) (b o n c y : Nat) (w : World) (hL : 0 ≤ L ∧ L ≤ 4) (hn : n = sd L * sd L) (hc : n ≤ c) (hy : y < sd L) :
    Calls Try.prog 86 #[txv L (some ⟨b, o, none⟩) n c, .int .i64 y] w fun e w' => e = .returned (.slice (some ⟨b, o + y * sd L, none⟩) (sd L) (sd L)) ∧ Below w.heap.size w w' := by
  have M := Mbox.new w #[.int .i64 L, .slice (some ⟨b, o, none⟩) n c] 25
  have hB : Below w.heap.size w (w.alloc (.cells #[.int .i64 L, .slice (some ⟨b, o, none⟩) n c] 25)) := by go_grown
  obtain ⟨W1, hW1⟩ : ∃ W, W = w.alloc (.cells #[.int .i64 L, .slice (some ⟨b, o, none⟩) n c] 25) := ⟨_, rfl⟩
  rw [← hW1] at M hB
  have HB := Lib.hid hB
  have HM := Lib.hid M
  have HS := Lib.hid (fun W => sideOf_any L (some ⟨b, o, none⟩) n c W hL)
  have hs16 := sd_le hL
  have hs0 := sd_pos (L := L)
  have m0 := M.c 0
  have m1 := M.c 1
  clear M hB hL
  obtain ⟨s, hs⟩ : ∃ s, s = sd L := ⟨_, rfl⟩
  rw [← hs] at HS hs16 hs0 hn hy ⊢
  clear hs
  obtain ⟨p, hp⟩ : ∃ p, p = y * s := ⟨_, rfl⟩
  obtain ⟨q, hq⟩ : ∃ q, q = (y + 1) * s := ⟨_, rfl⟩
  have hqp : q = p + s := by rw [hp, hq, Nat.succ_mul]
  have hqn : q ≤ n := by rw [hn, hq]; exact Nat.mul_le_mul_right s hy
  have hn2 : n ≤ 256 := by rw [hn]; exact (Nat.mul_le_mul hs16 hs16 : s * s ≤ 16 * 16)
  have e1 : IntKind.i64.wrap ((y : Int) * (s : Int)) = (p : Int) := by rw [hp, Int.natCast_mul]; exact wrap_v (by rw [← Int.natCast_mul, ← hp]; omega)
  have e2 : IntKind.i64.wrap ((y : Int) + 1) = (y : Int) + 1 := wrap_v (by omega)
  have e3 : IntKind.i64.wrap (((y : Int) + 1) * (s : Int)) = (q : Int) := by
    have h : ((y : Int) + 1) * (s : Int) = (q : Int) := by rw [hq, Int.natCast_mul, Int.natCast_add]; rfl
    rw [h]
    exact wrap_v (by omega)
  have HE := Lib.hid (And.intro hqp (And.intro hp hs0))
  have h0 : (0 : Int) ≤ (p : Int) := by omega
  have h1 : (p : Int) ≤ (q : Int) := by omega
  have h2 : (q : Int) ≤ (c : Int) := by omega
  have h3 : (q : Int) ≤ (q : Int) := by omega
  have h4 : ¬ q = p := by omega
  clear hp hq hqp hqn hn hn2 hs16 hs0 hy hc
  go_enter Try.func86, Try.ntmps86
  go_upto_region 1 with fail
  rw [← hW1]
  clear hW1
  go_wp2_with fail
  refine (HS.out _).mono ?_
  rintro e w2 ⟨rfl, hb2⟩
  have HB2 := Lib.hid (HB.out.trans (hb2.mono HB.out.size))
  have m1 := (HM.out.later hb2).c 1
  clear hb2 m0
  go_wp2_with fail
  go_ret
  refine ⟨?_, HB2.out⟩
  have h5 : q - p = s := by have := HE.out.1; omega
  have h6 := HE.out.2.1
  rw [← h6]
  simp [h5]

set_option maxHeartbeats 400000 in
theorem fmodT_any {L : Int} (hL : 0 ≤ L ∧ L ≤ 4) (a : Int) (w : World) (h0 : -9223372036854775808 ≤ a) (h1 : a ≤ 9223372036854775807) :
    Calls Try.prog 85 #[.int .i64 a, .int .i64 (sd L : Int)] w fun e w' => e = .returned (.int .i64 ((wrp a (sd L) : Nat) : Int)) ∧ w = w' := by
  obtain ⟨g0, g1⟩ := tx_mod hL a h0 h1
  obtain ⟨s, hs⟩ : ∃ s, s = sd L := ⟨_, rfl⟩
  have HF := Lib.hid (fun W => floorDiv_any a (sd L : Int) W h0 h1)
  rw [← hs] at g0 g1 HF ⊢
  clear hs h0 h1 hL
  go_enter Try.func85, Try.ntmps85
  go_wp2_with fail
  refine (HF.out _).mono ?_
  rintro e w' ⟨rfl, rfl⟩
  go_wp2_with fail
  go_ret
  exact ⟨rfl, rfl⟩

set_option maxRecDepth 100000 in
set_option maxHeartbeats 8000000 in
theorem texelAt_any (L : Int) (A : Option Addr) (c : Nat) (ts : List Int) (x y : Int) (w : World) (hR : Row I64 w w.heap.size A ts) (hc : ts.length ≤ c) (hok : okTx L ts) (hx0 : -9223372036854775808 ≤ x) (hx1 : x ≤ 9223372036854775807) (hy0 : -9223372036854775808 ≤ y) (hy1 : y ≤ 9223372036854775807) :
    Calls Try.prog 54 #[txv L A ts.length c, .int .i64 x, .int .i64 y] w fun e w' => e = .returned (.int .i64 (txl L ts x y)) ∧ Below w.heap.size w w' := by
  obtain ⟨hk, hV⟩ := txl_at hok x y
  obtain ⟨b, o, hA, hbl, hcell⟩ := hR.at hk
  subst hA
  rw [← hV] at hcell
  have HS := Lib.hid (fun W => sideOf_any L (some ⟨b, o, none⟩) ts.length c W hok.1)
  have HFX := Lib.hid (fun W => fmodT_any hok.1 x W hx0 hx1)
  have HFY := Lib.hid (fun W => fmodT_any hok.1 y W hy0 hy1)
  have HRO := Lib.hid (fun W => rowOf_any L b o ts.length c (wrp y (sd L)) W hok.1 hok.2.1 hc (wrp_lt y sd_pos))
  have hwx := wrp_lt x (sd_pos (L := L))
  obtain ⟨z, hz⟩ : ∃ z, z = txl L ts x y := ⟨_, rfl⟩
  rw [← hz] at hcell ⊢
  obtain ⟨s, hs⟩ : ∃ s, s = sd L := ⟨_, rfl⟩
  rw [← hs] at HS HFX HFY HRO hwx hcell
  obtain ⟨wx, hwx'⟩ : ∃ v, v = wrp x s := ⟨_, rfl⟩
  obtain ⟨wy, hwy'⟩ : ∃ v, v = wrp y s := ⟨_, rfl⟩
  rw [← hwx'] at HFX hwx hcell
  rw [← hwy'] at HFY HRO hcell
  obtain ⟨p, hp⟩ : ∃ p, p = wy * s := ⟨_, rfl⟩
  rw [← hp] at HRO hcell
  rw [← Nat.add_assoc] at hcell
  have hilt : (wx : Int) < (s : Int) := by omega
  have hige : (0 : Int) ≤ (wx : Int) := by omega
  have HCB := Lib.hid (fun (W : World) (hb : Below w.heap.size w W) => (hb.cell (p := ⟨b, o + p + wx, none⟩) hbl).trans hcell)
  clear hk hV hR hcell hbl hok hc hx0 hx1 hy0 hy1 hz hs hwx' hwy' hp hwx
  have HT : Held w (w.alloc (.cells #[.int .i64 L, .slice (some ⟨b, o, none⟩) ts.length c] 25)) [(w.heap.size, [.int .i64 L, .slice (some ⟨b, o, none⟩) ts.length c])] := by
    have h := (Held.nil w).new #[.int .i64 L, .slice (some ⟨b, o, none⟩) ts.length c] 25
    simpa only [World.size_alloc] using h
  obtain ⟨W1, hW1⟩ : ∃ W, W = w.alloc (.cells #[.int .i64 L, .slice (some ⟨b, o, none⟩) ts.length c] 25) := ⟨_, rfl⟩
  rw [← hW1] at HT
  have m0 := (HT.box 0).c 0
  have m1 := (HT.box 0).c 1
  have HTH := Lib.hid HT
  clear HT
  go_enter Try.func54, Try.ntmps54
  go_upto_region 1 with fail
  rw [← hW1]
  clear hW1
  go_wp2_with fail
  refine (HS.out _).mono ?_
  rintro e w2 ⟨rfl, hb2⟩
  have HT := HTH.out.later hb2
  clear hb2 m0 m1 HS HTH
  obtain ⟨k0, hk0⟩ : ∃ k, k = w.heap.size := ⟨_, rfl⟩
  rw [← hk0] at HT ⊢
  have HC : ∀ W', Held w W' [(k0, [.int .i64 L, .slice (some ⟨b, o, none⟩) ts.length c])] → W'.cell? ⟨k0, 0, none⟩ = some (.int .i64 L) ∧ W'.cell? ⟨k0, 1, none⟩ = some (.slice (some ⟨b, o, none⟩) ts.length c) ∧ W'.cell? ⟨b, o + p + wx, none⟩ = some (.int .i64 z) := fun W' h => ⟨(h.box 0).c 0, (h.box 0).c 1, HCB.out _ h.below⟩
  clear hk0
  go_upto_region 2 with fail
  go_region_held3 (fun W' => W'.cell? ⟨k0, 0, none⟩ = some (.int .i64 L) ∧ W'.cell? ⟨k0, 1, none⟩ = some (.slice (some ⟨b, o, none⟩) ts.length c) ∧ W'.cell? ⟨b, o + p + wx, none⟩ = some (.int .i64 z))
    (first | (with_reducible exact HC _ HT) | (with_reducible exact HC _ HT.drew))
    (first | (go_at_call 85; (first | (with_reducible refine (HFY.out _).mono ?_) | (with_reducible refine (HFX.out _).mono ?_)); rintro e w7 ⟨rfl, rfl⟩) | (go_at_call 86; (with_reducible refine (HRO.out _).mono ?_); rintro e w7 ⟨rfl, hb7⟩; (first | (have HT := HT.later hb7) | (have HT := HT.drew.later hb7))))
  all_goals (go_wp2_with fail; go_ret)
  all_goals (first | exact ⟨rfl, HT.below⟩ | exact ⟨rfl, HT.drew.below⟩)

end Go.Proofs.Ytaelhbbfddcabaa
