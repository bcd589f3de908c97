/- Dicing rates: which rate is acceptable; the contracts of isClose and l10Far. -/
import Derived.Test.YtmhcpjednogegaaProg
import Derived.Test.YtmhcpjednogegaaInts
import Derived.Test.YtmhcpjednogegaaVbox
import Derived.Test.YtmhcpjednogegaaVec
import Derived.Test.YtmhcpjednogegaaHeld
import Derived.Test.YtmhcpjednogegaaMem
import Derived.Test.YtmhcpjednogegaaFlat
import Derived.Test.YtmhcpjednogegaaRowC
import Derived.Test.YtmhcpjednogegaaArr
import Derived.Test.YtmhcpjednogegaaTr
import Derived.Test.YtmhcpjednogegaaPat
import Derived.Test.YtmhcpjednogegaaCam
import Derived.Test.YtmhcpjednogegaaCPrj
import Derived.Test.YtmhcpjednogegaaDv
import Derived.WalkKit
import Derived.WalkSpells
import Derived.WalkLawsBesides
import Derived.Lib.Hide
import Derived.Handy
namespace Go.Proofs.Ytmhcpjednogegaa
open Go.RowKit

/-- two points of the screen are near -/
def near (m : Int) (a b : V3) : Bool := inC (-m) m (a.1 - b.1) && inC (-m) m (a.2.1 - b.2.1)
theorem near_comm (m : Int) (a b : V3) : near m a b = near m b a := by
  have h : ∀ x y : Int, inC (-m) m (x - y) = inC (-m) m (y - x) := fun x y => by
    rw [Bool.eq_iff_iff, inC_iff, inC_iff]
    omega
  unfold near
  rw [h a.1, h a.2.1]
/-- on the screen -/
def onS (v : V3) : Prop := (-100000 ≤ v.1 ∧ v.1 ≤ 100000) ∧ (-100000 ≤ v.2.1 ∧ v.2.1 ≤ 100000)
theorem scr_bd (n : Int) : -100000 ≤ scr n ∧ scr n ≤ 100000 := by
  unfold scr clampP
  (repeat' split) <;> omega
theorem gV_on (C : CV) (P : PV) (l m n i j : Int) : onS (gV C P l m n i j) := ⟨scr_bd _, scr_bd _⟩
/-- a grid point of n, with its neighbours to the left and above -/
def stepOk (C : CV) (P : PV) (m n : Int) (i j : Nat) : Bool :=
  gK C P 0 0 n i j && ((i == 0 || near m (gV C P 0 0 n i j) (gV C P 0 0 n ((i : Int) - 1) j)) && (j == 0 || near m (gV C P 0 0 n i j) (gV C P 0 0 n i ((j : Int) - 1))))
/-- a rate is acceptable -/
def rateOk (C : CV) (P : PV) (m : Int) (n : Nat) : Bool := (List.range ((n + 1) * (n + 1))).all fun k => stepOk C P m n (k % (n + 1)) (k / (n + 1))
def rateV (C : CV) (P : PV) (m : Int) : Int := if rateOk C P m 1 then 1 else if rateOk C P m 2 then 2 else if rateOk C P m 4 then 4 else 8
def rateIn (C : CV) (P : PV) (m : Int) : Bool := (C.ok && P.ok) && inC 1 1000 m
def rateA (C : CV) (P : PV) (m : Int) : Int := if rateIn C P m then rateV C P m else 0
theorem rate_all (C : CV) (P : PV) (m : Int) (n : Nat) : rateOk C P m n = true ↔ ∀ i j, i ≤ n → j ≤ n → stepOk C P m n i j = true := by
  unfold rateOk
  rw [List.all_eq_true]
  constructor
  · intro h i j hi hj
    have h1 := h ((n + 1) * j + i) (by
      rw [List.mem_range]
      have : (n + 1) * j ≤ (n + 1) * n := Nat.mul_le_mul_left _ hj
      have e : (n + 1) * (n + 1) = (n + 1) * n + (n + 1) := Nat.mul_succ _ _
      omega)
    rwa [Nat.mul_add_mod, Nat.mod_eq_of_lt (by omega), Nat.mul_add_div (by omega), Nat.div_eq_of_lt (by omega), Nat.add_zero] at h1
  · intro h k hk
    rw [List.mem_range] at hk
    refine h _ _ (by have := Nat.mod_lt k (show 0 < n + 1 by omega); omega) ?_
    have : k / (n + 1) < n + 1 := Nat.div_lt_of_lt_mul hk
    omega
/-- the first k rounds of a rate's grid went well -/
def wentOk (C : CV) (P : PV) (m : Int) (n k : Nat) : Prop := ∀ c r, c ≤ n → (n + 1) * r + c < k → stepOk C P m n c r = true
theorem went_all (C : CV) (P : PV) (m : Int) (n : Nat) (h : wentOk C P m n ((n + 1) * (n + 1))) : rateOk C P m n = true := (rate_all C P m n).2 fun i j hi hj => h i j hi (by
  have : (n + 1) * j ≤ (n + 1) * n := Nat.mul_le_mul_left _ hj
  have e : (n + 1) * (n + 1) = (n + 1) * n + (n + 1) := Nat.mul_succ _ _
  omega)
theorem went_not (C : CV) (P : PV) (m : Int) (n c r : Nat) (hc : c ≤ n) (hr : r ≤ n) (h : stepOk C P m n c r = false) : rateOk C P m n = false := by
  rcases e : rateOk C P m n with _ | _
  · rfl
  · rw [(rate_all C P m n).1 e c r hc hr] at h; cases h
theorem went_step (C : CV) (P : PV) (m : Int) (n c r : Nat) (hc : c ≤ n) (h : wentOk C P m n ((n + 1) * r + c)) (hs : stepOk C P m n c r = true) : wentOk C P m n ((n + 1) * r + c + 1) := fun c' r' hc' hlt => by
  by_cases e : (n + 1) * r' + c' = (n + 1) * r + c
  · have hr : r' = r := by
      rcases Nat.lt_trichotomy r' r with h1 | h1 | h1
      · have : (n + 1) * (r' + 1) ≤ (n + 1) * r := Nat.mul_le_mul_left _ h1
        rw [Nat.mul_succ] at this
        omega
      · exact h1
      · have : (n + 1) * (r + 1) ≤ (n + 1) * r' := Nat.mul_le_mul_left _ h1
        rw [Nat.mul_succ] at this
        omega
    subst hr
    have : c' = c := by omega
    rw [this]
    exact hs
  · exact h c' r' hc' (by omega)

set_option maxHeartbeats 2000000 in
theorem isClose_any (a b : V3) (m : Int) (ha : onS a) (hb : onS b) (hm : 1 ≤ m ∧ m ≤ 1000) (w : World) :
    Calls Try.prog 43 #[v3v a, v3v b, .int .i64 m] w (BoolIs (near m a b) w) := by
  have HT : Held w ((w.alloc (.cells #[.int .i64 a.1, .int .i64 a.2.1, .int .i64 a.2.2] 27)).alloc (.cells #[.int .i64 b.1, .int .i64 b.2.1, .int .i64 b.2.2] 27)) [(w.heap.size + 1, [.int .i64 b.1, .int .i64 b.2.1, .int .i64 b.2.2]), (w.heap.size, [.int .i64 a.1, .int .i64 a.2.1, .int .i64 a.2.2])] := by
    have h := ((Held.nil w).new #[.int .i64 a.1, .int .i64 a.2.1, .int .i64 a.2.2] 27).new #[.int .i64 b.1, .int .i64 b.2.1, .int .i64 b.2.2] 27
    simpa only [World.size_alloc] using h
  obtain ⟨⟨ha0, ha1⟩, ha2, ha3⟩ := ha
  obtain ⟨⟨hb0, hb1⟩, hb2, hb3⟩ := hb
  have e0 : IntKind.i64.wrap (a.1 - b.1) = a.1 - b.1 := wrap_in (by omega)
  have e1 : IntKind.i64.wrap (a.2.1 - b.2.1) = a.2.1 - b.2.1 := wrap_in (by omega)
  have e2 : IntKind.i64.wrap (-m) = -m := wrap_in (by omega)
  have HW := Lib.hid HT.below
  clear ha0 ha1 ha2 ha3 hb0 hb1 hb2 hb3
  rcases h0 : inC (-m) m (a.1 - b.1) with _ | _
  · have HN : Hid (false = near m a b) := Lib.hid (by unfold near; rw [h0]; rfl)
    have a0 := (HT.box 1).c 0
    have b0 := (HT.box 0).c 0
    have a1 := (HT.box 1).c 1
    have b1 := (HT.box 0).c 1
    clear HT
    go_enter Try.func43, Try.ntmps43
    go_wp2_with (go_at_call 38; refine (isWithin_any _ _ _ _).mono ?_; rintro x w' ⟨rfl, rfl⟩; (try simp only [h0]))
    go_ret
    exact ⟨ret_b HN.out, HW.out⟩
  · have HN : Hid (inC (-m) m (a.2.1 - b.2.1) = near m a b) := Lib.hid (by unfold near; rw [h0]; rfl)
    have a0 := (HT.box 1).c 0
    have b0 := (HT.box 0).c 0
    have a1 := (HT.box 1).c 1
    have b1 := (HT.box 0).c 1
    clear HT
    go_enter Try.func43, Try.ntmps43
    go_wp2_with (go_at_call 38; refine (isWithin_any _ _ _ _).mono ?_; rintro x w' ⟨rfl, rfl⟩; (try simp only [h0]))
    go_ret
    exact ⟨ret_b HN.out, HW.out⟩

def absV (n : Int) : Int := if n < 0 then -n else n
theorem absV_any (n : Int) (h : -1000000 ≤ n ∧ n ≤ 1000000) (w : World) :
    Calls Try.prog 73 #[.int .i64 n] w (fun e w' => e = .returned (.int .i64 (absV n)) ∧ w = w') := by
  have e2 : IntKind.i64.wrap (-n) = -n := wrap_in (by omega)
  by_cases hn : n < 0
  · have e : absV n = -n := if_pos hn
    rw [e]
    go_enter Try.func73, Try.ntmps73
    go_wp2_with fail
    go_ret
    exact ⟨rfl, rfl⟩
  · have e : absV n = n := if_neg hn
    rw [e]
    go_enter Try.func73, Try.ntmps73
    go_wp2_with fail
    go_ret
    exact ⟨rfl, rfl⟩
theorem abs_far (m n : Int) : decide (m < absV n) = !inC (-m) m n := by
  unfold absV
  rw [Bool.eq_iff_iff, Bool.not_eq_true', ← Bool.not_eq_true, inC_iff, decide_eq_true_iff]
  split <;> omega

set_option maxHeartbeats 2000000 in
theorem far_any (a b : V3) (m : Int) (ha : onS a) (hb : onS b) (w : World) :
    Calls Try.prog 48 #[v3v a, v3v b, .int .i64 m] w (BoolIs (!near m a b) w) := by
  have HT : Held w ((w.alloc (.cells #[.int .i64 a.1, .int .i64 a.2.1, .int .i64 a.2.2] 27)).alloc (.cells #[.int .i64 b.1, .int .i64 b.2.1, .int .i64 b.2.2] 27)) [(w.heap.size + 1, [.int .i64 b.1, .int .i64 b.2.1, .int .i64 b.2.2]), (w.heap.size, [.int .i64 a.1, .int .i64 a.2.1, .int .i64 a.2.2])] := by
    have h := ((Held.nil w).new #[.int .i64 a.1, .int .i64 a.2.1, .int .i64 a.2.2] 27).new #[.int .i64 b.1, .int .i64 b.2.1, .int .i64 b.2.2] 27
    simpa only [World.size_alloc] using h
  obtain ⟨⟨ha0, ha1⟩, ha2, ha3⟩ := ha
  obtain ⟨⟨hb0, hb1⟩, hb2, hb3⟩ := hb
  have e0 : IntKind.i64.wrap (a.1 - b.1) = a.1 - b.1 := wrap_in (by omega)
  have e1 : IntKind.i64.wrap (a.2.1 - b.2.1) = a.2.1 - b.2.1 := wrap_in (by omega)
  have HA0 : Hid (∀ w, Calls Try.prog 73 #[.int .i64 (a.1 - b.1)] w (fun e w' => e = .returned (.int .i64 (absV (a.1 - b.1))) ∧ w = w')) := Lib.hid (fun w => absV_any _ (by omega) w)
  have HA1 : Hid (∀ w, Calls Try.prog 73 #[.int .i64 (a.2.1 - b.2.1)] w (fun e w' => e = .returned (.int .i64 (absV (a.2.1 - b.2.1))) ∧ w = w')) := Lib.hid (fun w => absV_any _ (by omega) w)
  have HW := Lib.hid HT.below
  have HN : Hid (near m a b = (inC (-m) m (a.1 - b.1) && inC (-m) m (a.2.1 - b.2.1))) := Lib.hid rfl
  have q0 := abs_far m (a.1 - b.1)
  have q1 := abs_far m (a.2.1 - b.2.1)
  clear ha0 ha1 ha2 ha3 hb0 hb1 hb2 hb3
  generalize absV (a.1 - b.1) = x at q0 HA0
  generalize absV (a.2.1 - b.2.1) = y at q1 HA1
  rcases h0 : inC (-m) m (a.1 - b.1) with _ | _
  · rw [h0] at q0
    have HN : Hid (true = !near m a b) := Lib.hid (by rw [HN.out, h0]; rfl)
    have a0 := (HT.box 1).c 0
    have b0 := (HT.box 0).c 0
    have a1 := (HT.box 1).c 1
    have b1 := (HT.box 0).c 1
    clear HT h0 q1
    have q0 : decide (m < x) = true := q0
    go_enter Try.func48, Try.ntmps48
    go_wp2_with (go_at_call 73; (first | (with_reducible refine (HA0.out _).mono ?_) | (with_reducible refine (HA1.out _).mono ?_)); rintro x w' ⟨rfl, rfl⟩)
    go_ret
    exact ⟨ret_b HN.out, HW.out⟩
  · rw [h0] at q0
    have HN : Hid ((decide (m < y)) = !near m a b) := Lib.hid (by rw [HN.out, h0, q1]; rfl)
    have a0 := (HT.box 1).c 0
    have b0 := (HT.box 0).c 0
    have a1 := (HT.box 1).c 1
    have b1 := (HT.box 0).c 1
    clear HT h0 q1
    have q0 : decide (m < x) = false := q0
    go_enter Try.func48, Try.ntmps48
    go_wp2_with (go_at_call 73; (first | (with_reducible refine (HA0.out _).mono ?_) | (with_reducible refine (HA1.out _).mono ?_)); rintro x w' ⟨rfl, rfl⟩)
    go_ret
    exact ⟨ret_b HN.out, HW.out⟩
end Go.Proofs.Ytmhcpjednogegaa
