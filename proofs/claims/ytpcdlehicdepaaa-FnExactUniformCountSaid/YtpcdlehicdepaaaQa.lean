/- Valid nodes: the program and its model. -/
import Derived.Test.YtpcdlehicdepaaaProg
import Derived.Test.YtpcdlehicdepaaaInts
import Derived.Test.YtpcdlehicdepaaaVbox
import Derived.Test.YtpcdlehicdepaaaHeld
import Derived.Test.YtpcdlehicdepaaaMem
import Derived.Test.YtpcdlehicdepaaaFlat
import Derived.Test.YtpcdlehicdepaaaRowC
import Derived.Test.YtpcdlehicdepaaaKS
import Derived.Test.YtpcdlehicdepaaaStrS
import Derived.Test.YtpcdlehicdepaaaIntS
import Derived.Test.YtpcdlehicdepaaaSS
import Derived.Test.YtpcdlehicdepaaaPg
import Derived.Test.YtpcdlehicdepaaaIdent
import Derived.Test.YtpcdlehicdepaaaPn
import Derived.WalkKit
import Derived.WalkSpells
import Derived.WalkLawsBesides
import Derived.Lib.Hide
import Derived.Deep.RegionHeld3
import Derived.Deep.QuietTactic
import Derived.BigQuiet
import Derived.Handy
import Derived.Deep.DeepCutAuto
namespace Go.Proofs.Ytpcdlehicdepaaa
open Go.RowKit

/-- n lies from lo to hi -/
def inQ (lo hi n : Int) : Bool := decide (lo ≤ n) && decide (n ≤ hi)
theorem inQ_iff (lo hi n : Int) : inQ lo hi n = true ↔ lo ≤ n ∧ n ≤ hi := by simp [inQ]
theorem inQ_not {lo hi n : Int} (h : inQ lo hi n = false) : ¬ (lo ≤ n ∧ n ≤ hi) := fun k => by rw [(inQ_iff ..).2 k] at h; cases h
section
variable {v : Nd}
theorem shape_1 (h : v.1 = 1) : shapeN v ↔ v.2.1 = ⟨#[]⟩ ∧ 0 ≤ v.2.2.1 ∧ v.2.2.1 ≤ 2559999 ∧ v.2.2.2.length = 0 := by
  unfold shapeN
  constructor
  · rintro (⟨_, k⟩ | ⟨e, _⟩ | ⟨e, _⟩ | ⟨e, e2, _⟩ | ⟨e, _⟩)
    · exact k
    all_goals omega
  · exact fun k => .inl ⟨h, k⟩
theorem shape_2 (h : v.1 = 2) : shapeN v ↔ Ident v.2.1 ∧ v.2.2.1 = 0 ∧ v.2.2.2.length = 0 := by
  unfold shapeN
  constructor
  · rintro (⟨e, _⟩ | ⟨_, k⟩ | ⟨e, _⟩ | ⟨e, e2, _⟩ | ⟨e, _⟩)
    · omega
    · exact k
    all_goals omega
  · exact fun k => .inr (.inl ⟨h, k⟩)
theorem shape_3 (h : v.1 = 3) : shapeN v ↔ v.2.1 = ⟨#[]⟩ ∧ v.2.2.1 = 0 ∧ v.2.2.2.length = 1 := by
  unfold shapeN
  constructor
  · rintro (⟨e, _⟩ | ⟨e, _⟩ | ⟨_, k⟩ | ⟨e, e2, _⟩ | ⟨e, _⟩)
    · omega
    · omega
    · exact k
    all_goals omega
  · exact fun k => .inr (.inr (.inl ⟨h, k⟩))
theorem shape_4 (h : 4 ≤ v.1 ∧ v.1 ≤ 7) : shapeN v ↔ v.2.1 = ⟨#[]⟩ ∧ v.2.2.1 = 0 ∧ v.2.2.2.length = 2 := by
  unfold shapeN
  constructor
  · rintro (⟨e, _⟩ | ⟨e, _⟩ | ⟨e, _⟩ | ⟨_, _, k⟩ | ⟨e, _⟩)
    · omega
    · omega
    · omega
    · exact k
    · omega
  · exact fun k => .inr (.inr (.inr (.inl ⟨h.1, h.2, k⟩)))
theorem shape_8 (h : v.1 = 8) : shapeN v ↔ Ident v.2.1 ∧ v.2.2.1 = 0 ∧ v.2.2.2.length ≤ 3 := by
  unfold shapeN
  constructor
  · rintro (⟨e, _⟩ | ⟨e, _⟩ | ⟨e, _⟩ | ⟨e, e2, _⟩ | ⟨_, k⟩)
    · omega
    · omega
    · omega
    · omega
    · exact k
  · exact fun k => .inr (.inr (.inr (.inr ⟨h, k⟩)))
theorem shape_no (h : v.1 < 1 ∨ 8 < v.1) : ¬ shapeN v := by
  unfold shapeN
  rintro (⟨e, _⟩ | ⟨e, _⟩ | ⟨e, _⟩ | ⟨e, e2, _⟩ | ⟨e, _⟩) <;> omega
end
theorem nil_iff (s : ByteArray) : (s.toList == []) = decide (s = ⟨#[]⟩) := by
  by_cases h : s = ⟨#[]⟩
  · subst h
    simp [ByteArray.toList_eq]
  · rw [decide_eq_false h]
    simp only [beq_eq_false_iff_ne, ne_eq]
    intro e
    apply h
    apply ByteArray.ext
    rw [ByteArray.toList_eq] at e
    exact Array.toList_eq_nil_iff.1 e
/-- a call that answers whether p holds, and leaves all as it was -/
def BoolAt (p : Prop) (w : World) (e : Ending) (w' : World) : Prop := ∃ b : Bool, e = .returned (.bool b) ∧ (b = true ↔ p) ∧ w = w'
theorem iffF {p : Prop} (h : ¬ p) : (false = true ↔ p) := ⟨(fun e => by cases e), fun k => absurd k h⟩
theorem iffT {p : Prop} (h : p) : (true = true ↔ p) := ⟨fun _ => h, fun _ => rfl⟩

set_option maxHeartbeats 2000000 in
theorem isWithinQ (n lo hi : Int) (w : World) :
    Calls Try.prog 35 #[.int .i64 n, .int .i64 lo, .int .i64 hi] w (fun x w' => x = .returned (.bool (inQ lo hi n)) ∧ w = w') := by
  by_cases h0 : lo ≤ n
  · by_cases h1 : n ≤ hi
    all_goals
      have b0 : decide (lo ≤ n) = true := decide_eq_true h0
      have e : inQ lo hi n = decide (n ≤ hi) := by unfold inQ; simp [h0]
      rw [e]
      first
        | have b1 : decide (n ≤ hi) = true := decide_eq_true h1
        | have b1 : decide (n ≤ hi) = false := decide_eq_false h1
      rw [b1]
      clear e
      go_enter Try.func35, Try.ntmps35
      go_wp2
      go_ret
      exact ⟨rfl, rfl⟩
  · have b0 : decide (lo ≤ n) = false := decide_eq_false h0
    have e : inQ lo hi n = false := by unfold inQ; simp [h0]
    rw [e]
    clear e
    go_enter Try.func35, Try.ntmps35
    go_wp2
    go_ret
    exact ⟨rfl, rfl⟩

set_option maxHeartbeats 2000000 in
theorem l01InQ (n lo hi : Int) (w : World) :
    Calls Try.prog 27 #[.int .i64 n, .int .i64 lo, .int .i64 hi] w (fun x w' => x = .returned (.bool (inQ lo hi n)) ∧ w = w') := by
  by_cases h0 : lo ≤ n
  · by_cases h1 : n ≤ hi
    all_goals
      have b0 : decide (lo ≤ n) = true := decide_eq_true h0
      have e : inQ lo hi n = decide (n ≤ hi) := by unfold inQ; simp [h0]
      rw [e]
      first
        | have b1 : decide (n ≤ hi) = true := decide_eq_true h1
        | have b1 : decide (n ≤ hi) = false := decide_eq_false h1
      rw [b1]
      clear e
      go_enter Try.func27, Try.ntmps27
      go_wp2
      go_ret
      exact ⟨rfl, rfl⟩
  · have b0 : decide (lo ≤ n) = false := decide_eq_false h0
    have e : inQ lo hi n = false := by unfold inQ; simp [h0]
    rw [e]
    clear e
    go_enter Try.func27, Try.ntmps27
    go_wp2
    go_ret
    exact ⟨rfl, rfl⟩

set_option maxHeartbeats 2000000 in
theorem areWithin_any (A : Option Addr) (c : Nat) (xs : List Int) (lo hi : Int) (w : World) (B : Nat) (hR : Row I64 w B A xs) (hl : xs.length ≤ 1099511627776) :
    Calls Try.prog 57 #[.slice A xs.length c, .int .i64 lo, .int .i64 hi] w (BoolAt (∀ a ∈ xs, lo ≤ a ∧ a ≤ hi) w) := by
  go_enter Try.func57, Try.ntmps57
  go_wp2
  go_loop [11] (fun i => ∃ k : Nat, k ≤ xs.length ∧ i = .int .i64 k ∧ ∀ j (h : j < xs.length), j < k → lo ≤ xs[j] ∧ xs[j] ≤ hi) (fun i => xs.length - (intOf i).toNat)
  case atStart => exact ⟨0, Nat.zero_le _, rfl, fun j _ h => by omega⟩
  case round =>
    obtain ⟨k, hk, rfl, hin⟩ := hrel
    by_cases hlt : k < xs.length
    · obtain ⟨b, o, rfl, hbl, c0⟩ := hR.at hlt
      obtain ⟨v, hv⟩ : ∃ v, v = xs[k] := ⟨_, rfl⟩
      have hlt' : (k : Int) < (xs.length : Int) := by omega
      have hge' : (0 : Int) ≤ (k : Int) := by omega
      rw [← hv] at c0
      have HV := Lib.hid hv
      have HIN := Lib.hid hin
      clear hv hin hR
      go_wp2_with fail
      refine (isWithinQ _ _ _ _).mono ?_
      rintro e w1 ⟨rfl, rfl⟩
      cases hb : inQ lo hi v with
      | true =>
        have hvv := (inQ_iff ..).1 hb
        have HST : Hid (∀ j (h : j < xs.length), j < k + 1 → lo ≤ xs[j] ∧ xs[j] ≤ hi) := Lib.hid fun j h hj => by
          rcases Nat.lt_or_ge j k with h1 | h1
          · exact HIN.out j h h1
          · obtain rfl : j = k := by omega
            rw [← HV.out]
            exact hvv
        clear hb hvv
        go_wp2_with fail
        go_round
        case rel => exact ⟨k + 1, by omega, by go_num, HST.out⟩
        case measure => simp [intOf]; omega
      | false =>
        have HZ : Hid (¬ ∀ a ∈ xs, lo ≤ a ∧ a ≤ hi) := Lib.hid fun h => inQ_not hb (by rw [HV.out]; exact h _ (List.getElem_mem hlt))
        clear hb
        go_wp2_with fail
        go_ret
        exact ⟨false, rfl, iffF HZ.out, rfl⟩
    · have HZ : Hid (∀ a ∈ xs, lo ≤ a ∧ a ≤ hi) := Lib.hid fun a ha => by
        obtain ⟨j, hj, rfl⟩ := List.getElem_of_mem ha
        exact hin j hj (by omega)
      clear hin hR
      go_wp2
      go_ret
      exact ⟨true, rfl, iffT HZ.out, rfl⟩

set_option maxRecDepth 100000 in
set_option maxHeartbeats 8000000 in
theorem isValidNode_any (v0 v2 : Int) (s : ByteArray) (A : Option Addr) (c : Nat) (xs : List Int) (w : World) (hs : s.size ≤ 1048576) (hl : xs.length ≤ 1099511627776) :
    Calls Try.prog 56 #[.agg #[.int .i64 v0, .string s, .int .i64 v2, .slice A xs.length c]] w (BoolOut (shapeN (v0, s, v2, xs)) w) := by
  obtain ⟨n, hn⟩ : ∃ n, n = xs.length := ⟨_, rfl⟩
  have HID := Lib.hid (fun W => ident_any s W hs)
  have HN := Lib.hid hn
  rw [← hn] at hl ⊢
  clear hn
  obtain ⟨E, hE⟩ : ∃ E : Bool, E = decide (s = ⟨#[]⟩) := ⟨_, rfl⟩
  have hE1 : (s.toList == []) = E := by rw [hE]; exact nil_iff s
  have hE2 : E = true ↔ s = ⟨#[]⟩ := by rw [hE]; simp
  clear hE
  have HE2 := Lib.hid hE2
  clear hE2
  go_enter Try.func56, Try.ntmps56
  go_upto_region 1 with fail
  obtain ⟨W1, hW1⟩ : ∃ W, W = w.alloc (.cells #[.int .i64 v0, .string s, .int .i64 v2, .slice A n c] 56) := ⟨_, rfl⟩
  have M := Mbox.new w #[.int .i64 v0, .string s, .int .i64 v2, .slice A n c] 56
  have hB : Below w.heap.size w (w.alloc (.cells #[.int .i64 v0, .string s, .int .i64 v2, .slice A n c] 56)) := by go_grown
  rw [← hW1] at M hB ⊢
  have hsz : w.heap.size ≤ W1.heap.size := hB.size
  have m1 := M.c 1
  have m2 := M.c 2
  have HM := Lib.hid M
  have HB := Lib.hid hB
  clear hW1 M hB
  go_cut [3] (fun y wx => Mbox wx w.heap.size [.int .i64 v0, .string s, .int .i64 v2, .slice A n c] ∧ Below w.heap.size w wx ∧ ∃ b : Bool, y = .bool b ∧ (b = true ↔ Ident s ∧ v2 = 0))
  case first =>
    go_wp2_with fail
    refine (HID.out _).mono ?_
    rintro e w2 ⟨b, rfl, hb, hbl⟩
    have M2 := HM.out.later hbl
    have HB2 := Lib.hid (HB.out.trans (hbl.mono hsz))
    have m1 := M2.c 1
    have m2 := M2.c 2
    have HM2 := Lib.hid M2
    have HBB := Lib.hid hb
    clear M2 hbl hb HM HB
    cases b with
    | false =>
      go_wp2_with fail
      go_meet
      exact ⟨HM2.out, HB2.out, false, rfl, iffF fun h => by have := HBB.out.2 h.1; cases this⟩
    | true =>
      have HI := Lib.hid (HBB.out.1 rfl)
      clear HBB
      by_cases h0 : v2 = 0
      · have b0 : (v2 == 0) = true := by simp [h0]
        have H0 := Lib.hid h0
        clear h0
        go_wp2_with fail
        go_meet
        exact ⟨HM2.out, HB2.out, true, rfl, iffT ⟨HI.out, H0.out⟩⟩
      · have b0 : (v2 == 0) = false := by simp [h0]
        have H0 := Lib.hid h0
        clear h0
        go_wp2_with fail
        go_meet
        exact ⟨HM2.out, HB2.out, false, rfl, iffF fun h => H0.out h.2⟩
  case rest =>
    clear m1 m2 HM HB hsz
    obtain ⟨M, hB, nm, rfl, hnm⟩ := hcut
    have hsz : w.heap.size ≤ wc.heap.size := hB.size
    have m1 := M.c 1
    have m2 := M.c 2
    have HM := Lib.hid M
    have HB := Lib.hid hB
    have HNM := Lib.hid hnm
    clear M hB hnm
    go_upto_region 2 with fail
    go_cut [4] (fun y wx => Mbox wx w.heap.size [.int .i64 v0, .string s, .int .i64 v2, .slice A n c] ∧ Below w.heap.size w wx ∧ ∃ b : Bool, y = .bool b ∧ (b = true ↔ s = ⟨#[]⟩ ∧ v2 = 0))
    case first =>
      cases E with
      | false =>
        go_wp2_with fail
        go_meet
        exact ⟨HM.out, HB.out, false, rfl, iffF fun h => by have := HE2.out.2 h.1; cases this⟩
      | true =>
        have HI := Lib.hid (HE2.out.1 rfl)
        by_cases h0 : v2 = 0
        · have b0 : (v2 == 0) = true := by simp [h0]
          have H0 := Lib.hid h0
          clear h0
          go_wp2_with fail
          go_meet
          exact ⟨HM.out, HB.out, true, rfl, iffT ⟨HI.out, H0.out⟩⟩
        · have b0 : (v2 == 0) = false := by simp [h0]
          have H0 := Lib.hid h0
          clear h0
          go_wp2_with fail
          go_meet
          exact ⟨HM.out, HB.out, false, rfl, iffF fun h => H0.out h.2⟩
    case rest =>
      clear m1 m2 HM HB hsz
      obtain ⟨M, hB, pl, rfl, hpl⟩ := hcut
      have m0 := M.c 0
      have m1 := M.c 1
      have m2 := M.c 2
      have m3 := M.c 3
      have HB := Lib.hid hB
      have HPL := Lib.hid hpl
      clear M hB hpl
      by_cases q1 : v0 = 1
      · have HSH := Lib.hid (shape_1 (v := (v0, s, v2, xs)) q1)
        have o1 : (v0 == 1) = true := by simp; omega
        clear q1
        cases E with
        | false =>
          have HZ : Hid (¬ shapeN (v0, s, v2, xs)) := Lib.hid fun h => by have := HE2.out.2 (HSH.out.1 h).1; cases this
          go_wp2_with fail
          go_ret
          exact ⟨false, rfl, iffF HZ.out, HB.out⟩
        | true =>
          have HI := Lib.hid (HE2.out.1 rfl)
          go_wp2_with fail
          refine (isWithinQ _ _ _ _).mono ?_
          rintro e w3 ⟨rfl, rfl⟩
          cases hq : inQ 0 2559999 v2 with
          | false =>
            have HZ : Hid (¬ shapeN (v0, s, v2, xs)) := Lib.hid fun h => inQ_not hq ⟨(HSH.out.1 h).2.1, (HSH.out.1 h).2.2.1⟩
            clear hq
            go_wp2_with fail
            go_ret
            exact ⟨false, rfl, iffF HZ.out, HB.out⟩
          | true =>
            have HQ := Lib.hid ((inQ_iff ..).1 hq)
            clear hq
            by_cases hc : n = 0
            · have bc : ((n : Int) == 0) = true := by simp; omega
              have HZ : Hid (shapeN (v0, s, v2, xs)) := Lib.hid (HSH.out.2 ⟨HI.out, HQ.out.1, HQ.out.2, HN.out ▸ hc⟩)
              go_wp2_with fail
              go_ret
              exact ⟨true, rfl, iffT HZ.out, HB.out⟩
            · have bc : ((n : Int) == 0) = false := by simp; omega
              have HZ : Hid (¬ shapeN (v0, s, v2, xs)) := Lib.hid fun h => hc (HN.out ▸ (HSH.out.1 h).2.2.2)
              go_wp2_with fail
              go_ret
              exact ⟨false, rfl, iffF HZ.out, HB.out⟩
      · by_cases q2 : v0 = 2
        · clear hE1
          have o1 : (v0 == 1) = false := by simp; omega
          have o2 : (v0 == 2) = true := by simp; omega
          have HSH := Lib.hid (shape_2 (v := (v0, s, v2, xs)) q2)
          clear q2
          cases nm with
          | false =>
            have HZ : Hid (¬ shapeN (v0, s, v2, xs)) := Lib.hid fun h => by have := HNM.out.2 ⟨(HSH.out.1 h).1, (HSH.out.1 h).2.1⟩; cases this
            go_wp2_with fail
            go_ret
            exact ⟨false, rfl, iffF HZ.out, HB.out⟩
          | true =>
            have HF := Lib.hid (HNM.out.1 rfl)
            by_cases hc : n = 0
            · have bc : ((n : Int) == 0) = true := by simp; omega
              have HZ : Hid (shapeN (v0, s, v2, xs)) := Lib.hid (HSH.out.2 ⟨HF.out.1, HF.out.2, HN.out ▸ hc⟩)
              go_wp2_with fail
              go_ret
              exact ⟨true, rfl, iffT HZ.out, HB.out⟩
            · have bc : ((n : Int) == 0) = false := by simp; omega
              have HZ : Hid (¬ shapeN (v0, s, v2, xs)) := Lib.hid fun h => hc (HN.out ▸ (HSH.out.1 h).2.2)
              go_wp2_with fail
              go_ret
              exact ⟨false, rfl, iffF HZ.out, HB.out⟩
        · by_cases q3 : v0 = 3
          · clear hE1
            have o1 : (v0 == 1) = false := by simp; omega
            have o2 : (v0 == 2) = false := by simp; omega
            have o3 : (v0 == 3) = true := by simp; omega
            have HSH := Lib.hid (shape_3 (v := (v0, s, v2, xs)) q3)
            clear q3
            cases pl with
            | false =>
              have HZ : Hid (¬ shapeN (v0, s, v2, xs)) := Lib.hid fun h => by have := HPL.out.2 ⟨(HSH.out.1 h).1, (HSH.out.1 h).2.1⟩; cases this
              go_wp2_with fail
              go_ret
              exact ⟨false, rfl, iffF HZ.out, HB.out⟩
            | true =>
              have HF := Lib.hid (HPL.out.1 rfl)
              by_cases hc : n = 1
              · have bc : ((n : Int) == 1) = true := by simp; omega
                have HZ : Hid (shapeN (v0, s, v2, xs)) := Lib.hid (HSH.out.2 ⟨HF.out.1, HF.out.2, HN.out ▸ hc⟩)
                go_wp2_with fail
                go_ret
                exact ⟨true, rfl, iffT HZ.out, HB.out⟩
              · have bc : ((n : Int) == 1) = false := by simp; omega
                have HZ : Hid (¬ shapeN (v0, s, v2, xs)) := Lib.hid fun h => hc (HN.out ▸ (HSH.out.1 h).2.2)
                go_wp2_with fail
                go_ret
                exact ⟨false, rfl, iffF HZ.out, HB.out⟩
          · by_cases q4 : 4 ≤ v0 ∧ v0 ≤ 7
            · clear hE1
              have q4' : v0 = 4 ∨ v0 = 5 ∨ v0 = 6 ∨ v0 = 7 := by omega
              have HSH0 := Lib.hid (shape_4 (v := (v0, s, v2, xs)) q4)
              rcases q4' with q5 | q5 | q5 | q5
              · have o1 : (v0 == 1) = false := by simp; omega
                have o2 : (v0 == 2) = false := by simp; omega
                have o3 : (v0 == 3) = false := by simp; omega
                have o4 : (v0 == 4) = true := by simp; omega
                have HSH := Lib.hid (HSH0.out)
                clear q5
                cases pl with
                | false =>
                  have HZ : Hid (¬ shapeN (v0, s, v2, xs)) := Lib.hid fun h => by have := HPL.out.2 ⟨(HSH.out.1 h).1, (HSH.out.1 h).2.1⟩; cases this
                  go_wp2_with fail
                  go_ret
                  exact ⟨false, rfl, iffF HZ.out, HB.out⟩
                | true =>
                  have HF := Lib.hid (HPL.out.1 rfl)
                  by_cases hc : n = 2
                  · have bc : ((n : Int) == 2) = true := by simp; omega
                    have HZ : Hid (shapeN (v0, s, v2, xs)) := Lib.hid (HSH.out.2 ⟨HF.out.1, HF.out.2, HN.out ▸ hc⟩)
                    go_wp2_with fail
                    go_ret
                    exact ⟨true, rfl, iffT HZ.out, HB.out⟩
                  · have bc : ((n : Int) == 2) = false := by simp; omega
                    have HZ : Hid (¬ shapeN (v0, s, v2, xs)) := Lib.hid fun h => hc (HN.out ▸ (HSH.out.1 h).2.2)
                    go_wp2_with fail
                    go_ret
                    exact ⟨false, rfl, iffF HZ.out, HB.out⟩
              · have o1 : (v0 == 1) = false := by simp; omega
                have o2 : (v0 == 2) = false := by simp; omega
                have o3 : (v0 == 3) = false := by simp; omega
                have o4 : (v0 == 4) = false := by simp; omega
                have o5 : (v0 == 5) = true := by simp; omega
                have HSH := Lib.hid (HSH0.out)
                clear q5
                cases pl with
                | false =>
                  have HZ : Hid (¬ shapeN (v0, s, v2, xs)) := Lib.hid fun h => by have := HPL.out.2 ⟨(HSH.out.1 h).1, (HSH.out.1 h).2.1⟩; cases this
                  go_wp2_with fail
                  go_ret
                  exact ⟨false, rfl, iffF HZ.out, HB.out⟩
                | true =>
                  have HF := Lib.hid (HPL.out.1 rfl)
                  by_cases hc : n = 2
                  · have bc : ((n : Int) == 2) = true := by simp; omega
                    have HZ : Hid (shapeN (v0, s, v2, xs)) := Lib.hid (HSH.out.2 ⟨HF.out.1, HF.out.2, HN.out ▸ hc⟩)
                    go_wp2_with fail
                    go_ret
                    exact ⟨true, rfl, iffT HZ.out, HB.out⟩
                  · have bc : ((n : Int) == 2) = false := by simp; omega
                    have HZ : Hid (¬ shapeN (v0, s, v2, xs)) := Lib.hid fun h => hc (HN.out ▸ (HSH.out.1 h).2.2)
                    go_wp2_with fail
                    go_ret
                    exact ⟨false, rfl, iffF HZ.out, HB.out⟩
              · have o1 : (v0 == 1) = false := by simp; omega
                have o2 : (v0 == 2) = false := by simp; omega
                have o3 : (v0 == 3) = false := by simp; omega
                have o4 : (v0 == 4) = false := by simp; omega
                have o5 : (v0 == 5) = false := by simp; omega
                have o6 : (v0 == 6) = true := by simp; omega
                have HSH := Lib.hid (HSH0.out)
                clear q5
                cases pl with
                | false =>
                  have HZ : Hid (¬ shapeN (v0, s, v2, xs)) := Lib.hid fun h => by have := HPL.out.2 ⟨(HSH.out.1 h).1, (HSH.out.1 h).2.1⟩; cases this
                  go_wp2_with fail
                  go_ret
                  exact ⟨false, rfl, iffF HZ.out, HB.out⟩
                | true =>
                  have HF := Lib.hid (HPL.out.1 rfl)
                  by_cases hc : n = 2
                  · have bc : ((n : Int) == 2) = true := by simp; omega
                    have HZ : Hid (shapeN (v0, s, v2, xs)) := Lib.hid (HSH.out.2 ⟨HF.out.1, HF.out.2, HN.out ▸ hc⟩)
                    go_wp2_with fail
                    go_ret
                    exact ⟨true, rfl, iffT HZ.out, HB.out⟩
                  · have bc : ((n : Int) == 2) = false := by simp; omega
                    have HZ : Hid (¬ shapeN (v0, s, v2, xs)) := Lib.hid fun h => hc (HN.out ▸ (HSH.out.1 h).2.2)
                    go_wp2_with fail
                    go_ret
                    exact ⟨false, rfl, iffF HZ.out, HB.out⟩
              · have o1 : (v0 == 1) = false := by simp; omega
                have o2 : (v0 == 2) = false := by simp; omega
                have o3 : (v0 == 3) = false := by simp; omega
                have o4 : (v0 == 4) = false := by simp; omega
                have o5 : (v0 == 5) = false := by simp; omega
                have o6 : (v0 == 6) = false := by simp; omega
                have o7 : (v0 == 7) = true := by simp; omega
                have HSH := Lib.hid (HSH0.out)
                clear q5
                cases pl with
                | false =>
                  have HZ : Hid (¬ shapeN (v0, s, v2, xs)) := Lib.hid fun h => by have := HPL.out.2 ⟨(HSH.out.1 h).1, (HSH.out.1 h).2.1⟩; cases this
                  go_wp2_with fail
                  go_ret
                  exact ⟨false, rfl, iffF HZ.out, HB.out⟩
                | true =>
                  have HF := Lib.hid (HPL.out.1 rfl)
                  by_cases hc : n = 2
                  · have bc : ((n : Int) == 2) = true := by simp; omega
                    have HZ : Hid (shapeN (v0, s, v2, xs)) := Lib.hid (HSH.out.2 ⟨HF.out.1, HF.out.2, HN.out ▸ hc⟩)
                    go_wp2_with fail
                    go_ret
                    exact ⟨true, rfl, iffT HZ.out, HB.out⟩
                  · have bc : ((n : Int) == 2) = false := by simp; omega
                    have HZ : Hid (¬ shapeN (v0, s, v2, xs)) := Lib.hid fun h => hc (HN.out ▸ (HSH.out.1 h).2.2)
                    go_wp2_with fail
                    go_ret
                    exact ⟨false, rfl, iffF HZ.out, HB.out⟩
            · by_cases q8 : v0 = 8
              · clear hE1
                have o1 : (v0 == 1) = false := by simp; omega
                have o2 : (v0 == 2) = false := by simp; omega
                have o3 : (v0 == 3) = false := by simp; omega
                have o4 : (v0 == 4) = false := by simp; omega
                have o5 : (v0 == 5) = false := by simp; omega
                have o6 : (v0 == 6) = false := by simp; omega
                have o7 : (v0 == 7) = false := by simp; omega
                have o8 : (v0 == 8) = true := by simp; omega
                have HSH := Lib.hid (shape_8 (v := (v0, s, v2, xs)) q8)
                clear q8
                cases nm with
                | false =>
                  have HZ : Hid (¬ shapeN (v0, s, v2, xs)) := Lib.hid fun h => by have := HNM.out.2 ⟨(HSH.out.1 h).1, (HSH.out.1 h).2.1⟩; cases this
                  go_wp2_with fail
                  go_ret
                  exact ⟨false, rfl, iffF HZ.out, HB.out⟩
                | true =>
                  have HF := Lib.hid (HNM.out.1 rfl)
                  by_cases hc : n ≤ 3
                  · have bc : decide ((n : Int) ≤ 3) = true := decide_eq_true (by omega)
                    have HZ : Hid (shapeN (v0, s, v2, xs)) := Lib.hid (HSH.out.2 ⟨HF.out.1, HF.out.2, HN.out ▸ hc⟩)
                    go_wp2_with fail
                    go_ret
                    exact ⟨true, rfl, iffT HZ.out, HB.out⟩
                  · have bc : decide ((n : Int) ≤ 3) = false := decide_eq_false (by omega)
                    have HZ : Hid (¬ shapeN (v0, s, v2, xs)) := Lib.hid fun h => hc (HN.out ▸ (HSH.out.1 h).2.2)
                    go_wp2_with fail
                    go_ret
                    exact ⟨false, rfl, iffF HZ.out, HB.out⟩
              · clear hE1
                have HZ : Hid (¬ shapeN (v0, s, v2, xs)) := Lib.hid (shape_no (v := (v0, s, v2, xs)) (show v0 < 1 ∨ 8 < v0 by omega))
                have o1 : (v0 == 1) = false := by simp; omega
                have o2 : (v0 == 2) = false := by simp; omega
                have o3 : (v0 == 3) = false := by simp; omega
                have o4 : (v0 == 4) = false := by simp; omega
                have o5 : (v0 == 5) = false := by simp; omega
                have o6 : (v0 == 6) = false := by simp; omega
                have o7 : (v0 == 7) = false := by simp; omega
                have o8 : (v0 == 8) = false := by simp; omega
                go_wp2_with fail
                go_ret
                exact ⟨false, rfl, iffF HZ.out, HB.out⟩
end Go.Proofs.Ytpcdlehicdepaaa
