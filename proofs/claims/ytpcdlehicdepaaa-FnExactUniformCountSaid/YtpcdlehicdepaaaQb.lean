/- Valid nodes: the model. -/
import Derived.Test.YtpcdlehicdepaaaProg
import Derived.Test.YtpcdlehicdepaaaInts
import Derived.Test.YtpcdlehicdepaaaVbox
import Derived.Test.YtpcdlehicdepaaaHeld
import Derived.Test.YtpcdlehicdepaaaMem
import Derived.Test.YtpcdlehicdepaaaFlat
import Derived.Test.YtpcdlehicdepaaaRowC
import Derived.Test.YtpcdlehicdepaaaKS
import Derived.Test.YtpcdlehicdepaaaStrS
import Derived.Test.YtpcdlehicdepaaaIntS
import Derived.Test.YtpcdlehicdepaaaSS
import Derived.Test.YtpcdlehicdepaaaPg
import Derived.Test.YtpcdlehicdepaaaIdent
import Derived.Test.YtpcdlehicdepaaaPn
import Derived.Test.YtpcdlehicdepaaaQa
import Derived.WalkKit
import Derived.WalkSpells
import Derived.WalkLawsBesides
import Derived.Lib.Hide
import Derived.Deep.RegionHeld3
import Derived.Deep.QuietTactic
import Derived.BigQuiet
import Derived.Handy
import Derived.Deep.DeepCutAuto
namespace Go.Proofs.Ytpcdlehicdepaaa
open Go.RowKit

set_option maxRecDepth 100000 in
set_option maxHeartbeats 8000000 in
theorem sNode_any (i : Nat) (v0 v2 : Int) (s : ByteArray) (A : Option Addr) (c : Nat) (xs : List Int) (w : World) (hR : Row I64 w w.heap.size A xs) (hs : s.size ≤ 1048576) (hl : xs.length ≤ 1099511627776) (hi : i ≤ 1099511627776) :
    Calls Try.prog 51 #[.agg #[.int .i64 v0, .string s, .int .i64 v2, .slice A xs.length c], .int .i64 i] w (BoolOut (okN i (v0, s, v2, xs)) w) := by
  obtain ⟨n, hn⟩ : ∃ n, n = xs.length := ⟨_, rfl⟩
  have HID := Lib.hid (fun W => sIdent_any s W hs)
  have HN := Lib.hid hn
  rw [← hn] at hl ⊢
  clear hn
  obtain ⟨E, hE⟩ : ∃ E : Bool, E = decide (s = ⟨#[]⟩) := ⟨_, rfl⟩
  have hE1 : (s.toList == []) = E := by rw [hE]; exact nil_iff s
  have hE2 : E = true ↔ s = ⟨#[]⟩ := by rw [hE]; simp
  clear hE
  have HE2 := Lib.hid hE2
  clear hE2
  obtain ⟨W1, hW1⟩ : ∃ W, W = w.alloc (.cells #[.int .i64 v0, .string s, .int .i64 v2, .slice A n c] 56) := ⟨_, rfl⟩
  have M := Mbox.new w #[.int .i64 v0, .string s, .int .i64 v2, .slice A n c] 56
  have hB : Below w.heap.size w (w.alloc (.cells #[.int .i64 v0, .string s, .int .i64 v2, .slice A n c] 56)) := by go_grown
  have hR1 := hR.alloc (Nat.le_refl _) (.cells #[.int .i64 v0, .string s, .int .i64 v2, .slice A n c] 56)
  rw [← hW1] at M hB hR1
  have HM := Lib.hid M
  have HB := Lib.hid hB
  have HR := Lib.hid hR1
  have hi1 : (0 : Int) ≤ (i : Int) := by omega
  have hi2 : (i : Int) ≤ 1099511627776 := by omega
  clear M hB hR hR1
  go_enter Try.func51, Try.ntmps51
  go_upto_region 1 with fail
  rw [← hW1]
  clear hW1
  have m3 := HM.out.c 3
  go_wp2
  go_loop [11] (fun q => ∃ k : Nat, k ≤ n ∧ q = .int .i64 k ∧ ∀ j (h : j < xs.length), j < k → 0 ≤ xs[j] ∧ xs[j] ≤ (i : Int) - 1) (fun q => n - (intOf q).toNat)
  case atStart => exact ⟨0, Nat.zero_le _, rfl, fun j _ h => by omega⟩
  case round =>
    clear m3
    obtain ⟨k, hk, rfl, hin⟩ := hrel
    by_cases hlt : k < n
    · obtain ⟨b, o, rfl, hbl, c0⟩ := HR.out.at (show k < xs.length by rw [← HN.out]; exact hlt)
      obtain ⟨v, hv⟩ : ∃ v, v = xs[k]'(show k < xs.length by rw [← HN.out]; exact hlt) := ⟨_, rfl⟩
      have hlt' : (k : Int) < (n : Int) := by omega
      have hge' : (0 : Int) ≤ (k : Int) := by omega
      rw [← hv] at c0
      have HV := Lib.hid hv
      have HIN := Lib.hid hin
      clear hv hin hE1
      go_wp2_with fail
      refine (l01InQ _ _ _ _).mono ?_
      rintro e w1 ⟨rfl, rfl⟩
      cases hb : inQ 0 ((i : Int) - 1) v with
      | true =>
        have hvv := (inQ_iff ..).1 hb
        have HST : Hid (∀ j (h : j < xs.length), j < k + 1 → 0 ≤ xs[j] ∧ xs[j] ≤ (i : Int) - 1) := Lib.hid fun j h hj => by
          rcases Nat.lt_or_ge j k with h1 | h1
          · exact HIN.out j h h1
          · obtain rfl : j = k := by omega
            rw [← HV.out]
            exact hvv
        clear hb hvv
        go_wp2_with fail
        go_round
        case rel => exact ⟨k + 1, by omega, by go_num, HST.out⟩
        case measure => simp [intOf]; omega
      | false =>
        have HZ : Hid (¬ okN i (v0, s, v2, xs)) := Lib.hid fun h => inQ_not hb (by rw [HV.out]; exact h.2 _ (List.getElem_mem _))
        clear hb
        go_wp2_with fail
        go_ret
        exact ⟨false, rfl, iffF HZ.out, HB.out⟩
    · have HAR : Hid (argsIn i xs) := Lib.hid fun a ha => by
        obtain ⟨j, hj, rfl⟩ := List.getElem_of_mem ha
        exact hin j hj (by have := HN.out; omega)
      clear hin
      have m0 := HM.out.c 0
      have m1 := HM.out.c 1
      have m2 := HM.out.c 2
      have m3 := HM.out.c 3
      have hge' : ¬ (k : Int) < (n : Int) := by omega
      by_cases q2 : v0 = 2
      · clear hE1
        have HSH := Lib.hid (shape_2 (v := (v0, s, v2, xs)) q2)
        have o2 : (v0 == 2) = true := by simp; omega
        have o1 : (v0 == 1) = false := by simp; omega
        clear q2
        go_wp2_with fail
        refine (HID.out _).mono ?_
        rintro e w2 ⟨b, rfl, hb, hbl⟩
        have M2 := HM.out.later hbl
        have HB := Lib.hid (HB.out.trans (hbl.mono HB.out.size))
        have m0 := M2.c 0
        have m1 := M2.c 1
        have m2 := M2.c 2
        have m3 := M2.c 3
        have HBB := Lib.hid hb
        clear M2 hbl hb HM
        cases b with
        | false =>
          have HZ : Hid (¬ okN i (v0, s, v2, xs)) := Lib.hid fun h => by have := HBB.out.2 (HSH.out.1 h.1).1; cases this
          go_wp2_with fail
          go_ret
          exact ⟨false, rfl, iffF HZ.out, HB.out⟩
        | true =>
          have HI := Lib.hid (HBB.out.1 rfl)
          clear HBB
          by_cases h0 : v2 = 0
          · have b0 : (v2 != 0) = false := by simp [h0]
            have H0 := Lib.hid h0
            clear h0
            by_cases hc : n = 0
            · have bc : ((n : Int) == 0) = true := by simp; omega
              have HZ : Hid (okN i (v0, s, v2, xs)) := Lib.hid ⟨HSH.out.2 ⟨HI.out, H0.out, HN.out ▸ hc⟩, HAR.out⟩
              go_wp2_with fail
              go_ret
              exact ⟨true, rfl, iffT HZ.out, HB.out⟩
            · have bc : ((n : Int) == 0) = false := by simp; omega
              have HZ : Hid (¬ okN i (v0, s, v2, xs)) := Lib.hid fun h => hc (HN.out ▸ (HSH.out.1 h.1).2.2)
              go_wp2_with fail
              go_ret
              exact ⟨false, rfl, iffF HZ.out, HB.out⟩
          · have b0 : (v2 != 0) = true := by simp [h0]
            have HZ : Hid (¬ okN i (v0, s, v2, xs)) := Lib.hid fun h => h0 (HSH.out.1 h.1).2.1
            clear h0
            go_wp2_with fail
            go_ret
            exact ⟨false, rfl, iffF HZ.out, HB.out⟩
      · by_cases q8 : v0 = 8
        · clear hE1
          have HSH := Lib.hid (shape_8 (v := (v0, s, v2, xs)) q8)
          have o2 : (v0 == 2) = false := by simp; omega
          have o8 : (v0 == 8) = true := by simp; omega
          have o1 : (v0 == 1) = false := by simp; omega
          have o3 : (v0 == 3) = false := by simp; omega
          clear q8
          go_wp2_with fail
          refine (HID.out _).mono ?_
          rintro e w2 ⟨b, rfl, hb, hbl⟩
          have M2 := HM.out.later hbl
          have HB := Lib.hid (HB.out.trans (hbl.mono HB.out.size))
          have m0 := M2.c 0
          have m1 := M2.c 1
          have m2 := M2.c 2
          have m3 := M2.c 3
          have HBB := Lib.hid hb
          clear M2 hbl hb HM
          cases b with
          | false =>
            have HZ : Hid (¬ okN i (v0, s, v2, xs)) := Lib.hid fun h => by have := HBB.out.2 (HSH.out.1 h.1).1; cases this
            go_wp2_with fail
            go_ret
            exact ⟨false, rfl, iffF HZ.out, HB.out⟩
          | true =>
            have HI := Lib.hid (HBB.out.1 rfl)
            clear HBB
            by_cases h0 : v2 = 0
            · have b0 : (v2 != 0) = false := by simp [h0]
              have H0 := Lib.hid h0
              clear h0
              by_cases hc : n ≤ 3
              · have bc : decide ((n : Int) ≤ 3) = true := decide_eq_true (by omega)
                have HZ : Hid (okN i (v0, s, v2, xs)) := Lib.hid ⟨HSH.out.2 ⟨HI.out, H0.out, HN.out ▸ hc⟩, HAR.out⟩
                go_wp2_with fail
                go_ret
                exact ⟨true, rfl, iffT HZ.out, HB.out⟩
              · have bc : decide ((n : Int) ≤ 3) = false := decide_eq_false (by omega)
                have HZ : Hid (¬ okN i (v0, s, v2, xs)) := Lib.hid fun h => hc (HN.out ▸ (HSH.out.1 h.1).2.2)
                go_wp2_with fail
                go_ret
                exact ⟨false, rfl, iffF HZ.out, HB.out⟩
            · have b0 : (v2 != 0) = true := by simp [h0]
              have HZ : Hid (¬ okN i (v0, s, v2, xs)) := Lib.hid fun h => h0 (HSH.out.1 h.1).2.1
              clear h0
              go_wp2_with fail
              go_ret
              exact ⟨false, rfl, iffF HZ.out, HB.out⟩
        · have o2 : (v0 == 2) = false := by simp; omega
          have o8 : (v0 == 8) = false := by simp; omega
          cases E with
          | false =>
            have HZ : Hid (¬ okN i (v0, s, v2, xs)) := Lib.hid fun h => by
              have hne : s ≠ ⟨#[]⟩ := fun e => by have := HE2.out.2 e; cases this
              rcases h.1 with ⟨_, e, _⟩ | ⟨e, _⟩ | ⟨_, e, _⟩ | ⟨_, _, e, _⟩ | ⟨e, _⟩
              · exact hne e
              · exact q2 e
              · exact hne e
              · exact hne e
              · exact q8 e
            go_wp2_with fail
            go_ret
            exact ⟨false, rfl, iffF HZ.out, HB.out⟩
          | true =>
            have HI := Lib.hid (HE2.out.1 rfl)
            by_cases q1 : v0 = 1
            · have HSH := Lib.hid (shape_1 (v := (v0, s, v2, xs)) q1)
              have o1 : (v0 == 1) = true := by simp; omega
              clear q1
              go_wp2_with fail
              refine (l01InQ _ _ _ _).mono ?_
              rintro e w3 ⟨rfl, rfl⟩
              cases hq : inQ 0 2559999 v2 with
              | false =>
                have HZ : Hid (¬ okN i (v0, s, v2, xs)) := Lib.hid fun h => inQ_not hq ⟨(HSH.out.1 h.1).2.1, (HSH.out.1 h.1).2.2.1⟩
                clear hq
                go_wp2_with fail
                go_ret
                exact ⟨false, rfl, iffF HZ.out, HB.out⟩
              | true =>
                have HQ := Lib.hid ((inQ_iff ..).1 hq)
                clear hq
                by_cases hc : n = 0
                · have bc : ((n : Int) == 0) = true := by simp; omega
                  have HZ : Hid (okN i (v0, s, v2, xs)) := Lib.hid ⟨HSH.out.2 ⟨HI.out, HQ.out.1, HQ.out.2, HN.out ▸ hc⟩, HAR.out⟩
                  go_wp2_with fail
                  go_ret
                  exact ⟨true, rfl, iffT HZ.out, HB.out⟩
                · have bc : ((n : Int) == 0) = false := by simp; omega
                  have HZ : Hid (¬ okN i (v0, s, v2, xs)) := Lib.hid fun h => hc (HN.out ▸ (HSH.out.1 h.1).2.2.2)
                  go_wp2_with fail
                  go_ret
                  exact ⟨false, rfl, iffF HZ.out, HB.out⟩
            · have o1 : (v0 == 1) = false := by simp; omega
              by_cases q3 : v0 = 3
              · have HSH := Lib.hid (shape_3 (v := (v0, s, v2, xs)) q3)
                have o3 : (v0 == 3) = true := by simp; omega
                clear q3
                by_cases h0 : v2 = 0
                · have b0 : (v2 != 0) = false := by simp [h0]
                  have H0 := Lib.hid h0
                  clear h0
                  by_cases hc : n = 1
                  · have bc : ((n : Int) == 1) = true := by simp; omega
                    have HZ : Hid (okN i (v0, s, v2, xs)) := Lib.hid ⟨HSH.out.2 ⟨HI.out, H0.out, HN.out ▸ hc⟩, HAR.out⟩
                    go_wp2_with fail
                    go_ret
                    exact ⟨true, rfl, iffT HZ.out, HB.out⟩
                  · have bc : ((n : Int) == 1) = false := by simp; omega
                    have HZ : Hid (¬ okN i (v0, s, v2, xs)) := Lib.hid fun h => hc (HN.out ▸ (HSH.out.1 h.1).2.2)
                    go_wp2_with fail
                    go_ret
                    exact ⟨false, rfl, iffF HZ.out, HB.out⟩
                · have b0 : (v2 != 0) = true := by simp [h0]
                  have HZ : Hid (¬ okN i (v0, s, v2, xs)) := Lib.hid fun h => h0 (HSH.out.1 h.1).2.1
                  clear h0
                  go_wp2_with fail
                  go_ret
                  exact ⟨false, rfl, iffF HZ.out, HB.out⟩
              · have o3 : (v0 == 3) = false := by simp; omega
                have HQS := Lib.hid (And.intro q1 (And.intro q2 (And.intro q3 q8)))
                clear q1 q2 q3 q8
                by_cases h0 : v2 = 0
                · have b0 : (v2 != 0) = false := by simp [h0]
                  have H0 := Lib.hid h0
                  clear h0
                  go_wp2_with fail
                  refine (l01InQ _ _ _ _).mono ?_
                  rintro e w3 ⟨rfl, rfl⟩
                  cases hq : inQ 4 7 v0 with
                  | false =>
                    have HZ : Hid (¬ okN i (v0, s, v2, xs)) := Lib.hid fun h => by
                      have hn := inQ_not hq
                      have hq4 := HQS.out
                      rcases h.1 with ⟨e, _⟩ | ⟨e, _⟩ | ⟨e, _⟩ | ⟨e, e2, _⟩ | ⟨e, _⟩
                      · exact hq4.1 e
                      · exact hq4.2.1 e
                      · exact hq4.2.2.1 e
                      · exact hn ⟨e, e2⟩
                      · exact hq4.2.2.2 e
                    clear hq
                    go_wp2_with fail
                    go_ret
                    exact ⟨false, rfl, iffF HZ.out, HB.out⟩
                  | true =>
                    have HSH := Lib.hid (shape_4 (v := (v0, s, v2, xs)) ((inQ_iff ..).1 hq))
                    clear hq
                    by_cases hc : n = 2
                    · have bc : ((n : Int) == 2) = true := by simp; omega
                      have HZ : Hid (okN i (v0, s, v2, xs)) := Lib.hid ⟨HSH.out.2 ⟨HI.out, H0.out, HN.out ▸ hc⟩, HAR.out⟩
                      go_wp2_with fail
                      go_ret
                      exact ⟨true, rfl, iffT HZ.out, HB.out⟩
                    · have bc : ((n : Int) == 2) = false := by simp; omega
                      have HZ : Hid (¬ okN i (v0, s, v2, xs)) := Lib.hid fun h => hc (HN.out ▸ (HSH.out.1 h.1).2.2)
                      go_wp2_with fail
                      go_ret
                      exact ⟨false, rfl, iffF HZ.out, HB.out⟩
                · have b0 : (v2 != 0) = true := by simp [h0]
                  have HZ : Hid (¬ okN i (v0, s, v2, xs)) := Lib.hid fun h => by
                    have hq4 := HQS.out
                    rcases h.1 with ⟨e, _⟩ | ⟨e, _⟩ | ⟨e, _⟩ | ⟨_, _, _, e, _⟩ | ⟨e, _⟩
                    · exact hq4.1 e
                    · exact hq4.2.1 e
                    · exact hq4.2.2.1 e
                    · exact h0 e
                    · exact hq4.2.2.2 e
                  clear h0
                  go_wp2_with fail
                  go_ret
                  exact ⟨false, rfl, iffF HZ.out, HB.out⟩
end Go.Proofs.Ytpcdlehicdepaaa
