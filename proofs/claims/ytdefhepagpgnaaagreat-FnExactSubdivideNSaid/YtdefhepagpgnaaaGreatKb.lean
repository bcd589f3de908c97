/- Contracts of averages of points, in the program. -/
import Derived.Test.YtdefhepagpgnaaaGreatProg
import Derived.Test.YtdefhepagpgnaaaGreatInts
import Derived.Test.YtdefhepagpgnaaaGreatVbox
import Derived.Test.YtdefhepagpgnaaaGreatVec
import Derived.Test.YtdefhepagpgnaaaGreatHeld
import Derived.Test.YtdefhepagpgnaaaGreatMem
import Derived.Test.YtdefhepagpgnaaaGreatRowC
import Derived.Test.YtdefhepagpgnaaaGreatIntS
import Derived.Test.YtdefhepagpgnaaaGreatVecS
import Derived.Test.YtdefhepagpgnaaaGreatSS
import Derived.Test.YtdefhepagpgnaaaGreatMkA
import Derived.Test.YtdefhepagpgnaaaGreatMkB
import Derived.Test.YtdefhepagpgnaaaGreatMkC
import Derived.Test.YtdefhepagpgnaaaGreatMkD
import Derived.Test.YtdefhepagpgnaaaGreatMF
import Derived.Test.YtdefhepagpgnaaaGreatMG
import Derived.Test.YtdefhepagpgnaaaGreatMH
import Derived.Test.YtdefhepagpgnaaaGreatKp
import Derived.WalkKit
import Derived.WalkSpells
import Derived.WalkLawsBesides
import Derived.Lib.Hide
import Derived.Deep.RegionHeld3
import Derived.Deep.QuietTactic
import Derived.BigQuiet
import Derived.Handy
import Derived.Deep.DeepCutAuto
import Derived.OwnWalk
import Derived.Deep.AppendLies
namespace Go.Proofs.YtdefhepagpgnaaaGreat
open Go.RowKit

theorem wide_lo {m a : Int} (h : -m ≤ a) (hm : m ≤ 4611686018427387903) : -4611686018427387904 ≤ a := by omega
theorem wide_hi {m a : Int} (h : a ≤ m) (hm : m ≤ 4611686018427387903) : a ≤ 4611686018427387903 := by omega
theorem times_w (v : V3) (k : Int) (w : World) (h : InV 4096000000 (mulV k v)) : Calls Tryz.prog 127 #[vec v.1 v.2.1 v.2.2, .int .i64 k] w (VecOut (mulV k v).1 (mulV k v).2.1 (mulV k v).2.2 w) := times_any v.1 v.2.1 v.2.2 k w (wide_lo h.1.1 (by decide)) (wide_hi h.1.2 (by decide)) (wide_lo h.2.1.1 (by decide)) (wide_hi h.2.1.2 (by decide)) (wide_lo h.2.2.1 (by decide)) (wide_hi h.2.2.2 (by decide))

theorem plus_w (a b : V3) (w : World) (h : InV 8192000000000 (addV a b)) : Calls Tryz.prog 126 #[vec a.1 a.2.1 a.2.2, vec b.1 b.2.1 b.2.2] w (VecOut (addV a b).1 (addV a b).2.1 (addV a b).2.2 w) := plus_any a.1 a.2.1 a.2.2 b.1 b.2.1 b.2.2 w (wide_lo h.1.1 (by decide)) (wide_hi h.1.2 (by decide)) (wide_lo h.2.1.1 (by decide)) (wide_hi h.2.1.2 (by decide)) (wide_lo h.2.2.1 (by decide)) (wide_hi h.2.2.2 (by decide))

theorem over_w (v : V3) (n : Int) (w : World) (h : InV 8192000000000 v) : Calls Tryz.prog 125 #[vec v.1 v.2.1 v.2.2, .int .i64 n] w (VecOut (divV n v).1 (divV n v).2.1 (divV n v).2.2 w) := over_any v.1 v.2.1 v.2.2 n w (wide_lo h.1.1 (by decide)) (wide_hi h.1.2 (by decide)) (wide_lo h.2.1.1 (by decide)) (wide_hi h.2.1.2 (by decide)) (wide_lo h.2.2.1 (by decide)) (wide_hi h.2.2.2 (by decide))

set_option maxRecDepth 100000 in
set_option maxHeartbeats 32000000 in
theorem average_any (A B : Option Addr) (c c' : Nat) (l : List V3) (ws : List Int) (w : World) (hR : RowC 3 vg w w.heap.size A l) (hW : Row I64 w w.heap.size B ws) (hl : l.length ≤ 1000) (hw : ws.length ≤ 1000) (hb : BdW (wl l ws)) :
    Calls Tryz.prog 62 #[.slice A l.length c, .slice B ws.length c'] w (VecOut (avgL (wl l ws)).1 (avgL (wl l ws)).2.1 (avgL (wl l ws)).2.2 w) := by
  have HR := Lib.hid hR
  have HW := Lib.hid hW
  have HB := Lib.hid hb
  have HL := Lib.hid hl
  have HWL := Lib.hid hw
  have HT0 : Held w ((w.alloc (.cells #[.int .i64 0, .int .i64 0, .int .i64 0] 43)).alloc (.cells #[.int .i64 0, .int .i64 0, .int .i64 0] 43)) [(w.heap.size + 1, [.int .i64 0, .int .i64 0, .int .i64 0]), (w.heap.size, [.int .i64 0, .int .i64 0, .int .i64 0])] := by
    have h := ((Held.nil w).new #[.int .i64 0, .int .i64 0, .int .i64 0] 43).new #[.int .i64 0, .int .i64 0, .int .i64 0] 43
    simpa only [World.size_alloc] using h
  have HT := Lib.hid HT0
  clear hR hW hb hl hw HT0
  go_enter Tryz.func62, Tryz.ntmps62
  go_wp2_with fail
  go_loopw [6, 12] (fun t i wr => ∃ k : Nat, k ≤ l.length ∧ i = .int .i64 k ∧ t = .int .i64 (wtot ((wl l ws).take k)) ∧ Held w wr [(w.heap.size + 1, vg (wsum ((wl l ws).take k))), (w.heap.size, [.int .i64 0, .int .i64 0, .int .i64 0])]) (fun _ i _ => l.length - (intOf i).toNat)
  case atStart => exact ⟨0, Nat.zero_le _, rfl, rfl, HT.out⟩
  case round =>
    clear HT
    obtain ⟨k, hk, rfl, rfl, ht⟩ := hrel
    have HT := Lib.hid ht
    clear ht
    by_cases hlt : k < l.length
    · obtain ⟨b, o, rfl, hbl, hc⟩ := HR.out.at hlt
      have c0 := (HT.out.below.cell (p := ⟨b, o + k * 3, none⟩) hbl).trans (vg_at hc).1
      have c1 := (HT.out.below.cell (p := ⟨b, o + k * 3 + 1, none⟩) hbl).trans (vg_at hc).2.1
      have c2 := (HT.out.below.cell (p := ⟨b, o + k * 3 + 2, none⟩) hbl).trans (vg_at hc).2.2
      obtain ⟨v, hv⟩ : ∃ v, v = l[k] := ⟨_, rfl⟩
      rw [← hv] at c0 c1 c2
      clear hc
      by_cases hwk : k < ws.length
      · obtain ⟨b2, o2, rfl, hb2, hc2⟩ := HW.out.at hwk
        have d0 := (HT.out.below.cell (p := ⟨b2, o2 + k, none⟩) hb2).trans hc2
        obtain ⟨x, hx⟩ : ∃ x, x = ws[k] := ⟨_, rfl⟩
        rw [← hx] at d0
        have d1 := (World.cell?_alloc_lt wr (.cells #[.int .i64 v.1, .int .i64 v.2.1, .int .i64 v.2.2] 43) ⟨b2, o2 + k, none⟩ (show b2 < _ from Nat.lt_of_lt_of_le hb2 HT.out.size)).trans d0
        have hwk' : (k : Int) < (ws.length : Int) := by omega
        clear hc2
        have HX : Hid ((ws.getD k 1) = x) := Lib.hid (by rw [hx]; exact gd _ _ _ hwk)
        have HM : Hid (InV 4096000000 (mulV x v)) := Lib.hid (by have h := HB.out _ (List.getElem_mem (l := wl l ws) (n := k) (by rw [wl_len]; exact hlt)); rw [wl_at l ws hlt, HX.out, ← hv] at h; exact mulV_bd h.1 h.2)
        have HS1 : Hid (wsum ((wl l ws).take (k + 1)) = addV (wsum ((wl l ws).take k)) (mulV x v)) := Lib.hid (by rw [wsum_take _ (by rw [wl_len]; exact hlt), wl_at l ws hlt, HX.out, ← hv])
        have HS2 : Hid (wtot ((wl l ws).take (k + 1)) = wtot ((wl l ws).take k) + x) := Lib.hid (by rw [wtot_take _ (by rw [wl_len]; exact hlt), wl_at l ws hlt, HX.out])
        have HS3 : Hid (InV 8192000000000 (addV (wsum ((wl l ws).take k)) (mulV x v))) := Lib.hid (((wsum_bd (HB.out.take k) (by rw [List.length_take, wl_len]; have := HL.out; omega)).add HM.out).mono (by decide))
        have HS4 : Hid (-8192000 ≤ wtot ((wl l ws).take k) + x ∧ wtot ((wl l ws).take k) + x ≤ 8192000) := Lib.hid (by rw [← HS2.out]; have h := wtot_bd (HB.out.take (k + 1)); rw [List.length_take, wl_len] at h; have := HL.out; omega)
        obtain ⟨s, hs⟩ : ∃ s, s = wsum ((wl l ws).take k) := ⟨_, rfl⟩
        obtain ⟨t, ht⟩ : ∃ t, t = wtot ((wl l ws).take k) := ⟨_, rfl⟩
        rw [← hs] at HT HS1 HS3
        rw [← ht] at HS2 HS4 ⊢
        have HN0 := HT.out.new #[.int .i64 v.1, .int .i64 v.2.1, .int .i64 v.2.2] 43
        have HN := Lib.hid HN0
        have hkl : (k : Int) < (l.length : Int) := by omega
        clear hv hs ht HN0 hx
        go_upto_region 9 with fail
        obtain ⟨W1, hW1⟩ : ∃ W, W = wr.alloc (.cells #[.int .i64 v.1, .int .i64 v.2.1, .int .i64 v.2.2] 43) := ⟨_, rfl⟩
        obtain ⟨G, hG⟩ : ∃ G, G = wr.heap.size := ⟨_, rfl⟩
        rw [← hW1, ← hG] at HN ⊢
        have HGL : Hid (w.heap.size + 1 < G) := Lib.hid (by rw [hG]; exact (HT.out.box 0).lt)
        have HQ : Held w W1 [(G, vg v), (w.heap.size + 1, vg s), (w.heap.size, [.int .i64 0, .int .i64 0, .int .i64 0])] := HN.out
        clear d0 d1 c0 c1 c2 hW1 hG
        go_cut [9] (fun z wx => z = .int .i64 x ∧ Held w wx [(w.heap.size + 1, vg (addV s (mulV x v))), (w.heap.size, [.int .i64 0, .int .i64 0, .int .i64 0])])
        case first =>
          clear HN HB HL HWL HR
          have s0 := (HQ.box 1).c 0
          have g0 := (HQ.box 1).f 0
          have p0 := (HQ.box 0).c 0
          have s1 := (HQ.box 1).c 1
          have g1 := (HQ.box 1).f 1
          have p1 := (HQ.box 0).c 1
          have s2 := (HQ.box 1).c 2
          have g2 := (HQ.box 1).f 2
          have p2 := (HQ.box 0).c 2
          go_region_with (first | (go_at_call 127; refine (times_w v x _ HM.out).mono ?_; rintro e w1 ⟨rfl, hb1⟩; (first | (have HQ := HQ.later hb1) | (have HQ := HQ.drew.later hb1)); clear s0 s1 s2 g0 g1 g2 p0 p1 p2; have s0 := (HQ.box 1).c 0; have g0 := (HQ.box 1).f 0; have p0 := (HQ.box 0).c 0; have s1 := (HQ.box 1).c 1; have g1 := (HQ.box 1).f 1; have p1 := (HQ.box 0).c 1; have s2 := (HQ.box 1).c 2; have g2 := (HQ.box 1).f 2; have p2 := (HQ.box 0).c 2) | (go_at_call 126; refine (plus_w s (mulV x v) _ HS3.out).mono ?_; rintro e w1 ⟨rfl, hb1⟩; (first | (have HQ := HQ.later hb1) | (have HQ := HQ.drew.later hb1)); clear s0 s1 s2 g0 g1 g2 p0 p1 p2; have s0 := (HQ.box 1).c 0; have g0 := (HQ.box 1).f 0; have p0 := (HQ.box 0).c 0; have s1 := (HQ.box 1).c 1; have g1 := (HQ.box 1).f 1; have p1 := (HQ.box 0).c 1; have s2 := (HQ.box 1).c 2; have g2 := (HQ.box 1).f 2; have p2 := (HQ.box 0).c 2))
          all_goals (go_wp2_with fail; go_meet)
          all_goals exact ⟨rfl, (HQ.pick (cs := [(w.heap.size + 1, vg s), (w.heap.size, [.int .i64 0, .int .i64 0, .int .i64 0])]) (by simp)).putVV (by omega) (by simp) _⟩
        case rest =>
          obtain ⟨rfl, ht2⟩ := hcut
          have HT2 := Lib.hid ht2
          have he := wrap_in (a := t + x) (by have := HS4.out; omega)
          have hl := HL.out
          clear ht2 HN HT HQ
          go_wp2_with fail
          go_roundw
          case rel => exact ⟨k + 1, by omega, by go_num, by rw [HS2.out], by rw [HS1.out]; exact HT2.out⟩
          case measure => simp [intOf]; omega
      · have hwk' : ¬ (k : Int) < (ws.length : Int) := by omega
        have HX : Hid ((ws.getD k 1) = 1) := Lib.hid (gdN _ _ _ (by omega))
        have HM : Hid (InV 4096000000 (mulV 1 v)) := Lib.hid (by have h := HB.out _ (List.getElem_mem (l := wl l ws) (n := k) (by rw [wl_len]; exact hlt)); rw [wl_at l ws hlt, HX.out, ← hv] at h; exact mulV_bd h.1 h.2)
        have HS1 : Hid (wsum ((wl l ws).take (k + 1)) = addV (wsum ((wl l ws).take k)) (mulV 1 v)) := Lib.hid (by rw [wsum_take _ (by rw [wl_len]; exact hlt), wl_at l ws hlt, HX.out, ← hv])
        have HS2 : Hid (wtot ((wl l ws).take (k + 1)) = wtot ((wl l ws).take k) + 1) := Lib.hid (by rw [wtot_take _ (by rw [wl_len]; exact hlt), wl_at l ws hlt, HX.out])
        have HS3 : Hid (InV 8192000000000 (addV (wsum ((wl l ws).take k)) (mulV 1 v))) := Lib.hid (((wsum_bd (HB.out.take k) (by rw [List.length_take, wl_len]; have := HL.out; omega)).add HM.out).mono (by decide))
        have HS4 : Hid (-8192000 ≤ wtot ((wl l ws).take k) + 1 ∧ wtot ((wl l ws).take k) + 1 ≤ 8192000) := Lib.hid (by rw [← HS2.out]; have h := wtot_bd (HB.out.take (k + 1)); rw [List.length_take, wl_len] at h; have := HL.out; omega)
        obtain ⟨s, hs⟩ : ∃ s, s = wsum ((wl l ws).take k) := ⟨_, rfl⟩
        obtain ⟨t, ht⟩ : ∃ t, t = wtot ((wl l ws).take k) := ⟨_, rfl⟩
        rw [← hs] at HT HS1 HS3
        rw [← ht] at HS2 HS4 ⊢
        have HN0 := HT.out.new #[.int .i64 v.1, .int .i64 v.2.1, .int .i64 v.2.2] 43
        have HN := Lib.hid HN0
        have hkl : (k : Int) < (l.length : Int) := by omega
        clear hv hs ht HN0
        go_upto_region 9 with fail
        obtain ⟨W1, hW1⟩ : ∃ W, W = wr.alloc (.cells #[.int .i64 v.1, .int .i64 v.2.1, .int .i64 v.2.2] 43) := ⟨_, rfl⟩
        obtain ⟨G, hG⟩ : ∃ G, G = wr.heap.size := ⟨_, rfl⟩
        rw [← hW1, ← hG] at HN ⊢
        have HGL : Hid (w.heap.size + 1 < G) := Lib.hid (by rw [hG]; exact (HT.out.box 0).lt)
        have HQ : Held w W1 [(G, vg v), (w.heap.size + 1, vg s), (w.heap.size, [.int .i64 0, .int .i64 0, .int .i64 0])] := HN.out
        clear c0 c1 c2 hW1 hG
        go_cut [9] (fun z wx => z = .int .i64 1 ∧ Held w wx [(w.heap.size + 1, vg (addV s (mulV 1 v))), (w.heap.size, [.int .i64 0, .int .i64 0, .int .i64 0])])
        case first =>
          clear HN HB HL HWL HR
          have s0 := (HQ.box 1).c 0
          have g0 := (HQ.box 1).f 0
          have p0 := (HQ.box 0).c 0
          have s1 := (HQ.box 1).c 1
          have g1 := (HQ.box 1).f 1
          have p1 := (HQ.box 0).c 1
          have s2 := (HQ.box 1).c 2
          have g2 := (HQ.box 1).f 2
          have p2 := (HQ.box 0).c 2
          go_region_with (first | (go_at_call 127; refine (times_w v 1 _ HM.out).mono ?_; rintro e w1 ⟨rfl, hb1⟩; (first | (have HQ := HQ.later hb1) | (have HQ := HQ.drew.later hb1)); clear s0 s1 s2 g0 g1 g2 p0 p1 p2; have s0 := (HQ.box 1).c 0; have g0 := (HQ.box 1).f 0; have p0 := (HQ.box 0).c 0; have s1 := (HQ.box 1).c 1; have g1 := (HQ.box 1).f 1; have p1 := (HQ.box 0).c 1; have s2 := (HQ.box 1).c 2; have g2 := (HQ.box 1).f 2; have p2 := (HQ.box 0).c 2) | (go_at_call 126; refine (plus_w s (mulV 1 v) _ HS3.out).mono ?_; rintro e w1 ⟨rfl, hb1⟩; (first | (have HQ := HQ.later hb1) | (have HQ := HQ.drew.later hb1)); clear s0 s1 s2 g0 g1 g2 p0 p1 p2; have s0 := (HQ.box 1).c 0; have g0 := (HQ.box 1).f 0; have p0 := (HQ.box 0).c 0; have s1 := (HQ.box 1).c 1; have g1 := (HQ.box 1).f 1; have p1 := (HQ.box 0).c 1; have s2 := (HQ.box 1).c 2; have g2 := (HQ.box 1).f 2; have p2 := (HQ.box 0).c 2))
          all_goals (go_wp2_with fail; go_meet)
          all_goals exact ⟨rfl, (HQ.pick (cs := [(w.heap.size + 1, vg s), (w.heap.size, [.int .i64 0, .int .i64 0, .int .i64 0])]) (by simp)).putVV (by omega) (by simp) _⟩
        case rest =>
          obtain ⟨rfl, ht2⟩ := hcut
          have HT2 := Lib.hid ht2
          have he := wrap_in (a := t + 1) (by have := HS4.out; omega)
          have hl := HL.out
          clear ht2 HN HT HQ
          go_wp2_with fail
          go_roundw
          case rel => exact ⟨k + 1, by omega, by go_num, by rw [HS2.out], by rw [HS1.out]; exact HT2.out⟩
          case measure => simp [intOf]; omega
    · have e : k = l.length := by omega
      have hlt' : ¬ (k : Int) < (l.length : Int) := by omega
      have ht := HT.out
      rw [List.take_of_length_le (by rw [wl_len]; omega)] at ht
      have HB1 := Lib.hid (wsum_bd HB.out (by rw [wl_len]; exact HL.out))
      rw [List.take_of_length_le (by rw [wl_len]; omega)]
      have HV : Hid (divV (wtot (wl l ws)) (wsum (wl l ws)) = avgL (wl l ws)) := Lib.hid rfl
      obtain ⟨s, hs⟩ : ∃ s, s = wsum (wl l ws) := ⟨_, rfl⟩
      obtain ⟨t, hT⟩ : ∃ t, t = wtot (wl l ws) := ⟨_, rfl⟩
      rw [← hs] at ht HB1 HV
      rw [← hT] at HV ⊢
      have s0 := (ht.box 0).c 0
      have s1 := (ht.box 0).c 1
      have s2 := (ht.box 0).c 2
      have HT := ht
      clear hs hT e hk
      go_wp2_with fail
      refine (over_w s t _ (HB1.out.mono (by decide))).mono ?_
      rintro e w2 ⟨rfl, hb2⟩
      have HT := HT.later hb2
      have r0 := (HT.box 1).c 0
      have r1 := (HT.box 1).c 1
      have r2 := (HT.box 1).c 2
      have g0 := (HT.box 1).f 0
      have g1 := (HT.box 1).f 1
      have g2 := (HT.box 1).f 2
      go_wp2_with fail
      exact bodyPost_ret (v := vec (divV t s).1 (divV t s).2.1 (divV t s).2.2) (by simp [results, Tryz.results62, go_sem, r0, r1, r2]) rfl ⟨by rw [HV.out], bset3 HT.below (Nat.le_refl _)⟩


end Go.Proofs.YtdefhepagpgnaaaGreat
