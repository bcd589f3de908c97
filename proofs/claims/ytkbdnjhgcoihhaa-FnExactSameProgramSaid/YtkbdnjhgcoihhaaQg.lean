/- Equal programs: the model. -/
import Derived.Test.YtkbdnjhgcoihhaaProg
import Derived.Test.YtkbdnjhgcoihhaaInts
import Derived.Test.YtkbdnjhgcoihhaaVbox
import Derived.Test.YtkbdnjhgcoihhaaHeld
import Derived.Test.YtkbdnjhgcoihhaaMem
import Derived.Test.YtkbdnjhgcoihhaaFlat
import Derived.Test.YtkbdnjhgcoihhaaRowC
import Derived.Test.YtkbdnjhgcoihhaaKS
import Derived.Test.YtkbdnjhgcoihhaaStrS
import Derived.Test.YtkbdnjhgcoihhaaIntS
import Derived.Test.YtkbdnjhgcoihhaaSS
import Derived.Test.YtkbdnjhgcoihhaaPg
import Derived.Test.YtkbdnjhgcoihhaaPh
import Derived.Test.YtkbdnjhgcoihhaaIdent
import Derived.Test.YtkbdnjhgcoihhaaPn
import Derived.Test.YtkbdnjhgcoihhaaQa
import Derived.Test.YtkbdnjhgcoihhaaQf
import Derived.WalkKit
import Derived.WalkSpells
import Derived.WalkLawsBesides
import Derived.Lib.Hide
import Derived.Deep.RegionHeld3
import Derived.Deep.QuietTactic
import Derived.BigQuiet
import Derived.Handy
import Derived.Deep.DeepCutAuto
namespace Go.Proofs.Ytkbdnjhgcoihhaa
open Go.RowKit

set_option maxRecDepth 100000 in
set_option maxHeartbeats 16000000 in
theorem sSameProg_any (A A' B B' : Option Addr) (c c' d d' : Nat) (xs us : List Nd) (ys vs : List As) (w : World) (hR : ProgIn w w.heap.size A A' xs ys) (hR' : ProgIn w w.heap.size B B' us vs) (hl : xs.length ≤ 1099511627776) (hl2 : ys.length ≤ 1099511627776) (hm : ∀ x ∈ xs, x.2.2.2.length ≤ 1099511627776) :
    Calls Try.prog 12 #[pgv A A' xs.length c ys.length c', pgv B B' us.length d vs.length d'] w (BoolOut (xs = us ∧ ys = vs) w) := by
  obtain ⟨W2, hW2⟩ : ∃ W, W = (w.alloc (.cells #[.slice A xs.length c, .slice A' ys.length c'] 31)).alloc (.cells #[.slice B us.length d, .slice B' vs.length d'] 31) := ⟨_, rfl⟩
  have HT : Held w ((w.alloc (.cells #[.slice A xs.length c, .slice A' ys.length c'] 31)).alloc (.cells #[.slice B us.length d, .slice B' vs.length d'] 31)) [(w.heap.size + 1, [.slice B us.length d, .slice B' vs.length d']), (w.heap.size, [.slice A xs.length c, .slice A' ys.length c'])] := by
    have h := ((Held.nil w).new #[.slice A xs.length c, .slice A' ys.length c'] 31).new #[.slice B us.length d, .slice B' vs.length d'] 31
    simpa only [World.size_alloc] using h
  rw [← hW2] at HT
  have HR := Lib.hid ((hR.below HT.below).more HT.below.size)
  have HR' := Lib.hid ((hR'.below HT.below).more HT.below.size)
  have HMX := Lib.hid hm
  clear hR hR' hm
  go_enter Try.func12, Try.ntmps12
  go_upto_region 1 with fail
  rw [← hW2]
  clear hW2
  have c0 := (HT.box 1).c 0
  have c1 := (HT.box 1).c 1
  have d0 := (HT.box 0).c 0
  have d1 := (HT.box 0).c 1
  have HB := Lib.hid HT.below
  have HH := Lib.hid HT
  clear HT
  by_cases hn : xs.length = us.length
  case neg =>
    have hnI : ((xs.length : Int) != (us.length : Int)) = true := by simp; omega
    have HZ : Hid (¬ (xs = us ∧ ys = vs)) := Lib.hid fun h => ne_len hn h.1
    clear hn
    go_wp2_with fail
    go_ret
    exact ⟨false, rfl, iffF HZ.out, HB.out⟩
  case pos =>
  by_cases hy : ys.length = vs.length
  case neg =>
    have hnI : ((xs.length : Int) != (us.length : Int)) = false := by simp; omega
    have hyI : ((ys.length : Int) != (vs.length : Int)) = true := by simp; omega
    have HZ : Hid (¬ (xs = us ∧ ys = vs)) := Lib.hid fun h => ne_len hy h.2
    clear hn hy
    go_wp2_with fail
    go_ret
    exact ⟨false, rfl, iffF HZ.out, HB.out⟩
  case pos =>
  have hnI : ((xs.length : Int) != (us.length : Int)) = false := by simp; omega
  have hyI : ((ys.length : Int) != (vs.length : Int)) = false := by simp; omega
  have HN := Lib.hid hn
  have HYL := Lib.hid hy
  clear hn hy
  go_wp2_with fail
  go_loopw [31] (fun i wr => ∃ k : Nat, k ≤ xs.length ∧ i = .int .i64 k ∧ (∀ j (h1 : j < xs.length) (h2 : j < us.length), j < k → xs[j] = us[j]) ∧ Below W2.heap.size W2 wr) (fun i _ => xs.length - (intOf i).toNat)
  case atStart => exact ⟨0, Nat.zero_le _, rfl, fun j _ _ h => absurd h (Nat.not_lt_zero _), Below.refl _ _⟩
  case round =>
    clear c0 c1 d0 d1 hnI hyI
    obtain ⟨k, hk, rfl, hyes, hb⟩ := hrel
    have HB0 := Lib.hid hb
    have HY := Lib.hid hyes
    clear hb hyes
    by_cases hlt : k < xs.length
    · have hlt2 : k < us.length := by have := HN.out; omega
      obtain ⟨b, o, rfl, hbl, a, ca, c0, c1, c2, c3, hca1, hca2, hrow⟩ := HR.out.1.at hlt
      obtain ⟨b', o', rfl, hbl', a', ca', d0, d1, d2, d3, hcb1, hcb2, hrow'⟩ := HR'.out.1.at hlt2
      obtain ⟨v, hv⟩ : ∃ v, v = xs[k] := ⟨_, rfl⟩
      obtain ⟨u, hu⟩ : ∃ u, u = us[k] := ⟨_, rfl⟩
      have hmm := HMX.out _ (List.getElem_mem hlt)
      rw [← hv] at c0 c1 c2 c3 hrow hca1 hmm
      rw [← hu] at d0 d1 d2 d3 hrow' hcb1
      have HNE : Hid (¬ v = u → ¬ (xs = us ∧ ys = vs)) := Lib.hid fun e h => ne_at hlt hlt2 (by rw [← hv, ← hu]; exact e) h.1
      have HV := Lib.hid hv
      have HUU := Lib.hid hu
      clear hv hu
      have c0 := (HB0.out.cell (p := ⟨b, o + k * 4, none⟩) hbl).trans c0
      have c1 := (HB0.out.cell (p := ⟨b, o + k * 4 + 1, none⟩) hbl).trans c1
      have c2 := (HB0.out.cell (p := ⟨b, o + k * 4 + 2, none⟩) hbl).trans c2
      have c3 := (HB0.out.cell (p := ⟨b, o + k * 4 + 3, none⟩) hbl).trans c3
      have hrow := hrow.below HB0.out
      have d0 := (HB0.out.cell (p := ⟨b', o' + k * 4, none⟩) hbl').trans d0
      have d1 := (HB0.out.cell (p := ⟨b', o' + k * 4 + 1, none⟩) hbl').trans d1
      have d2 := (HB0.out.cell (p := ⟨b', o' + k * 4 + 2, none⟩) hbl').trans d2
      have d3 := (HB0.out.cell (p := ⟨b', o' + k * 4 + 3, none⟩) hbl').trans d3
      have hrow' := hrow'.below HB0.out
      obtain ⟨v0, v1, v2, v3⟩ := v
      obtain ⟨u0, u1, u2, u3⟩ := u
      dsimp only at c0 c1 c2 c3 d0 d1 d2 d3 hrow hrow' hca1 hcb1 hmm
      have hlI1 : (k : Int) < (xs.length : Int) := by omega
      have hlI2 : (k : Int) < (us.length : Int) := by omega
      have h0I : (0 : Int) ≤ (k : Int) := by omega
      have hs := HB0.out.size
      have HR1 := Lib.hid hrow
      have HR2 := Lib.hid hrow'
      have HH0 := Lib.hid (HH.out.later HB0.out)
      clear hrow hrow'
      go_upto_region 6 with fail
      obtain ⟨W3, hW3⟩ : ∃ W, W = wr.alloc (.cells #[.int .i64 v0, .string v1, .int .i64 v2, .slice a v3.length ca] 45) := ⟨_, rfl⟩
      have M1 := Mbox.new wr #[.int .i64 v0, .string v1, .int .i64 v2, .slice a v3.length ca] 45
      have HB1 := Lib.hid (HB0.out.alloc hs (.cells #[.int .i64 v0, .string v1, .int .i64 v2, .slice a v3.length ca] 45))
      have hb1 : Below W2.heap.size wr (wr.alloc (.cells #[.int .i64 v0, .string v1, .int .i64 v2, .slice a v3.length ca] 45)) := (Below.refl _ _).alloc hs _
      have HH1 := HH0.out.later (show Below wr.heap.size wr (wr.alloc (.cells #[.int .i64 v0, .string v1, .int .i64 v2, .slice a v3.length ca] 45)) by go_grown)
      rw [← hW3] at M1 HB1 hb1 HH1 ⊢
      have d0 := (hb1.cell (p := ⟨b', o' + k * 4, none⟩) hbl').trans d0
      have d1 := (hb1.cell (p := ⟨b', o' + k * 4 + 1, none⟩) hbl').trans d1
      have d2 := (hb1.cell (p := ⟨b', o' + k * 4 + 2, none⟩) hbl').trans d2
      have d3 := (hb1.cell (p := ⟨b', o' + k * 4 + 3, none⟩) hbl').trans d3
      have HR1 := Lib.hid (HR1.out.below hb1)
      have HR2 := Lib.hid (HR2.out.below hb1)
      have hs1 := HB1.out.size
      have HM1 := Lib.hid M1
      have g0 := (HH1.box 0).c 0
      clear hW3 hb1 M1 c0 c1 c2 c3 HH0 HH1
      go_upto_region 7 with fail
      obtain ⟨W4, hW4⟩ : ∃ W, W = W3.alloc (.cells #[.int .i64 u0, .string u1, .int .i64 u2, .slice a' u3.length ca'] 45) := ⟨_, rfl⟩
      have M2 := Mbox.new W3 #[.int .i64 u0, .string u1, .int .i64 u2, .slice a' u3.length ca'] 45
      have HB2 := Lib.hid (HB1.out.alloc hs1 (.cells #[.int .i64 u0, .string u1, .int .i64 u2, .slice a' u3.length ca'] 45))
      have hb2 : Below W2.heap.size W3 (W3.alloc (.cells #[.int .i64 u0, .string u1, .int .i64 u2, .slice a' u3.length ca'] 45)) := (Below.refl _ _).alloc hs1 _
      have M1 := HM1.out.later (show Below W3.heap.size W3 (W3.alloc (.cells #[.int .i64 u0, .string u1, .int .i64 u2, .slice a' u3.length ca'] 45)) by go_grown)
      rw [← hW4] at M1 M2 HB2 hb2 ⊢
      have HR1 := Lib.hid (HR1.out.below hb2)
      have HR2 := Lib.hid (HR2.out.below hb2)
      have m0 := M1.c 0
      have m1 := M1.c 1
      have m2 := M1.c 2
      have m3 := M1.c 3
      have n0 := M2.c 0
      have n1 := M2.c 1
      have n2 := M2.c 2
      have n3 := M2.c 3
      have HBF := Lib.hid (HB.out.trans (HB2.out.mono HB.out.size))
      clear hW4 hb2 M1 M2 d0 d1 d2 d3 HM1 g0
      by_cases h0 : v0 = u0
      · have b0 : (v0 != u0) = false := by simp [h0]
        have H0 := Lib.hid h0
        clear h0
        by_cases h1 : v1 = u1
        · have b1 : (v1.toList == u1.toList) = true := by rw [str_beqR]; exact decide_eq_true h1
          have H1 := Lib.hid h1
          clear h1
          by_cases h2 : v2 = u2
          · have b2 : (v2 != u2) = false := by simp [h2]
            have H2 := Lib.hid h2
            clear h2
            by_cases h3 : v3.length = u3.length
            · have b3 : ((v3.length : Int) != (u3.length : Int)) = false := by simp; omega
              have H3 := Lib.hid h3
              clear h3
              go_wp2_with fail
              go_loop [72] (fun i => ∃ q : Nat, q ≤ v3.length ∧ i = .int .i64 q ∧ (∀ j (h1 : j < v3.length) (h2 : j < u3.length), j < q → v3[j] = u3[j])) (fun i => v3.length - (intOf i).toNat)
              case atStart => exact ⟨0, Nat.zero_le _, rfl, fun j _ _ h => by omega⟩
              case round =>
                obtain ⟨q, hq, rfl, hin⟩ := hrel
                by_cases hlt3 : q < v3.length
                · have hlt4 : q < u3.length := by have := H3.out; omega
                  obtain ⟨bb, oo, rfl, hbb, e0⟩ := HR1.out.at hlt3
                  obtain ⟨bb', oo', rfl, hbb', e1⟩ := HR2.out.at hlt4
                  obtain ⟨p1, hp1⟩ : ∃ p, p = v3[q] := ⟨_, rfl⟩
                  obtain ⟨p2, hp2⟩ : ∃ p, p = u3[q] := ⟨_, rfl⟩
                  rw [← hp1] at e0
                  rw [← hp2] at e1
                  have HP1 := Lib.hid hp1
                  have HP2 := Lib.hid hp2
                  have HIN := Lib.hid hin
                  have hqI : (q : Int) < (v3.length : Int) := by omega
                  have hqI2 : (q : Int) < (u3.length : Int) := by omega
                  have hq0 : (0 : Int) ≤ (q : Int) := by omega
                  clear hp1 hp2 hin
                  by_cases hpp : p1 = p2
                  · have bp : (p1 != p2) = false := by simp [hpp]
                    have HST : Hid (∀ j (h1 : j < v3.length) (h2 : j < u3.length), j < q + 1 → v3[j] = u3[j]) := Lib.hid fun j h1 h2 h => by
                      by_cases e1 : j < q
                      · exact HIN.out j h1 h2 e1
                      · obtain rfl : j = q := by omega
                        rw [← HP1.out, ← HP2.out]
                        exact hpp
                    clear hpp
                    go_wp2_with fail
                    go_round
                    case rel => exact ⟨q + 1, by omega, by go_num, HST.out⟩
                    case measure => simp [intOf]; omega
                  · have bp : (p1 != p2) = true := by simp [hpp]
                    have HZ : Hid (¬ (xs = us ∧ ys = vs)) := Lib.hid fun h => HNE.out (fun e => ne_at hlt3 hlt4 (by rw [← HP1.out, ← HP2.out]; exact hpp) (by injection e with _ e; injection e with _ e; injection e)) h
                    clear hpp
                    go_wp2_with fail
                    go_ret
                    exact ⟨false, rfl, iffF HZ.out, HBF.out⟩
                · have HE3 : Hid (v3 = u3) := Lib.hid (eq_all H3.out fun j h1 h2 => hin j h1 h2 (by omega))
                  have HST : Hid (∀ j (h1 : j < xs.length) (h2 : j < us.length), j < k + 1 → xs[j] = us[j]) := Lib.hid fun j h1 h2 h => by
                    by_cases e1 : j < k
                    · exact HY.out j h1 h2 e1
                    · obtain rfl : j = k := by omega
                      rw [← HV.out, ← HUU.out, H0.out, H1.out, H2.out, HE3.out]
                  have hqI : ¬ (q : Int) < (v3.length : Int) := by omega
                  clear hin
                  go_wp2_with fail
                  go_roundw
                  case rel => exact ⟨k + 1, by omega, by go_num, HST.out, HB2.out⟩
                  case measure => simp [intOf]; omega
            · have b3 : ((v3.length : Int) != (u3.length : Int)) = true := by simp; omega
              have HZ : Hid (¬ (xs = us ∧ ys = vs)) := Lib.hid fun h => HNE.out (fun e => h3 (by injection e with _ e; injection e with _ e; injection e with _ e; rw [e])) h
              clear h3
              go_wp2_with fail
              go_ret
              exact ⟨false, rfl, iffF HZ.out, HBF.out⟩
          · have b2 : (v2 != u2) = true := by simp [h2]
            have HZ : Hid (¬ (xs = us ∧ ys = vs)) := Lib.hid fun h => HNE.out (fun e => h2 (by injection e with _ e; injection e with _ e; injection e)) h
            clear h2
            go_wp2_with fail
            go_ret
            exact ⟨false, rfl, iffF HZ.out, HBF.out⟩
        · have b1 : (v1.toList == u1.toList) = false := by rw [str_beqR]; exact decide_eq_false h1
          have HZ : Hid (¬ (xs = us ∧ ys = vs)) := Lib.hid fun h => HNE.out (fun e => h1 (by injection e with _ e; injection e)) h
          clear h1
          go_wp2_with fail
          go_ret
          exact ⟨false, rfl, iffF HZ.out, HBF.out⟩
      · have b0 : (v0 != u0) = true := by simp [h0]
        have HZ : Hid (¬ (xs = us ∧ ys = vs)) := Lib.hid fun h => HNE.out (fun e => h0 (by injection e)) h
        clear h0
        go_wp2_with fail
        go_ret
        exact ⟨false, rfl, iffF HZ.out, HBF.out⟩
    · have HEX := Lib.hid (eq_all HN.out (fun j h1 h2 => HY.out j h1 h2 (by omega)))
      have HHb := HH.out.later HB0.out
      have c1 := (HHb.box 1).c 1
      have d1 := (HHb.box 0).c 1
      have hge : ¬ ((k : Int) < (xs.length : Int)) := by omega
      obtain ⟨zk, hzk⟩ : ∃ zk : Int, zk = (k : Int) := ⟨_, rfl⟩
      rw [← hzk] at hge ⊢
      clear hzk hk hlt HHb
      go_wp2_with fail
      go_loopw [89] (fun i wr => ∃ k : Nat, k ≤ ys.length ∧ i = .int .i64 k ∧ (∀ j (h1 : j < ys.length) (h2 : j < vs.length), j < k → ys[j] = vs[j]) ∧ Below W2.heap.size W2 wr) (fun i _ => ys.length - (intOf i).toNat)
      case atStart => exact ⟨0, Nat.zero_le _, rfl, fun j _ _ h => absurd h (Nat.not_lt_zero _), HB0.out⟩
      case round =>
        clear c1 d1 hge HB0 HY
        obtain ⟨k, hk, rfl, hyes, hb⟩ := hrel
        have HB0 := Lib.hid hb
        have HY := Lib.hid hyes
        clear hb hyes
        by_cases hlt : k < ys.length
        · have hlt2 : k < vs.length := by have := HYL.out; omega
          obtain ⟨b, o, rfl, hbl, hc⟩ := HR.out.2.at hlt
          obtain ⟨b', o', rfl, hbl', hc'⟩ := HR'.out.2.at hlt2
          obtain ⟨p, hp⟩ : ∃ p, p = ys[k] := ⟨_, rfl⟩
          obtain ⟨q, hq⟩ : ∃ q, q = vs[k] := ⟨_, rfl⟩
          rw [← hp] at hc
          rw [← hq] at hc'
          have HNO : Hid (decide (p = q) = false → ¬ (xs = us ∧ ys = vs)) := Lib.hid (fun e h => ne_at hlt hlt2 (by rw [← hp, ← hq]; exact of_decide_eq_false e) h.2)
          have HYE : Hid (decide (p = q) = true → ∀ j (h1 : j < ys.length) (h2 : j < vs.length), j < k + 1 → ys[j] = vs[j]) := Lib.hid (fun e j h1 h2 h => by
            by_cases e1 : j < k
            · exact HY.out j h1 h2 e1
            · obtain rfl : j = k := by omega
              rw [← hp, ← hq]; exact of_decide_eq_true e)
          have HK := asg_at hc
          have HK' := asg_at hc'
          have c0 := (HB0.out.cell (p := ⟨b, o + k * 2, none⟩) hbl).trans HK.1
          have c1 := (HB0.out.cell (p := ⟨b, o + k * 2 + 1, none⟩) hbl).trans HK.2
          have d0 := (HB0.out.cell (p := ⟨b', o' + k * 2, none⟩) hbl').trans HK'.1
          have d1 := (HB0.out.cell (p := ⟨b', o' + k * 2 + 1, none⟩) hbl').trans HK'.2
          have hlI1 : (k : Int) < (ys.length : Int) := by omega
          have hlI2 : (k : Int) < (vs.length : Int) := by omega
          have h0I : (0 : Int) ≤ (k : Int) := by omega
          have heq := asg_neq p.1 q.1 p.2 q.2
          obtain ⟨bb, hbb⟩ : ∃ b, b = decide (p = q) := ⟨_, rfl⟩
          rw [← hbb] at heq HNO HYE
          have HEQ := Lib.hid heq
          clear hp hq hc hc' hbb HK HK' heq
          obtain ⟨p0, p1⟩ := p
          obtain ⟨q0, q1⟩ := q
          dsimp only at c0 c1 d0 d1 HEQ
          have hs := HB0.out.size
          have HH0 := Lib.hid (HH.out.later HB0.out)
          go_upto_region 19 with fail
          obtain ⟨W3, hW3⟩ : ∃ W, W = wr.alloc (.cells #[.string p0, .int .i64 p1] 48) := ⟨_, rfl⟩
          have M1 := Mbox.new wr #[.string p0, .int .i64 p1] 48
          have HB1 := HB0.out.alloc hs (.cells #[.string p0, .int .i64 p1] 48)
          have hb1 : Below W2.heap.size wr (wr.alloc (.cells #[.string p0, .int .i64 p1] 48)) := (Below.refl _ _).alloc hs _
          have HH1 := HH0.out.later (show Below wr.heap.size wr (wr.alloc (.cells #[.string p0, .int .i64 p1] 48)) by go_grown)
          rw [← hW3] at M1 HB1 hb1 HH1 ⊢
          have d0 := (hb1.cell (p := ⟨b', o' + k * 2, none⟩) hbl').trans d0
          have d1 := (hb1.cell (p := ⟨b', o' + k * 2 + 1, none⟩) hbl').trans d1
          have m0 := M1.c 0
          have m1 := M1.c 1
          have g1 := (HH1.box 0).c 1
          have heq := HEQ.out
          have HQ : Held W2 W3 [] := ⟨HB1, fun i k vs h => by simp at h⟩
          clear hW3 hb1 M1 c0 c1 HH0 HH1 HB1
          go_quiet (fail)
          have HQ := HQ.drewN nq
          clear d0 d1 m0 m1 g1 heq HEQ
          rcases bb with _ | _
          · have HE := Lib.hid (HNO.out rfl)
            clear HNO HYE
            go_wp2_with fail
            go_ret
            exact ⟨false, rfl, iffF HE.out, HB.out.trans (HQ.below.mono HB.out.size)⟩
          · have HB7 := Lib.hid HQ.below
            have HYE := Lib.hid (HYE.out rfl)
            clear HQ HNO
            go_wp2_with fail
            go_roundw
            case rel => exact ⟨k + 1, by omega, by go_num, HYE.out, HB7.out⟩
            case measure => simp [intOf]; omega
        · have HE : Hid (xs = us ∧ ys = vs) := Lib.hid ⟨HEX.out, eq_all HYL.out (fun j h1 h2 => HY.out j h1 h2 (by omega))⟩
          have hge : ¬ ((k : Int) < (ys.length : Int)) := by omega
          go_wp2_with fail
          go_ret
          exact ⟨true, rfl, iffT HE.out, HB.out.trans (HB0.out.mono HB.out.size)⟩
end Go.Proofs.Ytkbdnjhgcoihhaa
