/- PixelSamples: the model. -/
import Derived.Test.YtbgpcgimmiinbaaProg
import Derived.Test.YtbgpcgimmiinbaaInts
import Derived.Test.YtbgpcgimmiinbaaMem
import Derived.Test.YtbgpcgimmiinbaaIntS
import Derived.Test.YtbgpcgimmiinbaaVbox
import Derived.Test.YtbgpcgimmiinbaaVec
import Derived.Test.YtbgpcgimmiinbaaHeld
import Derived.Test.YtbgpcgimmiinbaaFlat
import Derived.Test.YtbgpcgimmiinbaaRowC
import Derived.Test.YtbgpcgimmiinbaaCam
import Derived.Test.YtbgpcgimmiinbaaSmp
import Derived.Test.YtbgpcgimmiinbaaHsh
import Derived.Test.YtbgpcgimmiinbaaPx
import Derived.WalkKit
import Derived.WalkSpells
import Derived.WalkLawsBesides
import Derived.Lib.Hide
import Derived.Deep.RegionHeld3
import Derived.Deep.QuietTactic
import Derived.BigQuiet
import Derived.Handy
import Derived.Deep.DeepCutAuto
import Derived.Laws.RangeAny
namespace Go.Proofs.Ytbgpcgimmiinbaa
open Go.RowKit

set_option maxRecDepth 100000 in
set_option maxHeartbeats 8000000 in
theorem sPixelSamples_any (a b c d : Int) (e : Bool) (f g : Int) (i j s : Int) (w : World) :
    Calls Try.prog 23 #[cam a b c d e f g, .int .i64 i, .int .i64 j, .int .i64 s] w (SmpsOut (psL (okC a b c d f g) a b i j s) w) := by
  have HT : Held w (w.alloc (.cells #[.int .i64 a, .int .i64 b, .int .i64 c, .int .i64 d, .bool e, .int .i64 f, .int .i64 g] 24)) [(w.heap.size, [.int .i64 a, .int .i64 b, .int .i64 c, .int .i64 d, .bool e, .int .i64 f, .int .i64 g])] := by
    have h := (Held.nil w).new #[.int .i64 a, .int .i64 b, .int .i64 c, .int .i64 d, .bool e, .int .i64 f, .int .i64 g] 24
    simpa only [World.size_alloc] using h
  rcases hk : okC a b c d f g with _ | _
  · rw [psL_no (by rfl)]
    go_enter Try.func23, Try.ntmps23
    go_upto_region 2 with fail
    have HT := HT.alloc (.cells #[] 31)
    have c0 := (HT.box 0).c 0
    have c1 := (HT.box 0).c 1
    have c2 := (HT.box 0).c 2
    have c3 := (HT.box 0).c 3
    have c4 := (HT.box 0).c 4
    have c5 := (HT.box 0).c 5
    have c6 := (HT.box 0).c 6
    go_wp2_with fail
    refine (sIsValidCamera_any a b c d e f g _).mono ?_
    rintro e1 w1 ⟨rfl, hb1⟩
    have HT := HT.later hb1
    rw [hk]
    clear c0 c1 c2 c3 c4 c5 c6
    have c0 := (HT.box 0).c 0
    have c1 := (HT.box 0).c 1
    have c2 := (HT.box 0).c 2
    have c3 := (HT.box 0).c 3
    have c4 := (HT.box 0).c 4
    have c5 := (HT.box 0).c 5
    have c6 := (HT.box 0).c 6
    clear hb1
    go_wp2_with fail
    go_ret
    exact ⟨none, 0, rfl, World.ownsRow_nil _ _ _ _, HT.below⟩
  · have ha := ((okC_iff ..).1 hk).1.1
    have hb := ((okC_iff ..).1 hk).1.2
    rcases hi : inC 0 (a - 1) i with _ | _
    · rw [psL_no (by rw [hi]; rfl)]
      go_enter Try.func23, Try.ntmps23
      go_upto_region 2 with fail
      have HT := HT.alloc (.cells #[] 31)
      have c0 := (HT.box 0).c 0
      have c1 := (HT.box 0).c 1
      have c2 := (HT.box 0).c 2
      have c3 := (HT.box 0).c 3
      have c4 := (HT.box 0).c 4
      have c5 := (HT.box 0).c 5
      have c6 := (HT.box 0).c 6
      go_wp2_with fail
      refine (sIsValidCamera_any a b c d e f g _).mono ?_
      rintro e1 w1 ⟨rfl, hb1⟩
      have HT := HT.later hb1
      rw [hk]
      clear c0 c1 c2 c3 c4 c5 c6
      have c0 := (HT.box 0).c 0
      have c1 := (HT.box 0).c 1
      have c2 := (HT.box 0).c 2
      have c3 := (HT.box 0).c 3
      have c4 := (HT.box 0).c 4
      have c5 := (HT.box 0).c 5
      have c6 := (HT.box 0).c 6
      clear hb1
      go_wp2_with (go_at_call 57; refine (l01In_any _ _ _ _).mono ?_; rintro e2 w2 ⟨rfl, rfl⟩; (first | simp only [hi] | simp only [hj] | skip))
      go_ret
      exact ⟨none, 0, rfl, World.ownsRow_nil _ _ _ _, HT.below⟩
    · rcases hj : inC 0 (b - 1) j with _ | _
      · rw [psL_no (by rw [hi, hj]; rfl)]
        go_enter Try.func23, Try.ntmps23
        go_upto_region 2 with fail
        have HT := HT.alloc (.cells #[] 31)
        have c0 := (HT.box 0).c 0
        have c1 := (HT.box 0).c 1
        have c2 := (HT.box 0).c 2
        have c3 := (HT.box 0).c 3
        have c4 := (HT.box 0).c 4
        have c5 := (HT.box 0).c 5
        have c6 := (HT.box 0).c 6
        go_wp2_with fail
        refine (sIsValidCamera_any a b c d e f g _).mono ?_
        rintro e1 w1 ⟨rfl, hb1⟩
        have HT := HT.later hb1
        rw [hk]
        clear c0 c1 c2 c3 c4 c5 c6
        have c0 := (HT.box 0).c 0
        have c1 := (HT.box 0).c 1
        have c2 := (HT.box 0).c 2
        have c3 := (HT.box 0).c 3
        have c4 := (HT.box 0).c 4
        have c5 := (HT.box 0).c 5
        have c6 := (HT.box 0).c 6
        clear hb1
        go_wp2_with (go_at_call 57; refine (l01In_any _ _ _ _).mono ?_; rintro e2 w2 ⟨rfl, rfl⟩; (first | simp only [hi] | simp only [hj] | skip))
        go_ret
        exact ⟨none, 0, rfl, World.ownsRow_nil _ _ _ _, HT.below⟩
      · rcases hs : okSd s with _ | _
        · rw [psL_no (by rw [hi, hj, hs]; rfl)]
          have hs1 : ¬ (s = 1 ∨ s = 2 ∨ s = 4) := fun h => by rw [(okSd_iff s).2 h] at hs; cases hs
          have q1 : (s != 1) = true := by rw [bne_iff_ne]; omega
          have q2 : (s != 2) = true := by rw [bne_iff_ne]; omega
          have q4 : (s != 4) = true := by rw [bne_iff_ne]; omega
          clear hs1 hs
          go_enter Try.func23, Try.ntmps23
          go_upto_region 2 with fail
          have HT := HT.alloc (.cells #[] 31)
          have c0 := (HT.box 0).c 0
          have c1 := (HT.box 0).c 1
          have c2 := (HT.box 0).c 2
          have c3 := (HT.box 0).c 3
          have c4 := (HT.box 0).c 4
          have c5 := (HT.box 0).c 5
          have c6 := (HT.box 0).c 6
          go_wp2_with fail
          refine (sIsValidCamera_any a b c d e f g _).mono ?_
          rintro e1 w1 ⟨rfl, hb1⟩
          have HT := HT.later hb1
          rw [hk]
          clear c0 c1 c2 c3 c4 c5 c6
          have c0 := (HT.box 0).c 0
          have c1 := (HT.box 0).c 1
          have c2 := (HT.box 0).c 2
          have c3 := (HT.box 0).c 3
          have c4 := (HT.box 0).c 4
          have c5 := (HT.box 0).c 5
          have c6 := (HT.box 0).c 6
          clear hb1
          go_wp2_with (go_at_call 57; refine (l01In_any _ _ _ _).mono ?_; rintro e2 w2 ⟨rfl, rfl⟩; (first | simp only [hi] | simp only [hj] | skip))
          go_ret
          exact ⟨none, 0, rfl, World.ownsRow_nil _ _ _ _, HT.below⟩
        · have hi' := (inC_iff ..).1 hi
          have hj' := (inC_iff ..).1 hj
          have hs' := (okSd_iff s).1 hs
          obtain ⟨n, hn, hn4⟩ : ∃ n : Nat, s = (n : Int) ∧ (n = 1 ∨ n = 2 ∨ n = 4) := ⟨s.toNat, by omega, by omega⟩
          have hv : psL true a b i j s = pxL i j n (n * n) := by
            unfold psL
            rw [hi, hj, hs, hn]
            rfl
          rw [hv]
          subst hn
          obtain ⟨N, hN⟩ : ∃ N, N = n * n := ⟨_, rfl⟩
          have hN16 : N ≤ 16 := by rw [hN]; rcases hn4 with rfl | rfl | rfl <;> decide
          rw [← hN]
          have HN := Lib.hid hN
          have HN4 := Lib.hid hn4
          clear hs hv hN hn4 hs'
          go_enter Try.func23, Try.ntmps23
          go_upto_region 2 with fail
          have HO0 : Hid (((w.alloc (.cells #[.int .i64 a, .int .i64 b, .int .i64 c, .int .i64 d, .bool e, .int .i64 f, .int .i64 g] 24)).alloc (.cells #[] 31)).ownsRow w.heap.size 31 5 (.slice (some ⟨w.heap.size + 1, 0, none⟩) 0 0) (0) ((pxL i j n (0)).flatMap sg)) := by
            have ho0 : ((w.alloc (.cells #[.int .i64 a, .int .i64 b, .int .i64 c, .int .i64 d, .bool e, .int .i64 f, .int .i64 g] 24)).alloc (.cells #[] 31)).ownsRow (w.alloc (.cells #[.int .i64 a, .int .i64 b, .int .i64 c, .int .i64 d, .bool e, .int .i64 f, .int .i64 g] 24)).heap.size 31 5 (.slice (some ⟨(w.alloc (.cells #[.int .i64 a, .int .i64 b, .int .i64 c, .int .i64 d, .bool e, .int .i64 f, .int .i64 g] 24)).heap.size, 0, none⟩) 0 0) 0 ((pxL i j n 0).flatMap sg) := World.ownsRow_made _ #[] 0 (Nat.le_refl _) (by unfold maxLen; omega) rfl
            have ho1 := own_base ho0 (base' := w.heap.size) (by simp)
            simp only [World.size_alloc] at ho1
            exact Lib.hid ho1
          have HT := HT.alloc (.cells #[] 31)
          have c0 := (HT.box 0).c 0
          have c1 := (HT.box 0).c 1
          have c2 := (HT.box 0).c 2
          have c3 := (HT.box 0).c 3
          have c4 := (HT.box 0).c 4
          have c5 := (HT.box 0).c 5
          have c6 := (HT.box 0).c 6
          go_cut [46] (fun x wx => x = .bool false ∧ wx.ownsRow w.heap.size 31 5 (.slice (some ⟨w.heap.size + 1, 0, none⟩) 0 0) (0) ((pxL i j n (0)).flatMap sg) ∧ Below w.heap.size w wx)
          case first =>
            go_wp2_with fail
            refine (sIsValidCamera_any a b c d e f g _).mono ?_
            rintro e1 w1 ⟨rfl, hb1⟩
            have HT := HT.later hb1
            have HO0 := Lib.hid (own_keep' HO0.out hb1)
            rw [hk]
            clear c0 c1 c2 c3 c4 c5 c6 hb1
            have c0 := (HT.box 0).c 0
            have c1 := (HT.box 0).c 1
            have c2 := (HT.box 0).c 2
            have c3 := (HT.box 0).c 3
            have c4 := (HT.box 0).c 4
            have c5 := (HT.box 0).c 5
            have c6 := (HT.box 0).c 6
            rcases HN4.out with rfl | rfl | rfl
            all_goals
              go_wp2_with (go_at_call 57; refine (l01In_any _ _ _ _).mono ?_; rintro e2 w2 ⟨rfl, rfl⟩; (first | simp only [hi] | simp only [hj] | skip))
              go_meet
              exact ⟨rfl, HO0.out, HT.below⟩
          case rest =>
            obtain ⟨rfl, ho1, hb1⟩ := hcut
            clear HT HO0 c0 c1 c2 c3 c4 c5 c6
            have HO1 := Lib.hid ho1
            have HB1 := Lib.hid hb1
            clear ho1 hb1
            obtain ⟨st, hst⟩ : ∃ st : Int, st = ((16 / n : Nat) : Int) := ⟨_, rfl⟩
            have qst : Int.tdiv 16 (n : Int) = st := by rw [hst]; rfl
            have bst : 4 ≤ st ∧ st ≤ 16 := by rw [hst]; rcases HN4.out with rfl | rfl | rfl <;> decide
            have bn : 1 ≤ (n : Int) ∧ (n : Int) ≤ 4 := by have := HN4.out; omega
            have HST := Lib.hid hst
            clear hst
            go_wp2_with fail
            go_loopw [9, 11] (fun t x wr => ∃ r : Nat, r ≤ n ∧ x = .int .i64 r ∧ wr.ownsRow w.heap.size 31 5 t (n * r) ((pxL i j n (n * r)).flatMap sg) ∧ Below w.heap.size w wr) (fun _ x _ => n - (intOf x).toNat)
            case atStart => exact ⟨0, Nat.zero_le _, rfl, HO1.out, HB1.out⟩
            case round =>
              obtain ⟨r, hr, rfl, hown, hbw⟩ := hrel
              have HO := Lib.hid hown
              have HB := Lib.hid hbw
              clear hown hbw HO1 HB1
              by_cases hlt : r < n
              · have hlt' : (r : Int) < (n : Int) := by omega
                have hge' : (0 : Int) ≤ (r : Int) := by omega
                have HLT := Lib.hid hlt
                clear hlt hr
                go_wp2_with fail
                go_loopw [9, 12] (fun t x wr => ∃ m : Nat, m ≤ n ∧ x = .int .i64 m ∧ wr.ownsRow w.heap.size 31 5 t (n * r + m) ((pxL i j n (n * r + m)).flatMap sg) ∧ Below w.heap.size w wr) (fun _ x _ => n - (intOf x).toNat)
                case atStart => exact ⟨0, Nat.zero_le _, rfl, HO.out, HB.out⟩
                case round =>
                  clear HO HB
                  obtain ⟨m, hm, rfl, hown, hbw⟩ := hrel
                  by_cases hmt : m < n
                  · obtain ⟨k, hkk⟩ : ∃ k, k = n * r + m := ⟨_, rfl⟩
                    rw [← hkk] at hown
                    have hkN : k < n * n := by
                      have h1 : n * (r + 1) ≤ n * n := Nat.mul_le_mul_left n HLT.out
                      rw [Nat.mul_succ] at h1
                      omega
                    obtain ⟨S, K, st', ro, cl, P, Q, g1, g2, g3, g4, g5, q⟩ := sq_of i j n k HN4.out hkN
                    have eS := q.eS
                    have eK := q.eK
                    subst eS eK
                    have est : st = st' := by rw [← q.est, qst]
                    have ero : ro = (r : Int) := by
                      rw [← q.ero]
                      show ((k / n : Nat) : Int) = (r : Int)
                      rw [hkk, Nat.mul_add_div (by omega), Nat.div_eq_of_lt hmt, Nat.add_zero]
                    have ecl : cl = (m : Int) := by
                      rw [← q.ecl]
                      show ((k % n : Nat) : Int) = (m : Int)
                      rw [hkk, Nat.mul_add_mod, Nat.mod_eq_of_lt hmt]
                    subst est ero ecl
                    have H1 : Hid (∀ (W : World), Calls Try.prog 19 #[.slice (some ⟨W.heap.size, 0, none⟩) 4 4, .int .i64 st] (W.alloc (.cells #[.int .i64 i, .int .i64 j, .int .i64 (k : Int), .int .i64 1] 3)) (HashIs g1 (W.alloc (.cells #[.int .i64 i, .int .i64 j, .int .i64 (k : Int), .int .i64 1] 3)))) := Lib.hid (fun W => by rw [q.h1]; exact sHashRange_any _ _ [i, j, (k : Int), 1] st _ _ (row4i W i j (k : Int) 1 3) (by simp) (by omega))
                    have H2 : Hid (∀ (W : World), Calls Try.prog 19 #[.slice (some ⟨W.heap.size, 0, none⟩) 4 4, .int .i64 st] (W.alloc (.cells #[.int .i64 i, .int .i64 j, .int .i64 (k : Int), .int .i64 2] 3)) (HashIs g2 (W.alloc (.cells #[.int .i64 i, .int .i64 j, .int .i64 (k : Int), .int .i64 2] 3)))) := Lib.hid (fun W => by rw [q.h2]; exact sHashRange_any _ _ [i, j, (k : Int), 2] st _ _ (row4i W i j (k : Int) 2 3) (by simp) (by omega))
                    have H3 : Hid (∀ (W : World), Calls Try.prog 19 #[.slice (some ⟨W.heap.size, 0, none⟩) 4 4, .int .i64 16] (W.alloc (.cells #[.int .i64 i, .int .i64 j, .int .i64 (k : Int), .int .i64 3] 3)) (HashIs g3 (W.alloc (.cells #[.int .i64 i, .int .i64 j, .int .i64 (k : Int), .int .i64 3] 3)))) := Lib.hid (fun W => by rw [q.h3]; exact sHashRange_any _ _ [i, j, (k : Int), 3] 16 _ _ (row4i W i j (k : Int) 3 3) (by simp) (by omega))
                    have H4 : Hid (∀ (W : World), Calls Try.prog 19 #[.slice (some ⟨W.heap.size, 0, none⟩) 4 4, .int .i64 33] (W.alloc (.cells #[.int .i64 i, .int .i64 j, .int .i64 (k : Int), .int .i64 4] 3)) (HashIs g4 (W.alloc (.cells #[.int .i64 i, .int .i64 j, .int .i64 (k : Int), .int .i64 4] 3)))) := Lib.hid (fun W => by rw [q.h4]; exact sHashRange_any _ _ [i, j, (k : Int), 4] 33 _ _ (row4i W i j (k : Int) 4 3) (by simp) (by omega))
                    have H5 : Hid (∀ (W : World), Calls Try.prog 19 #[.slice (some ⟨W.heap.size, 0, none⟩) 4 4, .int .i64 33] (W.alloc (.cells #[.int .i64 i, .int .i64 j, .int .i64 (k : Int), .int .i64 5] 3)) (HashIs g5 (W.alloc (.cells #[.int .i64 i, .int .i64 j, .int .i64 (k : Int), .int .i64 5] 3)))) := Lib.hid (fun W => by rw [q.h5]; exact sHashRange_any _ _ [i, j, (k : Int), 5] 33 _ _ (row4i W i j (k : Int) 5 3) (by simp) (by omega))
                    have HV := Lib.hid q.v
                    have bP := q.bP
                    have bQ := q.bQ
                    have b1 := q.b1
                    have b2 := q.b2
                    have b3 := q.b3
                    have b4 := q.b4
                    have b5 := q.b5
                    have qP := q.eP
                    have qQ := q.eQ
                    have bk : 0 ≤ (k : Int) ∧ (k : Int) ≤ 15 := q.bK
                    have hmt' : (m : Int) < (n : Int) := by omega
                    have hge2 : (0 : Int) ≤ (m : Int) := by omega
                    have HM := Lib.hid hmt
                    have HK := Lib.hid hkk
                    have HO := Lib.hid hown
                    have HB := Lib.hid hbw
                    obtain ⟨A2, c2, rfl⟩ := own_shape HO.out
                    clear q hkk hkN hmt hm hown hbw
                    go_wp2_with fail
                    refine (H1.out _).mono ?_
                    rintro e2 w2 ⟨rfl, rfl⟩
                    have HT := (Held.nil wr).alloc (.cells #[.int .i64 i, .int .i64 j, .int .i64 (k : Int), .int .i64 1] 3)
                    obtain ⟨W1, hW1⟩ : ∃ W, W = wr.alloc (.cells #[.int .i64 i, .int .i64 j, .int .i64 (k : Int), .int .i64 1] 3) := ⟨_, rfl⟩
                    rw [← hW1] at HT ⊢
                    clear hW1
                    have hkb' := HT.size
                    have HT := HT.new #[.int .i64 (i * 16 + P + g1), .int .i64 0, .int .i64 0, .int .i64 0, .int .i64 0] 31
                    go_upto_region 13 with fail
                    obtain ⟨kb, hkb⟩ : ∃ kb, kb = W1.heap.size := ⟨_, rfl⟩
                    rw [← hkb] at hkb'
                    obtain ⟨W2, hW2⟩ : ∃ W, W = W1.alloc (.cells #[.int .i64 (i * 16 + P + g1), .int .i64 0, .int .i64 0, .int .i64 0, .int .i64 0] 31) := ⟨_, rfl⟩
                    rw [← hW2, ← hkb] at HT ⊢
                    clear hW2 hkb
                    go_wp2_with fail
                    refine (H2.out _).mono ?_
                    rintro e2 w2 ⟨rfl, rfl⟩
                    have HT := HT.alloc (.cells #[.int .i64 i, .int .i64 j, .int .i64 (k : Int), .int .i64 2] 3)
                    obtain ⟨Wa, hWa⟩ : ∃ W, W = W2.alloc (.cells #[.int .i64 i, .int .i64 j, .int .i64 (k : Int), .int .i64 2] 3) := ⟨_, rfl⟩
                    rw [← hWa] at HT ⊢
                    clear hWa
                    have dd := (HT.box 0).c 1
                    have ff := (HT.box 0).f 1
                    have HP := HT.put hkb' (by simp) 1 (.int .i64 (j * 16 + Q + g2))
                    go_upto_region 14 with fail
                    clear dd ff HT
                    obtain ⟨W2, hW2⟩ : ∃ W, W = Wa.setCell ⟨kb, 1, none⟩ (.int .i64 (j * 16 + Q + g2)) := ⟨_, rfl⟩
                    rw [← hW2] at HP ⊢
                    clear hW2
                    have HT := HP
                    clear HP
                    go_wp2_with fail
                    refine (H3.out _).mono ?_
                    rintro e2 w2 ⟨rfl, rfl⟩
                    have HT := HT.alloc (.cells #[.int .i64 i, .int .i64 j, .int .i64 (k : Int), .int .i64 3] 3)
                    obtain ⟨Wa, hWa⟩ : ∃ W, W = W2.alloc (.cells #[.int .i64 i, .int .i64 j, .int .i64 (k : Int), .int .i64 3] 3) := ⟨_, rfl⟩
                    rw [← hWa] at HT ⊢
                    clear hWa
                    have dd := (HT.box 0).c 2
                    have ff := (HT.box 0).f 2
                    have HP := HT.put hkb' (by simp) 2 (.int .i64 (g3))
                    go_upto_region 15 with fail
                    clear dd ff HT
                    obtain ⟨W2, hW2⟩ : ∃ W, W = Wa.setCell ⟨kb, 2, none⟩ (.int .i64 (g3)) := ⟨_, rfl⟩
                    rw [← hW2] at HP ⊢
                    clear hW2
                    have HT := HP
                    clear HP
                    go_wp2_with fail
                    refine (H4.out _).mono ?_
                    rintro e2 w2 ⟨rfl, rfl⟩
                    have HT := HT.alloc (.cells #[.int .i64 i, .int .i64 j, .int .i64 (k : Int), .int .i64 4] 3)
                    obtain ⟨Wa, hWa⟩ : ∃ W, W = W2.alloc (.cells #[.int .i64 i, .int .i64 j, .int .i64 (k : Int), .int .i64 4] 3) := ⟨_, rfl⟩
                    rw [← hWa] at HT ⊢
                    clear hWa
                    have dd := (HT.box 0).c 3
                    have ff := (HT.box 0).f 3
                    have HP := HT.put hkb' (by simp) 3 (.int .i64 (g4 - 16))
                    go_upto_region 16 with fail
                    clear dd ff HT
                    obtain ⟨W2, hW2⟩ : ∃ W, W = Wa.setCell ⟨kb, 3, none⟩ (.int .i64 (g4 - 16)) := ⟨_, rfl⟩
                    rw [← hW2] at HP ⊢
                    clear hW2
                    have HT := HP
                    clear HP
                    go_wp2_with fail
                    refine (H5.out _).mono ?_
                    rintro e2 w2 ⟨rfl, rfl⟩
                    have HT := HT.alloc (.cells #[.int .i64 i, .int .i64 j, .int .i64 (k : Int), .int .i64 5] 3)
                    obtain ⟨Wa, hWa⟩ : ∃ W, W = W2.alloc (.cells #[.int .i64 i, .int .i64 j, .int .i64 (k : Int), .int .i64 5] 3) := ⟨_, rfl⟩
                    rw [← hWa] at HT ⊢
                    clear hWa
                    have dd := (HT.box 0).c 4
                    have ff := (HT.box 0).f 4
                    have HP := HT.put hkb' (by simp) 4 (.int .i64 (g5 - 16))
                    go_upto_region 17 with fail
                    clear dd ff HT
                    obtain ⟨W2, hW2⟩ : ∃ W, W = Wa.setCell ⟨kb, 4, none⟩ (.int .i64 (g5 - 16)) := ⟨_, rfl⟩
                    rw [← hW2] at HP ⊢
                    clear hW2
                    have HT := HP
                    clear HP
                    have HT : Held wr W2 [(kb, [.int .i64 (i * 16 + P + g1), .int .i64 (j * 16 + Q + g2), .int .i64 g3, .int .i64 (g4 - 16), .int .i64 (g5 - 16)])] := HT
                    have HO2 := Lib.hid (own_keep' HO.out HT.below)
                    have HB2 := Lib.hid (bcall HB.out HT.below HB.out.size)
                    have hsz : w.heap.size ≤ W2.heap.size := HB2.out.size
                    have c0 := (HT.box 0).c 0
                    have c1 := (HT.box 0).c 1
                    have c2 := (HT.box 0).c 2
                    have c3 := (HT.box 0).c 3
                    have c4 := (HT.box 0).c 4
                    clear HT HO HB
                    have hkl : k ≤ 15 := by omega
                    go_wp2_with (at_builtin; refine wpList_app5 _ rfl _ _ 28 rfl w.heap.size 31 (smp 0 0 0 0 0) 40 Try.underlying28 infoSmp rfl _ _ _ (by rfl) HO2.out _ _ _ _ _ (by rfl) ⟨by rfl, by rfl, by rfl, by rfl, by rfl⟩ (by unfold maxLen; omega) (by omega) hsz ?_)
                    intro v' w4 ho4 hg4
                    have HO4 := Lib.hid ho4
                    have HB4 := Lib.hid (HB2.out.grown hg4 hsz (own_block HO2.out))
                    clear ho4 hg4 hsz HO2 HB2 c0 c1 c2 c3 c4
                    go_wp2_with fail
                    go_roundw
                    case rel => exact ⟨m + 1, by have := HM.out; omega, by go_num, by
                      have h := HO4.out
                      rw [show n * r + (m + 1) = k + 1 by have := HK.out; omega, pxL_step, List.flatMap_append, HV.out]
                      exact h, HB4.out⟩
                    case measure => have := HM.out; simp [intOf]; omega
                  · have e : m = n := by omega
                    subst e
                    have HO := Lib.hid hown
                    have HB := Lib.hid hbw
                    clear hown hbw hm hmt
                    go_wp2_with fail
                    go_roundw
                    case rel => exact ⟨r + 1, HLT.out, by go_num, by have h := HO.out; rw [Nat.mul_succ]; exact h, HB.out⟩
                    case measure => have := HLT.out; simp [intOf]; omega
              · have e : r = n := by omega
                subst e
                obtain ⟨A2, c2, rfl⟩ := own_shape HO.out
                clear hr hlt
                go_wp2_with fail
                go_ret
                exact ⟨A2, c2, by rw [pxL_len, HN.out] <;> rfl, by rw [pxL_len, HN.out]; exact HO.out, HB.out⟩
end Go.Proofs.Ytbgpcgimmiinbaa
