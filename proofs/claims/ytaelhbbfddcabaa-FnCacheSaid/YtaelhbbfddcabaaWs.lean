/- The cache of the program, fourth part: TilesFor. -/
import Derived.Test.YtaelhbbfddcabaaProg
import Derived.Test.YtaelhbbfddcabaaInts
import Derived.Test.YtaelhbbfddcabaaVbox
import Derived.Test.YtaelhbbfddcabaaHeld
import Derived.Test.YtaelhbbfddcabaaMem
import Derived.Test.YtaelhbbfddcabaaFlat
import Derived.Test.YtaelhbbfddcabaaRowC
import Derived.Test.YtaelhbbfddcabaaKS
import Derived.Test.YtaelhbbfddcabaaStrS
import Derived.Test.YtaelhbbfddcabaaIntS
import Derived.Test.YtaelhbbfddcabaaSS
import Derived.Test.YtaelhbbfddcabaaVi
import Derived.Test.YtaelhbbfddcabaaVa
import Derived.Test.YtaelhbbfddcabaaVb
import Derived.Test.YtaelhbbfddcabaaVc
import Derived.Test.YtaelhbbfddcabaaVd
import Derived.Test.YtaelhbbfddcabaaVe
import Derived.Test.YtaelhbbfddcabaaVf
import Derived.Test.YtaelhbbfddcabaaVg
import Derived.Test.YtaelhbbfddcabaaVh
import Derived.Test.YtaelhbbfddcabaaVm
import Derived.Test.YtaelhbbfddcabaaVn
import Derived.Test.YtaelhbbfddcabaaVo
import Derived.Test.YtaelhbbfddcabaaVp
import Derived.Test.YtaelhbbfddcabaaVq
import Derived.Test.YtaelhbbfddcabaaWa
import Derived.Test.YtaelhbbfddcabaaWb
import Derived.Test.YtaelhbbfddcabaaWc
import Derived.Test.YtaelhbbfddcabaaWd
import Derived.Test.YtaelhbbfddcabaaWe
import Derived.Test.YtaelhbbfddcabaaWm
import Derived.Test.YtaelhbbfddcabaaWo
import Derived.Test.YtaelhbbfddcabaaWp
import Derived.Test.YtaelhbbfddcabaaWn
import Derived.Test.YtaelhbbfddcabaaWq
import Derived.Test.YtaelhbbfddcabaaGl
import Derived.WalkKit
import Derived.WalkSpells
import Derived.WalkLawsBesides
import Derived.Lib.Hide
import Derived.Deep.RegionHeld3
import Derived.Deep.QuietTactic
import Derived.BigQuiet
import Derived.Handy
import Derived.Deep.DeepCutAuto
import Derived.OwnWalk
import Derived.Lib.OwnBridge
import Derived.RangeFuncBox
import Derived.RangeFuncLeaves
import Derived.RangeFuncNested
import Derived.RangeFuncBound
import Derived.RangeFuncCalls
import Derived.RangeFuncWrites
import Derived.Shelf.Abstract
import Derived.OwnWalkIn
import Derived.TacticsInMore
import Derived.LoopNIn
import Derived.LoopIn
import Derived.Maps.AppendAt
namespace Go.Proofs.Ytaelhbbfddcabaa
open Go.RowKit Go.Shelf
attribute [local go_sem] Oper.semAt_some

theorem okM_clamp {L : Int} {ts : List Int} (h : okX L ts = true) (lv : Int) : okM L ts (clampP lv 0 L) = true := by
  unfold okM
  rw [h]
  have h1 := (show okTx L ts by simpa [okX] using h).1
  have h2 : 0 ≤ clampP lv 0 L ∧ clampP lv 0 L ≤ L := by
    unfold clampP
    split
    · omega
    · split <;> omega
  simp only [Bool.true_and, inV, decide_eq_true h2.1, decide_eq_true h2.2]
theorem okM_bad {L : Int} {ts : List Int} (h : okX L ts = false) (k : Int) : okM L ts k = false := by unfold okM; rw [h]; rfl
theorem tilK_round (L : Int) (ts : List Int) (x y l : Int) (c r : Nat) (hc : c < 2) : tilK L ts x y l (2 * r + c + 1) = addT (tilK L ts x y l (2 * r + c)) (tileP L ts (x + (c : Int)) (y + (r : Int)) l) := by
  rw [tilK, show (2 * r + c) % 2 = c by omega, show (2 * r + c) / 2 = r by omega]
set_option maxRecDepth 100000 in
set_option maxHeartbeats 16000000 in
theorem tilesFor_any (L : Int) (A : Option Addr) (c : Nat) (ts : List Int) (u v lv : Int) (w : World) (hR : Row I64 w w.heap.size A ts) (hl : ts.length ≤ 1048576) (hc : ts.length ≤ c) :
    Calls Try.prog 32 #[txv L A ts.length c, .int .i64 u, .int .i64 v, .int .i64 lv] w (TilOut (tilesP L ts u v lv) w) := by
  obtain ⟨l, hlv⟩ : ∃ l, l = clampP lv 0 L := ⟨_, rfl⟩
  obtain ⟨Lm, M, fl, hmp, hno, hyes⟩ := mip_key L A c ts l w hR hl hc
  have HT : Held w ((w.alloc (.cells #[.int .i64 L, .slice A ts.length c] 25)).alloc (.cells #[.int .i64 lv] 3)) [(w.heap.size + 1, [.int .i64 lv]), (w.heap.size, [.int .i64 L, .slice A ts.length c])] := by
    have h := ((Held.nil w).new #[.int .i64 L, .slice A ts.length c] 25).new #[.int .i64 lv] 3
    simpa only [World.size_alloc] using h
  obtain ⟨W1, hW1⟩ : ∃ W, W = (w.alloc (.cells #[.int .i64 L, .slice A ts.length c] 25)).alloc (.cells #[.int .i64 lv] 3) := ⟨_, rfl⟩
  rw [← hW1] at HT
  have hsz : W1.heap.size = w.heap.size + 2 := by rw [hW1]; simp
  have HCL : Hid (∀ W, Calls Try.prog 51 #[.int .i64 lv, .int .i64 0, .int .i64 L] W fun e w' => e = .returned (.int .i64 l) ∧ W = w') := Lib.hid (fun W => by rw [hlv]; exact clamp_any lv 0 L W)
  have HMP := Lib.hid hmp
  have HFL : Hid (fl = okX L ts) := Lib.hid (by
    cases fl with
    | false =>
      cases ho : okX L ts with
      | false => rfl
      | true =>
        have h1 := hno rfl
        rw [hlv, okM_clamp ho] at h1
        cases h1
    | true =>
      cases ho : okX L ts with
      | true => rfl
      | false =>
        have h1 := (hyes rfl).1
        rw [okM_bad ho] at h1
        cases h1)
  have HYS := Lib.hid hyes
  have HLV := Lib.hid hlv
  obtain ⟨n, hn⟩ : ∃ n, n = ts.length := ⟨_, rfl⟩
  rw [← hn] at HT HMP hW1 ⊢
  clear hR hmp hno hyes hlv hl hc hn
  cases fl with
  | false =>
    go_enter Try.func32, Try.ntmps32
    go_upto_region 1 with fail
    rw [← hW1]
    obtain ⟨k1, hk1⟩ : ∃ k, k = w.heap.size + 1 := ⟨_, rfl⟩
    obtain ⟨k0, hk0⟩ : ∃ k, k = w.heap.size := ⟨_, rfl⟩
    rw [← hk1, ← hk0] at HT
    rw [← hk1, ← hk0]
    have HORD := Lib.hid (show w.heap.size ≤ k0 ∧ k0 < k1 ∧ k1 < W1.heap.size by omega)
    have m0 := (HT.box 0).c 0
    have f0 := (HT.box 0).f 0
    have m1 := (HT.box 1).c 0
    have m2 := (HT.box 1).c 1
    have HTH := Lib.hid HT
    clear hW1 hk1 hk0 hsz HT
    go_wp2_with fail
    refine (HCL.out _).mono ?_
    rintro e w2 ⟨rfl, rfl⟩
    have HT2 : Held w (W1.setCell ⟨k1, 0, none⟩ (.int .i64 l)) [(k1, [.int .i64 l]), (k0, [.int .i64 L, .slice A n c])] := HTH.out.put (show w.heap.size ≤ k1 by have := HORD.out; omega) (by have := HORD.out; simp; omega) 0 (.int .i64 l)
    obtain ⟨W2, hW2⟩ : ∃ W, W = W1.setCell ⟨k1, 0, none⟩ (.int .i64 l) := ⟨_, rfl⟩
    rw [← hW2] at HT2
    go_upto_region 2 with fail
    rw [← hW2]
    have hs2 : W2.heap.size = W1.heap.size := by rw [hW2]; simp
    have HORD2 := Lib.hid (show w.heap.size ≤ k0 ∧ k0 < k1 ∧ k1 < W2.heap.size by have := HORD.out; omega)
    clear hW2 m0 f0 m1 m2 hs2
    have m0 := (HT2.box 0).c 0
    have m1 := (HT2.box 1).c 0
    have m2 := (HT2.box 1).c 1
    have HM2 := Lib.hid (HMP.out W2 HT2.below)
    have HTH2 := Lib.hid HT2
    clear HT2
    go_wp2_with fail
    refine HM2.out.mono ?_
    rintro e w3 ⟨A2, c2, rfl, _, hb3⟩
    have hs3 := hb3.size
    have HT3 := (HTH2.out.later hb3).new #[.int .i64 Lm, .slice A2 M.length c2] 25
    clear hb3 m0 m1 m2
    go_upto_region 3 with fail
    obtain ⟨W3, hW3⟩ : ∃ W, W = w3.alloc (.cells #[.int .i64 Lm, .slice A2 M.length c2] 25) := ⟨_, rfl⟩
    obtain ⟨k2, hk2⟩ : ∃ k, k = w3.heap.size := ⟨_, rfl⟩
    have hz3 : W3.heap.size = k2 + 1 := by rw [hW3, hk2]; simp
    rw [← hW3] at HT3 ⊢
    rw [← hk2] at HT3 hs3 ⊢
    have HORD3 := Lib.hid (show w.heap.size ≤ k0 ∧ k0 < k1 ∧ k1 < k2 ∧ k2 < W3.heap.size by have := HORD2.out; omega)
    clear hW3 hk2 hs3 hz3
    have HE : Hid (tilesP L ts u v lv = []) := Lib.hid (by unfold tilesP; rw [← HFL.out]; rfl)
    have HB := Lib.hid HT3.below
    clear HT3
    go_wp2_with fail
    go_ret
    exact ⟨none, 0, by rw [HE.out]; rfl, by rw [HE.out]; exact World.ownsRow_nil _ _ _ _, HB.out⟩
  | true =>
    refine (callsIn_wide (n := 3)).1 ?_
    refine callsIn_of_wp_marks Try.func32 rfl trivial ?_ rfl
    simp only [Try.ntmps32, List.size_toArray, List.length_cons, List.length_nil, Nat.reduceAdd, Nat.reduceSub, Array.replicate_succ, Array.replicate_zero, List.push_toArray, List.append_toArray, List.nil_append, List.cons_append]
    refine wpIn_wide.2 ?_
    go_upto_region 1 with fail
    rw [← hW1]
    obtain ⟨k1, hk1⟩ : ∃ k, k = w.heap.size + 1 := ⟨_, rfl⟩
    obtain ⟨k0, hk0⟩ : ∃ k, k = w.heap.size := ⟨_, rfl⟩
    rw [← hk1, ← hk0] at HT
    rw [← hk1, ← hk0]
    have HORD := Lib.hid (show w.heap.size ≤ k0 ∧ k0 < k1 ∧ k1 < W1.heap.size by omega)
    have m0 := (HT.box 0).c 0
    have f0 := (HT.box 0).f 0
    have m1 := (HT.box 1).c 0
    have m2 := (HT.box 1).c 1
    have HTH := Lib.hid HT
    clear hW1 hk1 hk0 hsz HT
    go_wp2_with fail
    refine (HCL.out _).mono ?_
    rintro e w2 ⟨rfl, rfl⟩
    have HT2 : Held w (W1.setCell ⟨k1, 0, none⟩ (.int .i64 l)) [(k1, [.int .i64 l]), (k0, [.int .i64 L, .slice A n c])] := HTH.out.put (show w.heap.size ≤ k1 by have := HORD.out; omega) (by have := HORD.out; simp; omega) 0 (.int .i64 l)
    obtain ⟨W2, hW2⟩ : ∃ W, W = W1.setCell ⟨k1, 0, none⟩ (.int .i64 l) := ⟨_, rfl⟩
    rw [← hW2] at HT2
    go_upto_region 2 with fail
    rw [← hW2]
    have hs2 : W2.heap.size = W1.heap.size := by rw [hW2]; simp
    have HORD2 := Lib.hid (show w.heap.size ≤ k0 ∧ k0 < k1 ∧ k1 < W2.heap.size by have := HORD.out; omega)
    clear hW2 m0 f0 m1 m2 hs2
    have m0 := (HT2.box 0).c 0
    have m1 := (HT2.box 1).c 0
    have m2 := (HT2.box 1).c 1
    have HM2 := Lib.hid (HMP.out W2 HT2.below)
    have HTH2 := Lib.hid HT2
    clear HT2
    go_wp2_with fail
    refine HM2.out.mono ?_
    rintro e w3 ⟨A2, c2, rfl, _, hb3⟩
    have hs3 := hb3.size
    have HT3 := (HTH2.out.later hb3).new #[.int .i64 Lm, .slice A2 M.length c2] 25
    clear hb3 m0 m1 m2
    go_upto_region 3 with fail
    obtain ⟨W3, hW3⟩ : ∃ W, W = w3.alloc (.cells #[.int .i64 Lm, .slice A2 M.length c2] 25) := ⟨_, rfl⟩
    obtain ⟨k2, hk2⟩ : ∃ k, k = w3.heap.size := ⟨_, rfl⟩
    have hz3 : W3.heap.size = k2 + 1 := by rw [hW3, hk2]; simp
    rw [← hW3] at HT3 ⊢
    rw [← hk2] at HT3 hs3 ⊢
    have HORD3 := Lib.hid (show w.heap.size ≤ k0 ∧ k0 < k1 ∧ k1 < k2 ∧ k2 < W3.heap.size by have := HORD2.out; omega)
    clear hW3 hk2 hs3 hz3
    obtain ⟨hok, hLm, hokM⟩ := HYS.out (by first | rfl | trivial)
    have hs16 := sd_le hokM
    have hcu := ccT_bd u
    have hcv := ccT_bd v
    obtain ⟨s, hs⟩ : ∃ s, s = ccT u * (sd Lm : Int) - 128 := ⟨_, rfl⟩
    obtain ⟨r, hr⟩ : ∃ r, r = ccT v * (sd Lm : Int) - 128 := ⟨_, rfl⟩
    have HPU := Lib.hid (fun W => placeIn_any Lm A2 M.length c2 u s W hokM hs)
    have HPV := Lib.hid (fun W => placeIn_any Lm A2 M.length c2 v r W hokM hr)
    have hpu := pos_bd hcu hs16
    have hpv := pos_bd hcv hs16
    have hsb : -16000128 ≤ s ∧ s ≤ 16000000 := by omega
    have hrb : -16000128 ≤ r ∧ r ≤ 16000000 := by omega
    obtain ⟨x, hx⟩ : ∃ x, x = s / 256 := ⟨_, rfl⟩
    obtain ⟨y, hy⟩ : ∃ y, y = r / 256 := ⟨_, rfl⟩
    have hxy : (-70000 ≤ x ∧ x ≤ 70000) ∧ (-70000 ≤ y ∧ y ≤ 70000) := by omega
    rw [← hx] at HPU
    rw [← hy] at HPV
    have HVV : Hid (tilesP L ts u v lv = tilK L ts x y l 4) := Lib.hid (by unfold tilesP; rw [← HFL.out, if_pos rfl, ← HLV.out, ← hLm, hx, hy, hs, hr])
    have HTP : Hid (∀ a b, tileP L ts a b l = (l, ((wrp a (sd Lm) / 2 : Nat) : Int), ((wrp b (sd Lm) / 2 : Nat) : Int))) := Lib.hid (fun a b => by unfold tileP; rw [if_pos hok, hLm])
    have HOM := Lib.hid hokM
    have HXY := Lib.hid hxy
    clear hok hLm hokM hs16 hcu hcv hs hr hpu hpv hsb hrb hx hy hxy
    have n0 := (HT3.box 0).c 0
    have n1 := (HT3.box 0).c 1
    have HTH3 := Lib.hid HT3
    clear HT3
    go_wp2_with fail
    refine (HPU.out _).mono ?_
    rintro e w4 ⟨rfl, hb4⟩
    have hs4 := hb4.size
    have HT4 := (HTH3.out.later hb4).new #[.int .i64 x] 3
    clear hb4 n0 n1
    go_upto_region 6 with fail
    obtain ⟨W4, hW4⟩ : ∃ W, W = w4.alloc (.cells #[.int .i64 x] 3) := ⟨_, rfl⟩
    obtain ⟨k3, hk3⟩ : ∃ k, k = w4.heap.size := ⟨_, rfl⟩
    have hz4 : W4.heap.size = k3 + 1 := by rw [hW4, hk3]; simp
    rw [← hW4] at HT4 ⊢
    rw [← hk3] at HT4 hs4 ⊢
    have HORD4 := Lib.hid (show w.heap.size ≤ k0 ∧ k0 < k1 ∧ k1 < k2 ∧ k2 < k3 ∧ k3 < W4.heap.size by have := HORD3.out; omega)
    clear hW4 hk3 hs4 hz4
    have n0 := (HT4.box 1).c 0
    have n1 := (HT4.box 1).c 1
    have HTH4 := Lib.hid HT4
    clear HT4
    go_wp2_with fail
    refine (HPV.out _).mono ?_
    rintro e w5 ⟨rfl, hb5⟩
    have hs5 := hb5.size
    have HT5 := (HTH4.out.later hb5).new #[.int .i64 y] 3
    clear hb5 n0 n1
    go_upto_region 7 with fail
    obtain ⟨W5, hW5⟩ : ∃ W, W = w5.alloc (.cells #[.int .i64 y] 3) := ⟨_, rfl⟩
    obtain ⟨k4, hk4⟩ : ∃ k, k = w5.heap.size := ⟨_, rfl⟩
    have hz5 : W5.heap.size = k4 + 1 := by rw [hW5, hk4]; simp
    rw [← hW5] at HT5 ⊢
    rw [← hk4] at HT5 hs5 ⊢
    obtain ⟨k5, hk5⟩ : ∃ k, k = W5.heap.size := ⟨_, rfl⟩
    have HORD5 := Lib.hid (show w.heap.size ≤ k0 ∧ k0 < k1 ∧ k1 < k2 ∧ k2 < k3 ∧ k3 < k4 ∧ k4 < k5 by have := HORD4.out; omega)
    clear hW5 hk4 hs5 hz5
    go_wp2_with (go_at_call 71; refine (callsIn_wide.1 (gridPts_in 3 _ _)).mono ?_; rintro e w' ⟨rfl, rfl⟩)
    have HT8 := (HT5.alloc (.cells #[.slice none 0 0] 27)).alloc (.cells #[.int .i64 2] 3)
    have bQ : Boxed ((W5.alloc (.cells #[.slice none 0 0] 27)).alloc (.cells #[.int .i64 2] 3)) W5.heap.size 27 (.slice none 0 0) := (Boxed.new W5 27 _).alloc _
    have bN : Boxed ((W5.alloc (.cells #[.slice none 0 0] 27)).alloc (.cells #[.int .i64 2] 3)) (W5.heap.size + 1) 3 (.int .i64 2) := by
      have h := Boxed.new (W5.alloc (.cells #[.slice none 0 0] 27)) 3 (.int .i64 2)
      rw [World.size_alloc] at h
      exact h
    have hs8 : ((W5.alloc (.cells #[.slice none 0 0] 27)).alloc (.cells #[.int .i64 2] 3)).heap.size = W5.heap.size + 2 := by simp
    obtain ⟨W8, hW8⟩ : ∃ W, W = ((W5.alloc (.cells #[.slice none 0 0] 27)).alloc (.cells #[.int .i64 2] 3)) := ⟨_, rfl⟩
    rw [← hW8] at HT8 bQ bN hs8 ⊢
    rw [← hk5] at bQ bN hs8 ⊢
    clear hW8 hk5 HT5
    have HQ0 := Lib.hid (And.intro bQ (And.intro bN HT8))
    have HS8 := Lib.hid hs8
    obtain ⟨i0, hi, hz0, hz1, hz2⟩ := info_parts infoTile
    have HINF := Lib.hid (And.intro hi (And.intro hz0 (And.intro hz1 hz2)))
    clear hi hz0 hz1 hz2 bQ bN HT8 hs8
    refine (wpIn_wide (n := 3)).1 ?_
    refine' wpIn_grid (s := 2) (Bn := k5 + 1) (by omega) (by omega) rfl rfl
      (fun (T : Nat) W => ((∃ s, Boxed W k5 27 s ∧ W.ownsRow k5 50 3 s (tilK L ts x y l T).length ((tilK L ts x y l T).flatMap vg) ∧ True) ∧ Boxed W (k5 + 1) 3 (.int .i64 2)) ∧ (Below w.heap.size w W ∧ (W.cell? ⟨k1, 0, none⟩ = some (.int .i64 l) ∧ W.cell? ⟨k2, 0, none⟩ = some (.int .i64 Lm) ∧ W.cell? ⟨k2, 1, none⟩ = some (.slice A2 M.length c2) ∧ W.cell? ⟨k3, 0, none⟩ = some (.int .i64 x) ∧ W.cell? ⟨k4, 0, none⟩ = some (.int .i64 y))))
      (fun c W => False)
      (OwnFrom.and (OwnFrom.and (Own.from (holdsRow_own k5 k5 27 50 3 (fun (T : Nat) => (tilK L ts x y l T).length) (fun (T : Nat) => (tilK L ts x y l T).flatMap vg) (fun _ _ => True)) _) (Own.from (boxed_own (k5 + 1) 3 (fun _ => .int .i64 2)) _))
        (OwnFrom.and (ownFrom_below (Nat.le_refl _) (by have := HORD5.out; have := HS8.out; omega)) (Own.from (fun s A B row hs hg hr => ⟨cell_kept hs.1 hg hr, cell_kept hs.2.1 hg hr, cell_kept hs.2.2.1 hg hr, cell_kept hs.2.2.2.1 hg hr, cell_kept hs.2.2.2.2 hg hr⟩) _)))
      (fun c A B row h hg hr => h) (fun T W h => h.1.2.cell)
      ⟨⟨⟨_, HQ0.out.1, World.ownsRow_nil _ _ _ _, trivial⟩, HQ0.out.2.1⟩, HQ0.out.2.2.below, (HQ0.out.2.2.box 3).c 0, (HQ0.out.2.2.box 2).c 0, (HQ0.out.2.2.box 2).c 1, (HQ0.out.2.2.box 1).c 0, (HQ0.out.2.2.box 0).c 0⟩ _ ?assign ?body ?done ?stop
    case assign =>
      intro q c r W K hK
      gi_wp2
      exact hK
    case body =>
      rintro q cc rr W hcc hrr ⟨⟨⟨sv, hv1, hrow, _⟩, hN⟩, hB, g0, g1, g2, g3, g4⟩
      have hrd := tilK_round L ts x y l cc rr hcc
      have hx1 : IntKind.i64.wrap (x + (cc : Int)) = x + (cc : Int) := wrap_v (by have := HXY.out; omega)
      have hy1 : IntKind.i64.wrap (y + (rr : Int)) = y + (rr : Int) := wrap_v (by have := HXY.out; omega)
      have HTN0 := tileIn_any Lm A2 M.length c2 (x + (cc : Int)) (y + (rr : Int)) l W HOM.out (by have := HXY.out; omega) (by have := HXY.out; omega)
      have htp := HTP.out (x + (cc : Int)) (y + (rr : Int))
      obtain ⟨qx, hqx⟩ : ∃ z, z = ((wrp (x + (cc : Int)) (sd Lm) / 2 : Nat) : Int) := ⟨_, rfl⟩
      obtain ⟨qy, hqy⟩ : ∃ z, z = ((wrp (y + (rr : Int)) (sd Lm) / 2 : Nat) : Int) := ⟨_, rfl⟩
      rw [← hqx, ← hqy] at HTN0 htp
      rw [htp] at hrd
      have hlen := tilK_len L ts x y l (2 * rr + cc)
      obtain ⟨xs, hxs⟩ : ∃ xs, xs = tilK L ts x y l (2 * rr + cc) := ⟨_, rfl⟩
      rw [← hxs] at hrd hrow hlen
      have hxl : xs.length ≤ 4 := by omega
      obtain ⟨A4, c4, hsv⟩ := own_shape hrow
      subst hsv
      have HTN := Lib.hid HTN0
      have g6 := hv1.cell
      have hlt5 := hv1.lt
      have HRD := Lib.hid hrd
      have HAFT : Hid (∀ w1, Below W.heap.size W w1 → ((w1.alloc (.cells #[.int .i64 l, .int .i64 qx, .int .i64 qy] 50)).cell? ⟨k5, 0, none⟩ = some (.slice A4 xs.length c4) ∧ (w1.alloc (.cells #[.int .i64 l, .int .i64 qx, .int .i64 qy] 50)).cell? ⟨w1.heap.size, 0, none⟩ = some (.int .i64 l) ∧ (w1.alloc (.cells #[.int .i64 l, .int .i64 qx, .int .i64 qy] 50)).cell? ⟨w1.heap.size, 1, none⟩ = some (.int .i64 qx) ∧ (w1.alloc (.cells #[.int .i64 l, .int .i64 qx, .int .i64 qy] 50)).cell? ⟨w1.heap.size, 2, none⟩ = some (.int .i64 qy)) ∧
          (Calls Try.prog 72 #[.slice A4 xs.length c4, tlv l qx qy] (w1.alloc (.cells #[.int .i64 l, .int .i64 qx, .int .i64 qy] 50)) fun e w' => e = .returned (.bool (decide ((l, qx, qy) ∈ xs))) ∧ Below (w1.alloc (.cells #[.int .i64 l, .int .i64 qx, .int .i64 qy] 50)).heap.size (w1.alloc (.cells #[.int .i64 l, .int .i64 qx, .int .i64 qy] 50)) w') ∧
          ∀ w2, Below (w1.alloc (.cells #[.int .i64 l, .int .i64 qx, .int .i64 qy] 50)).heap.size (w1.alloc (.cells #[.int .i64 l, .int .i64 qx, .int .i64 qy] 50)) w2 →
            Boxed w2 k5 27 (.slice A4 xs.length c4) ∧ w2.ownsRow k5 50 3 (.slice A4 xs.length c4) xs.length (xs.flatMap vg) ∧ Boxed w2 (k5 + 1) 3 (.int .i64 2) ∧ Below w.heap.size w w2 ∧ KeepsFrom W8.heap.size W w2 ∧ (w2.cell? ⟨k1, 0, none⟩ = some (.int .i64 l) ∧ w2.cell? ⟨k2, 0, none⟩ = some (.int .i64 Lm) ∧ w2.cell? ⟨k2, 1, none⟩ = some (.slice A2 M.length c2) ∧ w2.cell? ⟨k3, 0, none⟩ = some (.int .i64 x) ∧ w2.cell? ⟨k4, 0, none⟩ = some (.int .i64 y)) ∧ (w2.cell? ⟨w1.heap.size, 0, none⟩ = some (.int .i64 l) ∧ w2.cell? ⟨w1.heap.size, 1, none⟩ = some (.int .i64 qx) ∧ w2.cell? ⟨w1.heap.size, 2, none⟩ = some (.int .i64 qy)) ∧ k5 < w2.heap.size) := Lib.hid (fun w1 hb1 => by
        have hv2 := (hv1.kept (gb_of_below hb1 (row := none)) (by simp)).alloc (.cells #[.int .i64 l, .int .i64 qx, .int .i64 qy] 50)
        have hN2 := (hN.kept (gb_of_below hb1 (row := none)) (by simp)).alloc (.cells #[.int .i64 l, .int .i64 qx, .int .i64 qy] 50)
        have hrow2 := (own_keep' hrow hb1).alloc (.cells #[.int .i64 l, .int .i64 qx, .int .i64 qy] 50)
        have hb2 := hb1.alloc hb1.size (.cells #[.int .i64 l, .int .i64 qx, .int .i64 qy] 50)
        have hB2 := hB.trans (hb2.mono hB.size)
        have hM := Mbox.new w1 #[.int .i64 l, .int .i64 qx, .int .i64 qy] 50
        have hk2 : KeepsFrom W8.heap.size W (w1.alloc (.cells #[.int .i64 l, .int .i64 qx, .int .i64 qy] 50)) := (keepsLater (KeepsFrom.refl _ _) hb1).trans ((KeepsOthers.alloc w1 _).from _)
        have h5 := HORD5.out
        have hw5 := hlt5
        refine ⟨⟨hv2.cell, hM.c 0, hM.c 1, hM.c 2⟩, containsT_any A4 c4 xs l qx qy _ (RowC.of_own vg_len hrow2 rfl) (by omega), fun w2 hb3 => ?_⟩
        have hgb := gb_of_below hb3 (row := none)
        have hM2 := hM.later hb3
        refine ⟨hv2.kept hgb (by simp), own_keep' hrow2 hb3, hN2.kept hgb (by simp), hB2.trans (hb3.mono hB2.size), keepsLater hk2 hb3, ⟨?_, ?_, ?_, ?_, ?_⟩, ⟨hM2.c 0, hM2.c 1, hM2.c 2⟩, Nat.lt_of_lt_of_le hv2.lt hb3.size⟩
        · exact (hb3.cell (p := ⟨k1, 0, none⟩) (Nat.lt_of_lt_of_le (show k1 < W.heap.size by omega) hb2.size)).trans ((hb2.cell (p := ⟨k1, 0, none⟩) (show k1 < W.heap.size by omega)).trans g0)
        · exact (hb3.cell (p := ⟨k2, 0, none⟩) (Nat.lt_of_lt_of_le (show k2 < W.heap.size by omega) hb2.size)).trans ((hb2.cell (p := ⟨k2, 0, none⟩) (show k2 < W.heap.size by omega)).trans g1)
        · exact (hb3.cell (p := ⟨k2, 1, none⟩) (Nat.lt_of_lt_of_le (show k2 < W.heap.size by omega) hb2.size)).trans ((hb2.cell (p := ⟨k2, 1, none⟩) (show k2 < W.heap.size by omega)).trans g2)
        · exact (hb3.cell (p := ⟨k3, 0, none⟩) (Nat.lt_of_lt_of_le (show k3 < W.heap.size by omega) hb2.size)).trans ((hb2.cell (p := ⟨k3, 0, none⟩) (show k3 < W.heap.size by omega)).trans g3)
        · exact (hb3.cell (p := ⟨k4, 0, none⟩) (Nat.lt_of_lt_of_le (show k4 < W.heap.size by omega) hb2.size)).trans ((hb2.cell (p := ⟨k4, 0, none⟩) (show k4 < W.heap.size by omega)).trans g4))
      clear HTN0 htp hqx hqy hrd hlen hxs hrow hN hB hv1 hlt5 hcc hrr
      have hfT : Fence.wide.fn 66 := trivial
      have hfC : Fence.wide.fn 72 := trivial
      by_cases hm : (l, qx, qy) ∈ xs
      · have hdm : decide ((l, qx, qy) ∈ xs) = true := decide_eq_true hm
        rw [hdm] at HAFT
        have HST : Hid (tilK L ts x y l (2 * rr + cc + 1) = xs) := Lib.hid (HRD.out.trans (addT_yes hm))
        clear hm hdm
        gi_wp2_with (first
          | (gi_at_call 66; refine (CallsIn.inRound q (callsIn_wide.2 HTN.out)).mono ?_; rintro e w1 ⟨rfl, hb1⟩; have HG := Lib.hid (HAFT.out w1 hb1); obtain ⟨g7, p0, p1, p2⟩ := HG.out.1; clear hb1 g0 g1 g2 g3 g4)
          | (gi_at_call 72; refine (CallsIn.inRound q (callsIn_wide.2 HG.out.2.1)).mono ?_; rintro e w2 ⟨rfl, hb2⟩; obtain ⟨hv2, hrow2, hN2, hB2, hk2, hcc2, hp2, hsz2⟩ := HG.out.2.2 w2 hb2; have g7 := hv2.cell; obtain ⟨p0, p1, p2⟩ := hp2; clear hb2 HG))
        refine ⟨hk2, ?_⟩
        dsimp only
        rw [HST.out]
        exact ⟨⟨⟨_, hv2, hrow2, trivial⟩, hN2⟩, hB2, hcc2⟩
      · have hdm : decide ((l, qx, qy) ∈ xs) = false := decide_eq_false hm
        rw [hdm] at HAFT
        have HST : Hid (tilK L ts x y l (2 * rr + cc + 1) = xs ++ [(l, qx, qy)]) := Lib.hid (HRD.out.trans (addT_no hm))
        have hi := HINF.out.1
        have hz0 := HINF.out.2.1
        have hz1 := HINF.out.2.2.1
        have hz2 := HINF.out.2.2.2
        clear hm hdm
        gi_wp2_with (first
          | (gi_at_call 66; refine (CallsIn.inRound q (callsIn_wide.2 HTN.out)).mono ?_; rintro e w1 ⟨rfl, hb1⟩; have HG := Lib.hid (HAFT.out w1 hb1); obtain ⟨g7, p0, p1, p2⟩ := HG.out.1; clear hb1 g0 g1 g2 g3 g4)
          | (gi_at_call 72; refine (CallsIn.inRound q (callsIn_wide.2 HG.out.2.1)).mono ?_; rintro e w2 ⟨rfl, hb2⟩; obtain ⟨hv2, hrow2, hN2, hB2, hk2, hcc2, hp2, hsz2⟩ := HG.out.2.2 w2 hb2; have g7 := hv2.cell; obtain ⟨p0, p1, p2⟩ := hp2; clear hb2 HG)
          | (gi_at_builtin; refine wpListIn_append_own _ rfl _ _ 27 rfl k5 50 i0 (tlv 0 0 0) 3 24 Try.underlying27 hi hz0 hz1 hz2 rfl (by decide) _ _ _ rfl (hrow2.alloc _) ⟨w2.heap.size, 0, none⟩ 1 1 [.int .i64 l, .int .i64 qx, .int .i64 qy] rfl rfl (cellsT_new _ _ _ _ _) (by simp [Value.oneCell']) (by unfold maxLen; omega) (by omega) (by simp; omega) ?_; intro v' w3 hown' hgrow _; obtain ⟨g', cap', rfl⟩ := ownsRow_succ hown'; obtain ⟨hw1, hw2, hr2, hk3, hb3⟩ := hv2.appended (by decide) hrow2 (Nat.le_of_lt hsz2) (Nat.le_refl _) hown' hgrow; have hN3 := ((hN2.alloc (.cells #[.int .i64 l, .int .i64 qx, .int .i64 qy] 50)).kept hgrow (hN2.not_row (by decide) hrow2)).other (show k5 + 1 ≠ k5 by omega) (.slice (some ⟨g', 0, none⟩) (xs.length + 1) cap'); have hc1 := hw1.cell; have hf1 := hw1.frozen))
        have h5 := HORD5.out
        refine ⟨hk2.trans (hk3.from _), ?_⟩
        dsimp only
        rw [HST.out]
        refine ⟨⟨⟨_, hw2, ?_, trivial⟩, hN3⟩, hB2.trans (hb3.mono (by omega)), (hb3.cell (p := ⟨k1, 0, none⟩) (show k1 < k5 by omega)).trans hcc2.1, (hb3.cell (p := ⟨k2, 0, none⟩) (show k2 < k5 by omega)).trans hcc2.2.1, (hb3.cell (p := ⟨k2, 1, none⟩) (show k2 < k5 by omega)).trans hcc2.2.2.1, (hb3.cell (p := ⟨k3, 0, none⟩) (show k3 < k5 by omega)).trans hcc2.2.2.2.1, (hb3.cell (p := ⟨k4, 0, none⟩) (show k4 < k5 by omega)).trans hcc2.2.2.2.2⟩
        rw [List.length_append, List.flatMap_append]
        exact hr2
    case done =>
      rintro D W hD ⟨⟨⟨sv, hv1, hrow, _⟩, hN⟩, hB, _⟩ hK
      obtain ⟨A4, c4, rfl⟩ := own_shape hrow
      have hc := hv1.cell
      have HKH := Lib.hid hK
      have HOW := Lib.hid hrow
      have HB := Lib.hid hB
      clear hN hrow hK hB hv1
      go_wp2_with fail
      refine ⟨by simp, .inl ⟨_, _, rfl, run_takeDeferred HKH.out, ?_⟩⟩
      rw [HVV.out]
      exact ⟨_, results_tmp rfl _ _ _, A4, c4, rfl, own_base (ownsRow_putObj HOW.out (.deferred none) HKH.out rfl) (by have := HORD5.out; omega), HB.out.trans (belowK_b (w := w) (Nat.le_refl _) W D _ _ (by have := HORD5.out; have := HS8.out; omega) HKH.out rfl rfl)⟩
    case stop =>
      rintro D c W _ h _
      exact h.elim
end Go.Proofs.Ytaelhbbfddcabaa
