/- The cache of the program, fifth part: CachedLookup. -/
import Derived.Test.YtaelhbbfddcabaaProg
import Derived.Test.YtaelhbbfddcabaaInts
import Derived.Test.YtaelhbbfddcabaaVbox
import Derived.Test.YtaelhbbfddcabaaHeld
import Derived.Test.YtaelhbbfddcabaaMem
import Derived.Test.YtaelhbbfddcabaaFlat
import Derived.Test.YtaelhbbfddcabaaRowC
import Derived.Test.YtaelhbbfddcabaaKS
import Derived.Test.YtaelhbbfddcabaaStrS
import Derived.Test.YtaelhbbfddcabaaIntS
import Derived.Test.YtaelhbbfddcabaaSS
import Derived.Test.YtaelhbbfddcabaaVi
import Derived.Test.YtaelhbbfddcabaaVa
import Derived.Test.YtaelhbbfddcabaaVb
import Derived.Test.YtaelhbbfddcabaaVc
import Derived.Test.YtaelhbbfddcabaaVd
import Derived.Test.YtaelhbbfddcabaaVe
import Derived.Test.YtaelhbbfddcabaaVf
import Derived.Test.YtaelhbbfddcabaaVg
import Derived.Test.YtaelhbbfddcabaaVh
import Derived.Test.YtaelhbbfddcabaaVm
import Derived.Test.YtaelhbbfddcabaaVn
import Derived.Test.YtaelhbbfddcabaaVo
import Derived.Test.YtaelhbbfddcabaaVp
import Derived.Test.YtaelhbbfddcabaaVq
import Derived.Test.YtaelhbbfddcabaaWa
import Derived.Test.YtaelhbbfddcabaaWb
import Derived.Test.YtaelhbbfddcabaaWc
import Derived.Test.YtaelhbbfddcabaaWd
import Derived.Test.YtaelhbbfddcabaaWe
import Derived.Test.YtaelhbbfddcabaaWf
import Derived.Test.YtaelhbbfddcabaaWg
import Derived.Test.YtaelhbbfddcabaaWm
import Derived.Test.YtaelhbbfddcabaaWo
import Derived.Test.YtaelhbbfddcabaaWp
import Derived.Test.YtaelhbbfddcabaaWn
import Derived.Test.YtaelhbbfddcabaaWq
import Derived.Test.YtaelhbbfddcabaaWr
import Derived.Test.YtaelhbbfddcabaaWs
import Derived.WalkKit
import Derived.WalkSpells
import Derived.WalkLawsBesides
import Derived.Lib.Hide
import Derived.Deep.RegionHeld3
import Derived.Deep.QuietTactic
import Derived.BigQuiet
import Derived.Handy
import Derived.Deep.DeepCutAuto
import Derived.OwnWalk
import Derived.Lib.OwnBridge
namespace Go.Proofs.Ytaelhbbfddcabaa
open Go.RowKit

theorem useL_mem {R : Int} {ts : List V3} {K : Int} {x e : V3} (h : e ∈ useL R ts K x) : e ∈ ts ∨ e = x := by
  unfold useL at h
  split at h
  · split at h
    · rcases List.mem_append.1 h with h | h
      · exact .inl (List.mem_of_mem_take h)
      · rcases List.mem_append.1 h with h | h
        · exact .inl (List.mem_of_mem_drop h)
        · exact .inr (by simpa using h)
    · have h1 : e ∈ ts ++ [x] := by
        split at h
        · exact List.mem_of_mem_drop h
        · exact h
      rcases List.mem_append.1 h1 with h1 | h1
      · exact .inl h1
      · exact .inr (by simpa using h1)
  · exact .inl h
theorem useA_mem {R : Int} {e : V3} : ∀ (xs : List V3) (s : List V3 × Int), e ∈ (useA R xs s).1 → e ∈ s.1 ∨ e ∈ xs
  | [], s, h => .inl h
  | x :: xs, s, h => by
    rcases useA_mem xs _ h with h1 | h1
    · rcases useL_mem h1 with h2 | h2
      · exact .inl h2
      · exact .inr (by rw [h2]; exact List.mem_cons_self)
    · exact .inr (List.mem_cons_of_mem _ h1)
theorem tilK_mem {L : Int} {ts : List Int} {x y l : Int} {e : V3} : ∀ k, e ∈ tilK L ts x y l k → ∃ a b, e = tileP L ts a b l
  | 0, h => by cases h
  | k + 1, h => by
    unfold tilK addT at h
    split at h
    · exact tilK_mem k h
    · rcases List.mem_append.1 h with h | h
      · exact tilK_mem k h
      · exact ⟨_, _, by simpa using h⟩
theorem tilesP_wf {L : Int} {ts : List Int} {u v lv : Int} (ho : okX L ts = true) : ∀ e ∈ tilesP L ts u v lv, wf3 e := fun e he => by
  unfold tilesP at he
  rw [if_pos ho] at he
  obtain ⟨a, b, rfl⟩ := tilK_mem 4 he
  have hL := (show okTx L ts by simpa [okX] using ho).1
  have hm := okM_clamp ho lv
  unfold tileP
  rw [if_pos hm]
  unfold okM inV at hm
  simp only [Bool.and_eq_true, decide_eq_true_eq] at hm
  have hk : 0 ≤ L - clampP lv 0 L ∧ L - clampP lv 0 L ≤ 4 := by omega
  have h16 := sd_le hk
  have ha := wrp_lt a (sd_pos (L := L - clampP lv 0 L))
  have hb := wrp_lt b (sd_pos (L := L - clampP lv 0 L))
  refine ⟨?_, ?_, ?_⟩ <;> dsimp only <;> exact wfZ_of (by omega) (by omega)
theorem tilesP_pos {L : Int} {ts : List Int} {u v lv : Int} (ho : okX L ts = true) : 0 < (tilesP L ts u v lv).length := by
  unfold tilesP
  rw [if_pos ho]
  have hadd : ∀ (xs : List V3) (e : V3), 0 < (addT xs e).length := fun xs e => by
    unfold addT
    split
    · next h => exact List.length_pos_of_mem h
    · simp
  unfold tilK
  exact hadd _ _
theorem clC_wf {L : Int} {ts : List Int} {R : Int} {gs : List V3} {Q u v lv : Int} (hw : ∀ e ∈ gs, wf3 e) : ∀ e ∈ (clC L ts R gs Q u v lv).1, wf3 e := fun e he => by
  by_cases h : okX L ts = true ∧ okC R gs Q = true
  · rw [(clC_yes (u := u) (v := v) (lv := lv) h).2] at he
    rcases useA_mem _ _ he with h1 | h1
    · exact hw e h1
    · exact tilesP_wf h.1 e h1
  · rw [(clC_no (u := u) (v := v) (lv := lv) h).2] at he
    exact hw e he
set_option maxRecDepth 100000 in
set_option maxHeartbeats 32000000 in
theorem cachedL_any (L : Int) (A : Option Addr) (c : Nat) (ts : List Int) (R : Int) (D : Option Addr) (d : Nat) (gs : List V3) (Q u v lv : Int) (w : World) (hR : Row I64 w w.heap.size A ts) (hD : RowC 3 vg w w.heap.size D gs) (hw : ∀ e ∈ gs, wf3 e) (hl : ts.length ≤ 1048576) (hc : ts.length ≤ c) (hg : gs.length ≤ 1048576) :
    Calls Try.prog 14 #[txv L A ts.length c, cav R D gs.length d Q, .int .i64 u, .int .i64 v, .int .i64 lv] w (ClOut (clV L ts R gs Q u v lv) R (clC L ts R gs Q u v lv).1 (clC L ts R gs Q u v lv).2 w) := by
  have HT : Held w (((w.alloc (.cells #[.int .i64 L, .slice A ts.length c] 25)).alloc (.cells #[.int .i64 R, .slice D gs.length d, .int .i64 Q] 29)).alloc (.cells #[.int .i64 0, .slice none 0 0, .int .i64 0] 29)) [(w.heap.size + 1 + 1, [.int .i64 0, .slice none 0 0, .int .i64 0]), (w.heap.size + 1, [.int .i64 R, .slice D gs.length d, .int .i64 Q]), (w.heap.size, [.int .i64 L, .slice A ts.length c])] := by
    have h := (((Held.nil w).new #[.int .i64 L, .slice A ts.length c] 25).new #[.int .i64 R, .slice D gs.length d, .int .i64 Q] 29).new #[.int .i64 0, .slice none 0 0, .int .i64 0] 29
    simpa only [World.size_alloc] using h
  obtain ⟨W1, hW1⟩ : ∃ W, W = ((w.alloc (.cells #[.int .i64 L, .slice A ts.length c] 25)).alloc (.cells #[.int .i64 R, .slice D gs.length d, .int .i64 Q] 29)).alloc (.cells #[.int .i64 0, .slice none 0 0, .int .i64 0] 29) := ⟨_, rfl⟩
  rw [← hW1] at HT
  have hsz : W1.heap.size = w.heap.size + 3 := by rw [hW1]; simp
  have HDR := Lib.hid (fun W (h : Below w.heap.size w W) => hD.later h)
  have HWG := Lib.hid hw
  have HLG := Lib.hid hg
  have HVT := Lib.hid (isValidT_any L A c ts W1 (hR.later HT.below) hl)
  have HVC := Lib.hid (fun W (h : Below w.heap.size w W) => isValidC_any R D d gs Q W (hD.later h) hw (by omega))
  have HCP := Lib.hid (fun W (h : Below w.heap.size w W) => copied_any R D d gs Q W (hD.later h) (by omega))
  have HTF := Lib.hid (fun W (h : Below w.heap.size w W) => tilesFor_any L A c ts u v lv W (hR.later h) hl hc)
  have HLK := Lib.hid (fun W (h : Below w.heap.size w W) => lookup_any L A c ts u v lv W (hR.later h) hl hc)
  clear hR hD hw hl hc hg
  go_enter Try.func14, Try.ntmps14
  go_upto_region 1 with fail
  rw [← hW1]
  obtain ⟨k2, hk2⟩ : ∃ k, k = w.heap.size + 1 + 1 := ⟨_, rfl⟩
  obtain ⟨k1, hk1⟩ : ∃ k, k = w.heap.size + 1 := ⟨_, rfl⟩
  obtain ⟨k0, hk0⟩ : ∃ k, k = w.heap.size := ⟨_, rfl⟩
  rw [← hk2, ← hk1, ← hk0] at HT
  rw [← hk2, ← hk1, ← hk0]
  obtain ⟨B1, hB1⟩ : ∃ B, B = W1.heap.size := ⟨_, rfl⟩
  have HORD := Lib.hid (show w.heap.size ≤ k0 ∧ k0 < k1 ∧ k1 < k2 ∧ k2 < B1 by omega)
  have HB1 := Lib.hid (show B1 ≤ W1.heap.size by omega)
  have HT : Held w W1 [(k1, [.int .i64 R, .slice D gs.length d, .int .i64 Q]), (k2, [.int .i64 0, .slice none 0 0, .int .i64 0]), (k0, [.int .i64 L, .slice A ts.length c])] := HT.pick (by simp)
  have m0 := (HT.box 2).c 0
  have m1 := (HT.box 2).c 1
  have HTH := Lib.hid HT
  clear hW1 hk2 hk1 hk0 hsz hB1 HT
  go_wp2_with fail
  refine HVT.out.mono ?_
  rintro e w3 ⟨rfl, hb3⟩
  have HT := HTH.out.later hb3
  have HB3 := Lib.hid (Nat.le_trans HB1.out hb3.size)
  clear hb3 m0 m1
  cases hok : okX L ts with
  | false =>
    have HE := Lib.hid (clC_no (u := u) (v := v) (lv := lv) (Q := Q) (R := R) (gs := gs) (L := L) (ts := ts) (fun h => by rw [hok] at h; cases h.1))
    clear hok
    have HCC := Lib.hid (HCP.out _ HT.below)
    have m0 := (HT.box 0).c 0
    have m1 := (HT.box 0).c 1
    have m2 := (HT.box 0).c 2
    have HTI := Lib.hid HT
    have hlt0 := (HT.box 1).lt
    clear HT
    go_wp2_with fail
    refine HCC.out.mono ?_
    rintro e w9 ⟨A6, c6, rfl, ho6, hb9⟩
    have HT := HTI.out.later hb9
    clear m0 m1 m2
    have r0 := (HT.box 1).c 0
    have r1 := (HT.box 1).c 1
    have r2 := (HT.box 1).c 2
    have o0 := (HT.box 1).f 0
    have o1 := (HT.box 1).f 1
    have o2 := (HT.box 1).f 2
    have HTB := Lib.hid HT.below
    have HOE := Lib.hid ho6
    have HLT := Lib.hid hlt0
    clear HT ho6 hb9 hlt0
    go_wp2_with fail
    have hlt1 := HLT.out
    have hq1 : w.heap.size ≤ k2 := by have := HORD.out; omega
    have ho5 := ownsRow_setCell_below (ownsRow_setCell_below (ownsRow_setCell_below HOE.out (a := ⟨k2, 0, none⟩) hlt1 (.int .i64 R)) (a := ⟨k2, 1, none⟩) hlt1 (.slice A6 gs.length c6)) (a := ⟨k2, 2, none⟩) hlt1 (.int .i64 Q)
    exact bodyPost_ret (v := .tuple #[.int .i64 0, cav R A6 gs.length c6 Q]) (by simp [results, Try.results14, go_sem, r0, r1, r2]) rfl ⟨A6, c6, by rw [HE.out.1, HE.out.2], by rw [HE.out.2]; exact own_base (base' := w.heap.size) ho5 HTI.out.size, (((HTB.out.setCell (p := ⟨k2, 0, none⟩) hq1 _).setCell (p := ⟨k2, 1, none⟩) hq1 _).setCell (p := ⟨k2, 2, none⟩) hq1 _)⟩
  | true =>
    have HV3 := Lib.hid (HVC.out w3 HT.below)
    have m0 := (HT.box 0).c 0
    have m1 := (HT.box 0).c 1
    have m2 := (HT.box 0).c 2
    have HTI3 := Lib.hid HT
    clear HT
    go_wp2_with fail
    refine HV3.out.mono ?_
    rintro e w4 ⟨rfl, hb4⟩
    have HT := HTI3.out.later hb4
    have HB4 := Lib.hid (Nat.le_trans HB3.out hb4.size)
    clear hb4 m0 m1 m2
    cases hoc : okC R gs Q with
    | false =>
      have HE := Lib.hid (clC_no (u := u) (v := v) (lv := lv) (Q := Q) (R := R) (gs := gs) (L := L) (ts := ts) (fun h => by rw [hoc] at h; cases h.2))
      clear hok hoc
      have HCC := Lib.hid (HCP.out _ HT.below)
      have m0 := (HT.box 0).c 0
      have m1 := (HT.box 0).c 1
      have m2 := (HT.box 0).c 2
      have HTI := Lib.hid HT
      have hlt0 := (HT.box 1).lt
      clear HT
      go_wp2_with fail
      refine HCC.out.mono ?_
      rintro e w9 ⟨A6, c6, rfl, ho6, hb9⟩
      have HT := HTI.out.later hb9
      clear m0 m1 m2
      have r0 := (HT.box 1).c 0
      have r1 := (HT.box 1).c 1
      have r2 := (HT.box 1).c 2
      have o0 := (HT.box 1).f 0
      have o1 := (HT.box 1).f 1
      have o2 := (HT.box 1).f 2
      have HTB := Lib.hid HT.below
      have HOE := Lib.hid ho6
      have HLT := Lib.hid hlt0
      clear HT ho6 hb9 hlt0
      go_wp2_with fail
      have hlt1 := HLT.out
      have hq1 : w.heap.size ≤ k2 := by have := HORD.out; omega
      have ho5 := ownsRow_setCell_below (ownsRow_setCell_below (ownsRow_setCell_below HOE.out (a := ⟨k2, 0, none⟩) hlt1 (.int .i64 R)) (a := ⟨k2, 1, none⟩) hlt1 (.slice A6 gs.length c6)) (a := ⟨k2, 2, none⟩) hlt1 (.int .i64 Q)
      exact bodyPost_ret (v := .tuple #[.int .i64 0, cav R A6 gs.length c6 Q]) (by simp [results, Try.results14, go_sem, r0, r1, r2]) rfl ⟨A6, c6, by rw [HE.out.1, HE.out.2], by rw [HE.out.2]; exact own_base (base' := w.heap.size) ho5 HTI.out.size, (((HTB.out.setCell (p := ⟨k2, 0, none⟩) hq1 _).setCell (p := ⟨k2, 1, none⟩) hq1 _).setCell (p := ⟨k2, 2, none⟩) hq1 _)⟩
    | true =>
      have HE := Lib.hid (clC_yes (u := u) (v := v) (lv := lv) ⟨hok, hoc⟩)
      have HL12 := Lib.hid (show gs.length ≤ 12 by have h1 := (okC_iff.1 hoc).1; have h2 := (okC_iff.1 hoc).2.1; omega)
      have HTF4 := Lib.hid (HTF.out w4 HT.below)
      have htw := tilesP_wf (u := u) (v := v) (lv := lv) hok
      have htp := tilesP_pos (u := u) (v := v) (lv := lv) hok
      obtain ⟨til, htil⟩ : ∃ til, til = tilesP L ts u v lv := ⟨_, rfl⟩
      have htl : til.length ≤ 4 := by rw [htil]; exact tilesP_len _ _ _ _ _
      rw [← htil] at HTF4 HE htw htp
      have HTW := Lib.hid htw
      have HTL := Lib.hid (And.intro htl htp)
      have m0 := (HT.box 2).c 0
      have m1 := (HT.box 2).c 1
      have HTI4 := Lib.hid HT
      clear HT hok hoc htil htl htw htp
      go_wp2_with fail
      refine HTF4.out.mono ?_
      rintro e w5 ⟨AT, cT, rfl, hot, hb5⟩
      have HT := HTI4.out.later hb5
      obtain ⟨Bt, hBt⟩ : ∃ B, B = w4.heap.size := ⟨_, rfl⟩
      have HBT := Lib.hid (show k1 < Bt ∧ k2 < Bt ∧ B1 ≤ Bt by have h1 := HORD.out; have h2 := HB4.out; omega)
      rw [← hBt] at hot
      have HI := Lib.hid (And.intro HT (And.intro (HDR.out _ HT.below) (And.intro (show 0 < 0 → w5.ownsRow B1 50 3 (.slice D gs.length d) gs.length (gs.flatMap vg) from fun h => by omega) hot)))
      clear hb5 m0 m1 HT hot hBt
      go_wp2_with fail
      go_loopw [30] (fun jv wr => ∃ (j : Nat) (A7 : Option Addr) (c7 : Nat) (zs : List V3) (K : Int), j ≤ til.length ∧ jv = .int .i64 j ∧ (zs, K) = useA R (til.take j) (gs, Q) ∧ Held w wr [(k1, [.int .i64 R, .slice A7 zs.length c7, .int .i64 K]), (k2, [.int .i64 0, .slice none 0 0, .int .i64 0]), (k0, [.int .i64 L, .slice A ts.length c])] ∧ RowC 3 vg wr wr.heap.size A7 zs ∧ (0 < j → wr.ownsRow B1 50 3 (.slice A7 zs.length c7) zs.length (zs.flatMap vg)) ∧ wr.ownsRow Bt 50 3 (.slice AT til.length cT) til.length (til.flatMap vg)) (fun jv _ => til.length - (intOf jv).toNat)
      case atStart => exact ⟨0, D, d, gs, Q, Nat.zero_le _, rfl, rfl, HI.out⟩
      case round =>
        clear HI
        obtain ⟨j, A7, c7, zs, K, hj, rfl, hzk, HT, hrow, hown, hot⟩ := hrel
        have hzl : zs.length ≤ gs.length + 4 := by
          have h1 := useA_len R (til.take j) (gs, Q)
          rw [← hzk] at h1
          have h2 := HTL.out.1
          simp at h1
          omega
        by_cases hlt : j < til.length
        · have hzw : ∀ e ∈ zs, wf3 e := fun e he => by
            have h1 : e ∈ (useA R (til.take j) (gs, Q)).1 := by rw [← hzk]; exact he
            rcases useA_mem _ _ h1 with h2 | h2
            · exact HWG.out e h2
            · exact HTW.out e (List.mem_of_mem_take h2)
          obtain ⟨b, o, hA, hbl, hc⟩ := (RowC.of_own vg_len hot rfl : RowC 3 vg wr wr.heap.size AT til).at hlt
          obtain ⟨c0, c1, c2⟩ := vg_at hc
          obtain ⟨X, hX⟩ : ∃ X, X = til[j] := ⟨_, rfl⟩
          have hxw : wf3 X := by rw [hX]; exact HTW.out _ (List.getElem_mem hlt)
          rw [← hX] at c0 c1 c2
          have hst := useA_take (R := R) (s := (gs, Q)) hlt
          rw [← hzk, ← hX] at hst
          dsimp only at hst
          obtain ⟨x, y, z⟩ := X
          dsimp only at c0 c1 c2
          subst hA
          have hlt' : (j : Int) < (til.length : Int) := by omega
          have hge' : (0 : Int) ≤ (j : Int) := by omega
          have ej : IntKind.i64.wrap ((j : Int) + 1) = ((j + 1 : Nat) : Int) := wrap_v (by have := HTL.out; omega)
          have HST := Lib.hid (And.intro hst (And.intro hj hlt))
          have HTN := HT.new #[.int .i64 x, .int .i64 y, .int .i64 z] 50
          have hrowN := (hrow.alloc (Nat.le_refl _) (.cells #[.int .i64 x, .int .i64 y, .int .i64 z] 50)).more (show wr.heap.size ≤ (wr.alloc (.cells #[.int .i64 x, .int .i64 y, .int .i64 z] 50)).heap.size by simp)
          have hotN := hot.alloc (.cells #[.int .i64 x, .int .i64 y, .int .i64 z] 50)
          clear hc hX hst hzk hown
          go_upto_region 6 with fail
          obtain ⟨W7, hW7⟩ : ∃ W, W = wr.alloc (.cells #[.int .i64 x, .int .i64 y, .int .i64 z] 50) := ⟨_, rfl⟩
          obtain ⟨k7, hk7⟩ : ∃ k, k = wr.heap.size := ⟨_, rfl⟩
          rw [← hW7] at HTN hrowN hotN ⊢
          rw [← hk7] at HTN ⊢
          have m0 := (HTN.box 1).c 0
          have m1 := (HTN.box 1).c 1
          have m2 := (HTN.box 1).c 2
          have q0 := (HTN.box 0).c 0
          have q1 := (HTN.box 0).c 1
          have q2 := (HTN.box 0).c 2
          have HU := Lib.hid (useTile_any R A7 c7 zs K x y z W7 hrowN hzw hxw (by have h1 := HL12.out; omega))
          have HW := Lib.hid (And.intro HTN hotN)
          clear hW7 hk7 c0 c1 c2 HT hrow hot HTN hrowN hotN hj hlt hzw hxw
          obtain ⟨z2, hz2⟩ : ∃ l, l = useL R zs K (x, y, z) := ⟨_, rfl⟩
          obtain ⟨K2, hK2⟩ : ∃ l, l = useK R zs K (x, y, z) := ⟨_, rfl⟩
          rw [← hz2, ← hK2] at HU
          have HZ := Lib.hid (And.intro hz2 hK2)
          clear hz2 hK2
          go_wp2_with fail
          refine HU.out.mono ?_
          rintro e w8 ⟨A9, c9, rfl, ho9, hb8⟩
          have HT := HW.out.1.tail.later hb8
          have hot := own_keep' HW.out.2 hb8
          have f0 := (HT.box 0).f 0
          have f1 := (HT.box 0).f 1
          have f2 := (HT.box 0).f 2
          have m0 := (HT.box 0).c 0
          have m1 := (HT.box 0).c 1
          have m2 := (HT.box 0).c 2
          have HX := ((HT.put (by have := HORD.out; omega) (fun p hp => by (have h1 := HORD.out; simp only [List.mem_cons, List.not_mem_nil, or_false] at hp; rcases hp with rfl | rfl <;> (show _ ≠ _) <;> omega)) 0 (.int .i64 R)).put (by have := HORD.out; omega) (fun p hp => by (have h1 := HORD.out; simp only [List.mem_cons, List.not_mem_nil, or_false] at hp; rcases hp with rfl | rfl <;> (show _ ≠ _) <;> omega)) 1 (.slice A9 z2.length c9)).put (by have := HORD.out; omega) (fun p hp => by (have h1 := HORD.out; simp only [List.mem_cons, List.not_mem_nil, or_false] at hp; rcases hp with rfl | rfl <;> (show _ ≠ _) <;> omega)) 2 (.int .i64 K2)
          have h7 : k1 < W7.heap.size := (HW.out.1.box 1).lt
          have h8 : B1 ≤ W7.heap.size := by
            have h1 := own_block HW.out.2 b rfl
            have h2 := (HW.out.2.lt b rfl).2
            have h4 := HBT.out.2.2
            omega
          have ho9 := own_base ho9 h8
          have hgk : k1 < B1 := by have := HORD.out; omega
          have hox := ownsRow_setCell_below (ownsRow_setCell_below (ownsRow_setCell_below ho9 (a := ⟨k1, 0, none⟩) hgk (.int .i64 R)) (a := ⟨k1, 1, none⟩) hgk (.slice A9 z2.length c9)) (a := ⟨k1, 2, none⟩) hgk (.int .i64 K2)
          have hgt : k1 < Bt := HBT.out.1
          have hotx := ownsRow_setCell_below (ownsRow_setCell_below (ownsRow_setCell_below hot (a := ⟨k1, 0, none⟩) hgt (.int .i64 R)) (a := ⟨k1, 1, none⟩) hgt (.slice A9 z2.length c9)) (a := ⟨k1, 2, none⟩) hgt (.int .i64 K2)
          have HEN := Lib.hid (And.intro HX (And.intro (RowC.of_own vg_len hox rfl) (And.intro hox hotx)))
          clear HT ho9 hb8 hot HX hox hotx q0 q1 q2 hgt hgk h7 h8
          go_wp2_with fail
          go_roundw
          case rel => exact ⟨j + 1, A9, c9, z2, K2, by have := HST.out; omega, by go_num, by rw [HZ.out.1, HZ.out.2]; exact HST.out.1.symm, HEN.out.1, HEN.out.2.1, fun _ => HEN.out.2.2.1, HEN.out.2.2.2⟩
          case measure => simp [intOf]; have := HST.out; omega
        · obtain rfl : j = til.length := by omega
          rw [List.take_length] at hzk
          have hni : ¬ ((til.length : Nat) : Int) < ((til.length : Nat) : Int) := by omega
          have HEQ : Hid (clV L ts R gs Q u v lv = lkP L ts u v lv ∧ (clC L ts R gs Q u v lv).1 = zs ∧ (clC L ts R gs Q u v lv).2 = K) := Lib.hid (by rw [HE.out.2, ← hzk]; exact ⟨HE.out.1, rfl, rfl⟩)
          obtain ⟨V, hV⟩ : ∃ V, V = lkP L ts u v lv := ⟨_, rfl⟩
          rw [← hV] at HLK HEQ
          have HOE := Lib.hid (hown HTL.out.2)
          clear hV hown hot hj hlt hzk hrow hzl
          go_upto_region 8 with fail
          have HQ := HT.drew
          have HOW : Hid (wr.drew.ownsRow B1 50 3 (.slice A7 zs.length c7) zs.length (zs.flatMap vg)) := Lib.hid HOE.out
          refine wp_region_held_drew (S := fun _ => True) (by kernel_rfl) trivial (fun hHeld => ?_)
          obtain ⟨wd, hwd⟩ : ∃ x, x = wr.drew := ⟨_, rfl⟩
          rw [← hwd] at HQ HOW ⊢
          clear hwd HT
          refine wpAnyH_take (i := 1) (oi := { dst := some 39, op := Op.move (Operand.tmp 2), type := 3, pos := "l16_cache.go:119", after := #[], guard := none }) (v := ?_) rfl (by kernel_rfl) (by kernel_rfl) (by kernel_rfl) (fun _ _ _ h => h) (Or.inl ⟨by rfl, ?_⟩) (by assumption) ?_
          rotate_left 1
          · (intro w hSw; (try dsimp only at hSw); go_simp <;> with_reducible rfl)
          (try simp only [Act.put, List.setIfInBounds_toArray, List.set_cons_zero, List.set_cons_succ])
          refine wpAnyH_take (i := 2) (oi := { dst := some 40, op := Op.move (Operand.tmp 3), type := 3, pos := "l16_cache.go:119", after := #[], guard := none }) (v := ?_) rfl (by kernel_rfl) (by kernel_rfl) (by kernel_rfl) (fun _ _ _ h => h) (Or.inl ⟨by rfl, ?_⟩) (by assumption) ?_
          rotate_left 1
          · (intro w hSw; (try dsimp only at hSw); go_simp <;> with_reducible rfl)
          (try simp only [Act.put, List.setIfInBounds_toArray, List.set_cons_zero, List.set_cons_succ])
          refine wpAnyH_take (i := 3) (oi := { dst := some 41, op := Op.move (Operand.tmp 4), type := 3, pos := "l16_cache.go:119", after := #[], guard := none }) (v := ?_) rfl (by kernel_rfl) (by kernel_rfl) (by kernel_rfl) (fun _ _ _ h => h) (Or.inl ⟨by rfl, ?_⟩) (by assumption) ?_
          rotate_left 1
          · (intro w hSw; (try dsimp only at hSw); go_simp <;> with_reducible rfl)
          (try simp only [Act.put, List.setIfInBounds_toArray, List.set_cons_zero, List.set_cons_succ])
          refine wpAnyH_ready (rs := [0, 5]) (by kernel_rfl) (by simp) ?_
          refine AllReadyH.cons (o := { dst := some 38, op := Op.load 25 (Operand.tmp 5), type := 25, pos := "l16_cache.go:119", after := #[], guard := none }) rfl (fun K hK => ?_) ?_
          · have c00 := (HQ.box 2).c 0
            have c01 := (HQ.box 2).c 1
            go_simp
            refine hK.out _ _ trivial (fun hHeld => ?_)
            clear c00 c01
            clear hK K
            (try simp only [Act.put, List.setIfInBounds_toArray, List.set_cons_zero, List.set_cons_succ])
            refine wpAnyH_ready (rs := [4, 5]) (by kernel_rfl) (by simp) ?_
            refine AllReadyH.cons (o := { dst := some 42, op := Op.call { callee := Callee.value (Operand.func 15), args := #[Operand.tmp 38, Operand.tmp 39, Operand.tmp 40, Operand.tmp 41], argTypes := #[25, 3, 3, 3] }, type := 3, pos := "l16_cache.go:119", after := #[{ on := 0, ground := Ground.data }, { on := 1, ground := Ground.data }, { on := 2, ground := Ground.data }, { on := 3, ground := Ground.data }], guard := none }) rfl (fun K hK => ?_) ?_
            · go_simp
              (with_reducible refine (HLK.out _ HQ.below).mono ?_)
              rintro e w7 ⟨rfl, hb7⟩
              have HQ := HQ.later hb7
              have HOW := Lib.hid (own_keep' HOW.out hb7)
              clear hb7
              (try go_wp2_with fail)
              refine hK.out _ _ (by (try dsimp only); (try trivial)) (fun hHeld => ?_)
              clear hK K
              (try simp only [Act.put, List.setIfInBounds_toArray, List.set_cons_zero, List.set_cons_succ])
              refine wpAnyH_take (i := 6) (oi := { dst := some 10, op := Op.assign (Operand.tmp 42), type := 3, pos := "l16_cache.go:119", after := #[{ on := 4, ground := Ground.data }, { on := 4, ground := Ground.chain }, { on := 0, ground := Ground.phase }, { on := 1, ground := Ground.phase }, { on := 2, ground := Ground.phase }, { on := 3, ground := Ground.phase }, { on := 4, ground := Ground.phase }, { on := 5, ground := Ground.textOnly Departure.lateStores }], guard := none }) (v := ?_) rfl (by kernel_rfl) (by kernel_rfl) (by kernel_rfl) (fun _ _ _ h => h) (Or.inl ⟨by rfl, ?_⟩) (by assumption) ?_
              rotate_left 1
              · (intro w hSw; (try dsimp only at hSw); go_simp <;> with_reducible rfl)
              (try simp only [Act.put, List.setIfInBounds_toArray, List.set_cons_zero, List.set_cons_succ])
              refine wpAnyH_ready (rs := [5]) (by kernel_rfl) (by simp) ?_
              refine AllReadyH.cons (o := { dst := some 43, op := Op.load 29 (Operand.tmp 6), type := 29, pos := "l16_cache.go:119", after := #[{ on := 6, ground := Ground.gcOnly Departure.lateStores }], guard := none }) rfl (fun K hK => ?_) ?_
              · have c00 := (HQ.box 0).c 0
                have c01 := (HQ.box 0).c 1
                have c02 := (HQ.box 0).c 2
                go_simp
                refine hK.out _ _ trivial (fun hHeld => ?_)
                clear c00 c01 c02
                clear hK K
                (try simp only [Act.put, List.setIfInBounds_toArray, List.set_cons_zero, List.set_cons_succ])
                refine wpAnyH_ready (rs := [7]) (by kernel_rfl) (by simp) ?_
                refine AllReadyH.cons (o := { dst := none, op := Op.store 29 (Operand.tmp 11) (Operand.tmp 43), type := 0, pos := "l16_cache.go:119", after := #[{ on := 5, ground := Ground.data }, { on := 6, ground := Ground.chain }, { on := 0, ground := Ground.phase }, { on := 1, ground := Ground.phase }, { on := 2, ground := Ground.phase }, { on := 3, ground := Ground.phase }, { on := 4, ground := Ground.phase }, { on := 5, ground := Ground.phase }, { on := 6, ground := Ground.phase }], guard := none }) rfl (fun K hK => ?_) ?_
                · have r0 := (HQ.box 1).c 0
                  have r1 := (HQ.box 1).c 1
                  have r2 := (HQ.box 1).c 2
                  have o0 := (HQ.box 1).f 0
                  have o1 := (HQ.box 1).f 1
                  have o2 := (HQ.box 1).f 2
                  have HTB := Lib.hid HQ.below
                  go_simp
                  refine hK.out _ _ trivial (fun hHeld => ?_)
                  clear hK K
                  (try simp only [Act.put, List.setIfInBounds_toArray, List.set_cons_zero, List.set_cons_succ])
                  refine wpAnyH_done (by kernel_rfl) ?_ _
                  clear hHeld HQ
                  go_wp2_with fail
                  have hlt1 : k2 < B1 := by have := HORD.out; omega
                  have hq1 : w.heap.size ≤ k2 := by have := HORD.out; omega
                  have ho5 := ownsRow_setCell_below (ownsRow_setCell_below (ownsRow_setCell_below HOW.out (a := ⟨k2, 0, none⟩) hlt1 (.int .i64 R)) (a := ⟨k2, 1, none⟩) hlt1 (.slice A7 zs.length c7)) (a := ⟨k2, 2, none⟩) hlt1 (.int .i64 K)
                  exact bodyPost_ret (v := .tuple #[.int .i64 V, cav R A7 zs.length c7 K]) (by simp [results, Try.results14, go_sem, r0, r1, r2]) rfl ⟨A7, c7, by rw [HEQ.out.1, HEQ.out.2.1, HEQ.out.2.2], by rw [HEQ.out.2.1]; exact own_base (base' := w.heap.size) ho5 (by have := HORD.out; omega), (((HTB.out.setCell (p := ⟨k2, 0, none⟩) hq1 _).setCell (p := ⟨k2, 1, none⟩) hq1 _).setCell (p := ⟨k2, 2, none⟩) hq1 _)⟩
                exact AllReadyH.nil
              exact AllReadyH.nil
            refine AllReadyH.cons (o := { dst := some 43, op := Op.load 29 (Operand.tmp 6), type := 29, pos := "l16_cache.go:119", after := #[{ on := 6, ground := Ground.gcOnly Departure.lateStores }], guard := none }) rfl (fun K hK => ?_) ?_
            · have c00 := (HQ.box 0).c 0
              have c01 := (HQ.box 0).c 1
              have c02 := (HQ.box 0).c 2
              go_simp
              refine hK.out _ _ trivial (fun hHeld => ?_)
              clear c00 c01 c02
              clear hK K
              (try simp only [Act.put, List.setIfInBounds_toArray, List.set_cons_zero, List.set_cons_succ])
              refine wpAnyH_ready (rs := [4]) (by kernel_rfl) (by simp) ?_
              refine AllReadyH.cons (o := { dst := some 42, op := Op.call { callee := Callee.value (Operand.func 15), args := #[Operand.tmp 38, Operand.tmp 39, Operand.tmp 40, Operand.tmp 41], argTypes := #[25, 3, 3, 3] }, type := 3, pos := "l16_cache.go:119", after := #[{ on := 0, ground := Ground.data }, { on := 1, ground := Ground.data }, { on := 2, ground := Ground.data }, { on := 3, ground := Ground.data }], guard := none }) rfl (fun K hK => ?_) ?_
              · go_simp
                (with_reducible refine (HLK.out _ HQ.below).mono ?_)
                rintro e w7 ⟨rfl, hb7⟩
                have HQ := HQ.later hb7
                have HOW := Lib.hid (own_keep' HOW.out hb7)
                clear hb7
                (try go_wp2_with fail)
                refine hK.out _ _ (by (try dsimp only); (try trivial)) (fun hHeld => ?_)
                clear hK K
                (try simp only [Act.put, List.setIfInBounds_toArray, List.set_cons_zero, List.set_cons_succ])
                refine wpAnyH_take (i := 6) (oi := { dst := some 10, op := Op.assign (Operand.tmp 42), type := 3, pos := "l16_cache.go:119", after := #[{ on := 4, ground := Ground.data }, { on := 4, ground := Ground.chain }, { on := 0, ground := Ground.phase }, { on := 1, ground := Ground.phase }, { on := 2, ground := Ground.phase }, { on := 3, ground := Ground.phase }, { on := 4, ground := Ground.phase }, { on := 5, ground := Ground.textOnly Departure.lateStores }], guard := none }) (v := ?_) rfl (by kernel_rfl) (by kernel_rfl) (by kernel_rfl) (fun _ _ _ h => h) (Or.inl ⟨by rfl, ?_⟩) (by assumption) ?_
                rotate_left 1
                · (intro w hSw; (try dsimp only at hSw); go_simp <;> with_reducible rfl)
                (try simp only [Act.put, List.setIfInBounds_toArray, List.set_cons_zero, List.set_cons_succ])
                refine wpAnyH_ready (rs := [7]) (by kernel_rfl) (by simp) ?_
                refine AllReadyH.cons (o := { dst := none, op := Op.store 29 (Operand.tmp 11) (Operand.tmp 43), type := 0, pos := "l16_cache.go:119", after := #[{ on := 5, ground := Ground.data }, { on := 6, ground := Ground.chain }, { on := 0, ground := Ground.phase }, { on := 1, ground := Ground.phase }, { on := 2, ground := Ground.phase }, { on := 3, ground := Ground.phase }, { on := 4, ground := Ground.phase }, { on := 5, ground := Ground.phase }, { on := 6, ground := Ground.phase }], guard := none }) rfl (fun K hK => ?_) ?_
                · have r0 := (HQ.box 1).c 0
                  have r1 := (HQ.box 1).c 1
                  have r2 := (HQ.box 1).c 2
                  have o0 := (HQ.box 1).f 0
                  have o1 := (HQ.box 1).f 1
                  have o2 := (HQ.box 1).f 2
                  have HTB := Lib.hid HQ.below
                  go_simp
                  refine hK.out _ _ trivial (fun hHeld => ?_)
                  clear hK K
                  (try simp only [Act.put, List.setIfInBounds_toArray, List.set_cons_zero, List.set_cons_succ])
                  refine wpAnyH_done (by kernel_rfl) ?_ _
                  clear hHeld HQ
                  go_wp2_with fail
                  have hlt1 : k2 < B1 := by have := HORD.out; omega
                  have hq1 : w.heap.size ≤ k2 := by have := HORD.out; omega
                  have ho5 := ownsRow_setCell_below (ownsRow_setCell_below (ownsRow_setCell_below HOW.out (a := ⟨k2, 0, none⟩) hlt1 (.int .i64 R)) (a := ⟨k2, 1, none⟩) hlt1 (.slice A7 zs.length c7)) (a := ⟨k2, 2, none⟩) hlt1 (.int .i64 K)
                  exact bodyPost_ret (v := .tuple #[.int .i64 V, cav R A7 zs.length c7 K]) (by simp [results, Try.results14, go_sem, r0, r1, r2]) rfl ⟨A7, c7, by rw [HEQ.out.1, HEQ.out.2.1, HEQ.out.2.2], by rw [HEQ.out.2.1]; exact own_base (base' := w.heap.size) ho5 (by have := HORD.out; omega), (((HTB.out.setCell (p := ⟨k2, 0, none⟩) hq1 _).setCell (p := ⟨k2, 1, none⟩) hq1 _).setCell (p := ⟨k2, 2, none⟩) hq1 _)⟩
                exact AllReadyH.nil
              exact AllReadyH.nil
            exact AllReadyH.nil
          refine AllReadyH.cons (o := { dst := some 43, op := Op.load 29 (Operand.tmp 6), type := 29, pos := "l16_cache.go:119", after := #[{ on := 6, ground := Ground.gcOnly Departure.lateStores }], guard := none }) rfl (fun K hK => ?_) ?_
          · have c00 := (HQ.box 0).c 0
            have c01 := (HQ.box 0).c 1
            have c02 := (HQ.box 0).c 2
            go_simp
            refine hK.out _ _ trivial (fun hHeld => ?_)
            clear c00 c01 c02
            clear hK K
            (try simp only [Act.put, List.setIfInBounds_toArray, List.set_cons_zero, List.set_cons_succ])
            refine wpAnyH_ready (rs := [0]) (by kernel_rfl) (by simp) ?_
            refine AllReadyH.cons (o := { dst := some 38, op := Op.load 25 (Operand.tmp 5), type := 25, pos := "l16_cache.go:119", after := #[], guard := none }) rfl (fun K hK => ?_) ?_
            · have c00 := (HQ.box 2).c 0
              have c01 := (HQ.box 2).c 1
              go_simp
              refine hK.out _ _ trivial (fun hHeld => ?_)
              clear c00 c01
              clear hK K
              (try simp only [Act.put, List.setIfInBounds_toArray, List.set_cons_zero, List.set_cons_succ])
              refine wpAnyH_ready (rs := [4]) (by kernel_rfl) (by simp) ?_
              refine AllReadyH.cons (o := { dst := some 42, op := Op.call { callee := Callee.value (Operand.func 15), args := #[Operand.tmp 38, Operand.tmp 39, Operand.tmp 40, Operand.tmp 41], argTypes := #[25, 3, 3, 3] }, type := 3, pos := "l16_cache.go:119", after := #[{ on := 0, ground := Ground.data }, { on := 1, ground := Ground.data }, { on := 2, ground := Ground.data }, { on := 3, ground := Ground.data }], guard := none }) rfl (fun K hK => ?_) ?_
              · go_simp
                (with_reducible refine (HLK.out _ HQ.below).mono ?_)
                rintro e w7 ⟨rfl, hb7⟩
                have HQ := HQ.later hb7
                have HOW := Lib.hid (own_keep' HOW.out hb7)
                clear hb7
                (try go_wp2_with fail)
                refine hK.out _ _ (by (try dsimp only); (try trivial)) (fun hHeld => ?_)
                clear hK K
                (try simp only [Act.put, List.setIfInBounds_toArray, List.set_cons_zero, List.set_cons_succ])
                refine wpAnyH_take (i := 6) (oi := { dst := some 10, op := Op.assign (Operand.tmp 42), type := 3, pos := "l16_cache.go:119", after := #[{ on := 4, ground := Ground.data }, { on := 4, ground := Ground.chain }, { on := 0, ground := Ground.phase }, { on := 1, ground := Ground.phase }, { on := 2, ground := Ground.phase }, { on := 3, ground := Ground.phase }, { on := 4, ground := Ground.phase }, { on := 5, ground := Ground.textOnly Departure.lateStores }], guard := none }) (v := ?_) rfl (by kernel_rfl) (by kernel_rfl) (by kernel_rfl) (fun _ _ _ h => h) (Or.inl ⟨by rfl, ?_⟩) (by assumption) ?_
                rotate_left 1
                · (intro w hSw; (try dsimp only at hSw); go_simp <;> with_reducible rfl)
                (try simp only [Act.put, List.setIfInBounds_toArray, List.set_cons_zero, List.set_cons_succ])
                refine wpAnyH_ready (rs := [7]) (by kernel_rfl) (by simp) ?_
                refine AllReadyH.cons (o := { dst := none, op := Op.store 29 (Operand.tmp 11) (Operand.tmp 43), type := 0, pos := "l16_cache.go:119", after := #[{ on := 5, ground := Ground.data }, { on := 6, ground := Ground.chain }, { on := 0, ground := Ground.phase }, { on := 1, ground := Ground.phase }, { on := 2, ground := Ground.phase }, { on := 3, ground := Ground.phase }, { on := 4, ground := Ground.phase }, { on := 5, ground := Ground.phase }, { on := 6, ground := Ground.phase }], guard := none }) rfl (fun K hK => ?_) ?_
                · have r0 := (HQ.box 1).c 0
                  have r1 := (HQ.box 1).c 1
                  have r2 := (HQ.box 1).c 2
                  have o0 := (HQ.box 1).f 0
                  have o1 := (HQ.box 1).f 1
                  have o2 := (HQ.box 1).f 2
                  have HTB := Lib.hid HQ.below
                  go_simp
                  refine hK.out _ _ trivial (fun hHeld => ?_)
                  clear hK K
                  (try simp only [Act.put, List.setIfInBounds_toArray, List.set_cons_zero, List.set_cons_succ])
                  refine wpAnyH_done (by kernel_rfl) ?_ _
                  clear hHeld HQ
                  go_wp2_with fail
                  have hlt1 : k2 < B1 := by have := HORD.out; omega
                  have hq1 : w.heap.size ≤ k2 := by have := HORD.out; omega
                  have ho5 := ownsRow_setCell_below (ownsRow_setCell_below (ownsRow_setCell_below HOW.out (a := ⟨k2, 0, none⟩) hlt1 (.int .i64 R)) (a := ⟨k2, 1, none⟩) hlt1 (.slice A7 zs.length c7)) (a := ⟨k2, 2, none⟩) hlt1 (.int .i64 K)
                  exact bodyPost_ret (v := .tuple #[.int .i64 V, cav R A7 zs.length c7 K]) (by simp [results, Try.results14, go_sem, r0, r1, r2]) rfl ⟨A7, c7, by rw [HEQ.out.1, HEQ.out.2.1, HEQ.out.2.2], by rw [HEQ.out.2.1]; exact own_base (base' := w.heap.size) ho5 (by have := HORD.out; omega), (((HTB.out.setCell (p := ⟨k2, 0, none⟩) hq1 _).setCell (p := ⟨k2, 1, none⟩) hq1 _).setCell (p := ⟨k2, 2, none⟩) hq1 _)⟩
                exact AllReadyH.nil
              exact AllReadyH.nil
            exact AllReadyH.nil
          exact AllReadyH.nil
end Go.Proofs.Ytaelhbbfddcabaa
