/- FormatTexture and ParseTexture of the program. -/
import Derived.Test.YtjbpfgaakkkaaaaDoorProg
import Derived.Test.YtjbpfgaakkkaaaaDoorInts
import Derived.Test.YtjbpfgaakkkaaaaDoorVbox
import Derived.Test.YtjbpfgaakkkaaaaDoorHeld
import Derived.Test.YtjbpfgaakkkaaaaDoorMem
import Derived.Test.YtjbpfgaakkkaaaaDoorFlat
import Derived.Test.YtjbpfgaakkkaaaaDoorRowC
import Derived.Test.YtjbpfgaakkkaaaaDoorKS
import Derived.Test.YtjbpfgaakkkaaaaDoorStrS
import Derived.Test.YtjbpfgaakkkaaaaDoorIntS
import Derived.Test.YtjbpfgaakkkaaaaDoorSS
import Derived.Test.YtjbpfgaakkkaaaaDoorVi
import Derived.Test.YtjbpfgaakkkaaaaDoorVa
import Derived.Test.YtjbpfgaakkkaaaaDoorVb
import Derived.Test.YtjbpfgaakkkaaaaDoorVc
import Derived.Test.YtjbpfgaakkkaaaaDoorVd
import Derived.Test.YtjbpfgaakkkaaaaDoorNumP
import Derived.Test.YtjbpfgaakkkaaaaDoorIn
import Derived.Test.YtjbpfgaakkkaaaaDoorFmt
import Derived.Test.YtjbpfgaakkkaaaaDoorBuilder
import Derived.Test.YtjbpfgaakkkaaaaDoorFmts
import Derived.Test.YtjbpfgaakkkaaaaDoorVe
import Derived.Test.YtjbpfgaakkkaaaaDoorVf
import Derived.Test.YtjbpfgaakkkaaaaDoorVh
import Derived.Test.YtjbpfgaakkkaaaaDoorVj
import Derived.Test.YtjbpfgaakkkaaaaDoorSplit
import Derived.Test.YtjbpfgaakkkaaaaDoorParse
import Derived.Test.YtjbpfgaakkkaaaaDoorParses
import Derived.Test.YtjbpfgaakkkaaaaDoorDoor
import Derived.Test.YtjbpfgaakkkaaaaDoorDoorErr
import Derived.Test.YtjbpfgaakkkaaaaDoorRound
import Derived.Test.YtjbpfgaakkkaaaaDoorNumsRound
import Derived.Test.YtjbpfgaakkkaaaaDoorVk
import Derived.Test.YtjbpfgaakkkaaaaDoorVl
import Derived.Test.YtjbpfgaakkkaaaaDoorVm
import Derived.WalkKit
import Derived.WalkSpells
import Derived.WalkLawsBesides
import Derived.Lib.Hide
import Derived.Deep.RegionHeld3
import Derived.Deep.QuietTactic
import Derived.BigQuiet
import Derived.Handy
import Derived.Deep.DeepCutAuto
import Derived.OwnWalk
namespace Go.Proofs.YtjbpfgaakkkaaaaDoor
open Go.RowKit

theorem join_two (f g : ByteArray) : joinP [f, g] (oneB 58) = (f ++ colonT) ++ g := by
  apply bytesX_ext
  rw [joinP_list 58 _ (by simp), appendX_list, appendX_list, show colonT.data.toList = [58] from rfl]
  simp [joinL]
theorem fmts_of_numsT {s : ByteArray} {xs : List Int} (h : NumsOf s xs) : fmtsP xs = s := by
  rcases h with ⟨rfl, rfl⟩ | ⟨hd, hl, hi⟩
  · unfold fmtsP; rw [if_pos rfl]; rfl
  · have hn : ∀ i (h : i < xs.length), IsNum ((splitP s comma)[i]'(by omega)) xs[i] := fun i h => by
      have := hi i h
      simpa [List.getD, h, show i < (splitP s comma).length by omega] using this
    have hm : xs.map fmtP = splitP s comma := List.ext_getElem (by simpa using hl) (fun i h1 h2 => by
      rw [List.getElem_map]
      exact num_fmt (hn i (by simpa using h1)))
    have hne : xs ≠ [] := fun e => by
      subst e
      unfold splitP at hl
      simp at hl
    have hr : ∀ x ∈ xs, InR x := fun x hx => by
      obtain ⟨i, h, rfl⟩ := List.getElem_of_mem hx
      exact ⟨(hn i h).1, (hn i h).2.1⟩
    unfold fmtsP
    rw [if_neg hne, if_pos hr, hm]
    exact join_of_split 44 s
/-- a text of two parts is a texture's text only by its parts -/
theorem tx_parts {s f r : ByteArray} (h : splitP s colonT = [f, r]) : (∀ M us, okX M us = true → fmtTx M us = s → IsNum f M ∧ NumsOf r us) ∧ (∀ M us, okX M us = true → IsNum f M → NumsOf r us → fmtTx M us = s) := by
  refine ⟨fun M us ho e => ?_, fun M us ho hn hm => ?_⟩
  · have h1 := split_of_tx ho
    rw [e, h] at h1
    injection h1 with e1 e2
    injection e2 with e2 _
    exact ⟨by rw [e1]; exact num_of_fmt (okX_inR ho).1, by rw [e2]; exact nums_fmts us (okX_inR ho).2⟩
  · unfold fmtTx
    rw [if_pos ho, num_fmt hn, fmts_of_numsT hm, ← join_two]
    have := join_of_split 58 s
    rw [show splitP s (oneB 58) = [f, r] from h] at this
    exact this
theorem tx_two {s : ByteArray} {M : Int} {us : List Int} (ho : okX M us = true) (e : fmtTx M us = s) : (splitP s colonT).length = 2 := by
  have h1 := split_of_tx ho
  rw [e] at h1
  rw [h1]
  rfl

set_option maxRecDepth 100000 in
set_option maxHeartbeats 8000000 in
theorem fmtTx_any (L : Int) (A : Option Addr) (c : Nat) (ts : List Int) (w : World) (hR : Row I64 w w.heap.size A ts) (hl : ts.length ≤ 1048576) (hp : Pow w) :
    Calls Tryd.prog 8 #[txv L A ts.length c] w fun e w' => e = .returned (.string (fmtTx L ts)) ∧ Below w.heap.size w w' := by
  have HT : Held w (w.alloc (.cells #[.int .i64 L, .slice A ts.length c] 25)) [(w.heap.size, [.int .i64 L, .slice A ts.length c])] := by
    have h := (Held.nil w).new #[.int .i64 L, .slice A ts.length c] 25
    simpa only [World.size_alloc] using h
  have HI : ∀ {bs : List (Nat × List Value)} (W : World), Held w W bs → Row I64 W W.heap.size A ts := fun W h => (hR.below h.below).more h.size
  have HW : ∀ {bs : List (Nat × List Value)} (W : World), Held w W bs → Pow W := fun W h => hp.later h.below
  have HC : ∀ W', Held w W' [(w.heap.size, [.int .i64 L, .slice A ts.length c])] → (W'.cell? ⟨w.heap.size, 0, none⟩ = some (.int .i64 L) ∧ W'.cell? ⟨w.heap.size, 1, none⟩ = some (.slice A ts.length c)) := fun W' h => ⟨(h.box 0).c 0, (h.box 0).c 1⟩
  have HLEN := Lib.hid hl
  clear hl hR hp
  go_enter Tryd.func8, Tryd.ntmps8
  have c0' := (HT.box 0).c 0
  have c1' := (HT.box 0).c 1
  go_wp2_with fail
  refine (isValidT_any L A c ts _ (HI _ HT) HLEN.out).mono ?_
  rintro e w1 ⟨rfl, hb1⟩
  have HT := HT.later hb1
  clear hb1 c0' c1'
  rcases h0 : okX L ts with _ | _
  · go_wp2_with fail
    go_ret
    exact ⟨ret_strX (by unfold fmtTx; rw [h0]; rfl), HT.below⟩
  · have hn := okX_len2 h0
    obtain ⟨F1, hf1⟩ : ∃ F1, F1 = fmtP L := ⟨_, rfl⟩
    obtain ⟨F2, hf2⟩ : ∃ F2, F2 = fmtsP ts := ⟨_, rfl⟩
    have hs1 : F1.size ≤ 1048576 := by rw [hf1]; exact Nat.le_trans (fmtP_size L) (by omega)
    have hs2 : F2.size ≤ 1048576 := by rw [hf2]; exact fmtsX_size _ (by omega)
    have hq1 : ¬ 9223372036854775807 < F1.size + 1 := by omega
    have hq2 : ¬ 9223372036854775807 < F1.size + 1 + F2.size := by omega
    have hr1 : ∀ W : World, (Op.stringOp .add F1 ⟨#[58]⟩).run Tryd.prog W = .ok (.string (F1 ++ ⟨#[58]⟩)) W := fun W => run_string_add_sum W _ _ (by show F1.size + 1 ≤ _; omega)
    have hr2 : ∀ W : World, (Op.stringOp .add (F1 ++ ⟨#[58]⟩) F2).run Tryd.prog W = .ok (.string ((F1 ++ ⟨#[58]⟩) ++ F2)) W := fun W => run_string_add_sum W _ _ (by rw [ByteArray.size_append]; show F1.size + 1 + F2.size ≤ _; omega)
    have HF1 := Lib.hid hf1
    have HF2 := Lib.hid hf2
    clear hf1 hf2 hn
    go_wp2_with fail
    go_region_held3 (fun W' => W'.cell? ⟨w.heap.size, 0, none⟩ = some (.int .i64 L) ∧ W'.cell? ⟨w.heap.size, 1, none⟩ = some (.slice A ts.length c))
      (first | (with_reducible exact HC _ HT) | (with_reducible exact HC _ HT.drew))
      (first | (go_at_call 27; (first | refine (formats_any A c ts _ (HI _ HT) HLEN.out (HW _ HT)).mono ?_ | refine (formats_any A c ts _ (HI _ HT.drew) HLEN.out (HW _ HT.drew)).mono ?_); rintro e w1 ⟨rfl, hb1⟩; (first | (have HT := HT.later hb1) | (have HT := HT.drew.later hb1)); rw [← HF2.out]) | (go_at_call 26; (first | refine (format_any L _ (HW _ HT)).mono ?_ | refine (format_any L _ (HW _ HT.drew)).mono ?_); rintro e w1 ⟨rfl, hb1⟩; (first | (have HT := HT.later hb1) | (have HT := HT.drew.later hb1)); rw [← HF1.out]))
    clear HI HC HW
    go_wp2
    go_ret
    exact ⟨ret_strX (by unfold fmtTx; rw [h0, HF1.out, HF2.out]; rfl), HT.below⟩

set_option maxRecDepth 100000 in
set_option maxHeartbeats 8000000 in
theorem parseTx_any (s : ByteArray) (w : World) (hs : s.size ≤ 1048576) (hp : Pow w) (hE : Errs w) :
    Calls Tryd.prog 7 #[.string s] w (TxRes s w) := by
  have HT : Held w (w.alloc (.cells #[.int .i64 0, .slice none 0 0] 25)) [(w.heap.size, [.int .i64 0, .slice none 0 0])] := by
    have h := (Held.nil w).new #[.int .i64 0, .slice none 0 0] 25
    simpa only [World.size_alloc] using h
  have HPW := Lib.hid (fun W (h : Below w.heap.size w W) => And.intro (hp.later h) (hE.later h))
  have hsp := splitAny_any s colonT (w.alloc (.cells #[.int .i64 0, .slice none 0 0] 25)) hs
  have hps := parts_size s colonT
  have h2 : ∀ M us, okX M us = true → fmtTx M us = s → (splitP s colonT).length = 2 := fun M us h e => tx_two h e
  have hfr : ∀ f r, splitP s colonT = [f, r] → _ := fun f r h => tx_parts h
  obtain ⟨ps, hpe⟩ : ∃ ps, ps = splitP s colonT := ⟨_, rfl⟩
  rw [← hpe] at hsp hps h2 hfr
  unfold colonT at hsp
  have HSP := Lib.hid hsp
  have HPS := Lib.hid (fun p hp => Nat.le_trans (hps p hp) hs)
  have HFR := Lib.hid hfr
  have H2 := Lib.hid h2
  clear hsp hps hpe h2 hfr hs hp hE
  go_enter Tryd.func7, Tryd.ntmps7
  go_wp2_with fail
  refine HSP.out.mono ?_
  rintro e w1 ⟨Ap, cp, rfl, hop, hb1⟩
  have HT := HT.later hb1
  clear hb1 HSP
  by_cases hlen : ps.length = 2
  · obtain ⟨f, r, hps2⟩ : ∃ f r, ps = [f, r] := by
      match ps, hlen with
      | [f, r], _ => exact ⟨f, r, rfl⟩
    subst hps2
    obtain ⟨q1, q2⟩ := HFR.out f r rfl
    have HQ := Lib.hid (And.intro q1 q2)
    have HSZ := Lib.hid (And.intro (HPS.out f (by simp)) (HPS.out r (by simp)))
    obtain ⟨g, o, hA, hgl, hc⟩ := (Row.of_own hop : Row Str w1 w1.heap.size Ap [f, r]) (by simp)
    subst hA
    have c0 : w1.cell? ⟨g, o, none⟩ = some (.string f) := hc 0 (by simp)
    have c1 : w1.cell? ⟨g, o + 1, none⟩ = some (.string r) := hc 1 (by simp)
    rw [hlen]
    have HGL := Lib.hid hgl
    clear hc hop hgl q1 q2 HFR H2 HPS hlen
    go_wp2_with fail
    refine (parse_any f _ HSZ.out.1 (HPW.out _ HT.below).1 (HPW.out _ HT.below).2).mono ?_
    rintro e w5 ⟨m, b, rfl, h1, h2, hb5⟩
    have HT := HT.later hb5
    have c1 := (hb5.cell (p := ⟨g, o + 1, none⟩) HGL.out).trans c1
    have HN := Lib.hid (And.intro h1 h2)
    clear hb5 h1 h2 c0
    go_wp2_with fail
    refine (parses_any r _ HSZ.out.2 (HPW.out _ HT.below).1 (HPW.out _ HT.below).2).mono ?_
    rintro e w6 ⟨b2, xs, A6, c6, rfl, ho6, h1, h2, hl, hb6⟩
    have hs6 : w.heap.size < w5.heap.size := (HT.box 0).lt
    have HT := (HT.later hb6).new #[.int .i64 m, .slice A6 xs.length c6] 25
    have hbx : Below w6.heap.size w6 (w6.alloc (.cells #[.int .i64 m, .slice A6 xs.length c6] 25)) := by go_grown
    have HO := Lib.hid (own_base (own_keep' ho6 hbx) (base' := w.heap.size + 1) (by omega))
    have HNS := Lib.hid (And.intro h1 h2)
    have HL := Lib.hid hl
    have hk5 : w.heap.size < w6.heap.size := Nat.lt_of_lt_of_le hs6 hb6.size
    clear hb6 h1 h2 hl ho6 c1 HSZ HGL hbx hs6
    go_upto_region 7 with fail
    obtain ⟨W6, hW6⟩ : ∃ W, W = w6.alloc (.cells #[.int .i64 m, .slice A6 xs.length c6] 25) := ⟨_, rfl⟩
    obtain ⟨k5, hk⟩ : ∃ k, k = w6.heap.size := ⟨_, rfl⟩
    rw [← hW6] at HT HO ⊢
    rw [← hk] at HT hk5 ⊢
    have HK5 := Lib.hid hk5
    clear hW6 hk hk5
    have c0 := (HT.box 0).c 0
    have c1 := (HT.box 0).c 1
    cases b with
    | false =>
      have HNO : Hid (∀ M us, okX M us = true → fmtTx M us ≠ s) := Lib.hid (fun M us h e => (HN.out.2 rfl).2 M (HQ.out.1 M us h e).1)
      clear c0 c1 HO
      have r0 := (HT.box 1).c 0
      have r1 := (HT.box 1).c 1
      have r2 := (HT.box 1).f 0
      have r3 := (HT.box 1).f 1
      have HW := HT.below
      clear HT
      go_wp2_with fail
      exact bodyPost_ret (v := .tuple #[txv 0 none 0 0, .bool false]) (by simp [results, Tryd.results7, go_sem, r0, r1]) rfl ⟨false, 0, [], none, 0, rfl, World.ownsRow_nil _ _ _ _, (fun h => by cases h), (fun _ => ⟨rfl, rfl, HNO.out⟩), ((HW.setCell (p := ⟨w.heap.size, 0, none⟩) (Nat.le_refl _) _).setCell (p := ⟨w.heap.size, 1, none⟩) (Nat.le_refl _) _)⟩
    | true =>
      cases b2 with
      | false =>
        have HNO : Hid (∀ M us, okX M us = true → fmtTx M us ≠ s) := Lib.hid (fun M us h e => (HNS.out.2 rfl).2 us (HQ.out.1 M us h e).2)
        clear c0 c1 HO
        have r0 := (HT.box 1).c 0
        have r1 := (HT.box 1).c 1
        have r2 := (HT.box 1).f 0
        have r3 := (HT.box 1).f 1
        have HW := HT.below
        clear HT
        go_wp2_with fail
        exact bodyPost_ret (v := .tuple #[txv 0 none 0 0, .bool false]) (by simp [results, Tryd.results7, go_sem, r0, r1]) rfl ⟨false, 0, [], none, 0, rfl, World.ownsRow_nil _ _ _ _, (fun h => by cases h), (fun _ => ⟨rfl, rfl, HNO.out⟩), ((HW.setCell (p := ⟨w.heap.size, 0, none⟩) (Nat.le_refl _) _).setCell (p := ⟨w.heap.size, 1, none⟩) (Nat.le_refl _) _)⟩
      | true =>
        have HY := Lib.hid (And.intro (HN.out.1 rfl) (HNS.out.1 rfl))
        go_wp2_with fail
        refine (isValidT_big m A6 c6 xs _ (Row.of_own HO.out) (by have := HL.out; omega)).mono ?_
        rintro e w7 ⟨rfl, hb7⟩
        have HT := HT.later hb7
        have HO := Lib.hid (own_keep' HO.out hb7)
        clear hb7 c0 c1
        rcases ho : okX m xs with _ | _
        · have HNO : Hid (∀ M us, okX M us = true → fmtTx M us ≠ s) := Lib.hid (fun M us h e => by
            obtain ⟨e1, e2⟩ := HQ.out.1 M us h e
            have e3 := num_inj e1 HY.out.1
            have e4 := nums_inj e2 HY.out.2
            rw [e3, e4, ho] at h
            cases h)
          clear ho HO
          have r0 := (HT.box 1).c 0
          have r1 := (HT.box 1).c 1
          have r2 := (HT.box 1).f 0
          have r3 := (HT.box 1).f 1
          have HW := HT.below
          clear HT
          go_wp2_with fail
          exact bodyPost_ret (v := .tuple #[txv 0 none 0 0, .bool false]) (by simp [results, Tryd.results7, go_sem, r0, r1]) rfl ⟨false, 0, [], none, 0, rfl, World.ownsRow_nil _ _ _ _, (fun h => by cases h), (fun _ => ⟨rfl, rfl, HNO.out⟩), ((HW.setCell (p := ⟨w.heap.size, 0, none⟩) (Nat.le_refl _) _).setCell (p := ⟨w.heap.size, 1, none⟩) (Nat.le_refl _) _)⟩
        · have HYY : Hid (okX m xs = true ∧ fmtTx m xs = s) := Lib.hid ⟨ho, HQ.out.2 m xs ho HY.out.1 HY.out.2⟩
          have c0 := (HT.box 0).c 0
          have c1 := (HT.box 0).c 1
          have r0 := (HT.box 1).c 0
          have r1 := (HT.box 1).c 1
          have r2 := (HT.box 1).f 0
          have r3 := (HT.box 1).f 1
          have HW := HT.below
          have hne : ¬ w.heap.size = k5 := by have := HK5.out; omega
          have hne2 : ¬ k5 = w.heap.size := by have := HK5.out; omega
          have HOB := Lib.hid (own_base (own_turnT HO.out (((Turn.refl (fun q => q = w.heap.size) w7).setCell (g := w.heap.size) (i := 0) rfl (.int .i64 m)).setCell (g := w.heap.size) (i := 1) rfl (.slice A6 xs.length c6)) (fun k h => by omega)) (base' := w.heap.size) (by omega))
          clear ho HO HT
          go_wp2_with fail
          exact bodyPost_ret (v := .tuple #[txv m A6 xs.length c6, .bool true]) (by simp [results, Tryd.results7, go_sem, r0, r1]) rfl ⟨true, m, xs, A6, c6, rfl, HOB.out, (fun _ => HYY.out), (fun h => by cases h), ((HW.setCell (p := ⟨w.heap.size, 0, none⟩) (Nat.le_refl _) _).setCell (p := ⟨w.heap.size, 1, none⟩) (Nat.le_refl _) _)⟩
  · have HNO : Hid (∀ M us, okX M us = true → fmtTx M us ≠ s) := Lib.hid (fun M us h e => hlen (H2.out M us h e))
    have hne : ((ps.length : Int) != 2) = true := by rw [bne_iff_ne]; omega
    clear hlen hop HFR H2 HPS
    have r0 := (HT.box 0).c 0
    have r1 := (HT.box 0).c 1
    have r2 := (HT.box 0).f 0
    have r3 := (HT.box 0).f 1
    have HW := HT.below
    clear HT
    go_wp2_with fail
    exact bodyPost_ret (v := .tuple #[txv 0 none 0 0, .bool false]) (by simp [results, Tryd.results7, go_sem, r0, r1]) rfl ⟨false, 0, [], none, 0, rfl, World.ownsRow_nil _ _ _ _, (fun h => by cases h), (fun _ => ⟨rfl, rfl, HNO.out⟩), ((HW.setCell (p := ⟨w.heap.size, 0, none⟩) (Nat.le_refl _) _).setCell (p := ⟨w.heap.size, 1, none⟩) (Nat.le_refl _) _)⟩
end Go.Proofs.YtjbpfgaakkkaaaaDoor
