/- Contracts of slices.Clone, newMesh and SubdivideN, in the program. -/
import Derived.Test.YtdefhepagpgnaaaGreatProg
import Derived.Test.YtdefhepagpgnaaaGreatInts
import Derived.Test.YtdefhepagpgnaaaGreatVbox
import Derived.Test.YtdefhepagpgnaaaGreatVec
import Derived.Test.YtdefhepagpgnaaaGreatHeld
import Derived.Test.YtdefhepagpgnaaaGreatMem
import Derived.Test.YtdefhepagpgnaaaGreatRowC
import Derived.Test.YtdefhepagpgnaaaGreatIntS
import Derived.Test.YtdefhepagpgnaaaGreatVecS
import Derived.Test.YtdefhepagpgnaaaGreatSS
import Derived.Test.YtdefhepagpgnaaaGreatMkA
import Derived.Test.YtdefhepagpgnaaaGreatMkB
import Derived.Test.YtdefhepagpgnaaaGreatMkC
import Derived.Test.YtdefhepagpgnaaaGreatMkD
import Derived.Test.YtdefhepagpgnaaaGreatMF
import Derived.Test.YtdefhepagpgnaaaGreatMG
import Derived.Test.YtdefhepagpgnaaaGreatMH
import Derived.Test.YtdefhepagpgnaaaGreatME
import Derived.Test.YtdefhepagpgnaaaGreatKx
import Derived.Test.YtdefhepagpgnaaaGreatLn
import Derived.Test.YtdefhepagpgnaaaGreatKg
import Derived.Test.YtdefhepagpgnaaaGreatKj
import Derived.WalkKit
import Derived.WalkSpells
import Derived.WalkLawsBesides
import Derived.Lib.Hide
import Derived.Deep.RegionHeld3
import Derived.Deep.QuietTactic
import Derived.BigQuiet
import Derived.Handy
import Derived.Deep.DeepCutAuto
import Derived.OwnWalk
import Derived.Lib.SliceRun
namespace Go.Proofs.YtdefhepagpgnaaaGreat
open Go.RowKit

theorem addr_at (b o j : Nat) : (⟨b, o, none⟩ : Addr).add j = ⟨b, o + j, none⟩ := by
  unfold Addr.add
  split <;> simp_all
theorem row_news {w : World} {B : Nat} {b o : Nat} {xs : List Int} (h : Row (Value.int .i64) w B (some ⟨b, o, none⟩) xs) : ∀ (j : Nat) (u : Value), (xs.map (Value.int .i64))[j]? = some u → w.cell? ((⟨b, o, none⟩ : Addr).add j) = some u := fun j u hu => by
  rw [List.getElem?_map] at hu
  obtain ⟨x, hx, rfl⟩ := Option.map_eq_some_iff.1 hu
  obtain ⟨hj, hx⟩ := List.getElem?_eq_some_iff.1 hx
  obtain ⟨b', o', e, _, hc⟩ := h.at hj
  simp only [Option.some.injEq, Addr.mk.injEq, and_true] at e
  obtain ⟨rfl, rfl⟩ := e
  rw [← hx, addr_at]
  exact hc
theorem rowC_news {w : World} {B : Nat} {b o : Nat} {xs : List V3} (h : RowC 3 vg w B (some ⟨b, o, none⟩) xs) : ∀ (j : Nat) (u : Value), (xs.flatMap vg)[j]? = some u → w.cell? ((⟨b, o, none⟩ : Addr).add j) = some u := fun j u hu => by
  have hj := (List.getElem?_eq_some_iff.1 hu).1
  rw [flat_len vg_len] at hj
  have hk : j / 3 < xs.length := by omega
  have e : j = j / 3 * 3 + j % 3 := by omega
  rw [e, flat_get vg_len xs (j / 3) (j % 3) hk (by omega)] at hu
  obtain ⟨b', o', e', _, hc⟩ := h.at hk
  simp only [Option.some.injEq, Addr.mk.injEq, and_true] at e'
  obtain ⟨rfl, rfl⟩ := e'
  have h1 := hc (j % 3) u hu
  rw [show o + j / 3 * 3 + j % 3 = o + j by omega] at h1
  rw [addr_at]
  exact h1
/-- an empty literal -/
theorem own_empty (w : World) {base m : Nat} {e : TypeId} (hb : base ≤ w.heap.size) : (w.alloc (.cells #[] e)).ownsRow base e m (.slice (some ⟨w.heap.size, 0, none⟩) 0 0) 0 [] := World.ownsRow_lit w #[] 0 hb (Nat.zero_le _) (by simp)
theorem one_flat (xs : List V3) : ∀ u ∈ xs.flatMap vg, u.oneCell' = true := fun u hu => by
  obtain ⟨v, _, hv⟩ := List.mem_flatMap.1 hu
  simp only [vg, List.mem_cons, List.not_mem_nil, or_false] at hv
  rcases hv with rfl | rfl | rfl <;> rfl
theorem ob_some {g n c : Nat} : (Value.slice (some ⟨g, 0, none⟩) n c).ownBlock = some g := rfl
set_option maxRecDepth 100000 in
set_option maxHeartbeats 2000000 in
theorem cloneInt_any (b o c : Nat) (xs : List Int) (w : World) (hR : Row (Value.int .i64) w w.heap.size (some ⟨b, o, none⟩) xs) (hl : xs.length ≤ 1048576) :
    Calls Tryz.prog 73 #[.slice (some ⟨b, o, none⟩) xs.length c] w fun e w' => ∃ v, e = .returned v ∧ w'.ownsRow w.heap.size 3 1 v xs.length (xs.map (Value.int .i64)) ∧ Below w.heap.size w w' := by
  obtain ⟨i9, hi9, hz90, hz91, hz92⟩ := info_parts infoInt
  have HN := Lib.hid (row_news (hR.below (show Below w.heap.size w (w.alloc (.cells #[] 3)) by go_grown)))
  have q22 : ∀ (w : World) (a : Option Addr) (n c : Nat), (binOp .eql 45 (.slice a n c) (.slice none 0 0)).run Tryz.prog w = .ok (.bool a.isNone) w := fun w a n c => Lib.run_eql_slice_nil w _ _ a n c 0 0 Tryz.underlying45
  clear hR
  go_enter Tryz.func73, Tryz.ntmps73
  go_wp2_with (at_builtin; go_loud (refine wpList_append_own _ rfl _ _ 45 rfl w.heap.size 3 i9 _ 1 8 Tryz.underlying45 hi9 hz90 hz91 hz92 rfl (by omega) _ 0 [] (by rfl) (own_empty w (Nat.le_refl _)) ⟨b, o, none⟩ xs.length c (xs.map (Value.int .i64)) (by rfl) (by simp) HN.out (by simp [Value.oneCell']) (by unfold maxLen; omega) (by omega) (by simp) ?_))
  intro v' w' ho hg _
  rw [ob_some] at hg
  have HB := Lib.hid (show Below w.heap.size w w' from (show Below w.heap.size w (w.alloc (.cells #[] 3)) by go_grown).grown hg (by simp) (fun q hq => by injection hq with hq; omega))
  have HO : Hid (w'.ownsRow w.heap.size 3 1 v' xs.length (xs.map (Value.int .i64))) := Lib.hid (by simpa using ho)
  clear hg ho
  go_wp2_with fail
  go_ret
  exact ⟨v', rfl, HO.out, HB.out⟩

set_option maxRecDepth 100000 in
set_option maxHeartbeats 2000000 in
theorem cloneVec_any (b o c : Nat) (xs : List V3) (w : World) (hR : RowC 3 vg w w.heap.size (some ⟨b, o, none⟩) xs) (hl : xs.length ≤ 1048576) :
    Calls Tryz.prog 74 #[.slice (some ⟨b, o, none⟩) xs.length c] w fun e w' => ∃ v, e = .returned v ∧ w'.ownsRow w.heap.size 43 3 v xs.length (xs.flatMap vg) ∧ Below w.heap.size w w' := by
  obtain ⟨i9, hi9, hz90, hz91, hz92⟩ := info_parts infoVec
  have HN := Lib.hid (rowC_news (hR.below (show Below w.heap.size w (w.alloc (.cells #[] 43)) by go_grown)))
  have q22 : ∀ (w : World) (a : Option Addr) (n c : Nat), (binOp .eql 27 (.slice a n c) (.slice none 0 0)).run Tryz.prog w = .ok (.bool a.isNone) w := fun w a n c => Lib.run_eql_slice_nil w _ _ a n c 0 0 Tryz.underlying27
  clear hR
  go_enter Tryz.func74, Tryz.ntmps74
  go_wp2_with (at_builtin; go_loud (refine wpList_append_own _ rfl _ _ 27 rfl w.heap.size 43 i9 _ 3 24 Tryz.underlying27 hi9 hz90 hz91 hz92 rfl (by omega) _ 0 [] (by rfl) (own_empty w (Nat.le_refl _)) ⟨b, o, none⟩ xs.length c (xs.flatMap vg) (by rfl) (by rw [flat_len vg_len]) HN.out (one_flat xs) (by unfold maxLen; omega) (by omega) (by simp) ?_))
  intro v' w' ho hg _
  rw [ob_some] at hg
  have HB := Lib.hid (show Below w.heap.size w w' from (show Below w.heap.size w (w.alloc (.cells #[] 43)) by go_grown).grown hg (by simp) (fun q hq => by injection hq with hq; omega))
  have HO : Hid (w'.ownsRow w.heap.size 43 3 v' xs.length (xs.flatMap vg)) := Lib.hid (by simpa using ho)
  clear hg ho
  go_wp2_with fail
  go_ret
  exact ⟨v', rfl, HO.out, HB.out⟩

theorem own_lot {w : World} {base g cap : Nat} {xs : List Int} (h : w.ownsRow base 3 1 (.slice (some ⟨g, 0, none⟩) xs.length cap) xs.length (xs.map (Value.int .i64))) : LotT w [(g, xs)] := by
  refine ⟨⟨by simp, fun p hp => ?_⟩, fun p hp => ?_⟩
  · rw [List.mem_singleton] at hp
    subst hp
    refine ⟨fun i v hv => ?_, own_lt h g rfl⟩
    have hi := (List.getElem?_eq_some_iff.1 hv).1
    simp at hi
    exact ⟨(h.cellAt i (by omega)).trans hv, h.frozenAt i⟩
  · rw [List.mem_singleton] at hp
    subst hp
    rcases h.2 with ⟨h0, _⟩ | ⟨g', cap', cur, h1, _, hh, _⟩
    · cases h0
    · injection h1 with h1
      injection h1 with h1
      injection h1 with h1
      subst h1
      exact ⟨cur, _, hh⟩
theorem own_hd {w : World} {base : Nat} {v : Value} {xs : List Int} (h : w.ownsRow base 3 1 v xs.length (xs.map (Value.int .i64))) (h0 : 0 < xs.length) : ∃ g cap, v = .slice (some ⟨g, 0, none⟩) xs.length cap ∧ base ≤ g ∧ xs.length ≤ cap ∧ cap ≤ maxLen := by
  rcases h.2 with ⟨_, h1⟩ | ⟨g, cap, cur, h1, h2, _, h3, h4, _⟩
  · omega
  · exact ⟨g, cap, h1, h2, h3, h4⟩
theorem take_snd {fs : List (List Int)} {k : Nat} (h : k < fs.length) : fs.take (k + 1) = fs.take k ++ [fs[k]] := List.take_succ_eq_append_getElem h
set_option maxRecDepth 100000 in
set_option maxHeartbeats 16000000 in
theorem newMesh_any (b1 o1 : Nat) (A2 : Option Addr) (c1 c2 : Nat) (vs : List V3) (fs : List (List Int)) (w : World) (hR : MeshIn w (some ⟨b1, o1, none⟩) A2 vs fs) (hf : MeshFits vs fs) (h4 : ∀ f ∈ fs, f.length = 4) :
    Calls Tryz.prog 37 #[mv (some ⟨b1, o1, none⟩) A2 vs.length c1 fs.length c2] w fun e w' => ∃ A3 c3 A4 c4 ps, e = .returned (mv A3 A4 vs.length c3 fs.length c4) ∧ OwnG w' w.heap.size A3 c3 A4 c4 vs ps ∧ ps.map Prod.snd = fs ∧ Below w.heap.size w w' := by
  have H4 := Lib.hid h4
  clear h4
  have HIN := Lib.hid hR
  have HF := Lib.hid hf
  have HT0 : Held w ((w.alloc (.cells #[.slice (some ⟨b1, o1, none⟩) vs.length c1, .slice A2 fs.length c2] 29)).alloc (.cells #[.slice none 0 0, .slice none 0 0] 29)) [(w.heap.size + 1, [.slice none 0 0, .slice none 0 0]), (w.heap.size, [.slice (some ⟨b1, o1, none⟩) vs.length c1, .slice A2 fs.length c2])] := by
    have h := ((Held.nil w).new #[.slice (some ⟨b1, o1, none⟩) vs.length c1, .slice A2 fs.length c2] 29).new #[.slice none 0 0, .slice none 0 0] 29
    simpa only [World.size_alloc] using h
  have HI : ∀ {bs : List (Nat × List Value)} (W : World), Held w W bs → MeshIn W (some ⟨b1, o1, none⟩) A2 vs fs := fun W h => ⟨(HIN.out.1.below h.below).more h.size, (HIN.out.2.below h.below).more h.size⟩
  have HT := Lib.hid HT0
  clear hR hf HT0
  have HO0 := Lib.hid (nilOwn ((w.alloc (.cells #[.slice (some ⟨b1, o1, none⟩) vs.length c1, .slice A2 fs.length c2] 29)).alloc (.cells #[.slice none 0 0, .slice none 0 0] 29)) (w.heap.size + 2) 45 1)
  have c0' := (HT.out.box 1).c 0
  have c1' := (HT.out.box 1).c 1
  go_enter Tryz.func37, Tryz.ntmps37
  go_wp2_with fail
  clear c0' c1'
  go_loopw [3, 9] (fun u i wr => ∃ (k : Nat) (ps : Lot) (hs : List Value), k ≤ fs.length ∧ i = .int .i64 k ∧ ps.length = k ∧ wr.ownsRow (w.heap.size + 2) 45 1 u ps.length hs ∧ HdOf ps hs ∧ LotT wr ps ∧ (∀ p ∈ ps, w.heap.size + 2 ≤ p.1) ∧ ps.map Prod.snd = fs.take k ∧ Held w wr [(w.heap.size + 1, [.slice none 0 0, .slice none 0 0]), (w.heap.size, [.slice (some ⟨b1, o1, none⟩) vs.length c1, .slice A2 fs.length c2])] ∧ w.heap.size + 2 ≤ wr.heap.size) (fun _ i _ => fs.length - (intOf i).toNat)
  case atStart => exact ⟨0, [], [], Nat.zero_le _, rfl, rfl, HO0.out, HdOf.nil, LotT.nil _, (fun p h => by cases h), rfl, HT.out, by simp⟩
  case round =>
    clear HO0 HT
    obtain ⟨k, ps, hs, hk, rfl, hpl, hown, hhd, hlots, hge, hsnd, ht, hsz⟩ := hrel
    have HPL := Lib.hid hpl
    have HO := Lib.hid hown
    have HH := Lib.hid hhd
    have HL := Lib.hid hlots
    have HG := Lib.hid hge
    have HS := Lib.hid hsnd
    have HT := Lib.hid ht
    clear hpl hown hhd hlots hge hsnd ht
    by_cases hlt : k < fs.length
    · obtain ⟨b, o, a, cc, rfl, hbl, hc, hle, hcm, hrow⟩ := HIN.out.2.at hlt
      have hc' := (HT.out.below.cell (p := ⟨b, o + k, none⟩) hbl).trans hc
      have hrow' := (hrow.below HT.out.below).more HT.out.size
      have HF4 := Lib.hid (H4.out _ (List.getElem_mem hlt))
      have HTS := Lib.hid (take_snd hlt)
      obtain ⟨f, hf⟩ : ∃ f, f = fs[k] := ⟨_, rfl⟩
      rw [← hf] at hc' hrow' HF4
      simp only [← hf] at HTS
      obtain ⟨bf, of, rfl, _, _⟩ := hrow'.at (k := 0) (by rw [HF4.out]; omega)
      have HCL := cloneInt_any bf of cc f wr hrow' (by rw [HF4.out]; omega)
      rw [HF4.out] at hc' HCL
      have hfb : fs.length ≤ 1048576 := HF.out.2.1
      have hpb : ps.length ≤ 1048576 := by rw [HPL.out]; omega
      clear hf hc hrow hrow' hle hcm hbl
      go_wp2_with fail
      refine HCL.mono ?_
      rintro e w2 ⟨v, rfl, ho2, hb2⟩
      obtain ⟨g, cap, rfl, hgb, hcap, hcm⟩ := own_hd (xs := f) (by rw [HF4.out]; exact ho2) (by rw [HF4.out]; omega)
      rw [HF4.out] at hcap
      have HO2 := Lib.hid (own_keep' HO.out hb2)
      have HL2 := Lib.hid (HL.out.later hb2)
      have HT2 := Lib.hid (HT.out.later hb2)
      have HN2 : Hid (LotT w2 [(g, f)]) := Lib.hid (own_lot (by rw [HF4.out]; rw [HF4.out] at ho2; exact ho2))
      have HLT : Hid (∀ p ∈ ps, p.1 < wr.heap.size) := Lib.hid fun p hp => (HL.out.1.2 p hp).2
      have HGW : Hid (∀ p ∈ ([(g, f)] : Lot), wr.heap.size ≤ p.1) := Lib.hid fun p hp => by rw [List.mem_singleton] at hp; subst hp; exact hgb
      have hs2 : w.heap.size + 2 ≤ w2.heap.size := Nat.le_trans hsz hb2.size
      have hgw : w.heap.size + 2 ≤ g := Nat.le_trans hsz hgb
      have HVV : Hid (Hd (g, f.length) (.slice (some ⟨g, 0, none⟩) 4 cap)) := Lib.hid ⟨cap, by rw [HF4.out], by rw [HF4.out]; exact hcap, hcm⟩
      rw [HF4.out]
      clear hb2 HCL HO HL HT ho2 hc' hgb hcap hcm
      go_wp2_with (at_builtin; go_loud (refine wpList_app1 w2 rfl _ _ 23 rfl (w.heap.size + 2) 45 nilS 24 Tryz.underlying23 infoSS rfl _ _ _ (by rfl) HO2.out (.slice (some ⟨g, 0, none⟩) 4 cap) (by rfl) (by rfl) (by unfold maxLen; omega) (by omega) (by omega) ?_))
      intro v5 w5 ho5 hg5
      have hob := own_block HO2.out
      have HT5 := Lib.hid (heldGrown' HT2.out hg5 (fun q hq => by have := hob q hq; omega) (fun p hp c => by
        have h1 := hob _ c.symm
        simp only [List.mem_cons, List.not_mem_nil, or_false] at hp
        rcases hp with rfl | rfl <;> simp at h1 <;> omega))
      have HL5 := Lib.hid (LotT.app (HL2.out.row HO2.out hg5) (HN2.out.row HO2.out hg5) HLT.out HGW.out)
      have HO5 : Hid (w5.ownsRow (w.heap.size + 2) 45 1 v5 (ps ++ [(g, f)]).length (hs ++ [.slice (some ⟨g, 0, none⟩) 4 cap])) := Lib.hid (by rw [List.length_append]; exact ho5)
      have HG5 : Hid (∀ p ∈ ps ++ [(g, f)], w.heap.size + 2 ≤ p.1) := Lib.hid fun p hp => by
        rcases List.mem_append.1 hp with hp | hp
        · exact HG.out p hp
        · rw [List.mem_singleton] at hp
          subst hp
          exact hgw
      have hs5 : w.heap.size + 2 ≤ w5.heap.size := Nat.le_trans hs2 hg5.size
      have HS5 : Hid ((ps ++ [(g, f)]).map Prod.snd = fs.take (k + 1)) := Lib.hid (by rw [List.map_append, HS.out, HTS.out]; rfl)
      have HP5 : Hid ((ps ++ [(g, f)]).length = k + 1) := Lib.hid (by rw [List.length_append, HPL.out]; rfl)
      clear ho5 hg5 hob HO2 HL2 HT2 HN2 HLT HGW hpb
      go_wp2_with fail
      go_roundw
      case rel => exact ⟨k + 1, _, _, by omega, by go_num, HP5.out, HO5.out, HH.out.app HVV.out, HL5.out, HG5.out, HS5.out, HT5.out, hs5⟩
      case measure => simp [intOf]; omega
    · have e : k = fs.length := by omega
      have HSF : Hid (ps.map Prod.snd = fs) := Lib.hid (by rw [HS.out, e, List.take_length])
      have hl : ps.length = fs.length := by rw [HPL.out, e]
      have ho := HO.out
      obtain ⟨A4, c4, rfl⟩ := own_shape ho
      have HO4 := Lib.hid ho
      have HCV := cloneVec_any b1 o1 c1 vs wr (HI _ HT.out).1 HF.out.1
      have c0' := (HT.out.box 1).c 0
      have hlv := Lib.hid hl
      rw [hl]
      clear ho e HO hl HPL
      go_wp2_with fail
      refine HCV.mono ?_
      rintro e w2 ⟨v, rfl, ho2, hb2⟩
      obtain ⟨A3, c3, rfl⟩ := own_shape ho2
      have HO3 := Lib.hid (own_base ho2 hsz)
      have HO5 := Lib.hid (own_keep' HO4.out hb2)
      have HL5 := Lib.hid (HL.out.later hb2)
      have HT5 := Lib.hid (HT.out.later hb2)
      clear hb2 HCV HT HL HO4 ho2 c0'
      have r0 := (HT5.out.box 0).c 0
      have g0 := (HT5.out.box 0).f 0
      have r1 := (HT5.out.box 0).c 1
      have g1 := (HT5.out.box 0).f 1
      go_wp2_with fail
      have hgr : w2.grownBy ((w2.setCell ⟨w.heap.size + 1, 0, none⟩ (.slice A3 vs.length c3)).setCell ⟨w.heap.size + 1, 1, none⟩ (.slice A4 fs.length c4)) (some (w.heap.size + 1)) := gb_set (gb_set (gb_refl _ _) _) _
      exact bodyPost_ret (v := mv A3 A4 vs.length c3 fs.length c4) (by simp [results, Tryz.results37, go_sem, r0, r1]) rfl ⟨A3, c3, A4, c4, ps, rfl, ⟨own_base (own_keep HO3.out hgr (by omega)) (by omega), hs, own_base (own_keep HO5.out hgr (by omega)) (by omega), HH.out, HL5.out.grown hgr (fun p hp c => by injection c with c; have := HG.out p hp; omega), fun p hp => by have := HG.out p hp; omega⟩, HSF.out, bset2 HT5.out.below (by omega)⟩

/-- n steps -/
def itN : Nat → List V3 → List (List Int) → (List V3 × List (List Int)) × Bool
  | 0, P, F => ((P, F), true)
  | k + 1, P, F => if subOk P F = true then itN k (subP P F) (subF P F) else (([], []), false)
def stN (vs : List V3) (fs : List (List Int)) (n : Int) : (List V3 × List (List Int)) × Bool := if okMesh vs fs = true ∧ 0 ≤ n ∧ n ≤ 3 then itN n.toNat vs fs else (([], []), false)
def Fit4 (P : List V3) (F : List (List Int)) : Prop := P.length ≤ 80 ∧ F.length ≤ 64 ∧ ∀ f ∈ F, f.length = 4
theorem subF_four {vs : List V3} {fs : List (List Int)} : ∀ f ∈ subF vs fs, f.length = 4 := fun f hf => by
  unfold subF qdTo at hf
  obtain ⟨j, _, hf⟩ := List.mem_flatMap.1 hf
  unfold qdF at hf
  obtain ⟨i, _, rfl⟩ := List.mem_map.1 hf
  rfl
theorem sum_four : ∀ {fs : List (List Int)}, (∀ f ∈ fs, f.length = 4) → sumL fs = 4 * fs.length
  | [], _ => rfl
  | f :: fs, h => by
    have h1 := sum_four (fs := fs) (fun g hg => h g (List.mem_cons_of_mem _ hg))
    have h2 := h f List.mem_cons_self
    unfold sumL at *
    simp only [List.map_cons, List.sum_cons, List.length_cons, h1, h2]
    omega
theorem Fit4.fits {P : List V3} {F : List (List Int)} (h : Fit4 P F) : MeshFits P F := ⟨by have := h.1; omega, by have := h.2.1; omega, by rw [sum_four h.2.2]; have := h.2.1; omega⟩
theorem fit_sub {P : List V3} {F : List (List Int)} (h : subOk P F = true) : Fit4 (subP P F) (subF P F) := by
  obtain ⟨_, h2, h3⟩ := (subOk_iff _ _).1 h
  exact ⟨by rw [subP_len]; exact h3, by rw [subF_len]; omega, subF_four⟩
theorem fit_it : ∀ (k : Nat) (P : List V3) (F : List (List Int)), Fit4 P F → Fit4 (itN k P F).1.1 (itN k P F).1.2
  | 0, _, _, h => h
  | k + 1, P, F, h => by
    unfold itN
    by_cases hs : subOk P F = true
    · rw [if_pos hs]; exact fit_it k _ _ (fit_sub hs)
    · rw [if_neg hs]; exact ⟨by simp, by simp, fun f hf => by cases hf⟩
theorem fit_ok {vs : List V3} {fs : List (List Int)} (h : okMesh vs fs = true) : Fit4 vs fs := ⟨(ok_all h).1, (ok_all h).2.1, fun f hf => (okFace_at ((ok_all h).2.2 f hf)).1⟩
theorem fit_st (vs : List V3) (fs : List (List Int)) (n : Int) : Fit4 (stN vs fs n).1.1 (stN vs fs n).1.2 := by
  unfold stN
  by_cases h : okMesh vs fs = true ∧ 0 ≤ n ∧ n ≤ 3
  · rw [if_pos h]; exact fit_it _ _ _ (fit_ok h.1)
  · rw [if_neg h]; exact ⟨by simp, by simp, fun f hf => by cases hf⟩
def MeshG (w : World) (P : List V3) (F : List (List Int)) (ok : Bool) (e : Ending) (w' : World) : Prop :=
  ∃ A1 c1 A2 c2 ps, e = .returned (.tuple #[mv A1 A2 P.length c1 F.length c2, .bool ok]) ∧ ps.map Prod.snd = F ∧ OwnG w' w.heap.size A1 c1 A2 c2 P ps ∧ Below w.heap.size w w'
theorem mesh_zero {w w' : World} {R : (List V3 × List (List Int)) × Bool} (h : R = (([], []), false)) (hb : Below w.heap.size w w') : MeshG w R.1.1 R.1.2 R.2 (.returned (.tuple #[mv none none 0 0 0 0, .bool false])) w' := by
  subst h
  exact ⟨none, 0, none, 0, [], rfl, rfl, ⟨World.ownsRow_nil _ _ _ _, [], World.ownsRow_nil _ _ _ _, HdOf.nil, LotT.nil _, fun p h => by cases h⟩, hb⟩
theorem mesh_made {w w' : World} {R : (List V3 × List (List Int)) × Bool} {P : List V3} {F : List (List Int)} {A1 A2 : Option Addr} {c1 c2 : Nat} {ps : Lot} (h : R = ((P, F), true)) (hs : ps.map Prod.snd = F) (ho : OwnG w' w.heap.size A1 c1 A2 c2 P ps) (hb : Below w.heap.size w w') : MeshG w R.1.1 R.1.2 R.2 (.returned (.tuple #[mv A1 A2 P.length c1 F.length c2, .bool true])) w' := by
  subst h
  exact ⟨A1, c1, A2, c2, ps, rfl, hs, ho, hb⟩
/-- the mesh's blocks are not block k -/
def FarG (k : Nat) (A1 : Option Addr) (n1 c1 : Nat) (A2 : Option Addr) (n2 c2 : Nat) (ps : Lot) : Prop := (∀ q, (Value.slice A1 n1 c1).ownBlock = some q → q ≠ k) ∧ (∀ q, (Value.slice A2 n2 c2).ownBlock = some q → q ≠ k) ∧ ∀ p ∈ ps, p.1 ≠ k
theorem OwnG.far_lt {w : World} {base : Nat} {A1 A2 : Option Addr} {c1 c2 : Nat} {P : List V3} {ps : Lot} (h : OwnG w base A1 c1 A2 c2 P ps) : FarG w.heap.size A1 P.length c1 A2 ps.length c2 ps := by
  obtain ⟨h0, hs, h1, h2, h3, h4⟩ := h
  exact ⟨fun q hq => Nat.ne_of_lt (own_lt h0 q hq), fun q hq => Nat.ne_of_lt (own_lt h1 q hq), fun p hp => Nat.ne_of_lt (h3.1.2 p hp).2⟩
theorem OwnG.far_ge {w : World} {base k : Nat} {A1 A2 : Option Addr} {c1 c2 : Nat} {P : List V3} {ps : Lot} (h : OwnG w base A1 c1 A2 c2 P ps) (hk : k < base) : FarG k A1 P.length c1 A2 ps.length c2 ps := by
  obtain ⟨h0, hs, h1, h2, h3, h4⟩ := h
  exact ⟨fun q hq => by have := own_block h0 q hq; omega, fun q hq => by have := own_block h1 q hq; omega, fun p hp => by have := h4 p hp; omega⟩
theorem OwnG.put {w : World} {base k : Nat} {A1 A2 : Option Addr} {c1 c2 : Nat} {P : List V3} {ps : Lot} (h : OwnG w base A1 c1 A2 c2 P ps) (hf : FarG k A1 P.length c1 A2 ps.length c2 ps) (j : Nat) (v : Value) : OwnG (w.setCell ⟨k, j, none⟩ v) base A1 c1 A2 c2 P ps := by
  obtain ⟨h0, hs, h1, h2, h3, h4⟩ := h
  have hg : w.grownBy (w.setCell ⟨k, j, none⟩ v) (some k) := gb_set (gb_refl _ _) _
  exact ⟨World.ownsRow.kept h0 hg (.inr fun c => hf.1 _ c rfl), hs, World.ownsRow.kept h1 hg (.inr fun c => hf.2.1 _ c rfl), h2, h3.grown hg (fun p hp c => by injection c with c; exact hf.2.2 p hp c), h4⟩
theorem OwnM.g {w : World} {base : Nat} {A1 A2 : Option Addr} {c1 c2 : Nat} {P : List V3} {ps : Lot} {F : List (List Int)} (h : OwnM w base A1 c1 A2 c2 P ps) (hF : ps.map Prod.snd = F) (hl : ∀ f ∈ F, f.length = 4) : OwnG w base A1 c1 A2 c2 P ps :=
  ⟨h.1, h.2.sc (fun p hp => by have := hl p.2 (by rw [← hF]; exact List.mem_map.2 ⟨p, hp, rfl⟩); unfold maxLen; omega)⟩
theorem res_out {w : World} {P : List V3} {F : List (List Int)} {ok : Bool} {e : Ending} {w' : World} (h : MeshRes w P F ok e w') :
    ∃ A1 c1 A2 c2 ps, e = .returned (.tuple #[mv A1 A2 P.length c1 F.length c2, .bool ok]) ∧ ps.map Prod.snd = F ∧ OwnM w' w.heap.size A1 c1 A2 c2 P ps ∧ Below w.heap.size w w' := by
  obtain ⟨A1, c1, A2, c2, ps, he, ho1, ho2, hps, hl, hg, hb⟩ := h
  have hpl : ps.length = F.length := by rw [← hps, List.length_map]
  rw [← hpl] at ho2
  exact ⟨A1, c1, A2, c2, ps, he, hps, ⟨ho1, ho2, hl, hg⟩, hb⟩
theorem it_no {N k : Nat} {P : List V3} {F : List (List Int)} {R : (List V3 × List (List Int)) × Bool} (hk : k < N) (h : itN (N - k) P F = R) (hs : subOk P F = false) : R = (([], []), false) := by
  rw [show N - k = (N - (k + 1)) + 1 by omega] at h
  unfold itN at h
  rw [if_neg (by rw [hs]; simp)] at h
  exact h.symm
theorem it_yes {N k : Nat} {P : List V3} {F : List (List Int)} {R : (List V3 × List (List Int)) × Bool} (hk : k < N) (h : itN (N - k) P F = R) (hs : subOk P F = true) : itN (N - (k + 1)) (subP P F) (subF P F) = R := by
  rw [show N - k = (N - (k + 1)) + 1 by omega] at h
  rw [← h]
  conv => rhs; unfold itN
  rw [if_pos hs]
theorem sb_yes {P : List V3} {F : List (List Int)} (h : subOk P F = true) : sbP P F = subP P F ∧ sbF P F = subF P F := ⟨by unfold sbP; rw [if_pos h], by unfold sbF; rw [if_pos h]⟩
theorem sb_no {P : List V3} {F : List (List Int)} (h : subOk P F = false) : sbP P F = [] ∧ sbF P F = [] := ⟨by unfold sbP; rw [h]; rfl, by unfold sbF; rw [h]; rfl⟩
set_option maxRecDepth 100000 in
set_option maxHeartbeats 16000000 in
theorem subdivideN_any (b1 o1 : Nat) (A2 : Option Addr) (c1 c2 : Nat) (vs : List V3) (fs : List (List Int)) (n : Int) (w : World) (hR : MeshIn w (some ⟨b1, o1, none⟩) A2 vs fs) (hf : MeshFits vs fs) :
    Calls Tryz.prog 13 #[mv (some ⟨b1, o1, none⟩) A2 vs.length c1 fs.length c2, .int .i64 n] w (MeshG w (stN vs fs n).1.1 (stN vs fs n).1.2 (stN vs fs n).2) := by
  obtain ⟨R, hR0⟩ : ∃ R, R = stN vs fs n := ⟨_, rfl⟩
  rw [← hR0]
  have HRR := Lib.hid hR0
  clear hR0
  have HIN := Lib.hid hR
  have HF := Lib.hid hf
  have HT0 : Held w ((w.alloc (.cells #[.slice (some ⟨b1, o1, none⟩) vs.length c1, .slice A2 fs.length c2] 29)).alloc (.cells #[.slice none 0 0, .slice none 0 0] 29)) [(w.heap.size + 1, [.slice none 0 0, .slice none 0 0]), (w.heap.size, [.slice (some ⟨b1, o1, none⟩) vs.length c1, .slice A2 fs.length c2])] := by
    have h := ((Held.nil w).new #[.slice (some ⟨b1, o1, none⟩) vs.length c1, .slice A2 fs.length c2] 29).new #[.slice none 0 0, .slice none 0 0] 29
    simpa only [World.size_alloc] using h
  have HI : ∀ {bs : List (Nat × List Value)} (W : World), Held w W bs → MeshIn W (some ⟨b1, o1, none⟩) A2 vs fs := fun W h => ⟨(HIN.out.1.below h.below).more h.size, (HIN.out.2.below h.below).more h.size⟩
  have HT := Lib.hid HT0
  clear hR hf HT0
  obtain ⟨ok, hok⟩ : ∃ ok, ok = okMesh vs fs := ⟨_, rfl⟩
  have HOK := Lib.hid hok
  have HC := isValidMesh_any (some ⟨b1, o1, none⟩) A2 c1 c2 vs fs _ (HI _ HT.out) HF.out
  rw [← hok] at HC
  clear hok
  have c0' := (HT.out.box 1).c 0
  have c1' := (HT.out.box 1).c 1
  go_enter Tryz.func13, Tryz.ntmps13
  go_wp2_with fail
  refine HC.mono ?_
  rintro e w1 ⟨rfl, hb1⟩
  have HT1 := Lib.hid (HT.out.later hb1)
  clear hb1 HT c0' c1' HC
  have r0 := (HT1.out.box 0).c 0
  have g0 := (HT1.out.box 0).f 0
  have r1 := (HT1.out.box 0).c 1
  have g1 := (HT1.out.box 0).f 1
  have c0' := (HT1.out.box 1).c 0
  have c1' := (HT1.out.box 1).c 1
  by_cases hgood : ok = true ∧ 0 ≤ n ∧ n ≤ 3
  · obtain ⟨hk1, hn0, hn3⟩ := hgood
    subst hk1
    have hd0 : decide (n < 0) = false := by simp; omega
    have hd3 : decide (n > 3) = false := by simp; omega
    have HOM : Hid (okMesh vs fs = true) := Lib.hid HOK.out.symm
    obtain ⟨N, hN⟩ := Int.eq_ofNat_of_zero_le hn0
    have HIT : Hid (itN (N - 0) vs fs = R) := Lib.hid (by
      rw [HRR.out]
      unfold stN
      rw [if_pos ⟨HOM.out, hn0, hn3⟩, hN]
      rfl)
    have HF4 := Lib.hid (fit_ok HOM.out)
    have HNM := newMesh_any b1 o1 A2 c1 c2 vs fs w1 (HI _ HT1.out) HF.out HF4.out.2.2
    have hz1 : w.heap.size + 1 < w1.heap.size := (HT1.out.box 0).lt
    clear HOK HRR
    subst hN
    go_wp2_with fail
    refine HNM.mono ?_
    rintro e w2 ⟨A3, c3, A4, c4, ps, rfl, hog, hps, hb2⟩
    have HT3 := Lib.hid ((HT1.out.later hb2).new #[.slice A3 vs.length c3, .slice A4 fs.length c4] 29)
    have HFA := Lib.hid hog.far_lt
    have HOG := Lib.hid ((hog.base (by omega : w.heap.size + 2 ≤ w1.heap.size)).later (show Below w2.heap.size w2 (w2.alloc (.cells #[.slice A3 vs.length c3, .slice A4 fs.length c4] 29)) by go_grown))
    have HPS := Lib.hid hps
    have hz2 : w.heap.size + 1 < w2.heap.size := Nat.lt_of_lt_of_le hz1 hb2.size
    clear hb2 hog hps HNM HT1 r0 r1 g0 g1 c0' c1' hd0 hd3
    go_wp2_with fail
    go_loopw [24] (fun i wr => ∃ (k : Nat) (P : List V3) (F : List (List Int)) (A3 : Option Addr) (c3 : Nat) (A4 : Option Addr) (c4 : Nat) (ps : Lot), k ≤ N ∧ i = .int .i64 k ∧ itN (N - k) P F = R ∧ Fit4 P F ∧ ps.map Prod.snd = F ∧ OwnG wr (w.heap.size + 2) A3 c3 A4 c4 P ps ∧ FarG w2.heap.size A3 P.length c3 A4 ps.length c4 ps ∧ Held w wr ((w2.heap.size, [.slice A3 P.length c3, .slice A4 F.length c4]) :: [(w.heap.size + 1, [.slice none 0 0, .slice none 0 0]), (w.heap.size, [.slice (some ⟨b1, o1, none⟩) vs.length c1, .slice A2 fs.length c2])])) (fun i _ => N - (intOf i).toNat)
    case atStart => exact ⟨0, vs, fs, A3, c3, A4, c4, ps, Nat.zero_le _, rfl, HIT.out, HF4.out, HPS.out, HOG.out, HFA.out, HT3.out⟩
    case round =>
      clear HIT HF4 HPS HOG HFA HT3
      obtain ⟨k, P, F, A3, c3, A4, c4, ps, hk, rfl, hit, hf4, hps, hog, hfa, ht⟩ := hrel
      have HIT := Lib.hid hit
      have HF4 := Lib.hid hf4
      have HPS := Lib.hid hps
      have HOG := Lib.hid hog
      have HFA := Lib.hid hfa
      have HT := Lib.hid ht
      clear hit hf4 hps hog hfa ht
      by_cases hlt : k < N
      · have HSD := subdivide_any A3 A4 c3 c4 P F wr (HOG.out.read HPS.out) HF4.out.fits
        have k0 := (HT.out.box 0).c 0
        have k1 := (HT.out.box 0).c 1
        cases hs : subOk P F
        · have HE : Hid (R = (([], []), false)) := Lib.hid (it_no hlt HIT.out hs)
          rw [(sb_no hs).1, (sb_no hs).2, hs] at HSD
          clear hs
          go_wp2_with fail
          refine HSD.mono ?_
          rintro e w6 hres
          obtain ⟨A5, c5, A6, c6, qs, rfl, _, _, hb6⟩ := res_out hres
          have HT6 := Lib.hid ((HT.out.later hb6).new #[.slice A5 0 c5, .slice A6 0 c6] 29)
          have HT7 := Lib.hid (HT6.out.pick (cs := [(w.heap.size + 1, [.slice none 0 0, .slice none 0 0]), (w.heap.size, [.slice (some ⟨b1, o1, none⟩) vs.length c1, .slice A2 fs.length c2])]) (by simp))
          clear hb6 hres HSD HT k0 k1
          have r0 := (HT7.out.box 0).c 0
          have g0 := (HT7.out.box 0).f 0
          have r1 := (HT7.out.box 0).c 1
          have g1 := (HT7.out.box 0).f 1
          have c0' := (HT7.out.box 1).c 0
          have c1' := (HT7.out.box 1).c 1
          clear c0' c1'
          go_wp2_with fail
          exact bodyPost_ret (v := .tuple #[mv none none 0 0 0 0, .bool false]) (by simp [results, Tryz.results13, go_sem, r0, r1]) rfl (mesh_zero HE.out (bset2 HT7.out.below (by omega)))
        · have HIT2 := Lib.hid (it_yes hlt HIT.out hs)
          have HF42 := Lib.hid (fit_sub hs)
          rw [(sb_yes hs).1, (sb_yes hs).2, hs] at HSD
          obtain ⟨P2, hP2⟩ : ∃ x, x = subP P F := ⟨_, rfl⟩
          obtain ⟨F2, hF2⟩ : ∃ x, x = subF P F := ⟨_, rfl⟩
          rw [← hP2, ← hF2] at HSD HIT2 HF42
          clear hP2 hF2 hs
          have hkw : w2.heap.size < wr.heap.size := (HT.out.box 0).lt
          go_wp2_with fail
          refine HSD.mono ?_
          rintro e w6 hres
          obtain ⟨A5, c5, A6, c6, qs, rfl, hqs, hom, hb6⟩ := res_out hres
          have hog6 := hom.g hqs HF42.out.2.2
          have HFA2 := Lib.hid (hog6.far_ge (k := w2.heap.size) hkw)
          have HT6 := Lib.hid ((HT.out.later hb6).new #[.slice A5 P2.length c5, .slice A6 F2.length c6] 29)
          have HOG6 := Lib.hid ((hog6.base (by omega : w.heap.size + 2 ≤ wr.heap.size)).later (show Below w6.heap.size w6 (w6.alloc (.cells #[.slice A5 P2.length c5, .slice A6 F2.length c6] 29)) by go_grown))
          have HQS := Lib.hid hqs
          have HT7 := Lib.hid (((HT6.out.pick (cs := (w2.heap.size, [.slice A3 P.length c3, .slice A4 F.length c4]) :: [(w.heap.size + 1, [.slice none 0 0, .slice none 0 0]), (w.heap.size, [.slice (some ⟨b1, o1, none⟩) vs.length c1, .slice A2 fs.length c2])]) (by simp)).put (by omega) (fun p hp => by simp only [List.mem_cons, List.not_mem_nil, or_false] at hp; rcases hp with rfl | rfl <;> simp <;> omega) 0 (.slice A5 P2.length c5)).put (by omega) (fun p hp => by simp only [List.mem_cons, List.not_mem_nil, or_false] at hp; rcases hp with rfl | rfl <;> simp <;> omega) 1 (.slice A6 F2.length c6))
          have HOG7 := Lib.hid ((HOG6.out.put HFA2.out 0 (.slice A5 P2.length c5)).put HFA2.out 1 (.slice A6 F2.length c6))
          have k0' := (HT6.out.box 1).c 0
          have k1' := (HT6.out.box 1).c 1
          have f0' := (HT6.out.box 1).f 0
          have f1' := (HT6.out.box 1).f 1
          clear hb6 hres HSD HT k0 k1 hom hog6 hqs HOG6 HT6 HIT HF4 HPS HOG HFA hkw
          go_wp2_with fail
          go_roundw
          case rel => exact ⟨k + 1, P2, F2, A5, c5, A6, c6, qs, by omega, by go_num, HIT2.out, HF42.out, HQS.out, HOG7.out, HFA2.out, HT7.out⟩
          case measure => simp [intOf]; omega
      · have e : k = N := by omega
        have HE : Hid (R = ((P, F), true)) := Lib.hid (by rw [← HIT.out, e, Nat.sub_self]; rfl)
        have k0 := (HT.out.box 0).c 0
        have k1 := (HT.out.box 0).c 1
        have r0 := (HT.out.box 1).c 0
        have g0 := (HT.out.box 1).f 0
        have r1 := (HT.out.box 1).c 1
        have g1 := (HT.out.box 1).f 1
        have c0' := (HT.out.box 2).c 0
        have c1' := (HT.out.box 2).c 1
        clear c0' c1' e
        go_wp2_with fail
        have hfw : FarG (w.heap.size + 1) A3 P.length c3 A4 ps.length c4 ps := HOG.out.far_ge (by omega)
        exact bodyPost_ret (v := .tuple #[mv A3 A4 P.length c3 F.length c4, .bool true]) (by simp [results, Tryz.results13, go_sem, r0, r1]) rfl (mesh_made HE.out HPS.out (((HOG.out.put hfw _ _).put hfw _ _).base (by omega)) (bset2 HT.out.below (by omega)))
  · have HE : Hid (R = (([], []), false)) := Lib.hid (by
      rw [HRR.out]
      unfold stN
      rw [if_neg (fun h => hgood ⟨HOK.out.trans h.1, h.2⟩)])
    cases ok
    · clear hgood
      go_wp2_with fail
      exact bodyPost_ret (v := .tuple #[mv none none 0 0 0 0, .bool false]) (by simp [results, Tryz.results13, go_sem, r0, r1]) rfl (mesh_zero HE.out (bset2 HT1.out.below (by omega)))
    · by_cases hn0 : n < 0
      · have hd0 : decide (n < 0) = true := by simp [hn0]
        clear hgood
        go_wp2_with fail
        exact bodyPost_ret (v := .tuple #[mv none none 0 0 0 0, .bool false]) (by simp [results, Tryz.results13, go_sem, r0, r1]) rfl (mesh_zero HE.out (bset2 HT1.out.below (by omega)))
      · have hd0 : decide (n < 0) = false := by simp [hn0]
        have h3 : 3 < n := Decidable.by_contra fun h => hgood ⟨rfl, by omega, by omega⟩
        have hd3 : decide (n > 3) = true := by simp [h3]
        clear hgood
        go_wp2_with fail
        exact bodyPost_ret (v := .tuple #[mv none none 0 0 0 0, .bool false]) (by simp [results, Tryz.results13, go_sem, r0, r1]) rfl (mesh_zero HE.out (bset2 HT1.out.below (by omega)))


end Go.Proofs.YtdefhepagpgnaaaGreat
