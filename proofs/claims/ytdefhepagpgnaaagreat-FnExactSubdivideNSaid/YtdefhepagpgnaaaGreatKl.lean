/- Contract of SubdivideN, in the model. -/
import Derived.Test.YtdefhepagpgnaaaGreatProg
import Derived.Test.YtdefhepagpgnaaaGreatInts
import Derived.Test.YtdefhepagpgnaaaGreatVbox
import Derived.Test.YtdefhepagpgnaaaGreatVec
import Derived.Test.YtdefhepagpgnaaaGreatHeld
import Derived.Test.YtdefhepagpgnaaaGreatMem
import Derived.Test.YtdefhepagpgnaaaGreatRowC
import Derived.Test.YtdefhepagpgnaaaGreatIntS
import Derived.Test.YtdefhepagpgnaaaGreatVecS
import Derived.Test.YtdefhepagpgnaaaGreatSS
import Derived.Test.YtdefhepagpgnaaaGreatMkA
import Derived.Test.YtdefhepagpgnaaaGreatMkB
import Derived.Test.YtdefhepagpgnaaaGreatMkC
import Derived.Test.YtdefhepagpgnaaaGreatMkD
import Derived.Test.YtdefhepagpgnaaaGreatMF
import Derived.Test.YtdefhepagpgnaaaGreatMG
import Derived.Test.YtdefhepagpgnaaaGreatMH
import Derived.Test.YtdefhepagpgnaaaGreatMV
import Derived.Test.YtdefhepagpgnaaaGreatME
import Derived.Test.YtdefhepagpgnaaaGreatKx
import Derived.Test.YtdefhepagpgnaaaGreatLn
import Derived.Test.YtdefhepagpgnaaaGreatKg
import Derived.Test.YtdefhepagpgnaaaGreatKj
import Derived.Test.YtdefhepagpgnaaaGreatKz
import Derived.Test.YtdefhepagpgnaaaGreatKk
import Derived.WalkKit
import Derived.WalkSpells
import Derived.WalkLawsBesides
import Derived.Lib.Hide
import Derived.Deep.RegionHeld3
import Derived.Deep.QuietTactic
import Derived.BigQuiet
import Derived.Handy
import Derived.Deep.DeepCutAuto
import Derived.OwnWalk
import Derived.Deep.AppendLies
import Derived.Deep.RegionLaw
namespace Go.Proofs.YtdefhepagpgnaaaGreat
open Go.RowKit

/-- the faces of a mesh under way in block kO -/
def WayF (w w2 : World) (kO : Nat) (bs : List (Nat × List Value)) (v u : Value) (ps : Lot) (hs : List Value) (W : World) : Prop :=
  W.ownsRow (kO + 1) 45 1 u ps.length hs ∧ HdOf ps hs ∧ LotT W ps ∧ (∀ p ∈ ps, kO + 1 ≤ p.1) ∧ Held w W ((kO, [v, u]) :: bs) ∧ Below kO w2 W ∧ kO + 1 ≤ W.heap.size
section
variable {w w2 W W' W5 : World} {kO : Nat} {bs : List (Nat × List Value)} {v u nv : Value} {ps : Lot} {hs : List Value}
theorem WayF.later (h : WayF w w2 kO bs v u ps hs W) (hb : Below W.heap.size W W') : WayF w w2 kO bs v u ps hs W' :=
  ⟨own_keep' h.1 hb, h.2.1, h.2.2.1.later hb, h.2.2.2.1, h.2.2.2.2.1.later hb, h.2.2.2.2.2.1.trans (hb.mono (by have := h.2.2.2.2.2.2; omega)), Nat.le_trans h.2.2.2.2.2.2 hb.size⟩
theorem WayF.drew (h : WayF w w2 kO bs v u ps hs W) : WayF w w2 kO bs v u ps hs W.drew := ⟨own_keep' h.1 (by go_grown), h.2.1, h.2.2.1.drew, h.2.2.2.1, h.2.2.2.2.1.drew, h.2.2.2.2.2.1.drew, h.2.2.2.2.2.2⟩
theorem WayF.held (h : WayF w w2 kO bs v u ps hs W) : Held w W ((kO, [v, u]) :: bs) := h.2.2.2.2.1
theorem WayF.below (h : WayF w w2 kO bs v u ps hs W) : Below kO w2 W := h.2.2.2.2.2.1
theorem WayF.start (h : Held w w2 bs) (v : Value) (hw : w2.heap.size = kO) (o : Obj) (ho : o = .cells #[v, .slice none 0 0] 29) : WayF w w2 kO bs v (.slice none 0 0) [] [] (w2.alloc o) := by
  subst hw
  subst ho
  exact ⟨World.ownsRow_nil _ _ _ _, HdOf.nil, LotT.nil _, (fun p h => by cases h), h.new #[v, .slice none 0 0] 29, (show Below w2.heap.size w2 (w2.alloc (.cells #[v, .slice none 0 0] 29)) by go_grown), by simp⟩
theorem WayF.put {o : Obj} {f : List Int} {g : Nat} {hd : Value} (h : WayF w w2 kO bs v u ps hs W) (hw : w.heap.size ≤ kO) (hbs : ∀ p ∈ bs, p.1 < kO) (hN : LotT W [(g, f)]) {B : Nat} (hB : ∀ p ∈ ps, p.1 < B) (hgB : B ≤ g) (hgk : kO + 1 ≤ g) (hhd : Hd (g, f.length) hd) (hg : (W.alloc o).grownBy W5 u.ownBlock) (ho : W5.ownsRow (kO + 1) 45 1 nv (ps.length + 1) (hs ++ [hd])) : WayF w w2 kO bs v nv (ps ++ [(g, f)]) (hs ++ [hd]) (W5.setCell ⟨kO, 1, none⟩ nv) := by
  obtain ⟨h1, h2, h3, h4, h5, h6, h7⟩ := h
  have hop := own_block h1
  have hs5 : W.heap.size + 1 ≤ W5.heap.size := by have := hg.size; simpa using this
  have hgb : W5.grownBy (W5.setCell ⟨kO, 1, none⟩ nv) (some kO) := gb_set (gb_refl W5 (some kO)) nv
  have h4' : ∀ p ∈ ps ++ [(g, f)], kO + 1 ≤ p.1 := fun p hp => by
    rcases List.mem_append.1 hp with hp | hp
    · exact h4 p hp
    · rw [List.mem_singleton] at hp
      subst hp
      exact hgk
  have h3' := LotT.app h3 hN hB (fun p hp => by rw [List.mem_singleton] at hp; subst hp; exact hgB)
  refine ⟨?_, h2.app hhd, (LotT.grown ((h3'.alloc o).row (h1.alloc o) hg) hgb (fun p hp c => by injection c with c; have := h4' p hp; omega)), h4', ?_, ?_, by simp; omega⟩
  · rw [List.length_append]
    exact own_keep ho hgb (by omega)
  · have h8 := heldGrown' (h5.alloc o) hg (fun q hq => by have := hop q hq; omega) (fun p hp c => by
      have h9 := hop _ c.symm
      rcases List.mem_cons.1 hp with rfl | hp
      · simp at h9
        omega
      · have := hbs p hp
        omega)
    exact h8.put hw (fun p hp => by have := hbs p hp; omega) 1 nv
  · exact (below_own (h6.alloc (by omega) _) hg (by simp; omega) (fun q hq => by have := hop q hq; omega)).grown hgb (by omega) (fun q hq => by injection hq with hq; omega)
end
theorem it_yes1 {m : Nat} {P : List V3} {F : List (List Int)} {R : (List V3 × List (List Int)) × Bool} (h : itN (m + 1) P F = R) (hs : subOk P F = true) : itN m (subP P F) (subF P F) = R := it_yes (N := m + 1) (k := 0) (by omega) h hs
theorem it_no1 {m : Nat} {P : List V3} {F : List (List Int)} {R : (List V3 × List (List Int)) × Bool} (h : itN (m + 1) P F = R) (hs : subOk P F = false) : R = (([], []), false) := it_no (N := m + 1) (k := 0) (by omega) h hs
theorem fresh_b {W W1 W6 : World} (h1 : Below W.heap.size W W1) (hg : W1.grownBy W6 (Value.ownBlock (.slice (some ⟨W.heap.size, 0, none⟩) 0 0))) : Below W.heap.size W W6 :=
  h1.grown hg h1.size (fun q hq => by rw [ob_some] at hq; injection hq with hq; omega)
theorem fresh_below {W W6 : World} {e : TypeId} (hg : (W.alloc (.cells #[] e)).grownBy W6 (Value.ownBlock (.slice (some ⟨W.heap.size, 0, none⟩) 0 0))) : Below W.heap.size W W6 :=
  (show Below W.heap.size W (W.alloc (.cells #[] e)) by go_grown).grown hg (by simp) (fun q hq => by rw [ob_some] at hq; injection hq with hq; omega)
set_option maxRecDepth 100000 in
set_option maxHeartbeats 32000000 in
theorem sSubdivideN_any (b1 o1 : Nat) (A2 : Option Addr) (c1 c2 : Nat) (vs : List V3) (fs : List (List Int)) (n : Int) (w : World) (hR : MeshIn w (some ⟨b1, o1, none⟩) A2 vs fs) (hf : MeshFits vs fs) :
    Calls Tryz.prog 12 #[mv (some ⟨b1, o1, none⟩) A2 vs.length c1 fs.length c2, .int .i64 n] w (MeshG w (stN vs fs n).1.1 (stN vs fs n).1.2 (stN vs fs n).2) := by
  obtain ⟨R, hR0⟩ : ∃ R, R = stN vs fs n := ⟨_, rfl⟩
  rw [← hR0]
  have HRR := Lib.hid hR0
  clear hR0
  have HIN := Lib.hid hR
  have HF := Lib.hid hf
  have HT0 : Held w ((w.alloc (.cells #[.slice (some ⟨b1, o1, none⟩) vs.length c1, .slice A2 fs.length c2] 29)).alloc (.cells #[.slice none 0 0, .slice none 0 0] 29)) [(w.heap.size + 1, [.slice none 0 0, .slice none 0 0]), (w.heap.size, [.slice (some ⟨b1, o1, none⟩) vs.length c1, .slice A2 fs.length c2])] := by
    have h := ((Held.nil w).new #[.slice (some ⟨b1, o1, none⟩) vs.length c1, .slice A2 fs.length c2] 29).new #[.slice none 0 0, .slice none 0 0] 29
    simpa only [World.size_alloc] using h
  have HI : ∀ {bs : List (Nat × List Value)} (W : World), Held w W bs → MeshIn W (some ⟨b1, o1, none⟩) A2 vs fs := fun W h => ⟨(HIN.out.1.below h.below).more h.size, (HIN.out.2.below h.below).more h.size⟩
  have HT := Lib.hid HT0
  clear hR hf HT0
  obtain ⟨ok, hok⟩ : ∃ ok, ok = okMesh vs fs := ⟨_, rfl⟩
  have HOK := Lib.hid hok
  have HC := sValidMesh_any (some ⟨b1, o1, none⟩) A2 c1 c2 vs fs _ (HI _ HT.out) HF.out
  rw [← hok] at HC
  clear hok
  have c0' := (HT.out.box 1).c 0
  have c1' := (HT.out.box 1).c 1
  go_enter Tryz.func12, Tryz.ntmps12
  go_wp2_with fail
  refine HC.mono ?_
  rintro e w1 ⟨rfl, hb1⟩
  have HT1 := Lib.hid (HT.out.later hb1)
  clear hb1 HT c0' c1' HC
  have r0 := (HT1.out.box 0).c 0
  have g0 := (HT1.out.box 0).f 0
  have r1 := (HT1.out.box 0).c 1
  have g1 := (HT1.out.box 0).f 1
  have c0' := (HT1.out.box 1).c 0
  have c1' := (HT1.out.box 1).c 1
  by_cases hgood : ok = true ∧ 0 ≤ n ∧ n ≤ 3
  · obtain ⟨hk1, hn0, hn3⟩ := hgood
    subst hk1
    have HIN3 := Lib.hid (inV_yes n 0 3 w1 hn0 hn3)
    have HOM : Hid (okMesh vs fs = true) := Lib.hid HOK.out.symm
    obtain ⟨N, hN⟩ := Int.eq_ofNat_of_zero_le hn0
    have HIT : Hid (itN N vs fs = R) := Lib.hid (by
      rw [HRR.out]
      unfold stN
      rw [if_pos ⟨HOM.out, hn0, hn3⟩, hN]
      rfl)
    have HF4 := Lib.hid (fit_ok HOM.out)
    have hz1 : w.heap.size + 1 < w1.heap.size := (HT1.out.box 0).lt
    obtain ⟨j9, hj9, hy90, hy91, hy92⟩ := info_parts infoVec
    have HNV := Lib.hid (rowC_news ((HI _ HT1.out).1.below (show Below w1.heap.size w1 (w1.alloc (.cells #[] 43)) by go_grown)))
    have hvl : vs.length ≤ 80 := HF4.out.1
    clear HOK HRR
    subst hN
    go_wp2_with fail
    refine HIN3.out.mono ?_
    rintro e w1' ⟨rfl, rfl⟩
    have HT2 := Lib.hid (HT1.out.alloc (.cells #[] 43))
    have c0'' := (HT2.out.box 1).c 0
    have c1'' := (HT2.out.box 1).c 1
    clear HIN3
    go_wp2_with (at_builtin; go_loud (refine wpList_append_own _ rfl _ _ 27 rfl w1.heap.size 43 j9 _ 3 24 Tryz.underlying27 hj9 hy90 hy91 hy92 rfl (by omega) _ 0 [] (by rfl) (own_empty w1 (Nat.le_refl _)) ⟨b1, o1, none⟩ vs.length c1 (vs.flatMap vg) (by rfl) (by rw [flat_len vg_len]) HNV.out (one_flat vs) (by unfold maxLen; omega) (by omega) (by simp) ?_))
    intro v3 w3 ho3 hg3 _
    have hb3 := fresh_below hg3
    have HT3 := Lib.hid (HT1.out.later hb3)
    have ho3' : w3.ownsRow w1.heap.size 43 3 v3 vs.length (vs.flatMap vg) := by simpa using ho3
    obtain ⟨A3, c3, rfl⟩ := own_shape ho3'
    have HO3 := Lib.hid ho3'
    have HLT3 := Lib.hid (own_lt ho3')
    have hz3 : w.heap.size + 1 < w3.heap.size := (HT3.out.box 0).lt
    have HZ1 : Hid (w.heap.size + 2 ≤ w1.heap.size) := Lib.hid (by omega)
    have HW0 := Lib.hid (WayF.start (kO := w3.heap.size) HT3.out (.slice A3 vs.length c3) rfl _ rfl)
    have hge : w.heap.size ≤ w3.heap.size := by omega
    have hBS : ∀ p ∈ ([(w.heap.size + 1, [.slice none 0 0, .slice none 0 0]), (w.heap.size, [.slice (some ⟨b1, o1, none⟩) vs.length c1, .slice A2 fs.length c2])] : List (Nat × List Value)), p.1 < w3.heap.size := fun p hp => by
      simp only [List.mem_cons, List.not_mem_nil, or_false] at hp
      rcases hp with rfl | rfl <;> simp <;> omega
    have d0' := (HW0.out.held.box 2).c 0
    have d1' := (HW0.out.held.box 2).c 1
    clear ho3 hg3 hb3 ho3' HT1 HT2 HNV c0'' c1'' c0' c1' r0 r1 g0 g1 hj9 hy90 hy91 hy92
    go_wp2_with fail
    clear d0' d1'
    go_loopw [28] (fun i wr => ∃ (k : Nat) (u : Value) (ps : Lot) (hs : List Value), k ≤ fs.length ∧ i = .int .i64 k ∧ ps.length = k ∧ ps.map Prod.snd = fs.take k ∧ WayF w w3 w3.heap.size [(w.heap.size + 1, [.slice none 0 0, .slice none 0 0]), (w.heap.size, [.slice (some ⟨b1, o1, none⟩) vs.length c1, .slice A2 fs.length c2])] (.slice A3 vs.length c3) u ps hs wr) (fun i _ => fs.length - (intOf i).toNat)
    case atStart => exact ⟨0, _, [], [], Nat.zero_le _, rfl, rfl, rfl, HW0.out⟩
    case round =>
      clear HW0
      obtain ⟨k, u, ps, hs, hk, rfl, hpl, hsnd, hw⟩ := hrel
      have HW := Lib.hid hw
      have HPL := Lib.hid hpl
      have HSN := Lib.hid hsnd
      clear hw hpl hsnd
      by_cases hlt : k < fs.length
      · obtain ⟨b, o, a, cc, rfl, hbl, hc, hle, hcm, hrow⟩ := HIN.out.2.at hlt
        have hQ := HW.out
        have hc' := (hQ.held.below.cell (p := ⟨b, o + k, none⟩) hbl).trans hc
        have HFL := Lib.hid (HF4.out.2.2 _ (List.getElem_mem hlt))
        have HTS := Lib.hid (take_snd hlt)
        obtain ⟨f, hf⟩ : ∃ f, f = fs[k] := ⟨_, rfl⟩
        rw [← hf] at hc' hrow HFL
        simp only [← hf] at HTS
        obtain ⟨bf, of, rfl, hx1, hx2⟩ := hrow.at (k := 0) (by rw [HFL.out]; omega)
        clear hx1 hx2
        rw [HFL.out] at hc'
        have HNW : Hid (∀ W, Held w W ((w3.heap.size, [.slice A3 vs.length c3, u]) :: [(w.heap.size + 1, [.slice none 0 0, .slice none 0 0]), (w.heap.size, [.slice (some ⟨b1, o1, none⟩) vs.length c1, .slice (some ⟨b, o, none⟩) fs.length c2])]) → ∀ (j : Nat) (x : Value), (f.map (Value.int .i64))[j]? = some x → (W.alloc (.cells #[] 3)).cell? ((⟨bf, of, none⟩ : Addr).add j) = some x) := Lib.hid (fun W h => row_news ((hrow.below h.below).below (show Below w.heap.size W (W.alloc (.cells #[] 3)) from (show Below W.heap.size W (W.alloc (.cells #[] 3)) by go_grown).mono h.size)))
        have hqz : w3.heap.size + 1 ≤ wr.heap.size := hQ.2.2.2.2.2.2
        have hop : ∀ q, u.ownBlock = some q → w3.heap.size + 1 ≤ q := own_block hQ.1
        have HLT : Hid (∀ p ∈ ps, p.1 < wr.heap.size) := Lib.hid fun p hp => (hQ.2.2.1.1.2 p hp).2
        have hfl : fs.length ≤ 64 := HF4.out.2.1
        have hpb : ps.length ≤ 64 := by rw [HPL.out]; omega
        obtain ⟨i8, hi8, hz80, hz81, hz82⟩ := info_parts infoInt
        obtain ⟨i9, hi9, hz90, hz91, hz92⟩ := info_parts infoSS
        have HF4B := HF4
        clear HF4
        have HF4 := HFL
        obtain ⟨v3, hv3⟩ : ∃ v, v = Value.slice A3 vs.length c3 := ⟨_, rfl⟩
        rw [← hv3] at hQ HNW
        clear HW hf hc hrow hle hcm hbl HFL
        go_upto_region 7 with fail
        have HN0 := Lib.hid True.intro
        have k0 := (hQ.held.box 0).c 1; have f0 := (hQ.held.box 0).f 1; have k0' := (hQ.drew.held.box 0).c 1; have f0' := (hQ.drew.held.box 0).f 1; have k3 : ∀ o, (wr.alloc o).cell? ⟨w3.heap.size, 1, none⟩ = some u := fun o => ((hQ.held.box 0).alloc o).c 1
        go_region_law (first | (have hn := HN0; clear hn HN0; have HN1 := Lib.hid True.intro; refine step_append_lies _ (by rfl) _ _ _ (by rfl) (w3.heap.size + 1) 3 i8 _ 1 8 Tryz.underlying45 hi8 hz80 hz81 hz82 rfl (by omega) (.slice (some ⟨wr.heap.size, 0, none⟩) 0 0) 0 [] (by rfl) (by first | exact own_empty _ hqz | exact (own_empty _ hqz).drew) ⟨bf, of, none⟩ 4 cc (f.map (Value.int .i64)) (by rfl) (by rw [List.length_map, HF4.out]) (by first | exact HNW.out wr hQ.held | exact HNW.out wr.drew hQ.drew.held) (by simp [Value.oneCell']) (by omega) (by unfold maxLen; omega) (by omega) (by simp; omega) _ rfl ?_; intro gi capi w6 hown6 hgrow6 hat6 hlt6; have hb6 : Below wr.heap.size wr w6 := fresh_b (by go_grown) hgrow6; have hQ := hQ.later hb6; have hqz := Nat.le_trans hqz hb6.size; clear k0 f0 k0' f0' k3; have k0 := (hQ.held.box 0).c 1; have f0 := (hQ.held.box 0).f 1; have k0' := (hQ.drew.held.box 0).c 1; have f0' := (hQ.drew.held.box 0).f 1; have k3 : ∀ o, (w6.alloc o).cell? ⟨w3.heap.size, 1, none⟩ = some u := fun o => ((hQ.held.box 0).alloc o).c 1; try dsimp only) | (have hn := HN1; clear hn HN1; refine step_append_lies _ (by rfl) _ _ _ (by rfl) (w3.heap.size + 1) 45 i9 _ 1 24 Tryz.underlying23 hi9 hz90 hz91 hz92 rfl (by omega) u ps.length hs (by rfl) (by first | exact hQ.1.alloc _ | exact (hQ.1.alloc _).drew) ⟨_, 0, none⟩ 1 1 [.slice (some ⟨gi, 0, none⟩) (0 + 4) capi] (by rfl) (by rfl) (World.news_of_block (cs := #[.slice (some ⟨gi, 0, none⟩) (0 + 4) capi]) (t := 45) (fr := (0, 0)) (heap_alloc_new _ _)) (by simp [Value.oneCell']) (by omega) (by unfold maxLen; omega) (by omega) (by simp; omega) _ rfl ?_; intro gg cap w5 hown5 hgrow hat hlt5; have hQM5 : Mbox w5 w3.heap.size [v3, u] := ((hQ.held.box 0).alloc _).keep (fun hl => hgrow.block _ hl (fun c => by have := hop _ c.symm; omega)); have k5 := hQM5.c 1; have f5 := hQM5.f 1))
        all_goals
          have HN6 : Hid (LotT w6 [(gi, f)]) := Lib.hid (own_lot (cap := capi) (by rw [HF4.out]; simpa using hown6))
          have HHD : Hid (Hd (gi, f.length) (.slice (some ⟨gi, 0, none⟩) (0 + 4) capi)) := Lib.hid (by
            obtain ⟨g', cap', he, _, h1, h2⟩ := own_hd (xs := f) (v := .slice (some ⟨gi, 0, none⟩) (0 + 4) capi) (by rw [HF4.out]; simpa using hown6) (by rw [HF4.out]; omega)
            rw [HF4.out] at he h1
            injection he with he0 he1 he2
            exact ⟨capi, by rw [HF4.out], by rw [HF4.out, he2]; exact h1, by rw [he2]; exact h2⟩)
          have hgi : wr.heap.size ≤ gi := by
            rcases hat6 with h1 | h1
            · rw [ob_some] at h1; injection h1 with h1; omega
            · rw [h1]; simp
          have HW5 := Lib.hid (by first | exact hQ.put hge (fun p hp => hBS p hp) HN6.out HLT.out hgi (by omega) HHD.out hgrow hown5 | exact hQ.drew.put hge (fun p hp => hBS p hp) HN6.out HLT.out hgi (by omega) HHD.out hgrow hown5)
          clear k0 f0 k0' f0' k3 k5 f5 hQM5 hgrow hown5 hat hlt5 hgrow6 hown6 hat6 hlt6 hb6 hqz hop hQ HNW HN6 HHD hgi
          go_wp2_with fail
          go_roundw
          case rel => exact ⟨k + 1, _, ps ++ [(gi, f)], hs ++ [_], by omega, by go_num, by rw [List.length_append, HPL.out]; rfl, by rw [List.map_append, HSN.out, HTS.out]; rfl, by have h := HW5.out; rw [hv3] at h; exact h⟩
          case measure => simp [intOf]; omega
      · have e : k = fs.length := by omega
        have hsn : ps.map Prod.snd = fs := by rw [HSN.out, e, List.take_length]
        have hl : ps.length = fs.length := by rw [HPL.out, e]
        obtain ⟨h1, h2, h3, h4, h5, h6, h7⟩ := HW.out
        obtain ⟨A4, c4, rfl⟩ := own_shape h1
        have hog : OwnG wr (w.heap.size + 2) A3 c3 A4 c4 vs ps := ⟨own_base (own_keep' HO3.out h6) HZ1.out, hs, own_base h1 (by omega), h2, h3, fun p hp => by have := h4 p hp; omega⟩
        have hfa : FarG w3.heap.size A3 vs.length c3 A4 ps.length c4 ps := ⟨fun q hq => Nat.ne_of_lt (HLT3.out q hq), fun q hq => by have := own_block h1 q hq; omega, fun p hp => by have := h4 p hp; omega⟩
        rw [hl] at h5
        have HOG := Lib.hid hog
        have HFA := Lib.hid hfa
        have HT := Lib.hid h5
        have HPS := Lib.hid hsn
        clear h1 h2 h3 h4 h5 h6 h7 hog hfa hl hsn HW HSN HPL HO3 HLT3 HZ1 e
        go_wp2_with fail
        go_loopw [1] (fun i wr => ∃ (m : Nat) (P : List V3) (F : List (List Int)) (A3 : Option Addr) (c3 : Nat) (A4 : Option Addr) (c4 : Nat) (ps : Lot), m ≤ 3 ∧ i = .int .i64 m ∧ itN m P F = R ∧ Fit4 P F ∧ ps.map Prod.snd = F ∧ OwnG wr (w.heap.size + 2) A3 c3 A4 c4 P ps ∧ FarG w3.heap.size A3 P.length c3 A4 ps.length c4 ps ∧ Held w wr ((w3.heap.size, [.slice A3 P.length c3, .slice A4 F.length c4]) :: [(w.heap.size + 1, [.slice none 0 0, .slice none 0 0]), (w.heap.size, [.slice (some ⟨b1, o1, none⟩) vs.length c1, .slice A2 fs.length c2])])) (fun i _ => (intOf i).toNat)
        case atStart => exact ⟨N, vs, fs, A3, c3, A4, c4, ps, by omega, rfl, HIT.out, HF4.out, HPS.out, HOG.out, HFA.out, HT.out⟩
        case round =>
          clear HIT HF4 HPS HOG HFA HT
          obtain ⟨m, P, F, A3, c3, A4, c4, ps, hm3, rfl, hit, hf4, hps, hog, hfa, ht⟩ := hrel
          have HIT := Lib.hid hit
          have HF4 := Lib.hid hf4
          have HPS := Lib.hid hps
          have HOG := Lib.hid hog
          have HFA := Lib.hid hfa
          have HT := Lib.hid ht
          clear hit hf4 hps hog hfa ht
          by_cases hlt : 0 < m
          · have HSD := sSubdivide_any A3 A4 c3 c4 P F wr (HOG.out.read HPS.out) HF4.out.fits
            have k0 := (HT.out.box 0).c 0
            have k1 := (HT.out.box 0).c 1
            have hd : decide ((m : Int) > 0) = true := by simp; omega
            have HIT : Hid (itN ((m - 1) + 1) P F = R) := Lib.hid (by rw [show m - 1 + 1 = m by omega]; exact HIT.out)
            cases hs : subOk P F
            · have HE : Hid (R = (([], []), false)) := Lib.hid (it_no1 HIT.out hs)
              rw [(sb_no hs).1, (sb_no hs).2, hs] at HSD
              clear hs
              go_wp2_with fail
              refine HSD.mono ?_
              rintro e w6 hres
              obtain ⟨A5, c5, A6, c6, qs, rfl, _, _, hb6⟩ := res_out hres
              have HT6 := Lib.hid ((HT.out.later hb6).new #[.slice A5 0 c5, .slice A6 0 c6] 29)
              have HT7 := Lib.hid (HT6.out.pick (cs := [(w.heap.size + 1, [.slice none 0 0, .slice none 0 0]), (w.heap.size, [.slice (some ⟨b1, o1, none⟩) vs.length c1, .slice A2 fs.length c2])]) (by simp))
              clear hb6 hres HSD HT k0 k1 hd
              have r0 := (HT7.out.box 0).c 0
              have g0 := (HT7.out.box 0).f 0
              have r1 := (HT7.out.box 0).c 1
              have g1 := (HT7.out.box 0).f 1
              have c0' := (HT7.out.box 1).c 0
              have c1' := (HT7.out.box 1).c 1
              clear c0' c1'
              go_wp2_with fail
              exact bodyPost_ret (v := .tuple #[mv none none 0 0 0 0, .bool false]) (by simp [results, Tryz.results12, go_sem, r0, r1]) rfl (mesh_zero HE.out (bset2 HT7.out.below (by omega)))
            · have HIT2 := Lib.hid (it_yes1 HIT.out hs)
              have HF42 := Lib.hid (fit_sub hs)
              rw [(sb_yes hs).1, (sb_yes hs).2, hs] at HSD
              obtain ⟨P2, hP2⟩ : ∃ x, x = subP P F := ⟨_, rfl⟩
              obtain ⟨F2, hF2⟩ : ∃ x, x = subF P F := ⟨_, rfl⟩
              rw [← hP2, ← hF2] at HSD HIT2 HF42
              clear hP2 hF2 hs
              have hkw : w3.heap.size < wr.heap.size := (HT.out.box 0).lt
              have ew := wrap_in (a := (m : Int) - 1) (by omega)
              go_wp2_with fail
              refine HSD.mono ?_
              rintro e w6 hres
              obtain ⟨A5, c5, A6, c6, qs, rfl, hqs, hom, hb6⟩ := res_out hres
              have hog6 := hom.g hqs HF42.out.2.2
              have HFA2 := Lib.hid (hog6.far_ge (k := w3.heap.size) hkw)
              have HT6 := Lib.hid ((HT.out.later hb6).new #[.slice A5 P2.length c5, .slice A6 F2.length c6] 29)
              have HOG6 := Lib.hid ((hog6.base (by omega : w.heap.size + 2 ≤ wr.heap.size)).later (show Below w6.heap.size w6 (w6.alloc (.cells #[.slice A5 P2.length c5, .slice A6 F2.length c6] 29)) by go_grown))
              have HQS := Lib.hid hqs
              have HT7 := Lib.hid (((HT6.out.pick (cs := (w3.heap.size, [.slice A3 P.length c3, .slice A4 F.length c4]) :: [(w.heap.size + 1, [.slice none 0 0, .slice none 0 0]), (w.heap.size, [.slice (some ⟨b1, o1, none⟩) vs.length c1, .slice A2 fs.length c2])]) (by simp)).put (by omega) (fun p hp => by simp only [List.mem_cons, List.not_mem_nil, or_false] at hp; rcases hp with rfl | rfl <;> simp <;> omega) 0 (.slice A5 P2.length c5)).put (by omega) (fun p hp => by simp only [List.mem_cons, List.not_mem_nil, or_false] at hp; rcases hp with rfl | rfl <;> simp <;> omega) 1 (.slice A6 F2.length c6))
              have HOG7 := Lib.hid ((HOG6.out.put HFA2.out 0 (.slice A5 P2.length c5)).put HFA2.out 1 (.slice A6 F2.length c6))
              have k0' := (HT6.out.box 1).c 0
              have k1' := (HT6.out.box 1).c 1
              have f0' := (HT6.out.box 1).f 0
              have f1' := (HT6.out.box 1).f 1
              clear hb6 hres HSD HT k0 k1 hom hog6 hqs HOG6 HT6 HIT HF4 HPS HOG HFA hkw
              go_wp2_with fail
              go_roundw
              case rel => exact ⟨m - 1, P2, F2, A5, c5, A6, c6, qs, by omega, by go_num, HIT2.out, HF42.out, HQS.out, HOG7.out, HFA2.out, HT7.out⟩
              case measure => simp [intOf]; omega
          · have e : m = 0 := by omega
            subst e
            have HE : Hid (R = ((P, F), true)) := Lib.hid HIT.out.symm
            have k0 := (HT.out.box 0).c 0
            have k1 := (HT.out.box 0).c 1
            have r0 := (HT.out.box 1).c 0
            have g0 := (HT.out.box 1).f 0
            have r1 := (HT.out.box 1).c 1
            have g1 := (HT.out.box 1).f 1
            have c0' := (HT.out.box 2).c 0
            have c1' := (HT.out.box 2).c 1
            clear c0' c1'
            go_wp2_with fail
            have hfw : FarG (w.heap.size + 1) A3 P.length c3 A4 ps.length c4 ps := HOG.out.far_ge (by omega)
            exact bodyPost_ret (v := .tuple #[mv A3 A4 P.length c3 F.length c4, .bool true]) (by simp [results, Tryz.results12, go_sem, r0, r1]) rfl (mesh_made HE.out HPS.out (((HOG.out.put hfw _ _).put hfw _ _).base (by omega)) (bset2 HT.out.below (by omega)))
  · have HE : Hid (R = (([], []), false)) := Lib.hid (by
      rw [HRR.out]
      unfold stN
      rw [if_neg (fun h => hgood ⟨HOK.out.trans h.1, h.2⟩)])
    cases ok
    · clear hgood
      go_wp2_with fail
      exact bodyPost_ret (v := .tuple #[mv none none 0 0 0 0, .bool false]) (by simp [results, Tryz.results12, go_sem, r0, r1]) rfl (mesh_zero HE.out (bset2 HT1.out.below (by omega)))
    · have HIN3 := inV_no n 0 3 w1 (fun h => hgood ⟨rfl, h⟩)
      clear hgood
      go_wp2_with fail
      refine HIN3.mono ?_
      rintro e w1' ⟨rfl, rfl⟩
      clear HIN3
      go_wp2_with fail
      exact bodyPost_ret (v := .tuple #[mv none none 0 0 0 0, .bool false]) (by simp [results, Tryz.results12, go_sem, r0, r1]) rfl (mesh_zero HE.out (bset2 HT1.out.below (by omega)))


end Go.Proofs.YtdefhepagpgnaaaGreat
