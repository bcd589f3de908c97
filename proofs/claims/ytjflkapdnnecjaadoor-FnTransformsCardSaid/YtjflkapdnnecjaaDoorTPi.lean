/- Contract of ParseTransform: the program. -/
import Derived.Test.YtjflkapdnnecjaaDoorProg
import Derived.Test.YtjflkapdnnecjaaDoorMem
import Derived.Test.YtjflkapdnnecjaaDoorStrS
import Derived.Test.YtjflkapdnnecjaaDoorNumP
import Derived.Test.YtjflkapdnnecjaaDoorFmt
import Derived.Test.YtjflkapdnnecjaaDoorInts
import Derived.Test.YtjflkapdnnecjaaDoorIntS
import Derived.Test.YtjflkapdnnecjaaDoorParse
import Derived.Test.YtjflkapdnnecjaaDoorFmts
import Derived.Test.YtjflkapdnnecjaaDoorParses
import Derived.Test.YtjflkapdnnecjaaDoorRound
import Derived.Test.YtjflkapdnnecjaaDoorNumsRound
import Derived.Test.YtjflkapdnnecjaaDoorVbox
import Derived.Test.YtjflkapdnnecjaaDoorVec
import Derived.Test.YtjflkapdnnecjaaDoorVlaw
import Derived.Test.YtjflkapdnnecjaaDoorFlat
import Derived.Test.YtjflkapdnnecjaaDoorVFmt
import Derived.Test.YtjflkapdnnecjaaDoorVPar
import Derived.Test.YtjflkapdnnecjaaDoorHeld
import Derived.Test.YtjflkapdnnecjaaDoorArr
import Derived.Test.YtjflkapdnnecjaaDoorTr
import Derived.Test.YtjflkapdnnecjaaDoorTMat
import Derived.Test.YtjflkapdnnecjaaDoorTFmt
import Derived.Test.YtjflkapdnnecjaaDoorCut
import Derived.Test.YtjflkapdnnecjaaDoorTOf
import Derived.WalkKit
import Derived.WalkSpells
import Derived.WalkLawsBesides
import Derived.Lib.Hide
import Derived.Deep.RegionHeld3
import Derived.Deep.QuietTactic
import Derived.BigQuiet
import Derived.Handy
import Derived.Deep.DeepCutAuto
import Derived.Laws.IdiomCopy
namespace Go.Proofs.YtjflkapdnnecjaaDoor
open Go.RowKit

/-- what ParseTransform leaves -/
def TrIn (s : ByteArray) (w : World) (e : Ending) (w' : World) : Prop :=
  ((∃ a0 a1 a2 a3 a4 a5 a6 a7 a8 x y z : Int, e = .returned (.tuple #[tr a0 a1 a2 a3 a4 a5 a6 a7 a8 x y z, .bool true]) ∧ TrOf s [a0, a1, a2, a3, a4, a5, a6, a7, a8] x y z) ∨ (e = .returned (.tuple #[tr 0 0 0 0 0 0 0 0 0 0 0 0, .bool false]) ∧ ∀ ms p q r, ¬ TrOf s ms p q r)) ∧ Below w.heap.size w w'
theorem vec_empty : ∀ p q r, ¬ VecOf ⟨#[]⟩ p q r := fun _ _ _ h => nums3_ne h.1 rfl

set_option maxRecDepth 100000 in
set_option maxHeartbeats 8000000 in
theorem parseTransform_any (s : ByteArray) (w : World) (hs : s.size ≤ 1048576) (hp : Pow w) (hE : Errs w) :
    Calls Tryd.prog 7 #[.string s] w (TrIn s w) := by
  have HT : Held w (w.alloc (.cells #[.int .i64 0, .int .i64 0, .int .i64 0, .int .i64 0, .int .i64 0, .int .i64 0, .int .i64 0, .int .i64 0, .int .i64 0, .int .i64 0, .int .i64 0, .int .i64 0] 26)) [(w.heap.size, [.int .i64 0, .int .i64 0, .int .i64 0, .int .i64 0, .int .i64 0, .int .i64 0, .int .i64 0, .int .i64 0, .int .i64 0, .int .i64 0, .int .i64 0, .int .i64 0])] := by
    have h := (Held.nil w).new #[.int .i64 0, .int .i64 0, .int .i64 0, .int .i64 0, .int .i64 0, .int .i64 0, .int .i64 0, .int .i64 0, .int .i64 0, .int .i64 0, .int .i64 0, .int .i64 0] 26
    simpa only [World.size_alloc] using h
  have HP := Lib.hid hp
  have HE := Lib.hid hE
  clear hp hE
  rcases (show Lib.indexByte s.data.toList 59 = -1 ∨ ∃ k : Nat, Lib.indexByte s.data.toList 59 = (k : Int) by
    have := Lib.indexByte_ge s.data.toList 59
    by_cases h : Lib.indexByte s.data.toList 59 = -1
    · exact .inl h
    · exact .inr ⟨(Lib.indexByte s.data.toList 59).toNat, by omega⟩) with h | ⟨k, h⟩
  · have HN0 : Hid (∀ ms p q r, ¬ TrOf s ms p q r) := Lib.hid (fun ms p q r ⟨k, _, hk, _⟩ => by omega)
    go_enter Tryd.func7, Tryd.ntmps7
    go_wp2_with fail
    refine (scut_miss s _ (by omega) h).mono ?_
    rintro e w1 ⟨rfl, hb1⟩
    have HT := HT.later hb1
    clear hb1 h
    go_wp2_with fail
    refine (parses_any s _ hs (HP.out.later HT.below) (HE.out.later HT.below)).mono ?_
    rintro e w2 ⟨b, xs, A, c, rfl, ho, h1, h2, hl, hb2⟩
    have HT := HT.later hb2
    clear hb2 ho h1 h2 hl
    go_wp2_with fail
    refine (parseVec_any ⟨#[]⟩ _ (by decide) (HP.out.later HT.below) (HE.out.later HT.below)).mono ?_
    rintro e w3 ⟨b2, x, y, z, rfl, g1, g2, hb3⟩
    cases b2
    · obtain ⟨⟨rfl, rfl, rfl⟩, _⟩ := g2 rfl
      have HT := (HT.later hb3).alloc (.cells #[.int .i64 0, .int .i64 0, .int .i64 0] 24)
      clear hb3 g1 g2
      have r0 := (HT.box 0).c 0
      have r1 := (HT.box 0).c 1
      have r2 := (HT.box 0).c 2
      have r3 := (HT.box 0).c 3
      have r4 := (HT.box 0).c 4
      have r5 := (HT.box 0).c 5
      have r6 := (HT.box 0).c 6
      have r7 := (HT.box 0).c 7
      have r8 := (HT.box 0).c 8
      have r9 := (HT.box 0).c 9
      have r10 := (HT.box 0).c 10
      have r11 := (HT.box 0).c 11
      have g0 := (HT.box 0).f 0
      have g1 := (HT.box 0).f 1
      have g2 := (HT.box 0).f 2
      have g3 := (HT.box 0).f 3
      have g4 := (HT.box 0).f 4
      have g5 := (HT.box 0).f 5
      have g6 := (HT.box 0).f 6
      have g7 := (HT.box 0).f 7
      have g8 := (HT.box 0).f 8
      have g9 := (HT.box 0).f 9
      have g10 := (HT.box 0).f 10
      have g11 := (HT.box 0).f 11
      have HW := HT.below
      clear HT
      cases b
      all_goals
        go_wp2_with fail
        exact bodyPost_ret (v := .tuple #[tr 0 0 0 0 0 0 0 0 0 0 0 0, .bool false]) (by simp [results, Tryd.results7, go_sem, r0, r1, r2, r3, r4, r5, r6, r7, r8, r9, r10, r11]) rfl ⟨.inr ⟨rfl, HN0.out⟩, bset_far12 HW (by omega)⟩
    · exact absurd (g1 rfl) (vec_empty _ _ _)
  · have hk : k < s.size := by
      have := (List.getElem?_eq_some_iff.1 (Lib.indexByte_some h).1).1
      rw [size_list s]; exact this
    have HI := Lib.hid h
    have HKS := Lib.hid hk
    obtain ⟨f, hf⟩ : ∃ f, f = s.extract 0 k := ⟨_, rfl⟩
    obtain ⟨r, hr⟩ : ∃ r, r = s.extract (k + 1) s.size := ⟨_, rfl⟩
    have hsf : f.size ≤ 1048576 := by rw [hf]; simp only [ByteArray.size_extract]; omega
    have hsr : r.size ≤ 1048576 := by rw [hr]; simp only [ByteArray.size_extract]; omega
    have HF := Lib.hid hf
    have HR := Lib.hid hr
    go_enter Tryd.func7, Tryd.ntmps7
    go_wp2_with fail
    refine (scut_hit s _ (by omega) k hk h).mono ?_
    rintro e w1 ⟨rfl, hb1⟩
    rw [← hf, ← hr]
    have HT := HT.later hb1
    clear hb1 h hk hf hr
    go_wp2_with fail
    refine (parses_any f _ hsf (HP.out.later HT.below) (HE.out.later HT.below)).mono ?_
    rintro e w2 ⟨b, xs, A, c, rfl, ho, h1, h2, hl, hb2⟩
    have HT := HT.later hb2
    have HO := Lib.hid ho
    have H1 := Lib.hid h1
    have H2 := Lib.hid h2
    clear hb2 ho h1 h2 hl
    go_wp2_with fail
    refine (parseVec_any r _ hsr (HP.out.later HT.below) (HE.out.later HT.below)).mono ?_
    rintro e w3 ⟨b2, x, y, z, rfl, g1, g2, hb3⟩
    have G1 := Lib.hid g1
    have G2 := Lib.hid g2
    have HZ2 := Lib.hid (HT.box 0).lt
    have HT3 := (HT.later hb3).new #[.int .i64 x, .int .i64 y, .int .i64 z] 24
    have HB3 := Lib.hid hb3
    clear hb3 g1 g2 HT hsf hsr
    have HT := HT3
    clear HT3
    cases b
    · have HNO : Hid (∀ ms p q r, ¬ TrOf s ms p q r) := Lib.hid (fun ms p q r' ⟨k', _, hk', hn, _⟩ => by
        obtain rfl : k' = k := by have := HI.out; omega
        rw [← HF.out] at hn
        exact (H2.out rfl).2 _ hn)
      have r0 := (HT.box 1).c 0
      have r1 := (HT.box 1).c 1
      have r2 := (HT.box 1).c 2
      have r3 := (HT.box 1).c 3
      have r4 := (HT.box 1).c 4
      have r5 := (HT.box 1).c 5
      have r6 := (HT.box 1).c 6
      have r7 := (HT.box 1).c 7
      have r8 := (HT.box 1).c 8
      have r9 := (HT.box 1).c 9
      have r10 := (HT.box 1).c 10
      have r11 := (HT.box 1).c 11
      have g0 := (HT.box 1).f 0
      have g1 := (HT.box 1).f 1
      have g2 := (HT.box 1).f 2
      have g3 := (HT.box 1).f 3
      have g4 := (HT.box 1).f 4
      have g5 := (HT.box 1).f 5
      have g6 := (HT.box 1).f 6
      have g7 := (HT.box 1).f 7
      have g8 := (HT.box 1).f 8
      have g9 := (HT.box 1).f 9
      have g10 := (HT.box 1).f 10
      have g11 := (HT.box 1).f 11
      have HW := HT.below
      clear HT
      clear HO H1 H2 G1 G2 HB3 HI HKS HF HR
      go_wp2_with fail
      exact bodyPost_ret (v := .tuple #[tr 0 0 0 0 0 0 0 0 0 0 0 0, .bool false]) (by simp [results, Tryd.results7, go_sem, r0, r1, r2, r3, r4, r5, r6, r7, r8, r9, r10, r11]) rfl ⟨.inr ⟨rfl, HNO.out⟩, bset_far12 HW (by omega)⟩
    · cases b2
      · have HNO : Hid (∀ ms p q r, ¬ TrOf s ms p q r) := Lib.hid (fun ms p q r' ⟨k', _, hk', _, _, _, hv⟩ => by
          obtain rfl : k' = k := by have := HI.out; omega
          rw [← HR.out] at hv
          exact (G2.out rfl).2 _ _ _ hv)
        have r0 := (HT.box 1).c 0
        have r1 := (HT.box 1).c 1
        have r2 := (HT.box 1).c 2
        have r3 := (HT.box 1).c 3
        have r4 := (HT.box 1).c 4
        have r5 := (HT.box 1).c 5
        have r6 := (HT.box 1).c 6
        have r7 := (HT.box 1).c 7
        have r8 := (HT.box 1).c 8
        have r9 := (HT.box 1).c 9
        have r10 := (HT.box 1).c 10
        have r11 := (HT.box 1).c 11
        have g0 := (HT.box 1).f 0
        have g1 := (HT.box 1).f 1
        have g2 := (HT.box 1).f 2
        have g3 := (HT.box 1).f 3
        have g4 := (HT.box 1).f 4
        have g5 := (HT.box 1).f 5
        have g6 := (HT.box 1).f 6
        have g7 := (HT.box 1).f 7
        have g8 := (HT.box 1).f 8
        have g9 := (HT.box 1).f 9
        have g10 := (HT.box 1).f 10
        have g11 := (HT.box 1).f 11
        have HW := HT.below
        clear HT
        clear HO H1 H2 G1 G2 HB3 HI HKS HF HR
        go_wp2_with fail
        exact bodyPost_ret (v := .tuple #[tr 0 0 0 0 0 0 0 0 0 0 0 0, .bool false]) (by simp [results, Tryd.results7, go_sem, r0, r1, r2, r3, r4, r5, r6, r7, r8, r9, r10, r11]) rfl ⟨.inr ⟨rfl, HNO.out⟩, bset_far12 HW (by omega)⟩
      · by_cases hlen : xs.length = 9
        · obtain ⟨a0, a1, a2, a3, a4, a5, a6, a7, a8, rfl⟩ := list9 hlen
          obtain ⟨g, o, rfl, hgl, hc⟩ := (Row.of_own HO.out : Row I64 w2 w2.heap.size A [a0, a1, a2, a3, a4, a5, a6, a7, a8]) (by simp)
          have hn := H1.out rfl
          have hv := G1.out rfl
          have hz2 := HZ2.out
          have hz3 := HB3.out.size
          have K1 : ∀ p : Addr, p.block < w2.heap.size → (w3.alloc (.cells #[.int .i64 x, .int .i64 y, .int .i64 z] 24)).cell? p = w2.cell? p := fun p hp => (World.cell?_alloc_lt w3 _ p (by omega)).trans (HB3.out.cell hp)
          have RG : ∀ W : World, (∀ p : Addr, p.block < w2.heap.size → W.cell? p = w2.cell? p) → ∀ j v, (ints [a0, a1, a2, a3, a4, a5, a6, a7, a8])[j]? = some v → W.cell? ((⟨g, o, none⟩ : Addr).add j) = some v := fun W hW j v hj => by
            rw [Addr.add_mid, hW _ hgl]
            obtain ⟨hj1, hj2⟩ := List.getElem?_eq_some_iff.1 hj
            have hj3 : j < ([a0, a1, a2, a3, a4, a5, a6, a7, a8] : List Int).length := by simpa using hj1
            rw [hc j hj3, ← hj2, List.getElem_map]
          rw [show ([a0, a1, a2, a3, a4, a5, a6, a7, a8] : List Int).length = 9 from rfl]
          have HN := Lib.hid hn
          have HV := Lib.hid hv
          have hq : w.heap.size < w3.heap.size ∧ w2.heap.size ≤ w3.heap.size := by omega
          have HQ := Lib.hid hq
          have HRG := Lib.hid RG
          clear HO H1 H2 G1 G2 HB3 HZ2 hlen hc hn hv hz2 hz3 hq RG
          go_upto_region 6 with fail
          have hq := HQ.out
          generalize w3.alloc _ = W1 at HT K1 ⊢
          generalize w3.heap.size = k1 at HT hq ⊢
          have hk1 := (HT.box 0).lt
          have K2 : ∀ p : Addr, p.block < w2.heap.size → (W1.alloc (.cells #[.int .i64 0, .int .i64 0, .int .i64 0, .int .i64 0, .int .i64 0, .int .i64 0, .int .i64 0, .int .i64 0, .int .i64 0, .int .i64 x, .int .i64 y, .int .i64 z] 26)).cell? p = w2.cell? p := fun p hp => (World.cell?_alloc_lt W1 _ p (by omega)).trans (K1 p hp)
          have HQ2 := Lib.hid (And.intro hq hk1)
          have HK2 := Lib.hid K2
          clear HQ hq hk1 K1 K2
          have d0 := (HT.box 0).c 0
          have d1 := (HT.box 0).c 1
          have d2 := (HT.box 0).c 2
          go_upto_region 7 with fail
          have HT := HT.new #[.int .i64 0, .int .i64 0, .int .i64 0, .int .i64 0, .int .i64 0, .int .i64 0, .int .i64 0, .int .i64 0, .int .i64 0, .int .i64 x, .int .i64 y, .int .i64 z] 26
          have K2 := HK2.out
          obtain ⟨hq, hk1⟩ := HQ2.out
          clear d0 d1 d2 HK2 HQ2
          generalize W1.alloc _ = W2 at HT K2 ⊢
          generalize W1.heap.size = k2 at HT hk1 ⊢
          have hm : ∀ j, j < 9 → W2.cell? ⟨k2, 0 + j, none⟩ = some ([.int .i64 0, .int .i64 0, .int .i64 0, .int .i64 0, .int .i64 0, .int .i64 0, .int .i64 0, .int .i64 0, .int .i64 0, .int .i64 x, .int .i64 y, .int .i64 z].getD j (.int .i64 0)) ∧ W2.frozen? ⟨k2, 0 + j, none⟩ = false := fun j hj => by
            rw [Nat.zero_add]
            exact (HT.box 0) j _ (by rw [List.getD, List.getElem?_eq_getElem (by simp; omega)]; rfl)
          have hcp : ∀ ty, (Builtin.copy_ #[58, 58] ty #[.slice (some ⟨k2, 0, none⟩) 9 9, .slice (some ⟨g, o, none⟩) 9 c]).run Tryd.prog W2 = .ok (goInt 9) (W2.setCells k2 0 (ints [a0, a1, a2, a3, a4, a5, a6, a7, a8])) := fun ty =>
            run_copy_cells W2 58 58 ty 3 k2 0 9 9 ⟨g, o, none⟩ 9 c (ints [a0, a1, a2, a3, a4, a5, a6, a7, a8]) Tryd.underlying58 (by kernel_rfl) rfl (HRG.out W2 K2)
              (fun j hj => by rw [(hm j hj).1]; rfl) (fun j hj => (hm j hj).2) (by intro v hv; simp at hv; rcases hv with rfl | rfl | rfl | rfl | rfl | rfl | rfl | rfl | rfl <;> rfl)
          have HP : Held w (W2.setCells k2 0 (ints [a0, a1, a2, a3, a4, a5, a6, a7, a8])) ((k2, [.int .i64 a0, .int .i64 a1, .int .i64 a2, .int .i64 a3, .int .i64 a4, .int .i64 a5, .int .i64 a6, .int .i64 a7, .int .i64 a8, .int .i64 x, .int .i64 y, .int .i64 z]) :: [(k1, [.int .i64 x, .int .i64 y, .int .i64 z]), (w.heap.size, [.int .i64 0, .int .i64 0, .int .i64 0, .int .i64 0, .int .i64 0, .int .i64 0, .int .i64 0, .int .i64 0, .int .i64 0, .int .i64 0, .int .i64 0, .int .i64 0])]) := HT.putM (by omega) (by simp <;> omega) (.int .i64 a0) (.int .i64 a1) (.int .i64 a2) (.int .i64 a3) (.int .i64 a4) (.int .i64 a5) (.int .i64 a6) (.int .i64 a7) (.int .i64 a8)
          obtain ⟨W3, hW3⟩ : ∃ W, W = W2.setCells k2 0 (ints [a0, a1, a2, a3, a4, a5, a6, a7, a8]) := ⟨_, rfl⟩
          rw [← hW3] at hcp HP
          clear HT K2 HRG hm hW3
          have HH := Lib.hid HP
          clear HP hk1 hq
          go_upto_region 8 with fail
          have HT := HH.out
          clear HH hcp
          have c0 := (HT.box 0).c 0
          have c1 := (HT.box 0).c 1
          have c2 := (HT.box 0).c 2
          have c3 := (HT.box 0).c 3
          have c4 := (HT.box 0).c 4
          have c5 := (HT.box 0).c 5
          have c6 := (HT.box 0).c 6
          have c7 := (HT.box 0).c 7
          have c8 := (HT.box 0).c 8
          have c9 := (HT.box 0).c 9
          have c10 := (HT.box 0).c 10
          have c11 := (HT.box 0).c 11
          go_wp2_with fail
          refine (isValidTransform_any _ _ _ _ _ _ _ _ _ _ _ _ _).mono ?_
          rintro e w5 ⟨rfl, hb5⟩
          have HT := HT.later hb5
          clear hb5 c0 c1 c2 c3 c4 c5 c6 c7 c8 c9 c10 c11
          rcases h0 : okT [a0, a1, a2, a3, a4, a5, a6, a7, a8] x y z with _ | _
          · have HNO : Hid (∀ ms p q r, ¬ TrOf s ms p q r) := Lib.hid (fun ms p q r' ⟨k', _, hk', hn', _, hm', hv'⟩ => by
              obtain rfl : k' = k := by have := HI.out; omega
              rw [← HF.out] at hn'
              rw [← HR.out] at hv'
              obtain rfl := nums_inj HN.out hn'
              obtain ⟨rfl, rfl, rfl⟩ := vecOf_inj HV.out hv'
              unfold okT at h0
              rw [hm', hv'.2] at h0
              cases h0)
            clear HN HV HI HKS HF HR h0
            have r0 := (HT.box 2).c 0
            have r1 := (HT.box 2).c 1
            have r2 := (HT.box 2).c 2
            have r3 := (HT.box 2).c 3
            have r4 := (HT.box 2).c 4
            have r5 := (HT.box 2).c 5
            have r6 := (HT.box 2).c 6
            have r7 := (HT.box 2).c 7
            have r8 := (HT.box 2).c 8
            have r9 := (HT.box 2).c 9
            have r10 := (HT.box 2).c 10
            have r11 := (HT.box 2).c 11
            have g0 := (HT.box 2).f 0
            have g1 := (HT.box 2).f 1
            have g2 := (HT.box 2).f 2
            have g3 := (HT.box 2).f 3
            have g4 := (HT.box 2).f 4
            have g5 := (HT.box 2).f 5
            have g6 := (HT.box 2).f 6
            have g7 := (HT.box 2).f 7
            have g8 := (HT.box 2).f 8
            have g9 := (HT.box 2).f 9
            have g10 := (HT.box 2).f 10
            have g11 := (HT.box 2).f 11
            have HW := HT.below
            clear HT
            go_wp2_with fail
            exact bodyPost_ret (v := .tuple #[tr 0 0 0 0 0 0 0 0 0 0 0 0, .bool false]) (by simp [results, Tryd.results7, go_sem, r0, r1, r2, r3, r4, r5, r6, r7, r8, r9, r10, r11]) rfl ⟨.inr ⟨rfl, HNO.out⟩, bset_far12 HW (by omega)⟩
          · have HY : Hid (TrOf s [a0, a1, a2, a3, a4, a5, a6, a7, a8] x y z) := Lib.hid ⟨k, HKS.out, HI.out, by rw [← HF.out]; exact HN.out, rfl, okT_m h0, by rw [← HR.out]; exact HV.out⟩
            clear HN HV HI HKS HF HR h0
            have c0 := (HT.box 0).c 0
            have c1 := (HT.box 0).c 1
            have c2 := (HT.box 0).c 2
            have c3 := (HT.box 0).c 3
            have c4 := (HT.box 0).c 4
            have c5 := (HT.box 0).c 5
            have c6 := (HT.box 0).c 6
            have c7 := (HT.box 0).c 7
            have c8 := (HT.box 0).c 8
            have c9 := (HT.box 0).c 9
            have c10 := (HT.box 0).c 10
            have c11 := (HT.box 0).c 11
            have r0 := (HT.box 2).c 0
            have r1 := (HT.box 2).c 1
            have r2 := (HT.box 2).c 2
            have r3 := (HT.box 2).c 3
            have r4 := (HT.box 2).c 4
            have r5 := (HT.box 2).c 5
            have r6 := (HT.box 2).c 6
            have r7 := (HT.box 2).c 7
            have r8 := (HT.box 2).c 8
            have r9 := (HT.box 2).c 9
            have r10 := (HT.box 2).c 10
            have r11 := (HT.box 2).c 11
            have g0 := (HT.box 2).f 0
            have g1 := (HT.box 2).f 1
            have g2 := (HT.box 2).f 2
            have g3 := (HT.box 2).f 3
            have g4 := (HT.box 2).f 4
            have g5 := (HT.box 2).f 5
            have g6 := (HT.box 2).f 6
            have g7 := (HT.box 2).f 7
            have g8 := (HT.box 2).f 8
            have g9 := (HT.box 2).f 9
            have g10 := (HT.box 2).f 10
            have g11 := (HT.box 2).f 11
            have HW := HT.below
            clear HT
            go_wp2_with fail
            exact bodyPost_ret (v := .tuple #[tr a0 a1 a2 a3 a4 a5 a6 a7 a8 x y z, .bool true]) (by simp [results, Tryd.results7, go_sem, r0, r1, r2, r3, r4, r5, r6, r7, r8, r9, r10, r11]) rfl ⟨.inl ⟨a0, a1, a2, a3, a4, a5, a6, a7, a8, x, y, z, rfl, HY.out⟩, bset_far12 HW (by omega)⟩
        · have hne : ((xs.length : Int) == 9) = false := by simp only [beq_eq_false_iff_ne, ne_eq]; omega
          have hne' : ((xs.length : Int) != 9) = true := by rw [bne, hne]; rfl
          have HNO : Hid (∀ ms p q r, ¬ TrOf s ms p q r) := Lib.hid (fun ms p q r' ⟨k', _, hk', hn, h9, _⟩ => by
            obtain rfl : k' = k := by have := HI.out; omega
            rw [← HF.out] at hn
            exact hlen (by rw [nums_inj (H1.out rfl) hn]; exact h9))
          have r0 := (HT.box 1).c 0
          have r1 := (HT.box 1).c 1
          have r2 := (HT.box 1).c 2
          have r3 := (HT.box 1).c 3
          have r4 := (HT.box 1).c 4
          have r5 := (HT.box 1).c 5
          have r6 := (HT.box 1).c 6
          have r7 := (HT.box 1).c 7
          have r8 := (HT.box 1).c 8
          have r9 := (HT.box 1).c 9
          have r10 := (HT.box 1).c 10
          have r11 := (HT.box 1).c 11
          have g0 := (HT.box 1).f 0
          have g1 := (HT.box 1).f 1
          have g2 := (HT.box 1).f 2
          have g3 := (HT.box 1).f 3
          have g4 := (HT.box 1).f 4
          have g5 := (HT.box 1).f 5
          have g6 := (HT.box 1).f 6
          have g7 := (HT.box 1).f 7
          have g8 := (HT.box 1).f 8
          have g9 := (HT.box 1).f 9
          have g10 := (HT.box 1).f 10
          have g11 := (HT.box 1).f 11
          have HW := HT.below
          clear HT
          clear HO H1 H2 G1 G2 HB3 HI HKS HF HR hlen
          go_wp2_with fail
          exact bodyPost_ret (v := .tuple #[tr 0 0 0 0 0 0 0 0 0 0 0 0, .bool false]) (by simp [results, Tryd.results7, go_sem, r0, r1, r2, r3, r4, r5, r6, r7, r8, r9, r10, r11]) rfl ⟨.inr ⟨rfl, HNO.out⟩, bset_far12 HW (by omega)⟩
end Go.Proofs.YtjflkapdnnecjaaDoor
