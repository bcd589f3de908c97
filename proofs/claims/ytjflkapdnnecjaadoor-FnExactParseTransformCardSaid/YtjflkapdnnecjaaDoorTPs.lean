/- Contract of ParseTransform: the model. -/
import Derived.Test.YtjflkapdnnecjaaDoorProg
import Derived.Test.YtjflkapdnnecjaaDoorMem
import Derived.Test.YtjflkapdnnecjaaDoorStrS
import Derived.Test.YtjflkapdnnecjaaDoorNumP
import Derived.Test.YtjflkapdnnecjaaDoorFmt
import Derived.Test.YtjflkapdnnecjaaDoorInts
import Derived.Test.YtjflkapdnnecjaaDoorIntS
import Derived.Test.YtjflkapdnnecjaaDoorSplit
import Derived.Test.YtjflkapdnnecjaaDoorParse
import Derived.Test.YtjflkapdnnecjaaDoorFmts
import Derived.Test.YtjflkapdnnecjaaDoorParses
import Derived.Test.YtjflkapdnnecjaaDoorRound
import Derived.Test.YtjflkapdnnecjaaDoorNumsRound
import Derived.Test.YtjflkapdnnecjaaDoorVbox
import Derived.Test.YtjflkapdnnecjaaDoorVec
import Derived.Test.YtjflkapdnnecjaaDoorVlaw
import Derived.Test.YtjflkapdnnecjaaDoorFlat
import Derived.Test.YtjflkapdnnecjaaDoorVFmt
import Derived.Test.YtjflkapdnnecjaaDoorVPar
import Derived.Test.YtjflkapdnnecjaaDoorHeld
import Derived.Test.YtjflkapdnnecjaaDoorArr
import Derived.Test.YtjflkapdnnecjaaDoorTr
import Derived.Test.YtjflkapdnnecjaaDoorTMat
import Derived.Test.YtjflkapdnnecjaaDoorTFmt
import Derived.Test.YtjflkapdnnecjaaDoorCut
import Derived.Test.YtjflkapdnnecjaaDoorTOf
import Derived.Test.YtjflkapdnnecjaaDoorTPi
import Derived.WalkKit
import Derived.WalkSpells
import Derived.WalkLawsBesides
import Derived.Lib.Hide
import Derived.Deep.RegionHeld3
import Derived.Deep.QuietTactic
import Derived.BigQuiet
import Derived.Handy
import Derived.Deep.DeepCutAuto
namespace Go.Proofs.YtjflkapdnnecjaaDoor
open Go.RowKit

theorem Held.laterB {w W W' : World} {bs : List (Nat × List Value)} {B : Nat} (h : Held w W bs) (hb : Below B W W') (hB : w.heap.size ≤ B) (hk : ∀ p ∈ bs, p.1 < B) : Held w W' bs :=
  ⟨h.1.trans (hb.mono hB), fun i k vs e => (h.2 i k vs e).keep fun _ => hb.block k (hk (k, vs) (List.mem_of_getElem? e))⟩
/-- the nine coefficients when the first k of xs have been read -/
def fillM (xs : List Int) (k : Nat) : List Int := (List.range 9).map fun i => if i < k then xs.getD i 0 else 0
theorem fillM_len (xs : List Int) (k : Nat) : (fillM xs k).length = 9 := by simp [fillM]
theorem fillM_zero (xs : List Int) : fillM xs 0 = [0, 0, 0, 0, 0, 0, 0, 0, 0] := by simp [fillM, List.range, List.range.loop]
theorem fillM_at (xs : List Int) (k i : Nat) (h : i < 9) : (fillM xs k)[i]'(by rw [fillM_len]; exact h) = if i < k then xs.getD i 0 else 0 := by simp [fillM]
theorem fillM_step {xs : List Int} {k : Nat} (hk : k < xs.length) : (fillM xs k).set k xs[k] = fillM xs (k + 1) := by
  refine List.ext_getElem (by simp [fillM_len]) (fun i h1 h2 => ?_)
  have hi : i < 9 := by rw [fillM_len] at h2; exact h2
  rw [List.getElem_set, fillM_at _ _ _ hi, fillM_at _ _ _ hi]
  by_cases e : k = i
  · subst e
    rw [if_pos rfl, if_pos (by omega), List.getD, List.getElem?_eq_getElem hk]; rfl
  · rw [if_neg e]
    by_cases hlt : i < k
    · rw [if_pos hlt, if_pos (by omega)]
    · rw [if_neg hlt, if_neg (by omega)]
theorem fillM_same {xs : List Int} {k : Nat} (h9 : 9 ≤ k) : fillM xs k = fillM xs (k + 1) := by
  refine List.ext_getElem (by simp [fillM_len]) (fun i h1 h2 => ?_)
  have hi : i < 9 := by rw [fillM_len] at h2; exact h2
  rw [fillM_at _ _ _ hi, fillM_at _ _ _ hi, if_pos (by omega), if_pos (by omega)]
theorem fillM_all {xs : List Int} (h : xs.length = 9) : fillM xs xs.length = xs := by
  refine List.ext_getElem (by rw [fillM_len, h]) (fun i h1 h2 => ?_)
  have hi : i < 9 := by omega
  rw [fillM_at _ _ _ hi, if_pos h2, List.getD, List.getElem?_eq_getElem h2]; rfl
theorem numsOf_fmts {s : ByteArray} {xs : List Int} (h : NumsOf s xs) : s = fmtsP xs := (fmts_of_nums h).symm
/-- the text of a transform splits into its two parts -/
theorem split_of_tr {s : ByteArray} {ms : List Int} {x y z : Int} (h : TrOf s ms x y z) : ∃ f g, splitP s semi = [f, g] ∧ NumsOf f ms ∧ VecOf g x y z := by
  obtain ⟨k, hk, hi, hn, _, hm, hv⟩ := h
  refine ⟨s.extract 0 k, s.extract (k + 1) s.size, ?_, hn, hv⟩
  have e1 : fmtsP ms = s.extract 0 k := fmts_of_nums hn
  have e2 : fmtsP [x, y, z] = s.extract (k + 1) s.size := fmts_of_nums hv.1
  have n1 := fmts_nosemi _ (okM_inR hm)
  have n2 := fmts_nosemi _ (okB_inR hv.2)
  rw [e1] at n1
  rw [e2] at n2
  have hp := parted hk hi
  generalize s.extract 0 k = f at hp n1
  generalize s.extract (k + 1) s.size = g at hp n2
  have hj : joinP [f, g] (oneB 59) = s := by
    apply bytes_ext
    rw [joinP_list 59 _ (by simp), ← hp, append_list, append_list, show semi.data.toList = [59] from rfl]
    simp [joinL]
  have := split_of_join 59 [f, g] (by simp) (by
    intro p hp b hb
    simp only [List.mem_cons, List.not_mem_nil, or_false] at hp
    rcases hp with rfl | rfl
    · exact n1 b hb
    · exact n2 b hb)
  rw [hj] at this
  exact this
theorem fmtT_ne {a0 a1 a2 a3 a4 a5 a6 a7 a8 x y z : Int} (ho : okT [a0, a1, a2, a3, a4, a5, a6, a7, a8] x y z = true) : fmtT a0 a1 a2 a3 a4 a5 a6 a7 a8 x y z ≠ ⟨#[]⟩ := fun e => by
  obtain ⟨k, hk, _⟩ := tr_of_fmt ho e
  exact absurd hk (by show ¬ k < 0; omega)

set_option maxRecDepth 100000 in
set_option maxHeartbeats 8000000 in
theorem sParseTransform_any (s : ByteArray) (w : World) (hs : s.size ≤ 1048576) :
    Calls Tryd.prog 6 #[.string s] w (TrIn s w) := by
  have HT : Held w (w.alloc (.cells #[.int .i64 0, .int .i64 0, .int .i64 0, .int .i64 0, .int .i64 0, .int .i64 0, .int .i64 0, .int .i64 0, .int .i64 0, .int .i64 0, .int .i64 0, .int .i64 0] 26)) [(w.heap.size, [.int .i64 0, .int .i64 0, .int .i64 0, .int .i64 0, .int .i64 0, .int .i64 0, .int .i64 0, .int .i64 0, .int .i64 0, .int .i64 0, .int .i64 0, .int .i64 0])] := by
    have h := (Held.nil w).new #[.int .i64 0, .int .i64 0, .int .i64 0, .int .i64 0, .int .i64 0, .int .i64 0, .int .i64 0, .int .i64 0, .int .i64 0, .int .i64 0, .int .i64 0, .int .i64 0] 26
    simpa only [World.size_alloc] using h
  have hsp := sSplitAny_any s semi (w.alloc (.cells #[.int .i64 0, .int .i64 0, .int .i64 0, .int .i64 0, .int .i64 0, .int .i64 0, .int .i64 0, .int .i64 0, .int .i64 0, .int .i64 0, .int .i64 0, .int .i64 0] 26)) hs (by decide)
  have hpl := parts_len s semi
  have hps := parts_size s semi
  have hne : 1 ≤ (splitP s semi).length := by unfold splitP; simp
  have hkey : ∀ ms p q r, TrOf s ms p q r → ∃ f g, splitP s semi = [f, g] ∧ NumsOf f ms ∧ VecOf g p q r := fun _ _ _ _ h => split_of_tr h
  unfold semi at hsp hpl hps hne hkey
  obtain ⟨ps, hpe⟩ : ∃ ps, ps = splitP s ⟨#[59]⟩ := ⟨_, rfl⟩
  rw [← hpe] at hsp hpl hps hne hkey
  have HSP := Lib.hid hsp
  have HPS := Lib.hid hps
  have HKEY := Lib.hid hkey
  clear hsp hps hpe hkey
  go_enter Tryd.func6, Tryd.ntmps6
  go_wp2_with fail
  refine HSP.out.mono ?_
  rintro e w1 ⟨Ap, cp, rfl, hop, hb1⟩
  have HO1 := Lib.hid (own_base hop (base' := w.heap.size + 1) (by simp))
  have HT := HT.later hb1
  have hs1 := hb1.size
  simp only [World.size_alloc] at hs1
  clear hb1 hop HSP
  go_wp2_with (at_builtin; refine wpList_app1 w1 rfl _ _ 56 rfl (w.heap.size + 1) 9 (.string ⟨#[]⟩) 16 Tryd.underlying56 infoStr1 rfl _ _ _ (by rfl) HO1.out _ (by rfl) (by rfl) (by unfold maxLen; omega) (by omega) hs1 ?_)
  intro v' w4 ho4 hg4
  obtain ⟨A4, c4, rfl⟩ := own_shape ho4
  have HB4 := Lib.hid ((Below.refl (w.heap.size + 1) w1).grown hg4 hs1 (own_block HO1.out))
  have HT := HT.laterB HB4.out (by omega) (by simp)
  have hs4 : w.heap.size + 1 ≤ w4.heap.size := by have := HB4.out.size; omega
  obtain ⟨qs, hqs⟩ : ∃ qs, qs = ps ++ [⟨#[]⟩] := ⟨_, rfl⟩
  have ho4' : w4.ownsRow (w.heap.size + 1) 9 1 (.slice A4 (ps.length + 1) c4) qs.length (qs.map Str) := by
    rw [hqs, List.map_append, List.length_append]; exact ho4
  have hql : ps.length + 1 = qs.length := by rw [hqs]; simp
  have hq2 : 2 ≤ qs.length := by omega
  have hqz : ∀ p ∈ qs, p.size ≤ 1048576 := fun p hp => by
    rw [hqs] at hp
    rcases List.mem_append.1 hp with hp | hp
    · exact Nat.le_trans (HPS.out p hp) hs
    · simp only [List.mem_cons, List.not_mem_nil, or_false] at hp
      subst hp; decide
  rw [hql] at ho4' ⊢
  obtain ⟨g, o, rfl, hgl, hc⟩ := (Row.of_own ho4' : Row Str w4 w4.heap.size A4 qs) (by omega)
  have c0 := hc 0 (by omega)
  have c1 := hc 1 (by omega)
  have hf1 := hqz qs[0] (List.getElem_mem _)
  have hf2 := hqz qs[1] (List.getElem_mem _)
  have hk2 : ∀ ms p q r, TrOf s ms p q r → NumsOf (qs[0]'(by omega)) ms ∧ VecOf (qs[1]'(by omega)) p q r := fun ms p q r h => by
    obtain ⟨f, g, e, h1, h2⟩ := HKEY.out ms p q r h
    subst e
    subst hqs
    exact ⟨h1, h2⟩
  obtain ⟨f, hf⟩ : ∃ f, f = qs[0]'(by omega) := ⟨_, rfl⟩
  obtain ⟨r, hr⟩ : ∃ r, r = qs[1]'(by omega) := ⟨_, rfl⟩
  rw [← hf] at c0 hf1 hk2
  rw [← hr] at c1 hf2 hk2
  have hq0 : (0 : Int) < (qs.length : Int) := by omega
  have hq1 : (1 : Int) < (qs.length : Int) := by omega
  rw [Nat.add_zero] at c0
  have HK2 := Lib.hid hk2
  have HSZ := Lib.hid (And.intro hf1 hf2)
  have HGL := Lib.hid hgl
  clear ho4 hg4 ho4' hc hk2 hqs hqz hf hr hf1 hf2 hql hq2 HKEY HPS hpl hne HO1 HB4 hgl hs1
  go_wp2_with fail
  refine (sParses_any f _ HSZ.out.1).mono ?_
  rintro e w5 ⟨b, xs, A5, c5, rfl, ho, h1, h2, hl, hb5⟩
  have HT := HT.later hb5
  have c1 := (hb5.cell (p := ⟨g, o + 1, none⟩) HGL.out).trans c1
  have hs5 := hb5.size
  have HO := Lib.hid ho
  have H1 := Lib.hid h1
  have H2 := Lib.hid h2
  have HL := Lib.hid hl
  clear hb5 ho h1 h2 hl c0
  go_wp2_with fail
  refine (sParseVec_any r _ HSZ.out.2).mono ?_
  rintro e w6 ⟨b2, x, y, z, rfl, g1, g2, hb6⟩
  have HT := (HT.later hb6).new #[.int .i64 x, .int .i64 y, .int .i64 z] 24
  have hs6 := hb6.size
  have HKEY : Hid (∀ ms p q r, TrOf s ms p q r → xs = ms ∧ xs.length = 9 ∧ p = x ∧ q = y ∧ r = z) := Lib.hid (fun ms p q r h => by
    obtain ⟨n1, n2⟩ := HK2.out ms p q r h
    have e1 : xs = ms := by
      cases b
      · exact absurd n1 ((H2.out rfl).2 _)
      · exact nums_inj (H1.out rfl) n1
    have e2 : p = x ∧ q = y ∧ r = z := by
      cases b2
      · exact absurd n2 ((g2 rfl).2 _ _ _)
      · exact vecOf_inj n2 (g1 rfl)
    obtain ⟨_, _, _, _, h9, _, _⟩ := h
    exact ⟨e1, by rw [e1]; exact h9, e2⟩)
  have RX : Hid (∀ W : World, (∀ p : Addr, p.block < w5.heap.size → W.cell? p = w5.cell? p) → Row I64 W w5.heap.size A5 xs) := Lib.hid (fun W hW => (Row.of_own HO.out : Row I64 w5 w5.heap.size A5 xs).keep hW)
  have HK6 : Hid (∀ p : Addr, p.block < w5.heap.size → (w6.alloc (.cells #[.int .i64 x, .int .i64 y, .int .i64 z] 24)).cell? p = w5.cell? p) := Lib.hid (fun p hp => (World.cell?_alloc_lt w6 _ p (by omega)).trans (hb6.cell hp))
  clear hb6 g1 g2 c1 HK2 H1 H2 HO HSZ HGL
  have hq : w.heap.size < w6.heap.size ∧ w5.heap.size ≤ w6.heap.size := by omega
  have HQ := Lib.hid hq
  clear hq hs4 hs5 hs6
  go_upto_region 4 with fail
  have hq := HQ.out
  have K1 := HK6.out
  generalize w6.alloc _ = W1 at HT K1 ⊢
  generalize w6.heap.size = k1 at HT hq ⊢
  have hk1 := (HT.box 0).lt
  have HQ2 := Lib.hid (And.intro hq hk1)
  have HK1 := Lib.hid K1
  clear HQ hq hk1 K1 HK6
  have d0 := (HT.box 0).c 0
  have d1 := (HT.box 0).c 1
  have d2 := (HT.box 0).c 2
  go_upto_region 5 with fail
  have HT := HT.new #[.int .i64 0, .int .i64 0, .int .i64 0, .int .i64 0, .int .i64 0, .int .i64 0, .int .i64 0, .int .i64 0, .int .i64 0, .int .i64 x, .int .i64 y, .int .i64 z] 26
  obtain ⟨⟨hq0, hq1⟩, hk1⟩ := HQ2.out
  have K2 : ∀ p : Addr, p.block < w5.heap.size → (W1.alloc (.cells #[.int .i64 0, .int .i64 0, .int .i64 0, .int .i64 0, .int .i64 0, .int .i64 0, .int .i64 0, .int .i64 0, .int .i64 0, .int .i64 x, .int .i64 y, .int .i64 z] 26)).cell? p = w5.cell? p := fun p hp => (World.cell?_alloc_lt W1 _ p (by omega)).trans (HK1.out p hp)
  clear d0 d1 d2 HK1 HQ2
  generalize W1.alloc _ = W2 at HT K2 ⊢
  generalize W1.heap.size = k2 at HT hk1 ⊢
  have HT0 : Held w W2 [(k2, ints (fillM xs 0 ++ [x, y, z])), (w.heap.size, [.int .i64 0, .int .i64 0, .int .i64 0, .int .i64 0, .int .i64 0, .int .i64 0, .int .i64 0, .int .i64 0, .int .i64 0, .int .i64 0, .int .i64 0, .int .i64 0])] := by
    rw [fillM_zero]
    exact HT.pick (cs := [(k2, [.int .i64 0, .int .i64 0, .int .i64 0, .int .i64 0, .int .i64 0, .int .i64 0, .int .i64 0, .int .i64 0, .int .i64 0, .int .i64 x, .int .i64 y, .int .i64 z]), (w.heap.size, [.int .i64 0, .int .i64 0, .int .i64 0, .int .i64 0, .int .i64 0, .int .i64 0, .int .i64 0, .int .i64 0, .int .i64 0, .int .i64 0, .int .i64 0, .int .i64 0])]) (by simp)
  have hq2 : w.heap.size < k2 ∧ w5.heap.size ≤ k2 := by omega
  clear HT hk1 hq0 hq1
  go_wp2
  go_loopw [34] (fun i wr => ∃ k : Nat, k ≤ xs.length ∧ i = .int .i64 k ∧ Held w wr [(k2, ints (fillM xs k ++ [x, y, z])), (w.heap.size, [.int .i64 0, .int .i64 0, .int .i64 0, .int .i64 0, .int .i64 0, .int .i64 0, .int .i64 0, .int .i64 0, .int .i64 0, .int .i64 0, .int .i64 0, .int .i64 0])] ∧ ∀ p : Addr, p.block < w5.heap.size → wr.cell? p = w5.cell? p) (fun i _ => xs.length - (intOf i).toNat)
  case atStart => exact ⟨0, Nat.zero_le _, rfl, HT0, K2⟩
  case round =>
    clear HT0 K2
    obtain ⟨k, hk, rfl, HT, K2⟩ := hrel
    have HK := Lib.hid K2
    by_cases hlt : k < xs.length
    · obtain ⟨b0, o0, rfl, hb0, hc0⟩ := (RX.out wr K2) (by omega)
      have c0 := hc0 k hlt
      have hxl : xs.length ≤ 1048577 := HL.out
      have hlt' : (k : Int) < (xs.length : Int) := by omega
      have hge' : (0 : Int) ≤ (k : Int) := by omega
      by_cases h9 : k < 9
      · have h9' : decide ((k : Int) < 9) = true := decide_eq_true (by omega)
        have he : (fillM xs k ++ [x, y, z])[k]? = some ((fillM xs k)[k]'(by rw [fillM_len]; exact h9)) := by
          rw [List.getElem?_append_left (by rw [fillM_len]; exact h9), List.getElem?_eq_getElem]
        have hst : (fillM xs k ++ [x, y, z]).set k xs[k] = fillM xs (k + 1) ++ [x, y, z] := by
          rw [List.set_append_left _ _ (by rw [fillM_len]; exact h9), fillM_step hlt]
        generalize (fillM xs k)[k]'(by rw [fillM_len]; exact h9) = u at he
        generalize xs[k] = v at c0 hst
        have d0 := (HT.box 0).int he
        have f0 := (HT.box 0).intF he
        have HP := HT.put (by omega) (by simp <;> omega) k (.int .i64 v)
        rw [ints_set, hst] at HP
        have HKP : Hid (∀ p : Addr, p.block < w5.heap.size → (wr.setCell ⟨k2, k, none⟩ (.int .i64 v)).cell? p = w5.cell? p) := Lib.hid (fun p hp => (World.cell?_setCell_other wr _ _ _ (by intro e; subst e; simp at hp; omega)).trans (K2 p hp))
        have HS := Lib.hid HP
        have hk9 : (k : Int) < 9 := by omega
        clear HT HP K2 hc0 he hst
        go_wp2
        go_roundw
        case rel => exact ⟨k + 1, by omega, by go_num, HS.out, HKP.out⟩
        case measure => simp [intOf]; omega
      · have h9' : decide ((k : Int) < 9) = false := decide_eq_false (by omega)
        have hst := fillM_same (xs := xs) (k := k) (by omega)
        rw [hst] at HT
        clear hst K2 hc0
        go_wp2
        go_roundw
        case rel => exact ⟨k + 1, by omega, by go_num, HT, HK.out⟩
        case measure => simp [intOf]; omega
    · have e : k = xs.length := by omega
      subst e
      obtain ⟨a0, a1, a2, a3, a4, a5, a6, a7, a8, hm⟩ := list9 (fillM_len xs xs.length)
      rw [hm] at HT
      have HT : Held w wr [(k2, [.int .i64 a0, .int .i64 a1, .int .i64 a2, .int .i64 a3, .int .i64 a4, .int .i64 a5, .int .i64 a6, .int .i64 a7, .int .i64 a8, .int .i64 x, .int .i64 y, .int .i64 z]), (w.heap.size, [.int .i64 0, .int .i64 0, .int .i64 0, .int .i64 0, .int .i64 0, .int .i64 0, .int .i64 0, .int .i64 0, .int .i64 0, .int .i64 0, .int .i64 0, .int .i64 0])] := HT
      have HKEY : Hid (∀ ms p q r, TrOf s ms p q r → ms = [a0, a1, a2, a3, a4, a5, a6, a7, a8] ∧ p = x ∧ q = y ∧ r = z) := Lib.hid (fun ms p q r h => by
        obtain ⟨e1, e9, e2⟩ := HKEY.out ms p q r h
        rw [fillM_all e9, e1] at hm
        exact ⟨hm, e2⟩)
      clear hm hlt hk K2 HK RX HL
      obtain ⟨fs, hfs⟩ : ∃ fs, fs = fmtT a0 a1 a2 a3 a4 a5 a6 a7 a8 x y z := ⟨_, rfl⟩
      have hF : ∀ w : World, Calls Tryd.prog 29 #[tr a0 a1 a2 a3 a4 a5 a6 a7 a8 x y z] w (fun e w' => e = .returned (.string fs) ∧ Below w.heap.size w w') := fun w => by rw [hfs]; exact sFormatTransform_any a0 a1 a2 a3 a4 a5 a6 a7 a8 x y z w
      have HF := Lib.hid hF
      clear hF
      have c0 := (HT.box 0).c 0
      have c1 := (HT.box 0).c 1
      have c2 := (HT.box 0).c 2
      have c3 := (HT.box 0).c 3
      have c4 := (HT.box 0).c 4
      have c5 := (HT.box 0).c 5
      have c6 := (HT.box 0).c 6
      have c7 := (HT.box 0).c 7
      have c8 := (HT.box 0).c 8
      have c9 := (HT.box 0).c 9
      have c10 := (HT.box 0).c 10
      have c11 := (HT.box 0).c 11
      go_wp2_with fail
      refine (HF.out _).mono ?_
      rintro e w7 ⟨rfl, hb7⟩
      have HT := HT.later hb7
      clear hb7 c0 c1 c2 c3 c4 c5 c6 c7 c8 c9 c10 c11
      rcases ho : okT [a0, a1, a2, a3, a4, a5, a6, a7, a8] x y z with _ | _
      · have hfe : fs = ⟨#[]⟩ := by rw [hfs]; exact fmt_no ho
        have HNO : Hid (∀ ms p q r, ¬ TrOf s ms p q r) := Lib.hid (fun ms p q r h => by
          obtain ⟨e1, e2, e3, e4⟩ := HKEY.out ms p q r h
          subst e1; subst e2; subst e3; subst e4
          obtain ⟨_, _, _, _, _, hm', hv'⟩ := h
          unfold okT at ho
          rw [hm', hv'.2] at ho
          cases ho)
        subst hfe
        clear HKEY hfs ho HF
        have r0 := (HT.box 1).c 0
        have r1 := (HT.box 1).c 1
        have r2 := (HT.box 1).c 2
        have r3 := (HT.box 1).c 3
        have r4 := (HT.box 1).c 4
        have r5 := (HT.box 1).c 5
        have r6 := (HT.box 1).c 6
        have r7 := (HT.box 1).c 7
        have r8 := (HT.box 1).c 8
        have r9 := (HT.box 1).c 9
        have r10 := (HT.box 1).c 10
        have r11 := (HT.box 1).c 11
        have g0 := (HT.box 1).f 0
        have g1 := (HT.box 1).f 1
        have g2 := (HT.box 1).f 2
        have g3 := (HT.box 1).f 3
        have g4 := (HT.box 1).f 4
        have g5 := (HT.box 1).f 5
        have g6 := (HT.box 1).f 6
        have g7 := (HT.box 1).f 7
        have g8 := (HT.box 1).f 8
        have g9 := (HT.box 1).f 9
        have g10 := (HT.box 1).f 10
        have g11 := (HT.box 1).f 11
        have HW := HT.below
        clear HT
        go_wp2_with fail
        exact bodyPost_ret (v := .tuple #[tr 0 0 0 0 0 0 0 0 0 0 0 0, .bool false]) (by simp [results, Tryd.results6, go_sem, r0, r1, r2, r3, r4, r5, r6, r7, r8, r9, r10, r11]) rfl ⟨.inr ⟨rfl, HNO.out⟩, bset_far12 HW (by omega)⟩
      · have hne : fs ≠ ⟨#[]⟩ := by rw [hfs]; exact fmtT_ne ho
        have hbe : (fs.toList == []) = false := by
          have := str_beq fs ⟨#[]⟩
          rw [decide_eq_false hne, str_toList ⟨#[]⟩] at this
          exact this
        have c0 := (HT.box 0).c 0
        have c1 := (HT.box 0).c 1
        have c2 := (HT.box 0).c 2
        have c3 := (HT.box 0).c 3
        have c4 := (HT.box 0).c 4
        have c5 := (HT.box 0).c 5
        have c6 := (HT.box 0).c 6
        have c7 := (HT.box 0).c 7
        have c8 := (HT.box 0).c 8
        have c9 := (HT.box 0).c 9
        have c10 := (HT.box 0).c 10
        have c11 := (HT.box 0).c 11
        by_cases hfq : fs = s
        · have HY : Hid (TrOf s [a0, a1, a2, a3, a4, a5, a6, a7, a8] x y z) := Lib.hid (tr_of_fmt ho (hfs.symm.trans hfq))
          have hbf : (fs.toList == s.toList) = true := by rw [str_beq]; exact decide_eq_true hfq
          have hbf' : (fs.toList != s.toList) = false := by rw [bne, hbf]; rfl
          clear hfs ho hfq hne HKEY
          go_wp2_with fail
          refine (HF.out _).mono ?_
          rintro e w8 ⟨rfl, hb8⟩
          have HT := HT.later hb8
          clear hb8 c0 c1 c2 c3 c4 c5 c6 c7 c8 c9 c10 c11 HF
          have c0 := (HT.box 0).c 0
          have c1 := (HT.box 0).c 1
          have c2 := (HT.box 0).c 2
          have c3 := (HT.box 0).c 3
          have c4 := (HT.box 0).c 4
          have c5 := (HT.box 0).c 5
          have c6 := (HT.box 0).c 6
          have c7 := (HT.box 0).c 7
          have c8 := (HT.box 0).c 8
          have c9 := (HT.box 0).c 9
          have c10 := (HT.box 0).c 10
          have c11 := (HT.box 0).c 11
          have r0 := (HT.box 1).c 0
          have r1 := (HT.box 1).c 1
          have r2 := (HT.box 1).c 2
          have r3 := (HT.box 1).c 3
          have r4 := (HT.box 1).c 4
          have r5 := (HT.box 1).c 5
          have r6 := (HT.box 1).c 6
          have r7 := (HT.box 1).c 7
          have r8 := (HT.box 1).c 8
          have r9 := (HT.box 1).c 9
          have r10 := (HT.box 1).c 10
          have r11 := (HT.box 1).c 11
          have g0 := (HT.box 1).f 0
          have g1 := (HT.box 1).f 1
          have g2 := (HT.box 1).f 2
          have g3 := (HT.box 1).f 3
          have g4 := (HT.box 1).f 4
          have g5 := (HT.box 1).f 5
          have g6 := (HT.box 1).f 6
          have g7 := (HT.box 1).f 7
          have g8 := (HT.box 1).f 8
          have g9 := (HT.box 1).f 9
          have g10 := (HT.box 1).f 10
          have g11 := (HT.box 1).f 11
          have HW := HT.below
          clear HT
          go_wp2_with fail
          exact bodyPost_ret (v := .tuple #[tr a0 a1 a2 a3 a4 a5 a6 a7 a8 x y z, .bool true]) (by simp [results, Tryd.results6, go_sem, r0, r1, r2, r3, r4, r5, r6, r7, r8, r9, r10, r11]) rfl ⟨.inl ⟨a0, a1, a2, a3, a4, a5, a6, a7, a8, x, y, z, rfl, HY.out⟩, bset_far12 HW (by omega)⟩
        · have HNO : Hid (∀ ms p q r, ¬ TrOf s ms p q r) := Lib.hid (fun ms p q r h => by
            obtain ⟨e1, e2, e3, e4⟩ := HKEY.out ms p q r h
            subst e1; subst e2; subst e3; subst e4
            exact hfq (hfs.trans (fmt_of_tr h)))
          have hbf : (fs.toList == s.toList) = false := by rw [str_beq]; exact decide_eq_false hfq
          have hbf' : (fs.toList != s.toList) = true := by rw [bne, hbf]; rfl
          clear hfs ho hfq hne HKEY
          go_wp2_with fail
          refine (HF.out _).mono ?_
          rintro e w8 ⟨rfl, hb8⟩
          have HT := HT.later hb8
          clear hb8 c0 c1 c2 c3 c4 c5 c6 c7 c8 c9 c10 c11 HF
          have r0 := (HT.box 1).c 0
          have r1 := (HT.box 1).c 1
          have r2 := (HT.box 1).c 2
          have r3 := (HT.box 1).c 3
          have r4 := (HT.box 1).c 4
          have r5 := (HT.box 1).c 5
          have r6 := (HT.box 1).c 6
          have r7 := (HT.box 1).c 7
          have r8 := (HT.box 1).c 8
          have r9 := (HT.box 1).c 9
          have r10 := (HT.box 1).c 10
          have r11 := (HT.box 1).c 11
          have g0 := (HT.box 1).f 0
          have g1 := (HT.box 1).f 1
          have g2 := (HT.box 1).f 2
          have g3 := (HT.box 1).f 3
          have g4 := (HT.box 1).f 4
          have g5 := (HT.box 1).f 5
          have g6 := (HT.box 1).f 6
          have g7 := (HT.box 1).f 7
          have g8 := (HT.box 1).f 8
          have g9 := (HT.box 1).f 9
          have g10 := (HT.box 1).f 10
          have g11 := (HT.box 1).f 11
          have HW := HT.below
          clear HT
          go_wp2_with fail
          exact bodyPost_ret (v := .tuple #[tr 0 0 0 0 0 0 0 0 0 0 0 0, .bool false]) (by simp [results, Tryd.results6, go_sem, r0, r1, r2, r3, r4, r5, r6, r7, r8, r9, r10, r11]) rfl ⟨.inr ⟨rfl, HNO.out⟩, bset_far12 HW (by omega)⟩
end Go.Proofs.YtjflkapdnnecjaaDoor
