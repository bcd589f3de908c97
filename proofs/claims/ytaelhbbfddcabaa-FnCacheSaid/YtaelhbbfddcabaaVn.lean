/- Textures of the program: new textures, averages of two rows. -/
import Derived.Test.YtaelhbbfddcabaaProg
import Derived.Test.YtaelhbbfddcabaaInts
import Derived.Test.YtaelhbbfddcabaaVbox
import Derived.Test.YtaelhbbfddcabaaHeld
import Derived.Test.YtaelhbbfddcabaaMem
import Derived.Test.YtaelhbbfddcabaaFlat
import Derived.Test.YtaelhbbfddcabaaRowC
import Derived.Test.YtaelhbbfddcabaaKS
import Derived.Test.YtaelhbbfddcabaaStrS
import Derived.Test.YtaelhbbfddcabaaIntS
import Derived.Test.YtaelhbbfddcabaaSS
import Derived.Test.YtaelhbbfddcabaaVi
import Derived.Test.YtaelhbbfddcabaaVa
import Derived.Test.YtaelhbbfddcabaaVb
import Derived.Test.YtaelhbbfddcabaaVc
import Derived.Test.YtaelhbbfddcabaaVd
import Derived.Test.YtaelhbbfddcabaaVe
import Derived.Test.YtaelhbbfddcabaaVl
import Derived.Test.YtaelhbbfddcabaaVm
import Derived.WalkKit
import Derived.WalkSpells
import Derived.WalkLawsBesides
import Derived.Lib.Hide
import Derived.Deep.RegionHeld3
import Derived.Deep.QuietTactic
import Derived.BigQuiet
import Derived.Handy
import Derived.Deep.DeepCutAuto
import Derived.OwnWalk
import Derived.Laws.CopyOwn
import Derived.Deep.OwnRows
namespace Go.Proofs.Ytaelhbbfddcabaa
open Go.RowKit

/-- a new texture whose texels lie in block g -/
def NewTx (L : Int) (w : World) (e : Ending) (w' : World) : Prop :=
  ∃ g, e = .returned (txv L (some ⟨g, 0, none⟩) (sd L * sd L) (sd L * sd L)) ∧ w.heap.size ≤ g ∧ w'.heap[g]? = some (.cells (madeL (sd L * sd L) []).toArray 3 (0, 0)) ∧ Below w.heap.size w w'
theorem getD_at {l : List Int} {i : Nat} (h : i < l.length) : l[i] = l.getD i 0 := by simp [List.getD, h]
theorem heap_far {w : World} {g k i : Nat} (h : g ≠ k) (v : Value) : (w.setCell ⟨k, i, none⟩ v).heap[g]? = w.heap[g]? := Below.heap_setCell w _ v g h

set_option maxRecDepth 100000 in
set_option maxHeartbeats 8000000 in
theorem newTexture_any (L : Int) (w : World) (hL : 0 ≤ L ∧ L ≤ 4) :
    Calls Try.prog 82 #[.int .i64 L] w (NewTx L w) := by
  have HT : Held w ((w.alloc (.cells #[.int .i64 0, .slice none 0 0] 25)).alloc (.cells #[.int .i64 L, .slice none 0 0] 25)) [(w.heap.size + 1, [.int .i64 L, .slice none 0 0]), (w.heap.size, [.int .i64 0, .slice none 0 0])] := by
    have h := ((Held.nil w).new #[.int .i64 0, .slice none 0 0] 25).new #[.int .i64 L, .slice none 0 0] 25
    simpa only [World.size_alloc] using h
  obtain ⟨W1, hW1⟩ : ∃ W, W = (w.alloc (.cells #[.int .i64 0, .slice none 0 0] 25)).alloc (.cells #[.int .i64 L, .slice none 0 0] 25) := ⟨_, rfl⟩
  rw [← hW1] at HT
  have hsz : W1.heap.size = w.heap.size + 2 := by rw [hW1]; simp
  have HS := Lib.hid (fun W => sideOf_any L none 0 0 W hL)
  unfold NewTx
  have hsq := sq_le hL
  obtain ⟨s, hs⟩ : ∃ s, s = sd L := ⟨_, rfl⟩
  rw [← hs] at HS hsq ⊢
  obtain ⟨n, hn⟩ : ∃ n, n = s * s := ⟨_, rfl⟩
  rw [← hn] at hsq ⊢
  have e1 : IntKind.i64.wrap ((s : Int) * (s : Int)) = (n : Int) := by rw [hn, Int.natCast_mul]; exact wrap_v (by rw [← Int.natCast_mul, ← hn]; omega)
  have HN := Lib.hid hsq
  clear hL hs hn hsq
  obtain ⟨i0, hi, hz0, hz1, hz2⟩ := info_parts infoInt
  go_enter Try.func82, Try.ntmps82
  go_upto_region 2 with fail
  rw [← hW1]
  generalize g1 : w.heap.size + 1 = k1 at HT ⊢
  have HK := Lib.hid (show w.heap.size < k1 ∧ k1 < W1.heap.size by omega)
  generalize g0 : w.heap.size = k0 at HT ⊢
  have HK0 := Lib.hid g0
  have m0 := (HT.box 0).c 0
  have m1 := (HT.box 0).c 1
  clear hW1 g0 g1 hsz
  have HTI := Lib.hid HT
  clear HT
  go_wp2_with fail
  refine (HS.out _).mono ?_
  rintro e w2 ⟨rfl, hb2⟩
  have HT2 := Lib.hid (HTI.out.later hb2)
  have HZ2 := Lib.hid hb2.size
  clear hb2 m0 m1
  go_wp2_with (at_make; refine wpList_make_full w2 rfl _ _ 23 rfl w2.heap.size 3 i0 (.int .i64 0) 1 Try.underlying23 hi hz0 hz1 _ _ _ _ n rfl rfl rfl rfl (by rw [hz2]; have := HN.out; omega) (by unfold maxLen; have := HN.out; omega) (Nat.le_refl _) ?_)
  intro w4 ho4 hg4
  have HT4 := HT2.out.grownX hg4 (fun g e => by cases e) (fun p hp e => by cases e)
  obtain ⟨_, hh4⟩ := own_full ho4
  have hh4 : w4.heap[w2.heap.size]? = some (.cells (madeL n []).toArray 3 (0, 0)) := by
    rw [hh4, madeL_nil]
    congr 3
    exact toList_madeCells_one _ _
  obtain ⟨g, hg⟩ : ∃ g, g = w2.heap.size := ⟨_, rfl⟩
  rw [← hg] at hh4 ⊢
  have HG := Lib.hid (show k1 < g ∧ k0 < k1 ∧ k0 ≤ g by have h1 := HK.out; have h2 := HK0.out; have h3 := HZ2.out; omega)
  have hne : ¬ k0 = k1 := by have := HG.out; omega
  have hne2 : ¬ k1 = k0 := by have := HG.out; omega
  have f1 := (HT4.box 0).f 1
  have HX := HT4.put (by have := HK.out; omega) (fun p hp => by
    have h1 := HG.out
    simp only [List.mem_cons, List.not_mem_nil, or_false] at hp
    rcases hp with rfl
    show _ ≠ _
    omega) 1 (.slice (some ⟨g, 0, none⟩) n n)
  have hh5 := (heap_far (w := w4) (g := g) (k := k1) (i := 1) (by have := HG.out; omega) (.slice (some ⟨g, 0, none⟩) n n)).trans hh4
  have m1 := (HT4.box 0).c 1
  have HH5 := Lib.hid hh5
  have HX5 := Lib.hid HX
  clear ho4 hg4 HT4 hh4 hh5 HX hg hz0 hz1 hz2 hi e1
  go_upto_region 4 with fail
  obtain ⟨W5, hW5⟩ : ∃ W, W = w4.setCell ⟨k1, 1, none⟩ (.slice (some ⟨g, 0, none⟩) n n) := ⟨_, rfl⟩
  rw [← hW5] at HH5 HX5 ⊢
  have HX : Held w W5 [(k1, [.int .i64 L, .slice (some ⟨g, 0, none⟩) n n]), (k0, [.int .i64 0, .slice none 0 0])] := HX5.out
  have m0 := (HX.box 0).c 0
  have m2 := (HX.box 0).c 1
  have r0 := (HX.box 1).c 0
  have r1 := (HX.box 1).c 1
  have o0 := (HX.box 1).f 0
  have o1 := (HX.box 1).f 1
  have HXB := Lib.hid HX.below
  clear hW5 HX HX5 f1 m1
  go_wp2_with fail
  have hq1 : w.heap.size ≤ k0 := by have := HK0.out; omega
  exact bodyPost_ret (v := txv L (some ⟨g, 0, none⟩) n n) (by simp [results, Try.results82, go_sem, r0, r1]) rfl ⟨g, rfl, by have h1 := HG.out; have h2 := HK0.out; omega, (heap_far (by have := HG.out; omega) _).trans ((heap_far (by have := HG.out; omega) _).trans HH5.out), (HXB.out.setCell (p := ⟨k0, 0, none⟩) hq1 _).setCell (p := ⟨k0, 1, none⟩) hq1 _⟩

set_option maxRecDepth 100000 in
set_option maxHeartbeats 8000000 in
theorem averageRows_any (A A' : Option Addr) (c c' : Nat) (us ls : List Int) (m : Nat) (w : World) (hU : Row I64 w w.heap.size A us) (hV : Row I64 w w.heap.size A' ls) (hu : us.length = 2 * m) (hv : ls.length = 2 * m) (hm : m ≤ 1048576) (hub : ∀ x ∈ us, 0 ≤ x ∧ x ≤ 256) (hvb : ∀ x ∈ ls, 0 ≤ x ∧ x ≤ 256) :
    Calls Try.prog 95 #[.slice A (2 * m) c, .slice A' (2 * m) c'] w fun e w' => ∃ A2 c2, e = .returned (.slice A2 m c2) ∧ w'.ownsRow w.heap.size 3 1 (.slice A2 m c2) m ((avgL us ls m).map I64) ∧ Below w.heap.size w w' := by
  have HU := Lib.hid hU
  have HV := Lib.hid hV
  have HUB := Lib.hid (And.intro hub hvb)
  have HL := Lib.hid (And.intro hu hv)
  obtain ⟨N, hN⟩ : ∃ N, N = 2 * m := ⟨_, rfl⟩
  rw [← hN]
  have HN := Lib.hid hN
  clear hU hV hub hvb hu hv hN
  obtain ⟨B, hB⟩ : ∃ B, B = w.heap.size := ⟨_, rfl⟩
  have HB0 := Lib.hid hB
  go_enter Try.func95, Try.ntmps95
  rw [← hB]
  clear hB
  go_wp2_with fail
  go_loopw [5, 6] (fun S xv wr => ∃ k x : Nat, k ≤ m ∧ x = 2 * k ∧ xv = .int .i64 (x : Int) ∧ wr.ownsRow B 3 1 S k ((avgL us ls k).map I64) ∧ Below w.heap.size w wr) (fun _ xv _ => N - (intOf xv).toNat)
  case atStart => exact ⟨0, 0, Nat.zero_le _, rfl, rfl, World.ownsRow_nil _ _ _ _, Below.refl _ _⟩
  case round =>
    obtain ⟨k, x, hk, hx, rfl, hown, hbel⟩ := hrel
    obtain ⟨A2, c2, rfl⟩ := own_shape hown
    have HO := Lib.hid hown
    have HBL := Lib.hid hbel
    by_cases hlt : k < m
    · have hx0 : (0 : Int) ≤ (x : Int) := by omega
      have hx1 : (x : Int) < (N : Int) := by have := HN.out; omega
      have hx2 : ((x + 1 : Nat) : Int) < (N : Int) := by have := HN.out; omega
      have hx3 : (0 : Int) ≤ ((x + 1 : Nat) : Int) := by omega
      obtain ⟨b, o, hA, hbl, c0⟩ := HU.out.at (k := x) (by have := HL.out; have := HN.out; omega)
      obtain ⟨b', o', hA', hbl', c2'⟩ := HV.out.at (k := x) (by have := HL.out; have := HN.out; omega)
      obtain ⟨b1, o1, hA1, _, c1⟩ := HU.out.at (k := x + 1) (by have := HL.out; have := HN.out; omega)
      obtain ⟨b3, o3, hA3, _, c3⟩ := HV.out.at (k := x + 1) (by have := HL.out; have := HN.out; omega)
      rw [hA] at hA1
      injection hA1 with hA1
      injection hA1 with e1 e2
      subst e1 e2
      rw [hA'] at hA3
      injection hA3 with hA3
      injection hA3 with e1 e2
      subst e1 e2
      subst hA hA'
      obtain ⟨a0, ha0⟩ : ∃ a, a = us.getD (x) 0 := ⟨_, rfl⟩
      have hg0 : us[x]'(by have := HL.out; have := HN.out; omega) = a0 := (getD_at _).trans ha0.symm
      obtain ⟨a1, ha1⟩ : ∃ a, a = us.getD (x + 1) 0 := ⟨_, rfl⟩
      have hg1 : us[x + 1]'(by have := HL.out; have := HN.out; omega) = a1 := (getD_at _).trans ha1.symm
      obtain ⟨a2, ha2⟩ : ∃ a, a = ls.getD (x) 0 := ⟨_, rfl⟩
      have hg2 : ls[x]'(by have := HL.out; have := HN.out; omega) = a2 := (getD_at _).trans ha2.symm
      obtain ⟨a3, ha3⟩ : ∃ a, a = ls.getD (x + 1) 0 := ⟨_, rfl⟩
      have hg3 : ls[x + 1]'(by have := HL.out; have := HN.out; omega) = a3 := (getD_at _).trans ha3.symm
      have hb0 := HUB.out.1 a0 (by rw [← hg0]; exact List.getElem_mem _)
      have hb1 := HUB.out.1 a1 (by rw [← hg1]; exact List.getElem_mem _)
      have hb2 := HUB.out.2 a2 (by rw [← hg2]; exact List.getElem_mem _)
      have hb3 := HUB.out.2 a3 (by rw [← hg3]; exact List.getElem_mem _)
      rw [hg0] at c0
      rw [hg1] at c1
      rw [hg2] at c2'
      rw [hg3] at c3
      have c0 := (hbel.cell (p := ⟨b, o + x, none⟩) hbl).trans c0
      have c1 := (hbel.cell (p := ⟨b, o + (x + 1), none⟩) hbl).trans c1
      have c2' := (hbel.cell (p := ⟨b', o' + x, none⟩) hbl').trans c2'
      have c3 := (hbel.cell (p := ⟨b', o' + (x + 1), none⟩) hbl').trans c3
      obtain ⟨q, hq⟩ : ∃ q, q = a0 + a1 + a2 + a3 := ⟨_, rfl⟩
      obtain ⟨v, hv⟩ : ∃ v, v = q / 4 := ⟨_, rfl⟩
      have e9 : q.tdiv 4 = v := by rw [Int.tdiv_eq_ediv_of_nonneg (by omega)]; exact hv.symm
      have HST : Hid (avgL us ls (k + 1) = avgL us ls k ++ [v]) := Lib.hid (by
        rw [avgL_succ, ← hx, hv, hq, ha0, ha1, ha2, ha3])
      have w1 : IntKind.i64.wrap ((x : Int) + 1) = ((x + 1 : Nat) : Int) := wrap_v (by have := HN.out; omega)
      have w2 : IntKind.i64.wrap (a0 + a1) = a0 + a1 := wrap_v (by omega)
      have w3 : IntKind.i64.wrap (a0 + a1 + a2) = a0 + a1 + a2 := wrap_v (by omega)
      have w4 : IntKind.i64.wrap (a0 + a1 + a2 + a3) = q := by rw [← hq]; exact wrap_v (by omega)
      have w5 : IntKind.i64.wrap v = v := wrap_v (by omega)
      have w6 : IntKind.i64.wrap ((x : Int) + 2) = ((x + 2 : Nat) : Int) := wrap_v (by have := HN.out; omega)
      have HX := Lib.hid (And.intro hx (And.intro hk hlt))
      clear hx hown hbel ha0 ha1 ha2 ha3 hg0 hg1 hg2 hg3 hb0 hb1 hb2 hb3 hq hv hbl hbl' hk hlt
      go_upto_region 5 with fail
      go_quiet (fail)
      clear c0 c1 c2' c3
      have HO2 : Hid ((wr.drewN nq).ownsRow B 3 1 (.slice A2 k c2) k ((avgL us ls k).map I64)) := Lib.hid HO.out
      have HB2 := Lib.hid (below_drewN HBL.out nq)
      obtain ⟨W2, hW2⟩ : ∃ W, W = wr.drewN nq := ⟨_, rfl⟩
      rw [← hW2] at HO2 HB2 ⊢
      clear hW2
      go_wp2_with (at_builtin; refine wpList_app1 W2 rfl _ _ 23 rfl B 3 (.int .i64 0) 8 Try.underlying23 infoInt rfl _ _ _ (by rfl) HO2.out _ (by rfl) (by rfl) (by unfold maxLen; have := HX.out; omega) (by have := HX.out; omega) (by have := HB2.out.size; have := HB0.out; omega) ?_)
      intro v' w7 ho7 hg7
      have HB7 := Lib.hid (HB2.out.grown hg7 HB2.out.size (fun g e => by have := own_block HO2.out g e; have := HB0.out; omega))
      rw [← List.map_singleton (f := I64), ← List.map_append, ← HST.out] at ho7
      have HO7 := Lib.hid ho7
      clear ho7 hg7 e9
      go_wp2_with fail
      go_roundw
      case rel => exact ⟨k + 1, x + 2, by have := HX.out; omega, by have := HX.out; omega, by go_num, HO7.out, HB7.out⟩
      case measure => simp [intOf]; have := HX.out; have := HN.out; omega
    · obtain rfl : k = m := by omega
      have hnl : ¬ (x : Int) < (N : Int) := by have := HN.out; omega
      clear hown hbel hlt
      go_wp2_with fail
      go_ret
      exact ⟨A2, c2, rfl, HO.out, by rw [HB0.out]; exact HBL.out⟩
end Go.Proofs.Ytaelhbbfddcabaa
