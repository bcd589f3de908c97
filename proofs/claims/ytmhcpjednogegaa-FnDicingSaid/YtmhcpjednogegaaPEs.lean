/- Contracts of EvalPatch: the model. -/
import Derived.Test.YtmhcpjednogegaaProg
import Derived.Test.YtmhcpjednogegaaInts
import Derived.Test.YtmhcpjednogegaaVbox
import Derived.Test.YtmhcpjednogegaaVec
import Derived.Test.YtmhcpjednogegaaHeld
import Derived.Test.YtmhcpjednogegaaArr
import Derived.Test.YtmhcpjednogegaaTr
import Derived.Test.YtmhcpjednogegaaMem
import Derived.Test.YtmhcpjednogegaaFlat
import Derived.Test.YtmhcpjednogegaaRowC
import Derived.Test.YtmhcpjednogegaaPat
import Derived.Test.YtmhcpjednogegaaGrid
import Derived.Test.YtmhcpjednogegaaPut
import Derived.WalkKit
import Derived.WalkSpells
import Derived.WalkLawsBesides
import Derived.Lib.Hide
import Derived.Deep.RegionHeld3
import Derived.Deep.QuietTactic
import Derived.BigQuiet
import Derived.Handy
import Derived.Deep.DeepCutAuto
namespace Go.Proofs.Ytmhcpjednogegaa
open Go.RowKit

set_option maxHeartbeats 4000000 in
theorem mean_any (a b d e i j n : Int) (w : World) (h : (1 ≤ n ∧ n ≤ 64) ∧ (0 ≤ i ∧ i ≤ n) ∧ 0 ≤ j ∧ j ≤ n) :
    Calls Try.prog 77 #[.int .i64 (cc a), .int .i64 (cc b), .int .i64 (cc d), .int .i64 (cc e), .int .i64 i, .int .i64 j, .int .i64 n] w fun x w' => x = .returned (.int .i64 (gridP (cc a) (cc b) (cc d) (cc e) i j n)) ∧ w = w' := by
  have e0 := (grid_S (cc a) (cc b) (cc d) (cc e) i j n)
  unfold gridP
  rw [← e0]
  clear e0
  obtain ⟨p, hp⟩ : ∃ p, p = cc a := ⟨_, rfl⟩
  obtain ⟨q, hq⟩ : ∃ q, q = cc b := ⟨_, rfl⟩
  obtain ⟨r, hr⟩ : ∃ r, r = cc d := ⟨_, rfl⟩
  obtain ⟨s, hs⟩ : ∃ s, s = cc e := ⟨_, rfl⟩
  have bp := cc_bd a
  have bq := cc_bd b
  have br := cc_bd d
  have bs := cc_bd e
  rw [← hp] at bp ⊢
  rw [← hq] at bq ⊢
  rw [← hr] at br ⊢
  rw [← hs] at bs ⊢
  clear hp hq hr hs
  have bu : -64 ≤ n - i ∧ n - i ≤ 64 := by omega
  have bv : -64 ≤ n - j ∧ n - j ≤ 64 := by omega
  have bi : -64 ≤ i ∧ i ≤ 64 := by omega
  have bj : -64 ≤ j ∧ j ≤ 64 := by omega
  have s0 := sq_pos h.1.1
  have s1 := sq_le h.1.1 h.1.2
  clear h
  have x1 := mul_bd bp bu
  have x2 := mul_bd x1 bv
  have y1 := mul_bd bq bi
  have y2 := mul_bd y1 bv
  have z1 := mul_bd br bu
  have z2 := mul_bd z1 bj
  have t1 := mul_bd bs bi
  have t2 := mul_bd t1 bj
  have w0 : IntKind.i64.wrap (n - i) = n - i := wrap_in (by omega)
  have w1 : IntKind.i64.wrap (n - j) = n - j := wrap_in (by omega)
  clear bu bv bi bj bp bq br bs
  have w2 : IntKind.i64.wrap (p * (n - i)) = p * (n - i) := wrap_in (by omega)
  have w3 : IntKind.i64.wrap (p * (n - i) * (n - j)) = p * (n - i) * (n - j) := wrap_in (by omega)
  have w4 : IntKind.i64.wrap (q * i) = q * i := wrap_in (by omega)
  have w5 : IntKind.i64.wrap (q * i * (n - j)) = q * i * (n - j) := wrap_in (by omega)
  have w6 : IntKind.i64.wrap (r * (n - i)) = r * (n - i) := wrap_in (by omega)
  have w7 : IntKind.i64.wrap (r * (n - i) * j) = r * (n - i) * j := wrap_in (by omega)
  have w8 : IntKind.i64.wrap (s * i) = s * i := wrap_in (by omega)
  have w9 : IntKind.i64.wrap (s * i * j) = s * i * j := wrap_in (by omega)
  have w10 : IntKind.i64.wrap (p * (n - i) * (n - j) + q * i * (n - j)) = p * (n - i) * (n - j) + q * i * (n - j) := wrap_in (by omega)
  have w11 : IntKind.i64.wrap (p * (n - i) * (n - j) + q * i * (n - j) + r * (n - i) * j) = p * (n - i) * (n - j) + q * i * (n - j) + r * (n - i) * j := wrap_in (by omega)
  have w12 : IntKind.i64.wrap (p * (n - i) * (n - j) + q * i * (n - j) + r * (n - i) * j + s * i * j) = p * (n - i) * (n - j) + q * i * (n - j) + r * (n - i) * j + s * i * j := wrap_in (by omega)
  have w13 : IntKind.i64.wrap (n * n) = n * n := wrap_in (by omega)
  have HL : Hid (-9223372036854775808 ≤ p * (n - i) * (n - j) + q * i * (n - j) + r * (n - i) * j + s * i * j) := Lib.hid (by omega)
  have HU : Hid (p * (n - i) * (n - j) + q * i * (n - j) + r * (n - i) * j + s * i * j ≤ 9223372036854775807) := Lib.hid (by omega)
  clear x1 x2 y1 y2 z1 z2 t1 t2 s0 s1
  go_enter Try.func77, Try.ntmps77
  go_wp2_with fail
  refine (sFloorDiv_any _ _ _ HL.out HU.out).mono ?_
  rintro e w' ⟨rfl, rfl⟩
  go_wp2
  go_ret
  exact ⟨rfl, rfl⟩

set_option maxHeartbeats 8000000 in
theorem sEvalPatch_any (a0 a1 a2 a3 a4 a5 a6 a7 a8 x y z i j n : Int) (w : World) :
    Calls Try.prog 51 #[tr a0 a1 a2 a3 a4 a5 a6 a7 a8 x y z, .int .i64 i, .int .i64 j, .int .i64 n] w (VecOut (evP (cc a0) (cc a3) (cc a6) (cc x) i j n) (evP (cc a1) (cc a4) (cc a7) (cc y) i j n) (evP (cc a2) (cc a5) (cc a8) (cc z) i j n) w) := by
  have HT : Held w ((w.alloc (.cells #[.int .i64 a0, .int .i64 a1, .int .i64 a2, .int .i64 a3, .int .i64 a4, .int .i64 a5, .int .i64 a6, .int .i64 a7, .int .i64 a8, .int .i64 x, .int .i64 y, .int .i64 z] 30)).alloc (.cells #[.int .i64 0, .int .i64 0, .int .i64 0] 27)) [(w.heap.size + 1, [.int .i64 0, .int .i64 0, .int .i64 0]), (w.heap.size, [.int .i64 a0, .int .i64 a1, .int .i64 a2, .int .i64 a3, .int .i64 a4, .int .i64 a5, .int .i64 a6, .int .i64 a7, .int .i64 a8, .int .i64 x, .int .i64 y, .int .i64 z])] := by
    have h := ((Held.nil w).new #[.int .i64 a0, .int .i64 a1, .int .i64 a2, .int .i64 a3, .int .i64 a4, .int .i64 a5, .int .i64 a6, .int .i64 a7, .int .i64 a8, .int .i64 x, .int .i64 y, .int .i64 z] 30).new #[.int .i64 0, .int .i64 0, .int .i64 0] 27
    simpa only [World.size_alloc] using h
  go_enter Try.func51, Try.ntmps51
  go_wp2_with fail
  refine (l02V_any _ _ _ _).mono ?_
  rintro e w1 ⟨rfl, hb1⟩
  have HT := HT.later hb1
  have hs1 := (HT.box 0).lt
  have HT := HT.new #[.int .i64 (cc a0), .int .i64 (cc a1), .int .i64 (cc a2)] 27
  clear hb1
  have c0 := (HT.box 2).c 0
  have c1 := (HT.box 2).c 1
  have c2 := (HT.box 2).c 2
  have c3 := (HT.box 2).c 3
  have c4 := (HT.box 2).c 4
  have c5 := (HT.box 2).c 5
  have c6 := (HT.box 2).c 6
  have c7 := (HT.box 2).c 7
  have c8 := (HT.box 2).c 8
  have c9 := (HT.box 2).c 9
  have c10 := (HT.box 2).c 10
  have c11 := (HT.box 2).c 11
  go_wp2_with fail
  refine (l02V_any _ _ _ _).mono ?_
  rintro e w2 ⟨rfl, hb2⟩
  have HT := HT.later hb2
  have hs2 := (HT.box 1).lt
  have HT := HT.new #[.int .i64 (cc a3), .int .i64 (cc a4), .int .i64 (cc a5)] 27
  clear hb2 c0 c1 c2 c3 c4 c5 c6 c7 c8 c9 c10 c11
  have c0 := (HT.box 3).c 0
  have c1 := (HT.box 3).c 1
  have c2 := (HT.box 3).c 2
  have c3 := (HT.box 3).c 3
  have c4 := (HT.box 3).c 4
  have c5 := (HT.box 3).c 5
  have c6 := (HT.box 3).c 6
  have c7 := (HT.box 3).c 7
  have c8 := (HT.box 3).c 8
  have c9 := (HT.box 3).c 9
  have c10 := (HT.box 3).c 10
  have c11 := (HT.box 3).c 11
  go_wp2_with fail
  refine (l02V_any _ _ _ _).mono ?_
  rintro e w3 ⟨rfl, hb3⟩
  have HT := HT.later hb3
  have hs3 := (HT.box 2).lt
  have HT := HT.new #[.int .i64 (cc a6), .int .i64 (cc a7), .int .i64 (cc a8)] 27
  clear hb3 c0 c1 c2 c3 c4 c5 c6 c7 c8 c9 c10 c11
  have c0 := (HT.box 4).c 0
  have c1 := (HT.box 4).c 1
  have c2 := (HT.box 4).c 2
  have c3 := (HT.box 4).c 3
  have c4 := (HT.box 4).c 4
  have c5 := (HT.box 4).c 5
  have c6 := (HT.box 4).c 6
  have c7 := (HT.box 4).c 7
  have c8 := (HT.box 4).c 8
  have c9 := (HT.box 4).c 9
  have c10 := (HT.box 4).c 10
  have c11 := (HT.box 4).c 11
  go_wp2_with fail
  refine (l02V_any _ _ _ _).mono ?_
  rintro e w4 ⟨rfl, hb4⟩
  have HT := HT.later hb4
  have hs4 := (HT.box 3).lt
  have HT := HT.new #[.int .i64 (cc x), .int .i64 (cc y), .int .i64 (cc z)] 27
  clear hb4 c0 c1 c2 c3 c4 c5 c6 c7 c8 c9 c10 c11
  by_cases hn' : ¬ (1 ≤ n ∧ n ≤ 64)
  · have HA := Lib.hid hn'
    have HN := Lib.hid (show ¬ ((1 ≤ n ∧ n ≤ 64) ∧ (0 ≤ i ∧ i ≤ n) ∧ 0 ≤ j ∧ j ≤ n) by omega)
    clear hn' hs1 hs2 hs3 hs4
    go_wp2_with fail
    refine (inV_no _ _ _ _ HA.out).mono ?_
    rintro e w' ⟨rfl, rfl⟩
    have c0 := (HT.box 3).c 0
    have c1 := (HT.box 3).c 1
    have c2 := (HT.box 3).c 2
    have r0 := (HT.box 4).c 0
    have r1 := (HT.box 4).c 1
    have r2 := (HT.box 4).c 2
    have g0 := (HT.box 4).f 0
    have g1 := (HT.box 4).f 1
    have g2 := (HT.box 4).f 2
    have HW := HT.below
    clear HT
    go_wp2_with fail
    exact bodyPost_ret (v := vec (cc a0) (cc a1) (cc a2)) (by simp [results, Try.results51, go_sem, r0, r1, r2]) rfl ⟨ret_vec (ev_no HN.out ..).symm (ev_no HN.out ..).symm (ev_no HN.out ..).symm, bset3 HW (by omega)⟩
  have hn := Decidable.not_not.1 hn'
  clear hn'
  by_cases hi' : ¬ (0 ≤ i ∧ i ≤ n)
  · have HA := Lib.hid hi'
    have HB := Lib.hid hn
    have HN := Lib.hid (show ¬ ((1 ≤ n ∧ n ≤ 64) ∧ (0 ≤ i ∧ i ≤ n) ∧ 0 ≤ j ∧ j ≤ n) by omega)
    clear hn hi' hs1 hs2 hs3 hs4
    go_wp2_with fail
    refine (inV_yes _ _ _ _ HB.out.1 HB.out.2).mono ?_
    rintro e w' ⟨rfl, rfl⟩
    go_wp2_with fail
    refine (inV_no _ _ _ _ HA.out).mono ?_
    rintro e w' ⟨rfl, rfl⟩
    have c0 := (HT.box 3).c 0
    have c1 := (HT.box 3).c 1
    have c2 := (HT.box 3).c 2
    have r0 := (HT.box 4).c 0
    have r1 := (HT.box 4).c 1
    have r2 := (HT.box 4).c 2
    have g0 := (HT.box 4).f 0
    have g1 := (HT.box 4).f 1
    have g2 := (HT.box 4).f 2
    have HW := HT.below
    clear HT
    go_wp2_with fail
    exact bodyPost_ret (v := vec (cc a0) (cc a1) (cc a2)) (by simp [results, Try.results51, go_sem, r0, r1, r2]) rfl ⟨ret_vec (ev_no HN.out ..).symm (ev_no HN.out ..).symm (ev_no HN.out ..).symm, bset3 HW (by omega)⟩
  have hi := Decidable.not_not.1 hi'
  clear hi'
  by_cases hj' : ¬ (0 ≤ j ∧ j ≤ n)
  · have HA := Lib.hid hj'
    have HB := Lib.hid hn
    have HC := Lib.hid hi
    have HN := Lib.hid (show ¬ ((1 ≤ n ∧ n ≤ 64) ∧ (0 ≤ i ∧ i ≤ n) ∧ 0 ≤ j ∧ j ≤ n) by omega)
    clear hn hi hj' hs1 hs2 hs3 hs4
    go_wp2_with fail
    refine (inV_yes _ _ _ _ HB.out.1 HB.out.2).mono ?_
    rintro e w' ⟨rfl, rfl⟩
    go_wp2_with fail
    refine (inV_yes _ _ _ _ HC.out.1 HC.out.2).mono ?_
    rintro e w' ⟨rfl, rfl⟩
    go_wp2_with fail
    refine (inV_no _ _ _ _ HA.out).mono ?_
    rintro e w' ⟨rfl, rfl⟩
    have c0 := (HT.box 3).c 0
    have c1 := (HT.box 3).c 1
    have c2 := (HT.box 3).c 2
    have r0 := (HT.box 4).c 0
    have r1 := (HT.box 4).c 1
    have r2 := (HT.box 4).c 2
    have g0 := (HT.box 4).f 0
    have g1 := (HT.box 4).f 1
    have g2 := (HT.box 4).f 2
    have HW := HT.below
    clear HT
    go_wp2_with fail
    exact bodyPost_ret (v := vec (cc a0) (cc a1) (cc a2)) (by simp [results, Try.results51, go_sem, r0, r1, r2]) rfl ⟨ret_vec (ev_no HN.out ..).symm (ev_no HN.out ..).symm (ev_no HN.out ..).symm, bset3 HW (by omega)⟩
  have hj := Decidable.not_not.1 hj'
  clear hj'
  have HIN := Lib.hid (show (1 ≤ n ∧ n ≤ 64) ∧ (0 ≤ i ∧ i ≤ n) ∧ 0 ≤ j ∧ j ≤ n by omega)
  have HSS := Lib.hid (And.intro hs1 (And.intro hs2 (And.intro hs3 hs4)))
  clear hn hi hj hs1 hs2 hs3 hs4
  go_wp2_with fail
  refine (inV_yes _ _ _ _ HIN.out.1.1 HIN.out.1.2).mono ?_
  rintro e w' ⟨rfl, rfl⟩
  go_wp2_with fail
  refine (inV_yes _ _ _ _ HIN.out.2.1.1 HIN.out.2.1.2).mono ?_
  rintro e w' ⟨rfl, rfl⟩
  go_wp2_with fail
  refine (inV_yes _ _ _ _ HIN.out.2.2.1 HIN.out.2.2.2).mono ?_
  rintro e w' ⟨rfl, rfl⟩
  have hss := HSS.out
  clear HSS
  generalize w4.alloc _ = W4 at HT ⊢
  generalize w1.heap.size = k1 at HT hss ⊢
  generalize w2.heap.size = k2 at HT hss ⊢
  generalize w3.heap.size = k3 at HT hss ⊢
  generalize w4.heap.size = k4 at HT hss ⊢
  obtain ⟨hs1, hs2, hs3, hs4⟩ := hss
  have HT := HT.pick (cs := [(w.heap.size + 1, [.int .i64 0, .int .i64 0, .int .i64 0]), (k1, [.int .i64 (cc a0), .int .i64 (cc a1), .int .i64 (cc a2)]), (k2, [.int .i64 (cc a3), .int .i64 (cc a4), .int .i64 (cc a5)]), (k3, [.int .i64 (cc a6), .int .i64 (cc a7), .int .i64 (cc a8)]), (k4, [.int .i64 (cc x), .int .i64 (cc y), .int .i64 (cc z)])]) (by simp)
  go_upto_region 7 with fail
  have HC : ∀ W, Held w W [(k1, [.int .i64 (cc a0), .int .i64 (cc a1), .int .i64 (cc a2)]), (k2, [.int .i64 (cc a3), .int .i64 (cc a4), .int .i64 (cc a5)]), (k3, [.int .i64 (cc a6), .int .i64 (cc a7), .int .i64 (cc a8)]), (k4, [.int .i64 (cc x), .int .i64 (cc y), .int .i64 (cc z)])] → (W.cell? ⟨k1, 0, none⟩ = some (.int .i64 (cc a0)) ∧ W.cell? ⟨k1, 1, none⟩ = some (.int .i64 (cc a1)) ∧ W.cell? ⟨k1, 2, none⟩ = some (.int .i64 (cc a2)) ∧ W.cell? ⟨k2, 0, none⟩ = some (.int .i64 (cc a3)) ∧ W.cell? ⟨k2, 1, none⟩ = some (.int .i64 (cc a4)) ∧ W.cell? ⟨k2, 2, none⟩ = some (.int .i64 (cc a5)) ∧ W.cell? ⟨k3, 0, none⟩ = some (.int .i64 (cc a6)) ∧ W.cell? ⟨k3, 1, none⟩ = some (.int .i64 (cc a7)) ∧ W.cell? ⟨k3, 2, none⟩ = some (.int .i64 (cc a8)) ∧ W.cell? ⟨k4, 0, none⟩ = some (.int .i64 (cc x)) ∧ W.cell? ⟨k4, 1, none⟩ = some (.int .i64 (cc y)) ∧ W.cell? ⟨k4, 2, none⟩ = some (.int .i64 (cc z))) := fun W h => ⟨(h.box 0).c 0, (h.box 0).c 1, (h.box 0).c 2, (h.box 1).c 0, (h.box 1).c 1, (h.box 1).c 2, (h.box 2).c 0, (h.box 2).c 1, (h.box 2).c 2, (h.box 3).c 0, (h.box 3).c 1, (h.box 3).c 2⟩
  have r0 := (HT.box 0).c 0
  have r1 := (HT.box 0).c 1
  have r2 := (HT.box 0).c 2
  have g0 := (HT.box 0).f 0
  have g1 := (HT.box 0).f 1
  have g2 := (HT.box 0).f 2
  have HW := HT.below
  go_region_held3 (fun w' => w'.cell? ⟨k1, 0, none⟩ = some (.int .i64 (cc a0)) ∧ w'.cell? ⟨k1, 1, none⟩ = some (.int .i64 (cc a1)) ∧ w'.cell? ⟨k1, 2, none⟩ = some (.int .i64 (cc a2)) ∧ w'.cell? ⟨k2, 0, none⟩ = some (.int .i64 (cc a3)) ∧ w'.cell? ⟨k2, 1, none⟩ = some (.int .i64 (cc a4)) ∧ w'.cell? ⟨k2, 2, none⟩ = some (.int .i64 (cc a5)) ∧ w'.cell? ⟨k3, 0, none⟩ = some (.int .i64 (cc a6)) ∧ w'.cell? ⟨k3, 1, none⟩ = some (.int .i64 (cc a7)) ∧ w'.cell? ⟨k3, 2, none⟩ = some (.int .i64 (cc a8)) ∧ w'.cell? ⟨k4, 0, none⟩ = some (.int .i64 (cc x)) ∧ w'.cell? ⟨k4, 1, none⟩ = some (.int .i64 (cc y)) ∧ w'.cell? ⟨k4, 2, none⟩ = some (.int .i64 (cc z)))
    (first | (with_reducible exact HC _ HT.tail) | (with_reducible exact HC _ HT.drew.tail) | (with_reducible exact HC _ (HT.tail.far3 (by omega) (by simp <;> omega) _ _ _)) | (with_reducible exact HC _ (HT.tail.far3 (by omega) (by simp <;> omega) _ _ _).drew))
    (first | (go_at_call 77; refine (mean_any _ _ _ _ _ _ _ _ HIN.out).mono ?_; rintro e w' ⟨rfl, rfl⟩))
  go_wp2
  exact bodyPost_ret (v := vec (gridP (cc a0) (cc a3) (cc a6) (cc x) i j n) (gridP (cc a1) (cc a4) (cc a7) (cc y) i j n) (gridP (cc a2) (cc a5) (cc a8) (cc z) i j n)) (by simp [results, Try.results51, go_sem, r0, r1, r2]) rfl ⟨ret_vec (ev_yes HIN.out ..).symm (ev_yes HIN.out ..).symm (ev_yes HIN.out ..).symm, by first | exact bset3 HW (by omega) | exact bset3 HW.drew (by omega)⟩
end Go.Proofs.Ytmhcpjednogegaa
