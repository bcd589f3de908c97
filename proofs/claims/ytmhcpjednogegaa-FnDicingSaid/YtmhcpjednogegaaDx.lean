/- Contracts of SameMicropolygons: the program and its model; a copy of a slice of micropolygons. -/
import Derived.Test.YtmhcpjednogegaaProg
import Derived.Test.YtmhcpjednogegaaInts
import Derived.Test.YtmhcpjednogegaaVbox
import Derived.Test.YtmhcpjednogegaaVec
import Derived.Test.YtmhcpjednogegaaHeld
import Derived.Test.YtmhcpjednogegaaMem
import Derived.Test.YtmhcpjednogegaaFlat
import Derived.Test.YtmhcpjednogegaaRowC
import Derived.Test.YtmhcpjednogegaaArr
import Derived.Test.YtmhcpjednogegaaTr
import Derived.Test.YtmhcpjednogegaaPat
import Derived.Test.YtmhcpjednogegaaVecS
import Derived.Test.YtmhcpjednogegaaDy
import Derived.Test.YtmhcpjednogegaaCam
import Derived.Test.YtmhcpjednogegaaCPrj
import Derived.Test.YtmhcpjednogegaaTri
import Derived.Test.YtmhcpjednogegaaTSm
import Derived.Test.YtmhcpjednogegaaDv
import Derived.Test.YtmhcpjednogegaaDm
import Derived.WalkKit
import Derived.WalkSpells
import Derived.WalkLawsBesides
import Derived.Lib.Hide
import Derived.Deep.RegionHeld3
import Derived.Deep.QuietTactic
import Derived.BigQuiet
import Derived.Handy
import Derived.Deep.DeepCutAuto
import Derived.Laws.RangeAny
import Derived.Laws.StructEq
import Derived.OwnWalk
namespace Go.Proofs.Ytmhcpjednogegaa
open Go.RowKit

/-- two micropolygons are equal; two slices of them -/
def sameM (p q : M4) : Bool := sameT p.1.1 p.1.2.1 p.1.2.2 p.2.1.1 p.2.1.2.1 p.2.1.2.2 p.2.2.1.1 p.2.2.1.2.1 p.2.2.1.2.2 q.1.1 q.1.2.1 q.1.2.2 q.2.1.1 q.2.1.2.1 q.2.1.2.2 q.2.2.1.1 q.2.2.1.2.1 q.2.2.1.2.2 && veqB p.2.2.2.1 p.2.2.2.2.1 p.2.2.2.2.2 q.2.2.2.1 q.2.2.2.2.1 q.2.2.2.2.2
def sameL (xs ys : List M4) : Bool := decide (xs.length = ys.length) && (xs.zip ys).all fun p => sameM p.1 p.2
theorem sameL_len {xs ys : List M4} (h : xs.length ≠ ys.length) : sameL xs ys = false := by unfold sameL; rw [decide_eq_false h]; rfl
theorem sameL_not {xs ys : List M4} {k : Nat} (h1 : k < xs.length) (h2 : k < ys.length) (h : sameM xs[k] ys[k] = false) : sameL xs ys = false := by
  rcases e : sameL xs ys with _ | _
  · rfl
  · unfold sameL at e
    rw [Bool.and_eq_true, List.all_eq_true] at e
    have hz : k < (xs.zip ys).length := by rw [List.length_zip]; omega
    have := e.2 _ (List.getElem_mem hz)
    rw [List.getElem_zip] at this
    rw [this] at h; cases h
theorem sameL_yes {xs ys : List M4} (hl : xs.length = ys.length) (h : ∀ k (h1 : k < xs.length) (h2 : k < ys.length), sameM xs[k] ys[k] = true) : sameL xs ys = true := by
  unfold sameL
  rw [decide_eq_true hl, Bool.true_and, List.all_eq_true]
  intro p hp
  obtain ⟨k, hk, rfl⟩ := List.getElem_of_mem hp
  rw [List.length_zip] at hk
  rw [List.getElem_zip]
  exact h k (by omega) (by omega)
theorem eql_triD (d : Nat) (a0 a1 a2 a3 a4 a5 a6 a7 a8 b0 b1 b2 b3 b4 b5 b6 b7 b8 : Int) (w : World) : (Op.equalIn (d + 4) 43 (mat a0 a1 a2 a3 a4 a5 a6 a7 a8) (mat b0 b1 b2 b3 b4 b5 b6 b7 b8)).run Try.prog w = .ok (sameT a0 a1 a2 a3 a4 a5 a6 a7 a8 b0 b1 b2 b3 b4 b5 b6 b7 b8) w := by
  have hS : Try.prog.underlying 43 = some (.struct (Try.prog.fieldsOf 43)) := by kernel_rfl
  have hp : Try.prog.stoodInHeld 43 = false := by kernel_rfl
  have px : ∀ (c0 c1 c2 c3 c4 c5 c6 c7 c8 : Value) (w : World),
      (part 41 #[c0, c1, c2, c3, c4, c5, c6, c7, c8] 0).run Try.prog w = .ok (.agg #[c0, c1, c2, c3, c4, c5, c6, c7, c8]) w := fun _ _ _ _ _ _ _ _ _ _ => by kernel_rfl
  rw [show (d + 4 : Nat) = (d + 3) + 1 from rfl, run_equalIn_agg w (d + 3) 43 _ _ hS hp]
  simp only [Program.fieldsOf, Try.underlying43]
  have h := eq3 d a0 a1 a2 a3 a4 a5 a6 a7 a8 b0 b1 b2 b3 b4 b5 b6 b7 b8 w
  generalize sameT a0 a1 a2 a3 a4 a5 a6 a7 a8 b0 b1 b2 b3 b4 b5 b6 b7 b8 = b at h ⊢
  cases b <;> simp [Op.eqFields, px, h]
theorem eql_mic (a0 a1 a2 a3 a4 a5 a6 a7 a8 x y z b0 b1 b2 b3 b4 b5 b6 b7 b8 p q r : Int) (w : World) : (Op.equalIn 10000 45 (tr a0 a1 a2 a3 a4 a5 a6 a7 a8 x y z) (tr b0 b1 b2 b3 b4 b5 b6 b7 b8 p q r)).run Try.prog w = .ok (sameT a0 a1 a2 a3 a4 a5 a6 a7 a8 b0 b1 b2 b3 b4 b5 b6 b7 b8 && veqB x y z p q r) w := by
  have u3 := Try.underlying3
  have ua3 := Try.isAgg3
  have uz3 := Try.sizeOf3
  have hS : Try.prog.underlying 45 = some (.struct (Try.prog.fieldsOf 45)) := by kernel_rfl
  have hp : Try.prog.stoodInHeld 45 = false := by kernel_rfl
  have px : ∀ (c0 c1 c2 c3 c4 c5 c6 c7 c8 d0 d1 d2 : Value) (w : World),
      (part 43 #[c0, c1, c2, c3, c4, c5, c6, c7, c8, d0, d1, d2] 0).run Try.prog w = .ok (.agg #[c0, c1, c2, c3, c4, c5, c6, c7, c8]) w := fun _ _ _ _ _ _ _ _ _ _ _ _ _ => by kernel_rfl
  rw [show (10000 : Nat) = 9999 + 1 from rfl, run_equalIn_agg w 9999 45 _ _ hS hp]
  simp only [Program.fieldsOf, Try.underlying45]
  have h := eql_triD 9995 a0 a1 a2 a3 a4 a5 a6 a7 a8 b0 b1 b2 b3 b4 b5 b6 b7 b8
  generalize sameT a0 a1 a2 a3 a4 a5 a6 a7 a8 b0 b1 b2 b3 b4 b5 b6 b7 b8 = b at h ⊢
  rw [show (9995 + 4 : Nat) = 9999 from rfl] at h
  unfold veqB
  cases b
  · simp [Op.eqFields, px, h]
  · simp [Op.eqFields, px, h]
    go_simp
    by_cases h1 : x = p <;> by_cases h2 : y = q <;> by_cases h3 : z = r <;> simp [h1, h2, h3]
theorem neq_mic (p q : M4) (w : World) : (binOp .neq 45 (tr p.1.1 p.1.2.1 p.1.2.2 p.2.1.1 p.2.1.2.1 p.2.1.2.2 p.2.2.1.1 p.2.2.1.2.1 p.2.2.1.2.2 p.2.2.2.1 p.2.2.2.2.1 p.2.2.2.2.2) (tr q.1.1 q.1.2.1 q.1.2.2 q.2.1.1 q.2.1.2.1 q.2.1.2.2 q.2.2.1.1 q.2.2.1.2.1 q.2.2.1.2.2 q.2.2.2.1 q.2.2.2.2.1 q.2.2.2.2.2)).run Try.prog w = .ok (.bool (!sameM p q)) w := by
  rw [run_neq_struct, eql_mic]; rfl

set_option maxRecDepth 100000 in
set_option maxHeartbeats 8000000 in
theorem equalMic_any (A A' : Option Addr) (c c' : Nat) (xs ys : List M4) (w : World) (hR : RowC 12 mgc w w.heap.size A xs) (hR' : RowC 12 mgc w w.heap.size A' ys) (hl : xs.length ≤ 1048576) :
    Calls Try.prog 55 #[.slice A xs.length c, .slice A' ys.length c'] w (BOut (sameL xs ys) w) := by
  have HR := Lib.hid hR
  have HR' := Lib.hid hR'
  clear hR hR'
  by_cases hlen : xs.length = ys.length
  case neg =>
    have HE := Lib.hid (sameL_len hlen)
    have hlI : ¬ ((xs.length : Int) = (ys.length : Int)) := by omega
    clear HR HR' hl
    go_enter Try.func55, Try.ntmps55
    go_wp2_with fail
    go_ret
    rw [HE.out]
    exact ⟨rfl, by go_grown⟩
  case pos =>
  have hlI : (xs.length : Int) = (ys.length : Int) := by omega
  go_enter Try.func55, Try.ntmps55
  go_wp2_with fail
  go_loopw [13] (fun i wr => ∃ k : Nat, k ≤ xs.length ∧ i = .int .i64 k ∧ (∀ j (h1 : j < xs.length) (h2 : j < ys.length), j < k → sameM xs[j] ys[j] = true) ∧ Below w.heap.size w wr) (fun i _ => xs.length - (intOf i).toNat)
  case atStart => exact ⟨0, Nat.zero_le _, rfl, fun j _ _ h => absurd h (Nat.not_lt_zero _), Below.refl _ _⟩
  case round =>
    obtain ⟨k, hk, rfl, hyes, hb⟩ := hrel
    have HB := Lib.hid hb
    have HY := Lib.hid hyes
    clear hb hyes
    by_cases hlt : k < xs.length
    · have hlt2 : k < ys.length := by omega
      obtain ⟨b, o, rfl, hbl, hc⟩ := HR.out.at hlt
      obtain ⟨b', o', rfl, hbl', hc'⟩ := HR'.out.at hlt2
      obtain ⟨p, hp⟩ : ∃ p, p = xs[k] := ⟨_, rfl⟩
      obtain ⟨q, hq⟩ : ∃ q, q = ys[k] := ⟨_, rfl⟩
      rw [← hp] at hc
      rw [← hq] at hc'
      have HNO : Hid (sameM p q = false → sameL xs ys = false) := Lib.hid (fun e => sameL_not hlt hlt2 (by rw [← hp, ← hq]; exact e))
      have HYE : Hid (sameM p q = true → ∀ j (h1 : j < xs.length) (h2 : j < ys.length), j < k + 1 → sameM xs[j] ys[j] = true) := Lib.hid (fun e j h1 h2 h => by
        by_cases e1 : j < k
        · exact HY.out j h1 h2 e1
        · obtain rfl : j = k := by omega
          rw [← hp, ← hq]; exact e)
      have HK := Lib.hid (mgc_at hc)
      have HK' := Lib.hid (mgc_at hc')
      have hlI1 : (k : Int) < (xs.length : Int) := by omega
      have hlI2 : (k : Int) < (ys.length : Int) := by omega
      have h0I : (0 : Int) ≤ (k : Int) := by omega
      have heq := neq_mic p q
      obtain ⟨bb, hbb⟩ : ∃ b, b = sameM p q := ⟨_, rfl⟩
      rw [← hbb] at heq HNO HYE
      have HC : ∀ W, Held w W [] → ((W.cell? ⟨b, o + k * 12, none⟩ = some (.int .i64 p.1.1) ∧ W.cell? ⟨b, o + k * 12 + 1, none⟩ = some (.int .i64 p.1.2.1) ∧ W.cell? ⟨b, o + k * 12 + 2, none⟩ = some (.int .i64 p.1.2.2) ∧ W.cell? ⟨b, o + k * 12 + 3, none⟩ = some (.int .i64 p.2.1.1) ∧ W.cell? ⟨b, o + k * 12 + 4, none⟩ = some (.int .i64 p.2.1.2.1) ∧ W.cell? ⟨b, o + k * 12 + 5, none⟩ = some (.int .i64 p.2.1.2.2) ∧ W.cell? ⟨b, o + k * 12 + 6, none⟩ = some (.int .i64 p.2.2.1.1) ∧ W.cell? ⟨b, o + k * 12 + 7, none⟩ = some (.int .i64 p.2.2.1.2.1) ∧ W.cell? ⟨b, o + k * 12 + 8, none⟩ = some (.int .i64 p.2.2.1.2.2) ∧ W.cell? ⟨b, o + k * 12 + 9, none⟩ = some (.int .i64 p.2.2.2.1) ∧ W.cell? ⟨b, o + k * 12 + 10, none⟩ = some (.int .i64 p.2.2.2.2.1) ∧ W.cell? ⟨b, o + k * 12 + 11, none⟩ = some (.int .i64 p.2.2.2.2.2)) ∧ W.cell? ⟨b', o' + k * 12, none⟩ = some (.int .i64 q.1.1) ∧ W.cell? ⟨b', o' + k * 12 + 1, none⟩ = some (.int .i64 q.1.2.1) ∧ W.cell? ⟨b', o' + k * 12 + 2, none⟩ = some (.int .i64 q.1.2.2) ∧ W.cell? ⟨b', o' + k * 12 + 3, none⟩ = some (.int .i64 q.2.1.1) ∧ W.cell? ⟨b', o' + k * 12 + 4, none⟩ = some (.int .i64 q.2.1.2.1) ∧ W.cell? ⟨b', o' + k * 12 + 5, none⟩ = some (.int .i64 q.2.1.2.2) ∧ W.cell? ⟨b', o' + k * 12 + 6, none⟩ = some (.int .i64 q.2.2.1.1) ∧ W.cell? ⟨b', o' + k * 12 + 7, none⟩ = some (.int .i64 q.2.2.1.2.1) ∧ W.cell? ⟨b', o' + k * 12 + 8, none⟩ = some (.int .i64 q.2.2.1.2.2) ∧ W.cell? ⟨b', o' + k * 12 + 9, none⟩ = some (.int .i64 q.2.2.2.1) ∧ W.cell? ⟨b', o' + k * 12 + 10, none⟩ = some (.int .i64 q.2.2.2.2.1) ∧ W.cell? ⟨b', o' + k * 12 + 11, none⟩ = some (.int .i64 q.2.2.2.2.2)) := fun W h => ⟨⟨(h.below.cell (p := ⟨b, o + k * 12, none⟩) hbl).trans HK.out.1, (h.below.cell (p := ⟨b, o + k * 12 + 1, none⟩) hbl).trans HK.out.2.1, (h.below.cell (p := ⟨b, o + k * 12 + 2, none⟩) hbl).trans HK.out.2.2.1, (h.below.cell (p := ⟨b, o + k * 12 + 3, none⟩) hbl).trans HK.out.2.2.2.1, (h.below.cell (p := ⟨b, o + k * 12 + 4, none⟩) hbl).trans HK.out.2.2.2.2.1, (h.below.cell (p := ⟨b, o + k * 12 + 5, none⟩) hbl).trans HK.out.2.2.2.2.2.1, (h.below.cell (p := ⟨b, o + k * 12 + 6, none⟩) hbl).trans HK.out.2.2.2.2.2.2.1, (h.below.cell (p := ⟨b, o + k * 12 + 7, none⟩) hbl).trans HK.out.2.2.2.2.2.2.2.1, (h.below.cell (p := ⟨b, o + k * 12 + 8, none⟩) hbl).trans HK.out.2.2.2.2.2.2.2.2.1, (h.below.cell (p := ⟨b, o + k * 12 + 9, none⟩) hbl).trans HK.out.2.2.2.2.2.2.2.2.2.1, (h.below.cell (p := ⟨b, o + k * 12 + 10, none⟩) hbl).trans HK.out.2.2.2.2.2.2.2.2.2.2.1, (h.below.cell (p := ⟨b, o + k * 12 + 11, none⟩) hbl).trans HK.out.2.2.2.2.2.2.2.2.2.2.2⟩, (h.below.cell (p := ⟨b', o' + k * 12, none⟩) hbl').trans HK'.out.1, (h.below.cell (p := ⟨b', o' + k * 12 + 1, none⟩) hbl').trans HK'.out.2.1, (h.below.cell (p := ⟨b', o' + k * 12 + 2, none⟩) hbl').trans HK'.out.2.2.1, (h.below.cell (p := ⟨b', o' + k * 12 + 3, none⟩) hbl').trans HK'.out.2.2.2.1, (h.below.cell (p := ⟨b', o' + k * 12 + 4, none⟩) hbl').trans HK'.out.2.2.2.2.1, (h.below.cell (p := ⟨b', o' + k * 12 + 5, none⟩) hbl').trans HK'.out.2.2.2.2.2.1, (h.below.cell (p := ⟨b', o' + k * 12 + 6, none⟩) hbl').trans HK'.out.2.2.2.2.2.2.1, (h.below.cell (p := ⟨b', o' + k * 12 + 7, none⟩) hbl').trans HK'.out.2.2.2.2.2.2.2.1, (h.below.cell (p := ⟨b', o' + k * 12 + 8, none⟩) hbl').trans HK'.out.2.2.2.2.2.2.2.2.1, (h.below.cell (p := ⟨b', o' + k * 12 + 9, none⟩) hbl').trans HK'.out.2.2.2.2.2.2.2.2.2.1, (h.below.cell (p := ⟨b', o' + k * 12 + 10, none⟩) hbl').trans HK'.out.2.2.2.2.2.2.2.2.2.2.1, (h.below.cell (p := ⟨b', o' + k * 12 + 11, none⟩) hbl').trans HK'.out.2.2.2.2.2.2.2.2.2.2.2⟩
      have HQ : Held w wr [] := ⟨HB.out, fun i k vs h => by simp at h⟩
      clear hp hq hc hc' hbb
      obtain ⟨⟨c0, c1, c2, c3, c4, c5, c6, c7, c8, c9, c10, c11⟩, d0, d1, d2, d3, d4, d5, d6, d7, d8, d9, d10, d11⟩ := HC _ HQ
      clear HC HK HK'
      go_upto_region 6 with fail
      go_quiet (fail)
      have HQ := HQ.drewN nq
      clear c0 d0 c1 d1 c2 d2 c3 d3 c4 d4 c5 d5 c6 d6 c7 d7 c8 d8 c9 d9 c10 d10 c11 d11 heq
      rcases bb with _ | _
      · have HE := Lib.hid (HNO.out rfl)
        clear HNO HYE
        go_wp2_with fail
        go_ret
        rw [HE.out]
        exact ⟨rfl, HQ.below⟩
      · have HB7 := Lib.hid HQ.below
        clear HQ
        go_wp2_with fail
        go_roundw
        case rel => exact ⟨k + 1, by omega, by go_num, HYE.out rfl, HB7.out⟩
        case measure => simp [intOf]; omega
    · have HE := Lib.hid (sameL_yes hlen (fun j h1 h2 => HY.out j h1 h2 (by omega)))
      have hge : ¬ ((k : Int) < (xs.length : Int)) := by omega
      have hge2 : ¬ ((k : Int) < (ys.length : Int)) := by omega
      go_wp2_with fail
      go_ret
      rw [HE.out]
      exact ⟨rfl, HB.out⟩
set_option maxHeartbeats 4000000 in
theorem toMicS_any (A : Option Addr) (c : Nat) (xs : List V12) (w : World) (hR : RowC 12 tg w w.heap.size A xs) (hl : xs.length ≤ 1099511627776) :
    Calls Try.prog 29 #[.slice A xs.length c] w fun e w' => e = .returned (.slice (some ⟨w.heap.size, 0, none⟩) xs.length xs.length) ∧ Below w.heap.size w w' ∧ RowC 12 tg w' w'.heap.size (some ⟨w.heap.size, 0, none⟩) xs := by
  obtain ⟨i0, hi, hz0, hz1, hz2⟩ := info_parts infoMic
  go_enter Try.func29, Try.ntmps29
  go_wp2_with (at_make; refine wpList_make_full _ rfl _ _ 34 rfl w.heap.size 45 i0 (tr 0 0 0 0 0 0 0 0 0 0 0 0) 12 Try.underlying34 hi hz0 hz1 .i64 .i64 _ _ xs.length rfl rfl rfl rfl (by rw [hz2]; omega) (by unfold maxLen; omega) (by omega) ?_)
  intro w1 hown hgrow
  have hb0 : Below w.heap.size w w1 := (Below.refl _ _).grown hgrow (Nat.le_refl _) (fun k h => by cases h)
  have hown : w1.ownsRow w.heap.size 45 12 (.slice (some ⟨w.heap.size, 0, none⟩) xs.length xs.length) xs.length ((halfA ((0, 0, 0), (0, 0, 0), (0, 0, 0), (0, 0, 0)) xs 0).flatMap tg) := by
    rw [halfA_zero, replT, ← made12]; exact hown
  clear hgrow
  have HO := Lib.hid hown
  have HB0 := Lib.hid hb0
  clear hown hb0
  go_wp2
  go_loopw [4] (fun i wr => ∃ k : Nat, k ≤ xs.length ∧ i = .int .i64 k ∧ wr.ownsRow w.heap.size 45 12 (.slice (some ⟨w.heap.size, 0, none⟩) xs.length xs.length) xs.length ((halfA ((0, 0, 0), (0, 0, 0), (0, 0, 0), (0, 0, 0)) xs k).flatMap tg) ∧ Below w.heap.size w wr) (fun i _ => xs.length - (intOf i).toNat)
  case atStart => exact ⟨0, Nat.zero_le _, rfl, HO.out, HB0.out⟩
  case round =>
    obtain ⟨k, hk, rfl, hown, hb⟩ := hrel
    clear HO HB0
    by_cases hlt : k < xs.length
    · obtain ⟨b, o, rfl, hbl, hc⟩ := hR.at hlt
      obtain ⟨c0, c1, c2, c3, c4, c5, c6, c7, c8, c9, c10, c11⟩ := tg_at hc
      have c0 := (hb.cell (p := ⟨b, o + k * 12, none⟩) hbl).trans c0
      have c1 := (hb.cell (p := ⟨b, o + k * 12 + 1, none⟩) hbl).trans c1
      have c2 := (hb.cell (p := ⟨b, o + k * 12 + 2, none⟩) hbl).trans c2
      have c3 := (hb.cell (p := ⟨b, o + k * 12 + 3, none⟩) hbl).trans c3
      have c4 := (hb.cell (p := ⟨b, o + k * 12 + 4, none⟩) hbl).trans c4
      have c5 := (hb.cell (p := ⟨b, o + k * 12 + 5, none⟩) hbl).trans c5
      have c6 := (hb.cell (p := ⟨b, o + k * 12 + 6, none⟩) hbl).trans c6
      have c7 := (hb.cell (p := ⟨b, o + k * 12 + 7, none⟩) hbl).trans c7
      have c8 := (hb.cell (p := ⟨b, o + k * 12 + 8, none⟩) hbl).trans c8
      have c9 := (hb.cell (p := ⟨b, o + k * 12 + 9, none⟩) hbl).trans c9
      have c10 := (hb.cell (p := ⟨b, o + k * 12 + 10, none⟩) hbl).trans c10
      have c11 := (hb.cell (p := ⟨b, o + k * 12 + 11, none⟩) hbl).trans c11
      obtain ⟨v, hv⟩ : ∃ v, v = xs[k] := ⟨_, rfl⟩
      have HV := Lib.hid hv
      rw [← hv] at c0 c1 c2 c3 c4 c5 c6 c7 c8 c9 c10 c11
      have hlt' : (k : Int) < (xs.length : Int) := by omega
      have hge' : (0 : Int) ≤ (k : Int) := by omega
      have HO := Lib.hid hown
      have HB := Lib.hid hb
      clear hv hR hb hown hc
      go_wp2_with fail
      refine (toMic_any _ _ _ _ _ _ _ _ _ _ _ _ _).mono ?_
      rintro e w2 ⟨rfl, hb2⟩
      have hb := bcall HB.out hb2 HB.out.size
      have hown := own_keep' HO.out hb2
      clear hb2 HO HB c0 c1 c2 c3 c4 c5 c6 c7 c8 c9 c10 c11
      obtain ⟨x0, x1, x2, x3, x4, x5, x6, x7, x8, x9, x10, x11, d0, d1, d2, d3, d4, d5, d6, d7, d8, d9, d10, d11⟩ := own_tr hown (halfA_len _ _ _ hk) hlt
      have f0 := hown.frozenAt (k * 12)
      have f1 := hown.frozenAt (k * 12 + 1)
      have f2 := hown.frozenAt (k * 12 + 2)
      have f3 := hown.frozenAt (k * 12 + 3)
      have f4 := hown.frozenAt (k * 12 + 4)
      have f5 := hown.frozenAt (k * 12 + 5)
      have f6 := hown.frozenAt (k * 12 + 6)
      have f7 := hown.frozenAt (k * 12 + 7)
      have f8 := hown.frozenAt (k * 12 + 8)
      have f9 := hown.frozenAt (k * 12 + 9)
      have f10 := hown.frozenAt (k * 12 + 10)
      have f11 := hown.frozenAt (k * 12 + 11)
      have hs := ((((((((((((hown.stored (k * 12) (.int .i64 v.1.1)).1.stored (k * 12 + 1) (.int .i64 v.1.2.1)).1.stored (k * 12 + 2) (.int .i64 v.1.2.2)).1.stored (k * 12 + 3) (.int .i64 v.2.1.1)).1.stored (k * 12 + 4) (.int .i64 v.2.1.2.1)).1.stored (k * 12 + 5) (.int .i64 v.2.1.2.2)).1.stored (k * 12 + 6) (.int .i64 v.2.2.1.1)).1.stored (k * 12 + 7) (.int .i64 v.2.2.1.2.1)).1.stored (k * 12 + 8) (.int .i64 v.2.2.1.2.2)).1.stored (k * 12 + 9) (.int .i64 v.2.2.2.1)).1.stored (k * 12 + 10) (.int .i64 v.2.2.2.2.1)).1.stored (k * 12 + 11) (.int .i64 v.2.2.2.2.2)).1
      rw [tg_set, HV.out, halfA_step _ _ _ hlt, ← HV.out] at hs
      have hs' := ((((((((((((hb.setCell (p := ⟨w.heap.size, k * 12, none⟩) (Nat.le_refl _) (.int .i64 v.1.1)).setCell (p := ⟨w.heap.size, k * 12 + 1, none⟩) (Nat.le_refl _) (.int .i64 v.1.2.1)).setCell (p := ⟨w.heap.size, k * 12 + 2, none⟩) (Nat.le_refl _) (.int .i64 v.1.2.2)).setCell (p := ⟨w.heap.size, k * 12 + 3, none⟩) (Nat.le_refl _) (.int .i64 v.2.1.1)).setCell (p := ⟨w.heap.size, k * 12 + 4, none⟩) (Nat.le_refl _) (.int .i64 v.2.1.2.1)).setCell (p := ⟨w.heap.size, k * 12 + 5, none⟩) (Nat.le_refl _) (.int .i64 v.2.1.2.2)).setCell (p := ⟨w.heap.size, k * 12 + 6, none⟩) (Nat.le_refl _) (.int .i64 v.2.2.1.1)).setCell (p := ⟨w.heap.size, k * 12 + 7, none⟩) (Nat.le_refl _) (.int .i64 v.2.2.1.2.1)).setCell (p := ⟨w.heap.size, k * 12 + 8, none⟩) (Nat.le_refl _) (.int .i64 v.2.2.1.2.2)).setCell (p := ⟨w.heap.size, k * 12 + 9, none⟩) (Nat.le_refl _) (.int .i64 v.2.2.2.1)).setCell (p := ⟨w.heap.size, k * 12 + 10, none⟩) (Nat.le_refl _) (.int .i64 v.2.2.2.2.1)).setCell (p := ⟨w.heap.size, k * 12 + 11, none⟩) (Nat.le_refl _) (.int .i64 v.2.2.2.2.2))
      have HS := Lib.hid hs
      have HS' := Lib.hid hs'
      clear hb hown hs hs' HV
      go_wp2
      go_roundw
      case rel => exact ⟨k + 1, by omega, by go_num, HS.out, HS'.out⟩
      case measure => simp [intOf]; omega
    · have e : k = xs.length := by omega
      have hown : wr.ownsRow w.heap.size 45 12 (.slice (some ⟨w.heap.size, 0, none⟩) xs.length xs.length) xs.length (xs.flatMap tg) := by rw [e, halfA_all] at hown; exact hown
      have HO := Lib.hid hown
      have HB := Lib.hid hb
      clear e hown hb hR
      go_wp2
      go_ret
      exact ⟨rfl, HB.out, RowC.of_own tg_len HO.out rfl⟩


set_option maxHeartbeats 2000000 in
theorem sameMic_any (A A' : Option Addr) (c c' : Nat) (xs ys : List M4) (w : World) (hR : RowC 12 mgc w w.heap.size A xs) (hR' : RowC 12 mgc w w.heap.size A' ys) (hl : xs.length ≤ 1048576) :
    Calls Try.prog 30 #[.slice A xs.length c, .slice A' ys.length c'] w (BOut (sameL xs ys) w) := by
  have HE := Lib.hid (equalMic_any A A' c c' xs ys w hR hR' hl)
  clear hR hR' hl
  go_enter Try.func30, Try.ntmps30
  go_wp2_with (go_at_call 55; refine HE.out.mono ?_; rintro e w1 ⟨rfl, hb1⟩)
  go_ret
  exact ⟨rfl, hb1⟩

set_option maxRecDepth 100000 in
set_option maxHeartbeats 8000000 in
theorem sSameMic_any (A A' : Option Addr) (c c' : Nat) (xs ys : List M4) (w : World) (hR : RowC 12 mgc w w.heap.size A xs) (hR' : RowC 12 mgc w w.heap.size A' ys) (hl : xs.length ≤ 1048576) :
    Calls Try.prog 28 #[.slice A xs.length c, .slice A' ys.length c'] w (BOut (sameL xs ys) w) := by
  have HR := Lib.hid hR
  have HR' := Lib.hid hR'
  clear hR hR'
  by_cases hlen : xs.length = ys.length
  case neg =>
    have HE := Lib.hid (sameL_len hlen)
    have hlI : ¬ ((xs.length : Int) = (ys.length : Int)) := by omega
    clear HR HR' hl
    go_enter Try.func28, Try.ntmps28
    go_wp2_with fail
    go_ret
    rw [HE.out]
    exact ⟨rfl, by go_grown⟩
  case pos =>
  have hlI : (xs.length : Int) = (ys.length : Int) := by omega
  go_enter Try.func28, Try.ntmps28
  go_wp2_with fail
  go_loopw [14] (fun i wr => ∃ k : Nat, k ≤ xs.length ∧ i = .int .i64 k ∧ (∀ j (h1 : j < xs.length) (h2 : j < ys.length), j < k → sameM xs[j] ys[j] = true) ∧ Below w.heap.size w wr) (fun i _ => xs.length - (intOf i).toNat)
  case atStart => exact ⟨0, Nat.zero_le _, rfl, fun j _ _ h => absurd h (Nat.not_lt_zero _), Below.refl _ _⟩
  case round =>
    obtain ⟨k, hk, rfl, hyes, hb⟩ := hrel
    have HB := Lib.hid hb
    have HY := Lib.hid hyes
    clear hb hyes
    by_cases hlt : k < xs.length
    · have hlt2 : k < ys.length := by omega
      obtain ⟨b, o, rfl, hbl, hc⟩ := HR.out.at hlt
      obtain ⟨b', o', rfl, hbl', hc'⟩ := HR'.out.at hlt2
      obtain ⟨p, hp⟩ : ∃ p, p = xs[k] := ⟨_, rfl⟩
      obtain ⟨q, hq⟩ : ∃ q, q = ys[k] := ⟨_, rfl⟩
      rw [← hp] at hc
      rw [← hq] at hc'
      have HNO : Hid (sameM p q = false → sameL xs ys = false) := Lib.hid (fun e => sameL_not hlt hlt2 (by rw [← hp, ← hq]; exact e))
      have HYE : Hid (sameM p q = true → ∀ j (h1 : j < xs.length) (h2 : j < ys.length), j < k + 1 → sameM xs[j] ys[j] = true) := Lib.hid (fun e j h1 h2 h => by
        by_cases e1 : j < k
        · exact HY.out j h1 h2 e1
        · obtain rfl : j = k := by omega
          rw [← hp, ← hq]; exact e)
      have HK := Lib.hid (mgc_at hc)
      have HK' := Lib.hid (mgc_at hc')
      have hlI1 : (k : Int) < (xs.length : Int) := by omega
      have hlI2 : (k : Int) < (ys.length : Int) := by omega
      have h0I : (0 : Int) ≤ (k : Int) := by omega
      have heq := neq_mic p q
      obtain ⟨bb, hbb⟩ : ∃ b, b = sameM p q := ⟨_, rfl⟩
      rw [← hbb] at heq HNO HYE
      have HC : ∀ W, Held w W [] → ((W.cell? ⟨b, o + k * 12, none⟩ = some (.int .i64 p.1.1) ∧ W.cell? ⟨b, o + k * 12 + 1, none⟩ = some (.int .i64 p.1.2.1) ∧ W.cell? ⟨b, o + k * 12 + 2, none⟩ = some (.int .i64 p.1.2.2) ∧ W.cell? ⟨b, o + k * 12 + 3, none⟩ = some (.int .i64 p.2.1.1) ∧ W.cell? ⟨b, o + k * 12 + 4, none⟩ = some (.int .i64 p.2.1.2.1) ∧ W.cell? ⟨b, o + k * 12 + 5, none⟩ = some (.int .i64 p.2.1.2.2) ∧ W.cell? ⟨b, o + k * 12 + 6, none⟩ = some (.int .i64 p.2.2.1.1) ∧ W.cell? ⟨b, o + k * 12 + 7, none⟩ = some (.int .i64 p.2.2.1.2.1) ∧ W.cell? ⟨b, o + k * 12 + 8, none⟩ = some (.int .i64 p.2.2.1.2.2) ∧ W.cell? ⟨b, o + k * 12 + 9, none⟩ = some (.int .i64 p.2.2.2.1) ∧ W.cell? ⟨b, o + k * 12 + 10, none⟩ = some (.int .i64 p.2.2.2.2.1) ∧ W.cell? ⟨b, o + k * 12 + 11, none⟩ = some (.int .i64 p.2.2.2.2.2)) ∧ W.cell? ⟨b', o' + k * 12, none⟩ = some (.int .i64 q.1.1) ∧ W.cell? ⟨b', o' + k * 12 + 1, none⟩ = some (.int .i64 q.1.2.1) ∧ W.cell? ⟨b', o' + k * 12 + 2, none⟩ = some (.int .i64 q.1.2.2) ∧ W.cell? ⟨b', o' + k * 12 + 3, none⟩ = some (.int .i64 q.2.1.1) ∧ W.cell? ⟨b', o' + k * 12 + 4, none⟩ = some (.int .i64 q.2.1.2.1) ∧ W.cell? ⟨b', o' + k * 12 + 5, none⟩ = some (.int .i64 q.2.1.2.2) ∧ W.cell? ⟨b', o' + k * 12 + 6, none⟩ = some (.int .i64 q.2.2.1.1) ∧ W.cell? ⟨b', o' + k * 12 + 7, none⟩ = some (.int .i64 q.2.2.1.2.1) ∧ W.cell? ⟨b', o' + k * 12 + 8, none⟩ = some (.int .i64 q.2.2.1.2.2) ∧ W.cell? ⟨b', o' + k * 12 + 9, none⟩ = some (.int .i64 q.2.2.2.1) ∧ W.cell? ⟨b', o' + k * 12 + 10, none⟩ = some (.int .i64 q.2.2.2.2.1) ∧ W.cell? ⟨b', o' + k * 12 + 11, none⟩ = some (.int .i64 q.2.2.2.2.2)) := fun W h => ⟨⟨(h.below.cell (p := ⟨b, o + k * 12, none⟩) hbl).trans HK.out.1, (h.below.cell (p := ⟨b, o + k * 12 + 1, none⟩) hbl).trans HK.out.2.1, (h.below.cell (p := ⟨b, o + k * 12 + 2, none⟩) hbl).trans HK.out.2.2.1, (h.below.cell (p := ⟨b, o + k * 12 + 3, none⟩) hbl).trans HK.out.2.2.2.1, (h.below.cell (p := ⟨b, o + k * 12 + 4, none⟩) hbl).trans HK.out.2.2.2.2.1, (h.below.cell (p := ⟨b, o + k * 12 + 5, none⟩) hbl).trans HK.out.2.2.2.2.2.1, (h.below.cell (p := ⟨b, o + k * 12 + 6, none⟩) hbl).trans HK.out.2.2.2.2.2.2.1, (h.below.cell (p := ⟨b, o + k * 12 + 7, none⟩) hbl).trans HK.out.2.2.2.2.2.2.2.1, (h.below.cell (p := ⟨b, o + k * 12 + 8, none⟩) hbl).trans HK.out.2.2.2.2.2.2.2.2.1, (h.below.cell (p := ⟨b, o + k * 12 + 9, none⟩) hbl).trans HK.out.2.2.2.2.2.2.2.2.2.1, (h.below.cell (p := ⟨b, o + k * 12 + 10, none⟩) hbl).trans HK.out.2.2.2.2.2.2.2.2.2.2.1, (h.below.cell (p := ⟨b, o + k * 12 + 11, none⟩) hbl).trans HK.out.2.2.2.2.2.2.2.2.2.2.2⟩, (h.below.cell (p := ⟨b', o' + k * 12, none⟩) hbl').trans HK'.out.1, (h.below.cell (p := ⟨b', o' + k * 12 + 1, none⟩) hbl').trans HK'.out.2.1, (h.below.cell (p := ⟨b', o' + k * 12 + 2, none⟩) hbl').trans HK'.out.2.2.1, (h.below.cell (p := ⟨b', o' + k * 12 + 3, none⟩) hbl').trans HK'.out.2.2.2.1, (h.below.cell (p := ⟨b', o' + k * 12 + 4, none⟩) hbl').trans HK'.out.2.2.2.2.1, (h.below.cell (p := ⟨b', o' + k * 12 + 5, none⟩) hbl').trans HK'.out.2.2.2.2.2.1, (h.below.cell (p := ⟨b', o' + k * 12 + 6, none⟩) hbl').trans HK'.out.2.2.2.2.2.2.1, (h.below.cell (p := ⟨b', o' + k * 12 + 7, none⟩) hbl').trans HK'.out.2.2.2.2.2.2.2.1, (h.below.cell (p := ⟨b', o' + k * 12 + 8, none⟩) hbl').trans HK'.out.2.2.2.2.2.2.2.2.1, (h.below.cell (p := ⟨b', o' + k * 12 + 9, none⟩) hbl').trans HK'.out.2.2.2.2.2.2.2.2.2.1, (h.below.cell (p := ⟨b', o' + k * 12 + 10, none⟩) hbl').trans HK'.out.2.2.2.2.2.2.2.2.2.2.1, (h.below.cell (p := ⟨b', o' + k * 12 + 11, none⟩) hbl').trans HK'.out.2.2.2.2.2.2.2.2.2.2.2⟩
      have HQ : Held w wr [] := ⟨HB.out, fun i k vs h => by simp at h⟩
      clear hp hq hc hc' hbb
      obtain ⟨⟨c0, c1, c2, c3, c4, c5, c6, c7, c8, c9, c10, c11⟩, _⟩ := HC _ HQ
      go_upto_region 6 with fail
      clear c0 c1 c2 c3 c4 c5 c6 c7 c8 c9 c10 c11
      have HQ := HQ.alloc (.cells #[.int .i64 p.1.1, .int .i64 p.1.2.1, .int .i64 p.1.2.2, .int .i64 p.2.1.1, .int .i64 p.2.1.2.1, .int .i64 p.2.1.2.2, .int .i64 p.2.2.1.1, .int .i64 p.2.2.1.2.1, .int .i64 p.2.2.1.2.2, .int .i64 p.2.2.2.1, .int .i64 p.2.2.2.2.1, .int .i64 p.2.2.2.2.2] 45)
      obtain ⟨_, d0, d1, d2, d3, d4, d5, d6, d7, d8, d9, d10, d11⟩ := HC _ HQ
      clear HC HK HK'
      go_quiet (fail)
      have HQ := HQ.drewN nq
      clear d0 d1 d2 d3 d4 d5 d6 d7 d8 d9 d10 d11 heq
      rcases bb with _ | _
      · have HE := Lib.hid (HNO.out rfl)
        clear HNO HYE
        go_wp2_with fail
        go_ret
        rw [HE.out]
        exact ⟨rfl, HQ.below⟩
      · have HB7 := Lib.hid HQ.below
        clear HQ
        go_wp2_with fail
        go_roundw
        case rel => exact ⟨k + 1, by omega, by go_num, HYE.out rfl, HB7.out⟩
        case measure => simp [intOf]; omega
    · have HE := Lib.hid (sameL_yes hlen (fun j h1 h2 => HY.out j h1 h2 (by omega)))
      have hge : ¬ ((k : Int) < (xs.length : Int)) := by omega
      have hge2 : ¬ ((k : Int) < (ys.length : Int)) := by omega
      go_wp2_with fail
      go_ret
      rw [HE.out]
      exact ⟨rfl, HB.out⟩

theorem rowM {w : World} {B : Nat} {A : Option Addr} {xs : List M4} (h : RowC 12 tg w B A xs) : RowC 12 mgc w B A xs := h
end Go.Proofs.Ytmhcpjednogegaa
