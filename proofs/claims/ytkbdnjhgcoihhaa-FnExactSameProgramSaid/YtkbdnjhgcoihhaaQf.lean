/- Equal programs: the program. -/
import Derived.Test.YtkbdnjhgcoihhaaProg
import Derived.Test.YtkbdnjhgcoihhaaInts
import Derived.Test.YtkbdnjhgcoihhaaVbox
import Derived.Test.YtkbdnjhgcoihhaaHeld
import Derived.Test.YtkbdnjhgcoihhaaMem
import Derived.Test.YtkbdnjhgcoihhaaFlat
import Derived.Test.YtkbdnjhgcoihhaaRowC
import Derived.Test.YtkbdnjhgcoihhaaKS
import Derived.Test.YtkbdnjhgcoihhaaStrS
import Derived.Test.YtkbdnjhgcoihhaaIntS
import Derived.Test.YtkbdnjhgcoihhaaSS
import Derived.Test.YtkbdnjhgcoihhaaPg
import Derived.Test.YtkbdnjhgcoihhaaPh
import Derived.Test.YtkbdnjhgcoihhaaIdent
import Derived.Test.YtkbdnjhgcoihhaaPn
import Derived.Test.YtkbdnjhgcoihhaaQa
import Derived.WalkKit
import Derived.WalkSpells
import Derived.WalkLawsBesides
import Derived.Lib.Hide
import Derived.Deep.RegionHeld3
import Derived.Deep.QuietTactic
import Derived.BigQuiet
import Derived.Handy
import Derived.Deep.DeepCutAuto
namespace Go.Proofs.Ytkbdnjhgcoihhaa
open Go.RowKit

theorem str_beqR (a b : ByteArray) : (a.toList == b.toList) = decide (a = b) := by
  by_cases h : a = b
  · subst h
    simp
  · rw [decide_eq_false h]
    simp only [beq_eq_false_iff_ne, ne_eq]
    intro e
    apply h
    apply ByteArray.ext
    rw [ByteArray.toList_eq, ByteArray.toList_eq] at e
    exact Array.toList_inj.1 e
theorem ne_len {α : Type} {xs ys : List α} (h : ¬ xs.length = ys.length) : ¬ xs = ys := fun e => h (by rw [e])
theorem ne_at {α : Type} {xs ys : List α} {k : Nat} (h1 : k < xs.length) (h2 : k < ys.length) (h : ¬ xs[k] = ys[k]) : ¬ xs = ys := fun e => by
  subst e
  exact h rfl
theorem eq_all {α : Type} {xs ys : List α} (hl : xs.length = ys.length) (h : ∀ j (h1 : j < xs.length) (h2 : j < ys.length), xs[j] = ys[j]) : xs = ys := List.ext_getElem hl h

theorem asg_neq (a c : ByteArray) (b d : Int) (w : World) : (binOp .neq 48 (.agg #[.string a, .int .i64 b]) (.agg #[.string c, .int .i64 d])).run Try.prog w = .ok (.bool (!(decide (((a, b) : As) = (c, d))))) w := by
  have u3 := Try.underlying3
  have a3 := Try.isAgg3
  have z3 := Try.sizeOf3
  have us := Try.underlying9
  have as1 := Try.isAgg9
  have zs := Try.sizeOf9
  have hS : Try.prog.underlying 48 = some (.struct (Try.prog.fieldsOf 48)) := by kernel_rfl
  have hp : Try.prog.stoodInHeld 48 = false := by kernel_rfl
  rw [run_neq_struct, show (10000 : Nat) = 9999 + 1 from rfl, run_equalIn_agg w 9999 48 _ _ hS hp]
  simp only [Program.fieldsOf, Try.underlying48]
  go_simp
  by_cases h1 : a = c
  · by_cases h2 : b = d <;> simp [h1, h2]
  · have e : ¬ a.toList = c.toList := fun e => by
      have := str_beqR a c
      rw [e] at this
      simp [h1] at this
    by_cases h2 : b = d <;> simp [h1, h2, e]

set_option maxRecDepth 100000 in
set_option maxHeartbeats 8000000 in
theorem equalInt_any (A A' : Option Addr) (c c' : Nat) (xs ys : List Int) (w : World) (hR : Row I64 w w.heap.size A xs) (hR' : Row I64 w w.heap.size A' ys) (hl : xs.length ≤ 1099511627776) :
    Calls Try.prog 51 #[.slice A xs.length c, .slice A' ys.length c'] w (BoolOut (xs = ys) w) := by
  have HR := Lib.hid hR
  have HR' := Lib.hid hR'
  clear hR hR'
  by_cases hlen : xs.length = ys.length
  case neg =>
    have HE := Lib.hid (ne_len hlen)
    have hlI : ¬ ((xs.length : Int) = (ys.length : Int)) := by omega
    clear HR HR' hl
    go_enter Try.func51, Try.ntmps51
    go_wp2_with fail
    go_ret
    exact ⟨false, rfl, iffF HE.out, Below.refl _ _⟩
  case pos =>
  have hlI : (xs.length : Int) = (ys.length : Int) := by omega
  go_enter Try.func51, Try.ntmps51
  go_wp2_with fail
  go_loopw [13] (fun i wr => ∃ k : Nat, k ≤ xs.length ∧ i = .int .i64 k ∧ (∀ j (h1 : j < xs.length) (h2 : j < ys.length), j < k → xs[j] = ys[j]) ∧ Below w.heap.size w wr) (fun i _ => xs.length - (intOf i).toNat)
  case atStart => exact ⟨0, Nat.zero_le _, rfl, fun j _ _ h => absurd h (Nat.not_lt_zero _), Below.refl _ _⟩
  case round =>
    obtain ⟨k, hk, rfl, hyes, hb⟩ := hrel
    have HB := Lib.hid hb
    have HY := Lib.hid hyes
    clear hb hyes
    by_cases hlt : k < xs.length
    · have hlt2 : k < ys.length := by omega
      obtain ⟨b, o, rfl, hbl, hc⟩ := HR.out.at hlt
      obtain ⟨b', o', rfl, hbl', hc'⟩ := HR'.out.at hlt2
      obtain ⟨p, hp⟩ : ∃ p, p = xs[k] := ⟨_, rfl⟩
      obtain ⟨q, hq⟩ : ∃ q, q = ys[k] := ⟨_, rfl⟩
      rw [← hp] at hc
      rw [← hq] at hc'
      have HNO : Hid (decide (p = q) = false → ¬ xs = ys) := Lib.hid (fun e => ne_at hlt hlt2 (by rw [← hp, ← hq]; exact of_decide_eq_false e))
      have HYE : Hid (decide (p = q) = true → ∀ j (h1 : j < xs.length) (h2 : j < ys.length), j < k + 1 → xs[j] = ys[j]) := Lib.hid (fun e j h1 h2 h => by
        by_cases e1 : j < k
        · exact HY.out j h1 h2 e1
        · obtain rfl : j = k := by omega
          rw [← hp, ← hq]; exact of_decide_eq_true e)

      have hlI1 : (k : Int) < (xs.length : Int) := by omega
      have hlI2 : (k : Int) < (ys.length : Int) := by omega
      have h0I : (0 : Int) ≤ (k : Int) := by omega
      have heq : (p != q) = !(decide (p = q)) := by by_cases h : p = q <;> simp [h]
      obtain ⟨bb, hbb⟩ : ∃ b, b = decide (p = q) := ⟨_, rfl⟩
      rw [← hbb] at heq HNO HYE
      have HC : ∀ W, Held w W [] → (W.cell? ⟨b, o + k, none⟩ = some (.int .i64 p) ∧ W.cell? ⟨b', o' + k, none⟩ = some (.int .i64 q)) := fun W h => ⟨(h.below.cell hbl).trans (hc), (h.below.cell hbl').trans (hc')⟩
      have HQ : Held w wr [] := ⟨HB.out, fun i k vs h => by simp at h⟩
      obtain ⟨d0, d1⟩ := HC _ HQ
      clear HC hp hq hbb
      try clear hc hc'
      try clear HK HK'
      go_upto_region 6 with fail
      go_quiet (fail)
      have HQ := HQ.drewN nq
      clear d0 d1 heq
      rcases bb with _ | _
      · have HE := Lib.hid (HNO.out rfl)
        clear HNO HYE
        go_wp2_with fail
        go_ret
        exact ⟨false, rfl, iffF HE.out, HQ.below⟩
      · have HB7 := Lib.hid HQ.below
        have HYE := Lib.hid (HYE.out rfl)
        clear HQ HNO
        go_wp2_with fail
        go_roundw
        case rel => exact ⟨k + 1, by omega, by go_num, HYE.out, HB7.out⟩
        case measure => simp [intOf]; omega
    · have HE := Lib.hid (eq_all hlen (fun j h1 h2 => HY.out j h1 h2 (by omega)))
      have hge : ¬ ((k : Int) < (xs.length : Int)) := by omega
      have hge2 : ¬ ((k : Int) < (ys.length : Int)) := by omega
      go_wp2_with fail
      go_ret
      exact ⟨true, rfl, iffT HE.out, HB.out⟩

set_option maxRecDepth 100000 in
set_option maxHeartbeats 8000000 in
theorem equalAsg_any (A A' : Option Addr) (c c' : Nat) (xs ys : List As) (w : World) (hR : RowC 2 asg w w.heap.size A xs) (hR' : RowC 2 asg w w.heap.size A' ys) (hl : xs.length ≤ 1099511627776) :
    Calls Try.prog 38 #[.slice A xs.length c, .slice A' ys.length c'] w (BoolOut (xs = ys) w) := by
  have HR := Lib.hid hR
  have HR' := Lib.hid hR'
  clear hR hR'
  by_cases hlen : xs.length = ys.length
  case neg =>
    have HE := Lib.hid (ne_len hlen)
    have hlI : ¬ ((xs.length : Int) = (ys.length : Int)) := by omega
    clear HR HR' hl
    go_enter Try.func38, Try.ntmps38
    go_wp2_with fail
    go_ret
    exact ⟨false, rfl, iffF HE.out, Below.refl _ _⟩
  case pos =>
  have hlI : (xs.length : Int) = (ys.length : Int) := by omega
  go_enter Try.func38, Try.ntmps38
  go_wp2_with fail
  go_loopw [13] (fun i wr => ∃ k : Nat, k ≤ xs.length ∧ i = .int .i64 k ∧ (∀ j (h1 : j < xs.length) (h2 : j < ys.length), j < k → xs[j] = ys[j]) ∧ Below w.heap.size w wr) (fun i _ => xs.length - (intOf i).toNat)
  case atStart => exact ⟨0, Nat.zero_le _, rfl, fun j _ _ h => absurd h (Nat.not_lt_zero _), Below.refl _ _⟩
  case round =>
    obtain ⟨k, hk, rfl, hyes, hb⟩ := hrel
    have HB := Lib.hid hb
    have HY := Lib.hid hyes
    clear hb hyes
    by_cases hlt : k < xs.length
    · have hlt2 : k < ys.length := by omega
      obtain ⟨b, o, rfl, hbl, hc⟩ := HR.out.at hlt
      obtain ⟨b', o', rfl, hbl', hc'⟩ := HR'.out.at hlt2
      obtain ⟨p, hp⟩ : ∃ p, p = xs[k] := ⟨_, rfl⟩
      obtain ⟨q, hq⟩ : ∃ q, q = ys[k] := ⟨_, rfl⟩
      rw [← hp] at hc
      rw [← hq] at hc'
      have HNO : Hid (decide (p = q) = false → ¬ xs = ys) := Lib.hid (fun e => ne_at hlt hlt2 (by rw [← hp, ← hq]; exact of_decide_eq_false e))
      have HYE : Hid (decide (p = q) = true → ∀ j (h1 : j < xs.length) (h2 : j < ys.length), j < k + 1 → xs[j] = ys[j]) := Lib.hid (fun e j h1 h2 h => by
        by_cases e1 : j < k
        · exact HY.out j h1 h2 e1
        · obtain rfl : j = k := by omega
          rw [← hp, ← hq]; exact of_decide_eq_true e)
      have HK := asg_at hc
      have HK' := asg_at hc'
      have hlI1 : (k : Int) < (xs.length : Int) := by omega
      have hlI2 : (k : Int) < (ys.length : Int) := by omega
      have h0I : (0 : Int) ≤ (k : Int) := by omega
      have heq := asg_neq p.1 q.1 p.2 q.2
      obtain ⟨bb, hbb⟩ : ∃ b, b = decide (p = q) := ⟨_, rfl⟩
      rw [← hbb] at heq HNO HYE
      have HC : ∀ W, Held w W [] → (W.cell? ⟨b, o + k * 2, none⟩ = some (.string p.1) ∧ W.cell? ⟨b, o + k * 2 + 1, none⟩ = some (.int .i64 p.2) ∧ W.cell? ⟨b', o' + k * 2, none⟩ = some (.string q.1) ∧ W.cell? ⟨b', o' + k * 2 + 1, none⟩ = some (.int .i64 q.2)) := fun W h => ⟨(h.below.cell hbl).trans (HK.1), (h.below.cell hbl).trans (HK.2), (h.below.cell hbl').trans (HK'.1), (h.below.cell hbl').trans (HK'.2)⟩
      have HQ : Held w wr [] := ⟨HB.out, fun i k vs h => by simp at h⟩
      obtain ⟨d0, d1, d2, d3⟩ := HC _ HQ
      clear HC hp hq hbb
      try clear hc hc'
      try clear HK HK'
      go_upto_region 6 with fail
      go_quiet (fail)
      have HQ := HQ.drewN nq
      clear d0 d1 d2 d3 heq
      rcases bb with _ | _
      · have HE := Lib.hid (HNO.out rfl)
        clear HNO HYE
        go_wp2_with fail
        go_ret
        exact ⟨false, rfl, iffF HE.out, HQ.below⟩
      · have HB7 := Lib.hid HQ.below
        have HYE := Lib.hid (HYE.out rfl)
        clear HQ HNO
        go_wp2_with fail
        go_roundw
        case rel => exact ⟨k + 1, by omega, by go_num, HYE.out, HB7.out⟩
        case measure => simp [intOf]; omega
    · have HE := Lib.hid (eq_all hlen (fun j h1 h2 => HY.out j h1 h2 (by omega)))
      have hge : ¬ ((k : Int) < (xs.length : Int)) := by omega
      have hge2 : ¬ ((k : Int) < (ys.length : Int)) := by omega
      go_wp2_with fail
      go_ret
      exact ⟨true, rfl, iffT HE.out, HB.out⟩

set_option maxRecDepth 100000 in
set_option maxHeartbeats 8000000 in
theorem sameNode_any (v0 v2 u0 u2 : Int) (v1 u1 : ByteArray) (a a' : Option Addr) (ca ca' : Nat) (v3 u3 : List Int) (w : World) (hR : Row I64 w w.heap.size a v3) (hR' : Row I64 w w.heap.size a' u3) (hl : v3.length ≤ 1099511627776) :
    Calls Try.prog 37 #[.agg #[.int .i64 v0, .string v1, .int .i64 v2, .slice a v3.length ca], .agg #[.int .i64 u0, .string u1, .int .i64 u2, .slice a' u3.length ca']] w (BoolOut (((v0, v1, v2, v3) : Nd) = (u0, u1, u2, u3)) w) := by
  obtain ⟨W2, hW2⟩ : ∃ W, W = (w.alloc (.cells #[.int .i64 v0, .string v1, .int .i64 v2, .slice a v3.length ca] 45)).alloc (.cells #[.int .i64 u0, .string u1, .int .i64 u2, .slice a' u3.length ca'] 45) := ⟨_, rfl⟩
  have HT : Held w ((w.alloc (.cells #[.int .i64 v0, .string v1, .int .i64 v2, .slice a v3.length ca] 45)).alloc (.cells #[.int .i64 u0, .string u1, .int .i64 u2, .slice a' u3.length ca'] 45)) [(w.heap.size + 1, [.int .i64 u0, .string u1, .int .i64 u2, .slice a' u3.length ca']), (w.heap.size, [.int .i64 v0, .string v1, .int .i64 v2, .slice a v3.length ca])] := by
    have h := ((Held.nil w).new #[.int .i64 v0, .string v1, .int .i64 v2, .slice a v3.length ca] 45).new #[.int .i64 u0, .string u1, .int .i64 u2, .slice a' u3.length ca'] 45
    simpa only [World.size_alloc] using h
  rw [← hW2] at HT
  have HEQ := Lib.hid (equalInt_any a a' ca ca' v3 u3 W2 (row_up hR HT.below) (row_up hR' HT.below) hl)
  have HB := Lib.hid HT.below
  go_enter Try.func37, Try.ntmps37
  go_upto_region 1 with fail
  rw [← hW2]
  have c0 := (HT.box 1).c 0
  have c1 := (HT.box 1).c 1
  have c2 := (HT.box 1).c 2
  have c3 := (HT.box 1).c 3
  have d0 := (HT.box 0).c 0
  have d1 := (HT.box 0).c 1
  have d2 := (HT.box 0).c 2
  have d3 := (HT.box 0).c 3
  clear hW2 HT hR hR'
  by_cases h0 : v0 = u0
  · have b0 : (v0 == u0) = true := by simp [h0]
    have H0 := Lib.hid h0
    clear h0
    by_cases h1 : v1 = u1
    · have b1 : (v1.toList == u1.toList) = true := by rw [str_beqR]; exact decide_eq_true h1
      have H1 := Lib.hid h1
      clear h1
      by_cases h2 : v2 = u2
      · have b2 : (v2 == u2) = true := by simp [h2]
        have H2 := Lib.hid h2
        clear h2
        go_wp2_with fail
        refine HEQ.out.mono ?_
        rintro e w3 ⟨q, rfl, hq, hb3⟩
        have HB3 := Lib.hid (HB.out.trans (hb3.mono HB.out.size))
        have HZ : Hid (q = true ↔ ((v0, v1, v2, v3) : Nd) = (u0, u1, u2, u3)) := Lib.hid ⟨fun e => by rw [H0.out, H1.out, H2.out, hq.1 e], fun e => hq.2 (by injection e with _ e; injection e with _ e; injection e)⟩
        clear hq hb3
        go_wp2_with fail
        go_ret
        exact ⟨q, rfl, HZ.out, HB3.out⟩
      · have b2 : (v2 == u2) = false := by simp [h2]
        have HZ : Hid (¬ ((v0, v1, v2, v3) : Nd) = (u0, u1, u2, u3)) := Lib.hid fun e => h2 (by injection e with _ e; injection e with _ e; injection e)
        clear h2
        go_wp2_with fail
        go_ret
        exact ⟨false, rfl, iffF HZ.out, HB.out⟩
    · have b1 : (v1.toList == u1.toList) = false := by rw [str_beqR]; exact decide_eq_false h1
      have HZ : Hid (¬ ((v0, v1, v2, v3) : Nd) = (u0, u1, u2, u3)) := Lib.hid fun e => h1 (by injection e with _ e; injection e)
      clear h1
      go_wp2_with fail
      go_ret
      exact ⟨false, rfl, iffF HZ.out, HB.out⟩
  · have b0 : (v0 == u0) = false := by simp [h0]
    have HZ : Hid (¬ ((v0, v1, v2, v3) : Nd) = (u0, u1, u2, u3)) := Lib.hid fun e => h0 (by injection e)
    clear h0
    go_wp2_with fail
    go_ret
    exact ⟨false, rfl, iffF HZ.out, HB.out⟩

set_option maxRecDepth 100000 in
set_option maxHeartbeats 8000000 in
theorem equalNodes_any (A A' : Option Addr) (c c' : Nat) (xs ys : List Nd) (w : World) (hR : NdRow w w.heap.size A xs) (hR' : NdRow w w.heap.size A' ys) (hl : xs.length ≤ 1099511627776) (hm : ∀ x ∈ xs, x.2.2.2.length ≤ 1099511627776) :
    Calls Try.prog 36 #[.slice A xs.length c, .slice A' ys.length c', .func (.func 37) #[] #[]] w (BoolOut (xs = ys) w) := by
  have HR := Lib.hid hR
  have HR' := Lib.hid hR'
  have HMX := Lib.hid hm
  clear hR hR' hm
  by_cases hlen : xs.length = ys.length
  case neg =>
    have HE := Lib.hid (ne_len hlen)
    have hlI : ¬ ((xs.length : Int) = (ys.length : Int)) := by omega
    clear HR HR' hl
    go_enter Try.func36, Try.ntmps36
    go_wp2_with fail
    go_ret
    exact ⟨false, rfl, iffF HE.out, Below.refl _ _⟩
  case pos =>
  have hlI : (xs.length : Int) = (ys.length : Int) := by omega
  go_enter Try.func36, Try.ntmps36
  go_wp2_with fail
  go_loopw [17] (fun i wr => ∃ k : Nat, k ≤ xs.length ∧ i = .int .i64 k ∧ (∀ j (h1 : j < xs.length) (h2 : j < ys.length), j < k → xs[j] = ys[j]) ∧ Below w.heap.size w wr) (fun i _ => xs.length - (intOf i).toNat)
  case atStart => exact ⟨0, Nat.zero_le _, rfl, fun j _ _ h => absurd h (Nat.not_lt_zero _), Below.refl _ _⟩
  case round =>
    have HLI := Lib.hid hlI
    clear hlI
    obtain ⟨k, hk, rfl, hyes, hb⟩ := hrel
    have HB := Lib.hid hb
    have HY := Lib.hid hyes
    clear hb hyes
    by_cases hlt : k < xs.length
    · have hlt2 : k < ys.length := by omega
      have HLN := Lib.hid hlen
      clear hlen
      obtain ⟨b, o, rfl, hbl, a, ca, c0, c1, c2, c3, hca1, hca2, hrow⟩ := HR.out.at hlt
      obtain ⟨b', o', rfl, hbl', a', ca', d0, d1, d2, d3, hcb1, hcb2, hrow'⟩ := HR'.out.at hlt2
      have hmm := HMX.out _ (List.getElem_mem hlt)
      obtain ⟨v, hv⟩ : ∃ v, v = xs[k] := ⟨_, rfl⟩
      obtain ⟨u, hu⟩ : ∃ u, u = ys[k] := ⟨_, rfl⟩
      rw [← hv] at c0 c1 c2 c3 hrow hmm hca1
      rw [← hu] at d0 d1 d2 d3 hrow' hcb1
      have HV := Lib.hid hv
      have HUU := Lib.hid hu
      clear hv hu
      have c0 := (HB.out.cell (p := ⟨b, o + k * 4, none⟩) hbl).trans c0
      have c1 := (HB.out.cell (p := ⟨b, o + k * 4 + 1, none⟩) hbl).trans c1
      have c2 := (HB.out.cell (p := ⟨b, o + k * 4 + 2, none⟩) hbl).trans c2
      have c3 := (HB.out.cell (p := ⟨b, o + k * 4 + 3, none⟩) hbl).trans c3
      have hrow := hrow.below HB.out
      have d0 := (HB.out.cell (p := ⟨b', o' + k * 4, none⟩) hbl').trans d0
      have d1 := (HB.out.cell (p := ⟨b', o' + k * 4 + 1, none⟩) hbl').trans d1
      have d2 := (HB.out.cell (p := ⟨b', o' + k * 4 + 2, none⟩) hbl').trans d2
      have d3 := (HB.out.cell (p := ⟨b', o' + k * 4 + 3, none⟩) hbl').trans d3
      have hrow' := hrow'.below HB.out
      obtain ⟨v0, v1, v2, v3⟩ := v
      obtain ⟨u0, u1, u2, u3⟩ := u
      dsimp only at c0 c1 c2 c3 d0 d1 d2 d3 hrow hrow' hmm hca1 hcb1
      have hlI1 : (k : Int) < (xs.length : Int) := by omega
      have hlI2 : (k : Int) < (ys.length : Int) := by omega
      have h0I : (0 : Int) ≤ (k : Int) := by omega
      have hs := HB.out.size
      have HR1 := Lib.hid hrow
      have HR2 := Lib.hid hrow'
      clear hrow hrow'
      go_upto_region 6 with fail
      obtain ⟨W1, hW1⟩ : ∃ W, W = wr.alloc (.cells #[.int .i64 v0, .string v1, .int .i64 v2, .slice a v3.length ca] 45) := ⟨_, rfl⟩
      have M1 := Mbox.new wr #[.int .i64 v0, .string v1, .int .i64 v2, .slice a v3.length ca] 45
      have HB1 := Lib.hid (HB.out.alloc hs (.cells #[.int .i64 v0, .string v1, .int .i64 v2, .slice a v3.length ca] 45))
      have hb1 : Below w.heap.size wr (wr.alloc (.cells #[.int .i64 v0, .string v1, .int .i64 v2, .slice a v3.length ca] 45)) := (Below.refl _ _).alloc hs _
      rw [← hW1] at M1 HB1 hb1 ⊢
      have d0 := (hb1.cell (p := ⟨b', o' + k * 4, none⟩) hbl').trans d0
      have d1 := (hb1.cell (p := ⟨b', o' + k * 4 + 1, none⟩) hbl').trans d1
      have d2 := (hb1.cell (p := ⟨b', o' + k * 4 + 2, none⟩) hbl').trans d2
      have d3 := (hb1.cell (p := ⟨b', o' + k * 4 + 3, none⟩) hbl').trans d3
      have HR1 := Lib.hid (HR1.out.below hb1)
      have HR2 := Lib.hid (HR2.out.below hb1)
      have hs1 := HB1.out.size
      have HM1 := Lib.hid M1
      clear hW1 hb1 M1 c0 c1 c2 c3
      go_upto_region 7 with fail
      obtain ⟨W2, hW2⟩ : ∃ W, W = W1.alloc (.cells #[.int .i64 u0, .string u1, .int .i64 u2, .slice a' u3.length ca'] 45) := ⟨_, rfl⟩
      have M2 := Mbox.new W1 #[.int .i64 u0, .string u1, .int .i64 u2, .slice a' u3.length ca'] 45
      have HB2 := Lib.hid (HB1.out.alloc hs1 (.cells #[.int .i64 u0, .string u1, .int .i64 u2, .slice a' u3.length ca'] 45))
      have hb2 : Below w.heap.size W1 (W1.alloc (.cells #[.int .i64 u0, .string u1, .int .i64 u2, .slice a' u3.length ca'] 45)) := (Below.refl _ _).alloc hs1 _
      have M1 := HM1.out.later (show Below W1.heap.size W1 (W1.alloc (.cells #[.int .i64 u0, .string u1, .int .i64 u2, .slice a' u3.length ca'] 45)) by go_grown)
      rw [← hW2] at M1 M2 HB2 hb2 ⊢
      have HR1 := Lib.hid (HR1.out.below hb2)
      have HR2 := Lib.hid (HR2.out.below hb2)
      have hs2 := HB2.out.size
      have m0 := M1.c 0
      have m1 := M1.c 1
      have m2 := M1.c 2
      have m3 := M1.c 3
      have n0 := M2.c 0
      have n1 := M2.c 1
      have n2 := M2.c 2
      have n3 := M2.c 3
      have HSN := Lib.hid (sameNode_any v0 v2 u0 u2 v1 u1 a a' ca ca' v3 u3 W2 (HR1.out.more hs2) (HR2.out.more hs2) hmm)
      clear hW2 hb2 M1 M2 d0 d1 d2 d3 HM1
      go_wp2_with fail
      refine HSN.out.mono ?_
      rintro e w3 ⟨q, rfl, hq, hb3⟩
      have HB3 := Lib.hid (HB2.out.trans (hb3.mono hs2))
      have HQ := Lib.hid hq
      clear hq hb3 m0 m1 m2 m3 n0 n1 n2 n3
      cases q with
      | false =>
        have HE : Hid (¬ xs = ys) := Lib.hid (ne_at hlt hlt2 (by rw [← HV.out, ← HUU.out]; exact fun e => by have := HQ.out.2 e; cases this))
        go_wp2_with fail
        go_ret
        exact ⟨false, rfl, iffF HE.out, HB3.out⟩
      | true =>
        have HST : Hid (∀ j (h1 : j < xs.length) (h2 : j < ys.length), j < k + 1 → xs[j] = ys[j]) := Lib.hid fun j h1 h2 h => by
          by_cases e1 : j < k
          · exact HY.out j h1 h2 e1
          · obtain rfl : j = k := by omega
            rw [← HV.out, ← HUU.out]
            exact HQ.out.1 rfl
        go_wp2_with fail
        go_roundw
        case rel => exact ⟨k + 1, by omega, by go_num, HST.out, HB3.out⟩
        case measure => simp [intOf]; omega
    · have HE := Lib.hid (eq_all hlen (fun j h1 h2 => HY.out j h1 h2 (by omega)))
      have hge : ¬ ((k : Int) < (xs.length : Int)) := by omega
      have hge2 : ¬ ((k : Int) < (ys.length : Int)) := by omega
      go_wp2_with fail
      go_ret
      exact ⟨true, rfl, iffT HE.out, HB.out⟩

set_option maxRecDepth 100000 in
set_option maxHeartbeats 8000000 in
theorem sameProg_any (A A' B B' : Option Addr) (c c' d d' : Nat) (xs us : List Nd) (ys vs : List As) (w : World) (hR : ProgIn w w.heap.size A A' xs ys) (hR' : ProgIn w w.heap.size B B' us vs) (hl : xs.length ≤ 1099511627776) (hl2 : ys.length ≤ 1099511627776) (hm : ∀ x ∈ xs, x.2.2.2.length ≤ 1099511627776) :
    Calls Try.prog 13 #[pgv A A' xs.length c ys.length c', pgv B B' us.length d vs.length d'] w (BoolOut (xs = us ∧ ys = vs) w) := by
  obtain ⟨W2, hW2⟩ : ∃ W, W = (w.alloc (.cells #[.slice A xs.length c, .slice A' ys.length c'] 31)).alloc (.cells #[.slice B us.length d, .slice B' vs.length d'] 31) := ⟨_, rfl⟩
  have HT : Held w ((w.alloc (.cells #[.slice A xs.length c, .slice A' ys.length c'] 31)).alloc (.cells #[.slice B us.length d, .slice B' vs.length d'] 31)) [(w.heap.size + 1, [.slice B us.length d, .slice B' vs.length d']), (w.heap.size, [.slice A xs.length c, .slice A' ys.length c'])] := by
    have h := ((Held.nil w).new #[.slice A xs.length c, .slice A' ys.length c'] 31).new #[.slice B us.length d, .slice B' vs.length d'] 31
    simpa only [World.size_alloc] using h
  rw [← hW2] at HT
  have HR := Lib.hid ((hR.below HT.below).more HT.below.size)
  have HR' := Lib.hid ((hR'.below HT.below).more HT.below.size)
  have HEN := Lib.hid (equalNodes_any A B c d xs us W2 HR.out.1 HR'.out.1 hl hm)
  clear hR hR'
  go_enter Try.func13, Try.ntmps13
  go_upto_region 1 with fail
  rw [← hW2]
  clear hW2
  have c0 := (HT.box 1).c 0
  have d0 := (HT.box 0).c 0
  go_wp2_with fail
  refine HEN.out.mono ?_
  rintro e w3 ⟨q, rfl, hq, hb3⟩
  have HT := HT.later hb3
  have c1 := (HT.box 1).c 1
  have d1 := (HT.box 0).c 1
  have HQ := Lib.hid hq
  cases q with
  | false =>
    have HZ : Hid (¬ (xs = us ∧ ys = vs)) := Lib.hid fun h => by have := hq.2 h.1; cases this
    clear hq hb3
    go_wp2_with fail
    go_ret
    exact ⟨false, rfl, iffF HZ.out, HT.below⟩
  | true =>
    have HX := Lib.hid (hq.1 rfl)
    have HEA := Lib.hid (equalAsg_any A' B' c' d' ys vs w3 (HR.out.2.later hb3) (HR'.out.2.later hb3) hl2)
    clear hq hb3 c0 d0 HQ
    go_wp2_with fail
    refine HEA.out.mono ?_
    rintro e w4 ⟨q, rfl, hq, hb4⟩
    have HT := HT.later hb4
    have HZ : Hid (q = true ↔ (xs = us ∧ ys = vs)) := Lib.hid ⟨fun e => ⟨HX.out, hq.1 e⟩, fun h => hq.2 h.2⟩
    clear hq hb4 c1 d1
    go_wp2_with fail
    go_ret
    exact ⟨q, rfl, HZ.out, HT.below⟩
end Go.Proofs.Ytkbdnjhgcoihhaa
