/- Textures of the model: HalfTexture. -/
import Derived.Test.YtaelhbbfddcabaaProg
import Derived.Test.YtaelhbbfddcabaaInts
import Derived.Test.YtaelhbbfddcabaaVbox
import Derived.Test.YtaelhbbfddcabaaHeld
import Derived.Test.YtaelhbbfddcabaaMem
import Derived.Test.YtaelhbbfddcabaaFlat
import Derived.Test.YtaelhbbfddcabaaRowC
import Derived.Test.YtaelhbbfddcabaaKS
import Derived.Test.YtaelhbbfddcabaaStrS
import Derived.Test.YtaelhbbfddcabaaIntS
import Derived.Test.YtaelhbbfddcabaaSS
import Derived.Test.YtaelhbbfddcabaaVi
import Derived.Test.YtaelhbbfddcabaaVa
import Derived.Test.YtaelhbbfddcabaaVb
import Derived.Test.YtaelhbbfddcabaaVc
import Derived.Test.YtaelhbbfddcabaaVd
import Derived.WalkKit
import Derived.WalkSpells
import Derived.WalkLawsBesides
import Derived.Lib.Hide
import Derived.Deep.RegionHeld3
import Derived.Deep.QuietTactic
import Derived.BigQuiet
import Derived.Handy
import Derived.Deep.DeepCutAuto
import Derived.OwnWalk
namespace Go.Proofs.Ytaelhbbfddcabaa
open Go.RowKit

theorem Held.grownX {w W W' : World} {row : Option Nat} {bs : List (Nat × List Value)} (h : Held w W bs) (hg : W.grownBy W' row) (hk : ∀ g, row = some g → w.heap.size ≤ g) (hne : ∀ p ∈ bs, some p.1 ≠ row) : Held w W' bs :=
  ⟨h.1.grown hg h.1.size hk, fun i k vs e => (h.2 i k vs e).keep fun hl => hg.block k hl (hne (k, vs) (List.mem_of_getElem? e))⟩
/-- a texture that a call made, and true -/
def TxMade (L : Int) (ts : List Int) (w : World) (e : Ending) (w' : World) : Prop :=
  ∃ (A : Option Addr) (c : Nat), e = .returned (.tuple #[txv L A ts.length c, .bool true]) ∧ w'.ownsRow w.heap.size 3 1 (.slice A ts.length c) ts.length (ts.map I64) ∧ Below w.heap.size w w'
/-- no texture -/
def TxNone (w : World) (e : Ending) (w' : World) : Prop := e = .returned (.tuple #[txv 0 none 0 0, .bool false]) ∧ Below w.heap.size w w'
/-- where a texture has a next level -/
def okH (L : Int) (ts : List Int) : Bool := okX L ts && decide (1 ≤ L)

set_option maxRecDepth 100000 in
set_option maxHeartbeats 8000000 in
theorem sHalf_no (L : Int) (A : Option Addr) (c : Nat) (ts : List Int) (w : World) (hR : Row I64 w w.heap.size A ts) (hl : ts.length ≤ 1048576) (hno : okH L ts = false) :
    Calls Try.prog 87 #[txv L A ts.length c] w (TxNone w) := by
  have HT : Held w ((w.alloc (.cells #[.int .i64 L, .slice A ts.length c] 25)).alloc (.cells #[.int .i64 0, .slice none 0 0] 25)) [(w.heap.size + 1, [.int .i64 0, .slice none 0 0]), (w.heap.size, [.int .i64 L, .slice A ts.length c])] := by
    have h := ((Held.nil w).new #[.int .i64 L, .slice A ts.length c] 25).new #[.int .i64 0, .slice none 0 0] 25
    simpa only [World.size_alloc] using h
  obtain ⟨W1, hW1⟩ : ∃ W, W = (w.alloc (.cells #[.int .i64 L, .slice A ts.length c] 25)).alloc (.cells #[.int .i64 0, .slice none 0 0] 25) := ⟨_, rfl⟩
  rw [← hW1] at HT
  have hsz : W1.heap.size = w.heap.size + 2 := by rw [hW1]; simp
  have HR1 := Lib.hid (hR.later HT.below)
  have HVC := Lib.hid (sIsValidT_any L A c ts W1 HR1.out hl)
  have HR0 := Lib.hid (fun W (h : Below w.heap.size w W) => hR.later h)
  clear hR
  go_enter Try.func87, Try.ntmps87
  go_upto_region 1 with fail
  rw [← hW1]
  generalize g1 : w.heap.size + 1 = k1 at HT ⊢
  have HK := Lib.hid (show w.heap.size < k1 ∧ k1 < W1.heap.size by omega)
  generalize g0 : w.heap.size = k0 at HT ⊢
  have HK0 := Lib.hid g0
  have m0 := (HT.box 1).c 0
  have m1 := (HT.box 1).c 1
  clear hW1 g0 g1 hsz
  have HTI := Lib.hid HT
  clear HT
  go_wp2_with fail
  refine HVC.out.mono ?_
  rintro e w2 ⟨rfl, hb2⟩
  have HT2 := Lib.hid (HTI.out.later hb2)
  have HR2 := Lib.hid (HR1.out.later hb2)
  have hsz2 := hb2.size
  clear hb2 m0 m1
  cases hok : okX L ts with
  | false =>
    clear hok hno hsz2
    have HT := HT2.out
    have m0 := (HT.box 1).c 0
    have m1 := (HT.box 1).c 1
    have r0 := (HT.box 0).c 0
    have r1 := (HT.box 0).c 1
    have o0 := (HT.box 0).f 0
    have o1 := (HT.box 0).f 1
    have HTB := Lib.hid HT.below
    clear HT
    go_wp2_with fail
    have hq1 : w.heap.size ≤ k1 := by have := HK.out; omega
    exact bodyPost_ret (v := .tuple #[txv 0 none 0 0, .bool false]) (by simp [results, Try.results87, go_sem, r0, r1]) rfl ⟨rfl, (HTB.out.setCell (p := ⟨k1, 0, none⟩) hq1 _).setCell (p := ⟨k1, 1, none⟩) hq1 _⟩
  | true =>
    have h0 : L = 0 := by
      unfold okH at hno
      rw [hok] at hno
      have := okX_iff.1 hok
      have h1 := this.1
      simp at hno
      omega
    subst h0
    clear hok hno hsz2
    have HT := HT2.out
    have m0 := (HT.box 1).c 0
    have m1 := (HT.box 1).c 1
    have r0 := (HT.box 0).c 0
    have r1 := (HT.box 0).c 1
    have o0 := (HT.box 0).f 0
    have o1 := (HT.box 0).f 1
    have HTB := Lib.hid HT.below
    clear HT
    go_wp2_with fail
    have hq1 : w.heap.size ≤ k1 := by have := HK.out; omega
    exact bodyPost_ret (v := .tuple #[txv 0 none 0 0, .bool false]) (by simp [results, Try.results87, go_sem, r0, r1]) rfl ⟨rfl, (HTB.out.setCell (p := ⟨k1, 0, none⟩) hq1 _).setCell (p := ⟨k1, 1, none⟩) hq1 _⟩

set_option maxRecDepth 100000 in
set_option maxHeartbeats 32000000 in
theorem sHalf_yes (L : Int) (A : Option Addr) (c : Nat) (ts : List Int) (w : World) (hR : Row I64 w w.heap.size A ts) (hl : ts.length ≤ 1048576) (hyes : okH L ts = true) :
    Calls Try.prog 87 #[txv L A ts.length c] w (TxMade (L - 1) (halfL L ts) w) := by
  have hokX : okX L ts = true := by unfold okH at hyes; simp only [Bool.and_eq_true] at hyes; exact hyes.1
  have h1 : 1 ≤ L := by unfold okH at hyes; simp only [Bool.and_eq_true, decide_eq_true_eq] at hyes; exact hyes.2
  have hok := okX_iff.1 hokX
  have hL := hok.1
  obtain ⟨i0, hi, hz0, hz1, hz2⟩ := info_parts infoInt
  have HT : Held w ((w.alloc (.cells #[.int .i64 L, .slice A ts.length c] 25)).alloc (.cells #[.int .i64 0, .slice none 0 0] 25)) [(w.heap.size + 1, [.int .i64 0, .slice none 0 0]), (w.heap.size, [.int .i64 L, .slice A ts.length c])] := by
    have h := ((Held.nil w).new #[.int .i64 L, .slice A ts.length c] 25).new #[.int .i64 0, .slice none 0 0] 25
    simpa only [World.size_alloc] using h
  obtain ⟨W1, hW1⟩ : ∃ W, W = (w.alloc (.cells #[.int .i64 L, .slice A ts.length c] 25)).alloc (.cells #[.int .i64 0, .slice none 0 0] 25) := ⟨_, rfl⟩
  rw [← hW1] at HT
  have hsz : W1.heap.size = w.heap.size + 2 := by rw [hW1]; simp
  have HR1 := Lib.hid (hR.later HT.below)
  have HVC := Lib.hid (sIsValidT_any L A c ts W1 HR1.out hl)
  have HR0 := Lib.hid (fun W (h : Below w.heap.size w W) => hR.later h)
  clear hR
  have HTX := Lib.hid (fun (x y : Int) (W : World) (h : Row I64 W W.heap.size A ts) => sTxl_any L A c ts x y W h hok)
  have HTBD := Lib.hid (fun (x y : Int) => txl_bd hok x y)
  have HBBD := Lib.hid (fun (x y : Int) => blkT_bd hok x y)
  rw [hokX] at HVC
  clear hokX hyes
  go_enter Try.func87, Try.ntmps87
  go_upto_region 1 with fail
  rw [← hW1]
  generalize g1 : w.heap.size + 1 = k1 at HT ⊢
  have HK := Lib.hid (show w.heap.size < k1 ∧ k1 < W1.heap.size by omega)
  generalize g0 : w.heap.size = k0 at HT ⊢
  have HK0 := Lib.hid g0
  have m0 := (HT.box 1).c 0
  have m1 := (HT.box 1).c 1
  clear hW1 g0 g1 hsz
  have HTI := Lib.hid HT
  clear HT
  go_wp2_with fail
  refine HVC.out.mono ?_
  rintro e w2 ⟨rfl, hb2⟩
  have HT2 := Lib.hid (HTI.out.later hb2)
  have HR2 := Lib.hid (HR1.out.later hb2)
  have hsz2 := hb2.size
  clear hb2 m0 m1
  have ewL : IntKind.i64.wrap (L - 1) = L - 1 := wrap_v (by omega)
  have hL0 : (L == 0) = false := by rw [beq_eq_false_iff_ne]; omega
  have HT := HT2.out.new #[.int .i64 (L - 1), .slice none 0 0] 25
  have m0 := (HT2.out.box 1).c 0
  have m1 := (HT2.out.box 1).c 1
  have HS := Lib.hid (fun W => sSize_any (L - 1) W (by omega))
  have HNX := Lib.hid (fun (r cc : Nat) (h : cc < sd (L - 1)) => hfL_next (L := L) (ts := ts) (r := r) h)
  have HEND : Hid (halfL L ts = hfL L ts (sd (L - 1) * sd (L - 1))) := Lib.hid rfl
  have hs8 : sd (L - 1) ≤ 8 := by
    rcases sd_cases (show 0 ≤ L - 1 ∧ L - 1 ≤ 4 by omega) with h | h | h | h | h <;> try omega
    exfalso
    have h2 := sd_half h1
    have h3 := sd_le hL
    omega
  obtain ⟨s, hs⟩ : ∃ s, s = sd (L - 1) := ⟨_, rfl⟩
  rw [← hs] at HS HNX HEND hs8
  have HLL := Lib.hid (And.intro h1 hL)
  have HOKK := Lib.hid hok
  clear hs h1 hL hok
  go_upto_region 4 with fail
  obtain ⟨W3, hW3⟩ : ∃ W, W = w2.alloc (.cells #[.int .i64 (L - 1), .slice none 0 0] 25) := ⟨_, rfl⟩
  obtain ⟨k2, hk2⟩ : ∃ k, k = w2.heap.size := ⟨_, rfl⟩
  have hs3 : W3.heap.size = k2 + 1 := by rw [hW3, hk2]; simp
  rw [← hW3] at HT ⊢
  rw [← hk2] at HT hsz2 ⊢
  clear hW3 hk2 m0 m1
  obtain ⟨B0, hB0⟩ : ∃ B, B = W3.heap.size := ⟨_, rfl⟩
  have HORD := Lib.hid (show w.heap.size < k1 ∧ k1 < k2 ∧ k2 < B0 ∧ k0 = w.heap.size by have h1 := HK.out; have h2 := HK0.out; omega)
  have m0 := (HT.box 0).c 0
  have HT3 := Lib.hid HT
  have HB0 := Lib.hid hB0
  clear HT hs3 hsz2 hB0
  go_wp2_with fail
  refine (HS.out _).mono ?_
  rintro e w4 ⟨rfl, rfl⟩
  clear m0 ewL hL0
  go_wp2_with fail
  go_loopw [6] (fun rv wr => ∃ r : Nat, r ≤ s ∧ rv = .int .i64 r ∧ ∃ S, Held w wr [(k2, [.int .i64 (L - 1), S]), (k1, [.int .i64 0, .slice none 0 0]), (k0, [.int .i64 L, .slice A ts.length c])] ∧ wr.ownsRow B0 3 1 S (r * s) ((hfL L ts (r * s)).map I64) ∧ B0 ≤ wr.heap.size) (fun rv _ => s - (intOf rv).toNat)
  case atStart => exact ⟨0, Nat.zero_le _, rfl, .slice none 0 0, HT3.out, by rw [Nat.zero_mul]; exact World.ownsRow_nil _ _ _ _, by rw [HB0.out]; exact Nat.le_refl _⟩
  case round =>
    obtain ⟨r, hr, rfl, S, HT, hown, hsz⟩ := hrel
    by_cases hlt : r < s
    · have hlt' : (r : Int) < (s : Int) := by omega
      have HI0 := Lib.hid (And.intro HT (And.intro hown hsz))
      clear HT hown hsz
      go_wp2_with fail
      go_loopw [7] (fun cv wr => ∃ cc : Nat, cc ≤ s ∧ cv = .int .i64 cc ∧ ∃ S, Held w wr [(k2, [.int .i64 (L - 1), S]), (k1, [.int .i64 0, .slice none 0 0]), (k0, [.int .i64 L, .slice A ts.length c])] ∧ wr.ownsRow B0 3 1 S (r * s + cc) ((hfL L ts (r * s + cc)).map I64) ∧ B0 ≤ wr.heap.size) (fun cv _ => s - (intOf cv).toNat)
      case atStart => exact ⟨0, Nat.zero_le _, rfl, S, HI0.out.1, HI0.out.2.1, HI0.out.2.2⟩
      case round =>
        clear HI0
        obtain ⟨cc, hcc, rfl, S, HT, hown, hsz⟩ := hrel
        by_cases hct : cc < s
        · have hct' : (cc : Int) < (s : Int) := by omega
          obtain ⟨v, hv⟩ : ∃ v, v = blkT L ts (cc : Int) (r : Int) := ⟨_, rfl⟩
          have HN := Lib.hid (HNX.out r cc hct)
          have hvb := HBBD.out (cc : Int) (r : Int)
          rw [← hv] at HN hvb
          have hbw := HT.below
          have HRw := Lib.hid (HR0.out wr hbw)
          obtain ⟨a0, ha0⟩ : ∃ a, a = txl L ts (2 * (cc : Int)) (2 * (r : Int)) := ⟨_, rfl⟩
          have HX0 := Lib.hid (fun W (h : Below wr.heap.size wr W) => HTX.out (2 * (cc : Int)) (2 * (r : Int)) W (HRw.out.later h))
          have hbd0 := HTBD.out (2 * (cc : Int)) (2 * (r : Int))
          rw [← ha0] at HX0 hbd0
          obtain ⟨a1, ha1⟩ : ∃ a, a = txl L ts (2 * (cc : Int) + 1) (2 * (r : Int)) := ⟨_, rfl⟩
          have HX1 := Lib.hid (fun W (h : Below wr.heap.size wr W) => HTX.out (2 * (cc : Int) + 1) (2 * (r : Int)) W (HRw.out.later h))
          have hbd1 := HTBD.out (2 * (cc : Int) + 1) (2 * (r : Int))
          rw [← ha1] at HX1 hbd1
          obtain ⟨a2, ha2⟩ : ∃ a, a = txl L ts (2 * (cc : Int)) (2 * (r : Int) + 1) := ⟨_, rfl⟩
          have HX2 := Lib.hid (fun W (h : Below wr.heap.size wr W) => HTX.out (2 * (cc : Int)) (2 * (r : Int) + 1) W (HRw.out.later h))
          have hbd2 := HTBD.out (2 * (cc : Int)) (2 * (r : Int) + 1)
          rw [← ha2] at HX2 hbd2
          obtain ⟨a3, ha3⟩ : ∃ a, a = txl L ts (2 * (cc : Int) + 1) (2 * (r : Int) + 1) := ⟨_, rfl⟩
          have HX3 := Lib.hid (fun W (h : Below wr.heap.size wr W) => HTX.out (2 * (cc : Int) + 1) (2 * (r : Int) + 1) W (HRw.out.later h))
          have hbd3 := HTBD.out (2 * (cc : Int) + 1) (2 * (r : Int) + 1)
          rw [← ha3] at HX3 hbd3
          obtain ⟨q, hq⟩ : ∃ q, q = a0 + a1 + a2 + a3 := ⟨_, rfl⟩
          have hqv : q / 4 = v := by
            rw [hv, hq, ha0, ha1, ha2, ha3]
            rfl
          have e9 : q.tdiv 4 = v := by rw [Int.tdiv_eq_ediv_of_nonneg (by omega)]; exact hqv
          have w0 : IntKind.i64.wrap (2 * (cc : Int)) = 2 * (cc : Int) := wrap_v (by omega)
          have w1 : IntKind.i64.wrap (2 * (cc : Int) + 1) = 2 * (cc : Int) + 1 := wrap_v (by omega)
          have w2' : IntKind.i64.wrap (2 * (r : Int)) = 2 * (r : Int) := wrap_v (by omega)
          have w3 : IntKind.i64.wrap (2 * (r : Int) + 1) = 2 * (r : Int) + 1 := wrap_v (by omega)
          have w4 : IntKind.i64.wrap (a0 + a1) = a0 + a1 := wrap_v (by omega)
          have w5 : IntKind.i64.wrap (a0 + a1 + a2) = a0 + a1 + a2 := wrap_v (by omega)
          have w6 : IntKind.i64.wrap (a0 + a1 + a2 + a3) = q := by rw [← hq]; exact wrap_v (by omega)
          have w8 : IntKind.i64.wrap v = v := wrap_v (by omega)
          have HQ9 := Lib.hid (And.intro e9 w8)
          have HWR := Lib.hid (And.intro HT (And.intro hown hsz))
          obtain ⟨w9, hw9⟩ : ∃ x, x = wr := ⟨_, rfl⟩
          rw [← hw9] at HWR HX0 HX1 HX2 HX3 ⊢
          have HT : Held w9 w9 [(k2, [.int .i64 (L - 1), S]), (k1, [.int .i64 0, .slice none 0 0]), (k0, [.int .i64 L, .slice A ts.length c])] := ⟨Below.refl _ _, HWR.out.1.2⟩
          have HC : ∀ W', Held w9 W' [(k2, [.int .i64 (L - 1), S]), (k1, [.int .i64 0, .slice none 0 0]), (k0, [.int .i64 L, .slice A ts.length c])] → W'.cell? ⟨k0, 0, none⟩ = some (.int .i64 L) ∧ W'.cell? ⟨k0, 1, none⟩ = some (.slice A ts.length c) := fun W' h => ⟨(h.box 2).c 0, (h.box 2).c 1⟩
          clear hown hsz hbw HRw ha0 ha1 ha2 ha3 hbd0 hbd1 hbd2 hbd3 hq hqv hv e9 w8 hvb hw9
          go_upto_region 11 with fail
          go_cut [8] (fun y wx => y = .int .i64 q ∧ Held w9 wx [(k2, [.int .i64 (L - 1), S]), (k1, [.int .i64 0, .slice none 0 0]), (k0, [.int .i64 L, .slice A ts.length c])])
          case first =>
            go_region_held3 (fun W' => W'.cell? ⟨k0, 0, none⟩ = some (.int .i64 L) ∧ W'.cell? ⟨k0, 1, none⟩ = some (.slice A ts.length c))
              (first | (with_reducible exact HC _ HT) | (with_reducible exact HC _ HT.drew))
              ((first | (go_at_call 94; (with_reducible refine (HX0.out _ (by first | with_reducible exact HT.below | with_reducible exact HT.drew.below)).mono ?_); rintro e w7 ⟨rfl, hb7⟩; (first | (have HT := HT.later hb7) | (have HT := HT.drew.later hb7))) | (go_at_call 94; (with_reducible refine (HX1.out _ (by first | with_reducible exact HT.below | with_reducible exact HT.drew.below)).mono ?_); rintro e w7 ⟨rfl, hb7⟩; (first | (have HT := HT.later hb7) | (have HT := HT.drew.later hb7))) | (go_at_call 94; (with_reducible refine (HX2.out _ (by first | with_reducible exact HT.below | with_reducible exact HT.drew.below)).mono ?_); rintro e w7 ⟨rfl, hb7⟩; (first | (have HT := HT.later hb7) | (have HT := HT.drew.later hb7))) | (go_at_call 94; (with_reducible refine (HX3.out _ (by first | with_reducible exact HT.below | with_reducible exact HT.drew.below)).mono ?_); rintro e w7 ⟨rfl, hb7⟩; (first | (have HT := HT.later hb7) | (have HT := HT.drew.later hb7)))))
            all_goals (go_wp2_with fail; go_meet)
            all_goals (first | exact ⟨rfl, HT⟩ | exact ⟨rfl, HT.drew⟩)
          case rest =>
            clear HC HT HX0 HX1 HX2 HX3 w0 w1 w2' w3 w4 w5 w6
            obtain ⟨rfl, HT⟩ := hcut
            have hown := own_keep' HWR.out.2.1 HT.below
            have HTW : Held w wc [(k2, [.int .i64 (L - 1), S]), (k1, [.int .i64 0, .slice none 0 0]), (k0, [.int .i64 L, .slice A ts.length c])] := HWR.out.1.later HT.below |>.pick (by simp)
            have hbase : B0 ≤ wc.heap.size := Nat.le_trans HWR.out.2.2 HT.below.size
            have n1 := (HT.box 0).c 1
            have e9 := HQ9.out.1
            have e10 := HQ9.out.2
            have HOW := Lib.hid hown
            have HTX9 := Lib.hid HTW
            have hk64 : r * s + cc < 64 := by
              have h1 : r * s + s ≤ s * s := by rw [← Nat.succ_mul]; exact Nat.mul_le_mul_right s hlt
              have h2 : s * s ≤ 8 * 8 := Nat.mul_le_mul hs8 hs8
              omega
            clear hown HTW HT
            go_wp2_with (at_builtin; refine wpList_app1 wc rfl _ _ 23 rfl B0 3 (.int .i64 0) 8 Try.underlying23 infoInt rfl _ _ _ (by rfl) HOW.out _ (by rfl) (by rfl) (by unfold maxLen; omega) (by omega) hbase ?_)
            intro v' w4 ho4 hg4
            have HT4 := HTX9.out.grownX hg4 (fun g e => by have h1 := own_block HOW.out g e; have h2 := HORD.out; omega) (fun p hp e => by
              have h2 := HORD.out
              have h1 := own_block HOW.out p.1 e.symm
              simp only [List.mem_cons, List.not_mem_nil, or_false] at hp
              rcases hp with rfl | rfl | rfl <;> dsimp only at h1 <;> omega)
            obtain ⟨A5, c5, rfl⟩ := own_shape ho4
            have n1 := (HT4.box 0).c 1
            have f1 := (HT4.box 0).f 1
            have hs4 := hg4.size
            have HT5 := HT4.put (by have := HORD.out; omega) (fun p hp => by
              have h2 := HORD.out
              simp only [List.mem_cons, List.not_mem_nil, or_false] at hp
              rcases hp with rfl | rfl <;> (show _ ≠ _) <;> omega) 1 (.slice A5 (r * s + cc + 1) c5)
            have ho5 := ownsRow_setCell_below ho4 (a := ⟨k2, 1, none⟩) (by have := HORD.out; show k2 < B0; omega) (.slice A5 (r * s + cc + 1) c5)
            have hl5 : B0 ≤ (w4.setCell ⟨k2, 1, none⟩ (.slice A5 (r * s + cc + 1) c5)).heap.size := by simp; omega
            have HEN := Lib.hid (And.intro HT5 (And.intro ho5 hl5))
            clear HT4 HT5 ho4 ho5 hg4 hs4 hl5 hbase e9 e10 hk64
            go_wp2_with fail
            go_roundw
            case rel => exact ⟨cc + 1, by omega, by go_num, .slice A5 (r * s + cc + 1) c5, HEN.out.1, by rw [show r * s + (cc + 1) = r * s + cc + 1 by omega, HN.out, List.map_append]; exact HEN.out.2.1, HEN.out.2.2⟩
            case measure => simp [intOf]; omega
        · have e : cc = s := by omega
          have HI1 : Hid (Held w wr [(k2, [.int .i64 (L - 1), S]), (k1, [.int .i64 0, .slice none 0 0]), (k0, [.int .i64 L, .slice A ts.length c])] ∧ wr.ownsRow B0 3 1 S ((r + 1) * s) ((hfL L ts ((r + 1) * s)).map I64) ∧ B0 ≤ wr.heap.size) := Lib.hid ⟨HT, by rw [show (r + 1) * s = r * s + cc by rw [Nat.add_mul, Nat.one_mul, e]]; exact hown, hsz⟩
          have hni : ¬ ((cc : Nat) : Int) < ((s : Nat) : Int) := by omega
          clear e
          clear HT hown hsz
          go_wp2_with fail
          go_roundw
          case rel => exact ⟨r + 1, by omega, by go_num, S, HI1.out⟩
          case measure => simp [intOf]; omega
    · obtain rfl : r = s := by omega
      have hni : ¬ ((r : Nat) : Int) < ((r : Nat) : Int) := by omega
      rw [show r * r = r * r from rfl] at hown
      have hsl : S = S := rfl
      obtain ⟨A4, c4, hS⟩ := own_shape hown
      subst hS
      have hlenH : (halfL L ts).length = r * r := by rw [HEND.out, hfL_len]
      rw [← HEND.out] at hown
      have m0 := (HT.box 0).c 0
      have m1 := (HT.box 0).c 1
      have r0 := (HT.box 1).c 0
      have r1 := (HT.box 1).c 1
      have o0 := (HT.box 1).f 0
      have o1 := (HT.box 1).f 1
      have HTB := Lib.hid HT.below
      have HOE := Lib.hid hown
      have hne : ¬ k1 = k2 := by have := HORD.out; omega
      have hne2 : ¬ k2 = k1 := by have := HORD.out; omega
      clear HT hown hsz hsl
      go_wp2_with fail
      have hq1 : w.heap.size ≤ k1 := by have := HORD.out; omega
      have ho1 := ownsRow_setCell_below (ownsRow_setCell_below HOE.out (a := ⟨k1, 0, none⟩) (by have := HORD.out; show k1 < B0; omega) (.int .i64 (L - 1))) (a := ⟨k1, 1, none⟩) (by have := HORD.out; show k1 < B0; omega) (.slice A4 (r * r) c4)
      exact bodyPost_ret (v := .tuple #[txv (L - 1) A4 (r * r) c4, .bool true]) (by simp [results, Try.results87, go_sem, r0, r1]) rfl ⟨A4, c4, by rw [hlenH], by rw [hlenH]; exact own_base ho1 (by have := HORD.out; omega), (HTB.out.setCell (p := ⟨k1, 0, none⟩) hq1 _).setCell (p := ⟨k1, 1, none⟩) hq1 _⟩
end Go.Proofs.Ytaelhbbfddcabaa
