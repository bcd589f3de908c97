/- TilesFor of the model. -/
import Derived.Test.YtaelhbbfddcabaaProg
import Derived.Test.YtaelhbbfddcabaaInts
import Derived.Test.YtaelhbbfddcabaaVbox
import Derived.Test.YtaelhbbfddcabaaHeld
import Derived.Test.YtaelhbbfddcabaaMem
import Derived.Test.YtaelhbbfddcabaaFlat
import Derived.Test.YtaelhbbfddcabaaRowC
import Derived.Test.YtaelhbbfddcabaaKS
import Derived.Test.YtaelhbbfddcabaaStrS
import Derived.Test.YtaelhbbfddcabaaIntS
import Derived.Test.YtaelhbbfddcabaaSS
import Derived.Test.YtaelhbbfddcabaaVi
import Derived.Test.YtaelhbbfddcabaaVa
import Derived.Test.YtaelhbbfddcabaaVb
import Derived.Test.YtaelhbbfddcabaaVc
import Derived.Test.YtaelhbbfddcabaaWa
import Derived.Test.YtaelhbbfddcabaaWb
import Derived.Test.YtaelhbbfddcabaaVd
import Derived.Test.YtaelhbbfddcabaaVe
import Derived.Test.YtaelhbbfddcabaaVf
import Derived.Test.YtaelhbbfddcabaaVg
import Derived.Test.YtaelhbbfddcabaaVh
import Derived.Test.YtaelhbbfddcabaaWc
import Derived.Test.YtaelhbbfddcabaaWd
import Derived.WalkKit
import Derived.WalkSpells
import Derived.WalkLawsBesides
import Derived.Lib.Hide
import Derived.Deep.RegionHeld3
import Derived.Deep.QuietTactic
import Derived.BigQuiet
import Derived.Handy
import Derived.Deep.DeepCutAuto
import Derived.OwnWalk
import Derived.Lib.OwnBridge
namespace Go.Proofs.Ytaelhbbfddcabaa
open Go.RowKit

/-- tiles that a call made -/
def TilOut (xs : List V3) (w : World) (e : Ending) (w' : World) : Prop :=
  ∃ (A : Option Addr) (c : Nat), e = .returned (.slice A xs.length c) ∧ w'.ownsRow w.heap.size 50 3 (.slice A xs.length c) xs.length (xs.flatMap vg) ∧ Below w.heap.size w w'
theorem own_lit3 {w W : World} {bs : List (Nat × List Value)} (_h : Held w W bs) : (W.alloc (.cells #[] 50)).ownsRow W.heap.size 50 3 (.slice (some ⟨W.heap.size, 0, none⟩) 0 0) 0 [] := by
  have h := World.ownsRow_lit W #[] 0 (e := 50) (size := 3) (base := W.heap.size) (by simp) (Nat.zero_le _) (by simp)
  simpa using h
/-- one tile in a block of its own -/
theorem row1T (W : World) (x y z : Int) : RowC 3 vg (W.alloc (.cells #[.int .i64 x, .int .i64 y, .int .i64 z] 50)) (W.alloc (.cells #[.int .i64 x, .int .i64 y, .int .i64 z] 50)).heap.size (some ⟨W.heap.size, 0, none⟩) [(x, y, z)] := fun _ => ⟨W.heap.size, 0, rfl, by simp, fun k hk j v hj => by
  obtain rfl : k = 0 := by simp at hk; omega
  have M := Mbox.new W #[.int .i64 x, .int .i64 y, .int .i64 z] 50
  have := M.c j (v := v) (by simpa [vg] using hj)
  simpa using this⟩
theorem addT_no {ts : List V3} {x : V3} (h : x ∉ ts) : addT ts x = ts ++ [x] := by unfold addT; rw [if_neg h]
theorem addT_yes {ts : List V3} {x : V3} (h : x ∈ ts) : addT ts x = ts := by unfold addT; rw [if_pos h]

set_option maxRecDepth 100000 in
set_option maxHeartbeats 16000000 in
theorem sTilesFor_any (L : Int) (A : Option Addr) (c : Nat) (ts : List Int) (u v lv : Int) (w : World) (hR : Row I64 w w.heap.size A ts) (hl : ts.length ≤ 1048576) :
    Calls Try.prog 31 #[txv L A ts.length c, .int .i64 u, .int .i64 v, .int .i64 lv] w (TilOut (tilesP L ts u v lv) w) := by
  have HT : Held w (w.alloc (.cells #[.int .i64 L, .slice A ts.length c] 25)) [(w.heap.size, [.int .i64 L, .slice A ts.length c])] := by
    have h := (Held.nil w).new #[.int .i64 L, .slice A ts.length c] 25
    simpa only [World.size_alloc] using h
  have hO0 := own_lit3 HT
  have HT := HT.alloc (.cells #[] 50)
  have hsz : ((w.alloc (.cells #[.int .i64 L, .slice A ts.length c] 25)).alloc (.cells #[] 50)).heap.size = w.heap.size + 2 := by simp
  obtain ⟨g0, hg0⟩ : ∃ g, g = (w.alloc (.cells #[.int .i64 L, .slice A ts.length c] 25)).heap.size := ⟨_, rfl⟩
  have hg1 : g0 = w.heap.size + 1 := by rw [hg0]; simp
  rw [← hg0] at hO0
  have HR0 := Lib.hid (fun W (h : Below w.heap.size w W) => hR.later h)
  obtain ⟨W1, hW1⟩ : ∃ W, W = (w.alloc (.cells #[.int .i64 L, .slice A ts.length c] 25)).alloc (.cells #[] 50) := ⟨_, rfl⟩
  rw [← hW1] at HT hO0 hsz
  have HV := Lib.hid (sIsValidT_any L A c ts W1 (HR0.out _ HT.below) hl)
  have HLEN := Lib.hid hl
  clear hR hl
  go_enter Try.func31, Try.ntmps31
  go_upto_region 2 with fail
  rw [← hW1]
  (try simp only [World.size_alloc])
  rw [← hg1]
  obtain ⟨k0, hk0⟩ : ∃ k, k = w.heap.size := ⟨_, rfl⟩
  rw [← hk0] at HT ⊢
  have HORD := Lib.hid (show k0 = w.heap.size ∧ g0 = w.heap.size + 1 ∧ W1.heap.size = w.heap.size + 2 from ⟨hk0, hg1, hsz⟩)
  have m0 := (HT.box 0).c 0
  have m1 := (HT.box 0).c 1
  have HTI := Lib.hid (And.intro HT hO0)
  clear hW1 hk0 hg0 hg1 hsz HT hO0
  go_wp2_with fail
  refine HV.out.mono ?_
  rintro e w2 ⟨rfl, hb2⟩
  have HT2 := Lib.hid (And.intro (HTI.out.1.later hb2) (own_keep' HTI.out.2 hb2))
  have HZ2 := Lib.hid hb2.size
  clear hb2 m0 m1
  cases hok : okX L ts with
  | false =>
    have HP : Hid (tilesP L ts u v lv = []) := Lib.hid (by unfold tilesP; rw [hok]; rfl)
    clear hok
    go_wp2_with fail
    go_ret
    exact ⟨none, 0, by rw [HP.out]; rfl, by rw [HP.out]; exact World.ownsRow_nil _ _ _ _, HT2.out.1.below⟩
  | true =>
    have hokT := okX_iff.1 hok
    obtain ⟨l, hlv⟩ : ∃ l, l = clampP lv 0 L := ⟨_, rfl⟩
    have hlb : 0 ≤ l ∧ l ≤ L := by rw [hlv]; exact clampP_bd lv 0 L hokT.1.1
    have hL4 := hokT.1.2
    have hLl : 0 ≤ L - l ∧ L - l ≤ 4 := by omega
    have HCL := Lib.hid (fun W => sClamp_any lv 0 L W)
    rw [← hlv] at HCL
    have HSZ := Lib.hid (fun W => sSize_any (L - l) W hLl)
    have hn16 := sd_le hLl
    have hcu := ccT_bd u
    have hcv := ccT_bd v
    obtain ⟨x, hx⟩ : ∃ x, x = (ccT u * (sd (L - l) : Int) - 128) / 256 := ⟨_, rfl⟩
    obtain ⟨y, hy⟩ : ∃ y, y = (ccT v * (sd (L - l) : Int) - 128) / 256 := ⟨_, rfl⟩
    have HP : Hid (tilesP L ts u v lv = tilK L ts x y l 4) := Lib.hid (by unfold tilesP; rw [if_pos hok, ← hlv, ← hx, ← hy])
    obtain ⟨n, hn⟩ : ∃ n, n = sd (L - l) := ⟨_, rfl⟩
    rw [← hn] at HSZ hn16 hx hy
    have HNU := Lib.hid (fun W => sN_T u W)
    have HNV := Lib.hid (fun W => sN_T v W)
    obtain ⟨cu, hcu'⟩ : ∃ z, z = ccT u := ⟨_, rfl⟩
    obtain ⟨cv, hcv'⟩ : ∃ z, z = ccT v := ⟨_, rfl⟩
    rw [← hcu'] at hcu HNU hx
    rw [← hcv'] at hcv HNV hy
    have hpu := pos_bd hcu hn16
    have hpv := pos_bd hcv hn16
    obtain ⟨s, hs⟩ : ∃ s, s = cu * (n : Int) - 128 := ⟨_, rfl⟩
    obtain ⟨r, hr⟩ : ∃ r, r = cv * (n : Int) - 128 := ⟨_, rfl⟩
    rw [← hs] at hx
    rw [← hr] at hy
    have e0 : IntKind.i64.wrap (L - l) = L - l := wrap_v (by omega)
    have e1 : IntKind.i64.wrap (cu * (n : Int)) = cu * (n : Int) := wrap_v (by omega)
    have e2 : IntKind.i64.wrap (cu * (n : Int) - 128) = s := by rw [← hs]; exact wrap_v (by omega)
    have e3 : IntKind.i64.wrap (cv * (n : Int)) = cv * (n : Int) := wrap_v (by omega)
    have e4 : IntKind.i64.wrap (cv * (n : Int) - 128) = r := by rw [← hr]; exact wrap_v (by omega)
    have hsb : -16000128 ≤ s ∧ s ≤ 16000000 := by omega
    have hrb : -16000128 ≤ r ∧ r ≤ 16000000 := by omega
    have HFS := Lib.hid (fun W => sFloorDiv_any s 256 W (by omega) (by omega))
    have HFR := Lib.hid (fun W => sFloorDiv_any r 256 W (by omega) (by omega))
    rw [show fdivP s 256 = x by unfold fdivP; rw [if_neg (by omega)]; exact hx.symm] at HFS
    rw [show fdivP r 256 = y by unfold fdivP; rw [if_neg (by omega)]; exact hy.symm] at HFR
    have HXY := Lib.hid (show -70000 ≤ x ∧ x ≤ 70000 ∧ -70000 ≤ y ∧ y ≤ 70000 by omega)
    obtain ⟨B0, hB0⟩ : ∃ B, B = g0 := ⟨_, rfl⟩
    have HI := Lib.hid (show Held w w2 [(k0, [.int .i64 L, .slice A ts.length c])] ∧ w2.ownsRow B0 50 3 (.slice (some ⟨g0, 0, none⟩) 0 0) 0 [] ∧ B0 ≤ w2.heap.size from ⟨HT2.out.1, own_base HT2.out.2 (by omega), by have h1 := HORD.out; have h2 := HZ2.out; omega⟩)
    have HBO := Lib.hid (show k0 = w.heap.size ∧ k0 < B0 by have := HORD.out; omega)
    clear hB0
    have m0 := (HT2.out.1.box 0).c 0
    clear hok hokT hlv hlb hL4 hLl hn16 hcu hcv hx hy hn hcu' hcv' hpu hpv hs hr hsb hrb
    go_wp2_with fail
    refine (HCL.out _).mono ?_
    rintro e w3 ⟨rfl, rfl⟩
    go_wp2_with fail
    refine (HSZ.out _).mono ?_
    rintro e w3 ⟨rfl, rfl⟩
    go_wp2_with fail
    refine (HNU.out _).mono ?_
    rintro e w3 ⟨rfl, rfl⟩
    go_wp2_with fail
    refine (HFS.out _).mono ?_
    rintro e w3 ⟨rfl, rfl⟩
    go_wp2_with fail
    refine (HNV.out _).mono ?_
    rintro e w3 ⟨rfl, rfl⟩
    go_wp2_with fail
    refine (HFR.out _).mono ?_
    rintro e w3 ⟨rfl, rfl⟩
    clear m0 e0 e1 e2 e3 e4
    go_wp2_with fail
    go_loopw [13, 9] (fun kv S wr => ∃ k : Nat, k ≤ 4 ∧ kv = .int .i64 k ∧ Held w wr [(k0, [.int .i64 L, .slice A ts.length c])] ∧ wr.ownsRow B0 50 3 S (tilK L ts x y l k).length ((tilK L ts x y l k).flatMap vg) ∧ B0 ≤ wr.heap.size) (fun kv _ _ => 4 - (intOf kv).toNat)
    case atStart => exact ⟨0, Nat.zero_le _, rfl, HI.out⟩
    case round =>
      clear HI
      obtain ⟨k, hk, rfl, HT, hown, hsz⟩ := hrel
      obtain ⟨xs, hxs⟩ : ∃ xs, xs = tilK L ts x y l k := ⟨_, rfl⟩
      have hxl : xs.length ≤ 4 := by rw [hxs]; exact Nat.le_trans (tilK_len _ _ _ _ _ _) hk
      rw [← hxs] at hown
      by_cases hlt : k < 4
      · obtain ⟨p, hp⟩ : ∃ p, p = k % 2 := ⟨_, rfl⟩
        obtain ⟨q, hq⟩ : ∃ q, q = k / 2 := ⟨_, rfl⟩
        have d1 : (k : Int).tmod 2 = (p : Int) := by rw [Int.tmod_eq_emod_of_nonneg (by omega)]; omega
        have d2 : (k : Int).tdiv 2 = (q : Int) := by rw [Int.tdiv_eq_ediv_of_nonneg (by omega)]; omega
        have e1 : IntKind.i64.wrap (p : Int) = (p : Int) := wrap_v (by omega)
        have e2 : IntKind.i64.wrap (q : Int) = (q : Int) := wrap_v (by omega)
        have e3 : IntKind.i64.wrap (x + (p : Int)) = x + (p : Int) := wrap_v (by have := HXY.out; omega)
        have e4 : IntKind.i64.wrap (y + (q : Int)) = y + (q : Int) := wrap_v (by have := HXY.out; omega)
        have e5 : IntKind.i64.wrap ((k : Int) + 1) = ((k + 1 : Nat) : Int) := wrap_v (by omega)
        have hlt' : (k : Int) < 4 := by omega
        have HTO := Lib.hid (sTileOf_any L A c ts (x + (p : Int)) (y + (q : Int)) l wr (HR0.out _ HT.below) HLEN.out)
        obtain ⟨T, hT⟩ : ∃ T, T = tileP L ts (x + (p : Int)) (y + (q : Int)) l := ⟨_, rfl⟩
        rw [← hT] at HTO
        have HST : Hid (tilK L ts x y l (k + 1) = addT xs T) := Lib.hid (by rw [hT, hp, hq, hxs]; rfl)
        obtain ⟨t0, t1, t2⟩ := T
        dsimp only at HTO
        have m0 := (HT.box 0).c 0
        have m1 := (HT.box 0).c 1
        have HW := Lib.hid (And.intro HT (And.intro hown hsz))
        have HXL := Lib.hid hxl
        clear hT hp hq hxs HT hown hsz hxl hk hlt
        go_wp2_with fail
        refine HTO.out.mono ?_
        rintro e w3 ⟨rfl, hb3⟩
        have HT := (HW.out.1.later hb3).alloc (.cells #[.int .i64 t0, .int .i64 t1, .int .i64 t2] 50)
        have hown := (own_keep' HW.out.2.1 hb3).alloc (.cells #[.int .i64 t0, .int .i64 t1, .int .i64 t2] 50)
        have hsz : B0 ≤ (w3.alloc (.cells #[.int .i64 t0, .int .i64 t1, .int .i64 t2] 50)).heap.size := by have h1 := HW.out.2.2; have h2 := hb3.size; simp; omega
        have MN := Mbox.new w3 #[.int .i64 t0, .int .i64 t1, .int .i64 t2] 50
        clear hb3 m0 m1 d1 d2 e1 e2 e3 e4
        go_upto_region 12 with fail
        obtain ⟨W4, hW4⟩ : ∃ W, W = w3.alloc (.cells #[.int .i64 t0, .int .i64 t1, .int .i64 t2] 50) := ⟨_, rfl⟩
        obtain ⟨k4, hk4⟩ : ∃ k, k = w3.heap.size := ⟨_, rfl⟩
        rw [← hW4] at HT hown hsz MN ⊢
        rw [← hk4] at MN ⊢
        obtain ⟨A4, c4, hS⟩ := own_shape hown
        subst hS
        have HF := Lib.hid (sFind_any A4 c4 xs t0 t1 t2 W4 (RowC.of_own vg_len hown rfl) (by have := HXL.out; omega))
        have m0 := MN.c 0
        have m1 := MN.c 1
        have m2 := MN.c 2
        have HW4 := Lib.hid (And.intro HT (And.intro hown (And.intro hsz MN)))
        clear hW4 hk4 HT hown hsz MN HW
        obtain ⟨r, hr⟩ : ∃ r, r = fndT xs (t0, t1, t2) := ⟨_, rfl⟩
        rw [← hr] at HF
        have HRR := Lib.hid hr
        go_wp2_with fail
        refine HF.out.mono ?_
        rintro e w5 ⟨rfl, hb5⟩
        have HT := HW4.out.1.later hb5
        have hown := own_keep' HW4.out.2.1 hb5
        have hsz := Nat.le_trans HW4.out.2.2.1 hb5.size
        have MN := HW4.out.2.2.2.later hb5
        clear hb5 m0 m1 m2 HW4 hr
        by_cases hm : (t0, t1, t2) ∈ xs
        · have hrn : ¬ r < 0 := by rw [HRR.out, fndT_neg]; simpa using hm
          have HS2 : Hid (tilK L ts x y l (k + 1) = xs) := Lib.hid (HST.out.trans (addT_yes hm))
          have HW := Lib.hid (And.intro HT (And.intro hown hsz))
          clear hm HT hown hsz MN
          go_wp2_with fail
          go_roundw
          case rel => exact ⟨k + 1, by omega, by go_num, HW.out.1, by rw [HS2.out]; exact HW.out.2.1, HW.out.2.2⟩
          case measure => simp [intOf]; omega
        · have hrn : r < 0 := by rw [HRR.out, fndT_neg]; exact hm
          have HS2 : Hid (tilK L ts x y l (k + 1) = xs ++ [(t0, t1, t2)]) := Lib.hid (HST.out.trans (addT_no hm))
          have m0 := MN.c 0
          have m1 := MN.c 1
          have m2 := MN.c 2
          have HNR := row1T w5 t0 t1 t2
          have HOA := hown.alloc (.cells #[.int .i64 t0, .int .i64 t1, .int .i64 t2] 50)
          have HTA := HT.alloc (.cells #[.int .i64 t0, .int .i64 t1, .int .i64 t2] 50)
          have hszA : B0 ≤ (w5.alloc (.cells #[.int .i64 t0, .int .i64 t1, .int .i64 t2] 50)).heap.size := by simp; omega
          have HW := Lib.hid (And.intro HTA (And.intro HOA (And.intro hszA HNR)))
          clear hm HT hown hsz MN HNR HOA HTA hszA
          go_wp2_with (at_builtin; refine wpList_appT rfl _ _ 27 rfl 50 Try.underlying27 (tlv 0 0 0) 24 infoTile rfl B0 _ _ _ (by rfl) HW.out.2.1 _ _ 1 1 [(t0, t1, t2)] rfl (by rfl) HW.out.2.2.2 (by unfold maxLen; have := HXL.out; omega) (by have := HXL.out; omega) HW.out.2.2.1 ?_)
          intro v6 w6 ho6 hg6 hat6
          clear hat6
          have HT6 := HW.out.1.grownX hg6 (fun g e => by have h1 := own_block HW.out.2.1 g e; have h2 := HBO.out; omega) (fun p hp e => by
            have h2 := HBO.out
            have h1 := own_block HW.out.2.1 p.1 e.symm
            simp only [List.mem_cons, List.not_mem_nil, or_false] at hp
            rcases hp with rfl
            dsimp only at h1
            omega)
          have HEN := Lib.hid (And.intro HT6 (And.intro ho6 (Nat.le_trans HW.out.2.2.1 hg6.size)))
          clear HT6 ho6 hg6 m0 m1 m2
          go_wp2_with fail
          go_roundw
          case rel => exact ⟨k + 1, by omega, by go_num, HEN.out.1, by have h := HEN.out.2.1; rw [HS2.out, List.flatMap_append, List.length_append]; exact h, HEN.out.2.2⟩
          case measure => simp [intOf]; omega
      · obtain rfl : k = 4 := by omega
        obtain ⟨A4, c4, hS⟩ := own_shape hown
        subst hS
        have HFN := Lib.hid (show Held w wr [(k0, [.int .i64 L, .slice A ts.length c])] ∧ wr.ownsRow w.heap.size 50 3 (.slice A4 xs.length c4) xs.length (xs.flatMap vg) ∧ tilesP L ts u v lv = xs from ⟨HT, own_base hown (by have := HBO.out; omega), by rw [HP.out, hxs]⟩)
        clear HT hown hsz hxs hxl hlt hk
        go_wp2_with fail
        go_ret
        exact ⟨A4, c4, by rw [HFN.out.2.2]; rfl, by rw [HFN.out.2.2]; exact HFN.out.2.1, HFN.out.1.below⟩
end Go.Proofs.Ytaelhbbfddcabaa
