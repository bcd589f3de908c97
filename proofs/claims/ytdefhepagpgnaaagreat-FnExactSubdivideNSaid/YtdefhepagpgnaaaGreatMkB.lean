/- Contracts of the laws own helpers on slices of slices of integers. -/
import Derived.Test.YtdefhepagpgnaaaGreatProg
import Derived.Test.YtdefhepagpgnaaaGreatInts
import Derived.Test.YtdefhepagpgnaaaGreatVbox
import Derived.Test.YtdefhepagpgnaaaGreatVec
import Derived.Test.YtdefhepagpgnaaaGreatHeld
import Derived.Test.YtdefhepagpgnaaaGreatMem
import Derived.Test.YtdefhepagpgnaaaGreatRowC
import Derived.Test.YtdefhepagpgnaaaGreatIntS
import Derived.Test.YtdefhepagpgnaaaGreatVecS
import Derived.Test.YtdefhepagpgnaaaGreatSS
import Derived.Test.YtdefhepagpgnaaaGreatMkA
import Derived.WalkKit
import Derived.WalkSpells
import Derived.WalkLawsBesides
import Derived.Lib.Hide
import Derived.Deep.RegionHeld3
import Derived.Deep.QuietTactic
import Derived.BigQuiet
import Derived.Handy
import Derived.Deep.DeepCutAuto
import Derived.OwnWalk
namespace Go.Proofs.YtdefhepagpgnaaaGreat
open Go.RowKit


theorem infoSS : (Tryz.prog.info? 45).map (fun i => (i.zero, i.size, i.bytes)) = some (some (.slice none 0 0), 1, 24) := by kernel_rfl
abbrev nilS : Value := .slice none 0 0
def halfH (n : Nat) (ps : Lot) : List Value := ps.map hdr ++ List.replicate (n - ps.length) nilS
theorem halfH_zero (n : Nat) : halfH n [] = List.replicate n nilS := by simp [halfH]
theorem halfH_len (n : Nat) (ps : Lot) (h : ps.length ≤ n) : (halfH n ps).length = n := by simp [halfH]; omega
theorem halfH_all (n : Nat) (ps : Lot) (h : ps.length = n) : halfH n ps = ps.map hdr := by simp [halfH, h]
theorem halfH_step (n : Nat) (ps : Lot) (p : Nat × List Int) (h : ps.length < n) : (halfH n ps).set ps.length (hdr p) = halfH n (ps ++ [p]) := by
  unfold halfH
  rw [List.set_append_right _ _ (by simp), List.length_map, Nat.sub_self]
  have e : n - ps.length = (n - (ps.length + 1)) + 1 := by omega
  rw [e, List.replicate_succ, List.set_cons_zero, List.map_append, List.append_assoc, List.length_append]
  rfl
/-- what a call made to hold a slice of slices: the block of the heads (a slice each) and the blocks of the rows -/
def Grid2 (w : World) (lo g : Nat) (ps : Lot) : Prop := lo ≤ g ∧ Row hdr w w.heap.size (some ⟨g, 0, none⟩) ps ∧ Lots w ps ∧ ∀ p ∈ ps, g < p.1
theorem Grid2.rowSS {w : World} {lo g : Nat} {ps : Lot} (h : Grid2 w lo g ps) (hm : ∀ p ∈ ps, p.2.length ≤ maxLen) : RowSS w w.heap.size (some ⟨g, 0, none⟩) (ps.map Prod.snd) := h.2.2.1.rowSS h.2.1 hm
theorem Grid2.turn {S : Nat → Prop} {w w' : World} {lo g : Nat} {ps : Lot} (h : Grid2 w lo g ps) (hg : g < w.heap.size) (ht : Turn S w w') (hn : ¬ S g) (hp : ∀ p ∈ ps, ¬ S p.1) : Grid2 w' lo g ps :=
  ⟨h.1, (h.2.1.keepAt (ht.block hg hn)).more ht.size, h.2.2.1.turn ht hp, h.2.2.2⟩
set_option maxHeartbeats 2000000 in
theorem toIntSS_own (A : Option Addr) (c : Nat) (xss : List (List Int)) (w : World) (hR : RowSS w w.heap.size A xss) (hl : xss.length ≤ 1099511627776) (hs : ∀ xs ∈ xss, xs.length ≤ 17592186044416) :
    Calls Tryz.prog 23 #[.slice A xss.length c] w fun e w' => e = .returned (.slice (some ⟨w.heap.size, 0, none⟩) xss.length xss.length) ∧ Below w.heap.size w w' ∧ ∃ ps : Lot, ps.map Prod.snd = xss ∧ Grid2 w' w.heap.size w.heap.size ps ∧ w.heap.size < w'.heap.size := by
  obtain ⟨i0, hi, hz0, hz1, hz2⟩ := info_parts infoSS
  have HL := Lib.hid hs
  have HR := Lib.hid hR
  clear hs hR
  go_enter Tryz.func23, Tryz.ntmps23
  go_wp2_with (at_make; refine wpList_make_full _ rfl _ _ 23 rfl w.heap.size 45 i0 nilS 1 Tryz.underlying23 hi hz0 hz1 .i64 .i64 _ _ xss.length rfl rfl rfl rfl (by rw [hz2]; omega) (by unfold maxLen; omega) (by omega) ?_)
  intro w1 hown hgrow
  have hb0 : Below w.heap.size w w1 := (Below.refl _ _).grown hgrow (Nat.le_refl _) (fun k h => by cases h)
  have hown : w1.ownsRow w.heap.size 45 1 (.slice (some ⟨w.heap.size, 0, none⟩) xss.length xss.length) xss.length (halfH xss.length []) := by
    rw [halfH_zero, ← made_one]; exact hown
  clear hgrow
  have HO := Lib.hid hown
  have HB0 := Lib.hid hb0
  clear hown hb0
  go_wp2
  go_loopw [4] (fun i wr => ∃ ps : Lot, ps.length ≤ xss.length ∧ i = .int .i64 (ps.length : Nat) ∧ ps.map Prod.snd = xss.take ps.length ∧ wr.ownsRow w.heap.size 45 1 (.slice (some ⟨w.heap.size, 0, none⟩) xss.length xss.length) xss.length (halfH xss.length ps) ∧ Lots wr ps ∧ (∀ p ∈ ps, w.heap.size < p.1) ∧ Below w.heap.size w wr) (fun i _ => xss.length - (intOf i).toNat)
  case atStart => exact ⟨[], Nat.zero_le _, rfl, rfl, HO.out, Lots.nil _, (fun p h => by cases h), HB0.out⟩
  case round =>
    obtain ⟨ps, hk, rfl, hsnd, hown, hlots, hgt, hb⟩ := hrel
    clear HO HB0
    obtain ⟨k, hkk⟩ : ∃ k, k = ps.length := ⟨_, rfl⟩
    have HK := Lib.hid hkk
    rw [← hkk] at hk hsnd ⊢
    have HO := Lib.hid hown
    have HP := Lib.hid hlots
    have HG := Lib.hid hgt
    have HB := Lib.hid hb
    have HSN := Lib.hid hsnd
    clear hown hlots hgt hb hkk hsnd
    by_cases hlt : k < xss.length
    · obtain ⟨b, o, a, c1, rfl, hbl, hc, hle, hcm, hrow⟩ := HR.out.at hlt
      have hc := (HB.out.cell hbl).trans hc
      have hrow' := (hrow.below HB.out).more HB.out.size
      have hlen := HL.out _ (List.getElem_mem hlt)
      have HT := Lib.hid (List.take_succ_eq_append_getElem hlt)
      obtain ⟨xs, hx⟩ : ∃ xs, xs = xss[k] := ⟨_, rfl⟩
      have HX := Lib.hid hx
      rw [← hx] at hc hrow' hlen
      have HT : Hid (xss.take (k + 1) = xss.take k ++ [xs]) := Lib.hid (by rw [HX.out]; exact HT.out)
      clear hx hrow hle hcm
      go_wp2_with fail
      refine (toIntS_own a c1 xs wr hrow' hlen).mono ?_
      rintro e w2 ⟨rfl, hb2, hm2, hg2⟩
      have hown := own_keep' HO.out hb2
      have hll : k < (halfH xss.length ps).length := by rw [halfH_len _ _ (by have := HK.out; omega)]; exact hlt
      have hd := hown.cellAt k (by omega)
      rw [List.getElem?_eq_getElem hll] at hd
      generalize (halfH xss.length ps)[k] = y at hd
      have hf := hown.frozenAt k
      have hs := (hown.stored k (hdr (wr.heap.size, xs))).1
      have hst : (halfH xss.length ps).set k (hdr (wr.heap.size, xs)) = halfH xss.length (ps ++ [(wr.heap.size, xs)]) := by
        have := halfH_step xss.length ps (wr.heap.size, xs) (by have := HK.out; omega)
        rwa [← HK.out] at this
      rw [hst] at hs
      have HW := HB.out.size
      have hP2 : Lots w2 (ps ++ [(wr.heap.size, xs)]) := by
        have h1 := HP.out.later hb2
        refine ⟨?_, fun p hp => ?_⟩
        · rw [List.map_append, List.nodup_append]
          refine ⟨h1.1, by simp, fun x hx y hy => ?_⟩
          simp at hy
          obtain ⟨p, hp, rfl⟩ := List.mem_map.1 hx
          have := (HP.out.2 p hp).2
          omega
        · rcases List.mem_append.1 hp with hp | hp
          · exact h1.2 p hp
          · rw [List.mem_singleton] at hp
            subst hp
            exact ⟨hm2, hg2⟩
      have hGG : ∀ p ∈ ps ++ [(wr.heap.size, xs)], w.heap.size < p.1 := fun p hp => by
        rcases List.mem_append.1 hp with hp | hp
        · exact HG.out p hp
        · rw [List.mem_singleton] at hp
          subst hp
          exact Nat.lt_of_lt_of_le (HO.out.lt _ rfl).2 (Nat.le_refl _)
      have hP3 := hP2.far (g := w.heap.size) (i := k) (fun p hp => by have := hGG p hp; omega) (hdr (wr.heap.size, xs))
      have hb3 := (bcall HB.out hb2 HB.out.size).setCell (p := ⟨w.heap.size, k, none⟩) (Nat.le_refl _) (hdr (wr.heap.size, xs))
      have HP3 := Lib.hid hP3
      have HS := Lib.hid hs
      have HGG := Lib.hid hGG
      have HB3 := Lib.hid hb3
      have HK2 : Hid ((ps ++ [(wr.heap.size, xs)]).length = k + 1) := Lib.hid (by simp [HK.out])
      have HSN2 : Hid ((ps ++ [(wr.heap.size, xs)]).map Prod.snd = xss.take (k + 1)) := Lib.hid (by rw [List.map_append, HSN.out, HT.out]; rfl)
      clear hP2 hP3 hs hGG hb3 hown hst hll hm2 hg2 hb2 HO HP HG HB HSN HT hc hrow'
      simp only [hdr] at HP3 HS HB3
      go_wp2
      go_roundw
      case rel => exact ⟨ps ++ [(wr.heap.size, xs)], by rw [HK2.out]; omega, by rw [HK2.out]; go_num, by rw [HK2.out]; exact HSN2.out, HS.out, HP3.out, HGG.out, HB3.out⟩
      case measure => simp [intOf]; omega
    · have e : k = xss.length := by omega
      have hown : wr.ownsRow w.heap.size 45 1 (.slice (some ⟨w.heap.size, 0, none⟩) xss.length xss.length) xss.length (ps.map hdr) := by have := HO.out; rw [halfH_all _ _ (by rw [← HK.out]; exact e)] at this; exact this
      have HW : Hid (ps.map Prod.snd = xss ∧ Grid2 wr w.heap.size w.heap.size ps ∧ w.heap.size < wr.heap.size) := Lib.hid ⟨by rw [HSN.out, e]; simp, ⟨Nat.le_refl _, by
        have hl : xss.length = ps.length := by rw [← e]; exact HK.out
        rw [hl] at hown
        exact Row.of_own hown, HP.out, HG.out⟩, (HO.out.lt _ rfl).2⟩
      clear e hown HO HP HG HSN HK
      go_wp2
      go_ret
      exact ⟨rfl, HB.out, ps, HW.out⟩

set_option maxHeartbeats 2000000 in
theorem eqIntSS_same (A A' : Option Addr) (c c' : Nat) (xss : List (List Int)) (w : World) (hR : RowSS w w.heap.size A xss) (hR' : RowSS w w.heap.size A' xss) (hl : xss.length ≤ 1099511627776) (hs : ∀ xs ∈ xss, xs.length ≤ 1152921504606846976) :
    Calls Tryz.prog 31 #[.slice A xss.length c, .slice A' xss.length c'] w fun e w' => e = .returned (.bool true) ∧ Below w.heap.size w w' := by
  have HL := Lib.hid hs
  clear hs
  go_enter Tryz.func31, Tryz.ntmps31
  go_wp2
  go_loopw [5] (fun i wr => ∃ k : Nat, k ≤ xss.length ∧ i = .int .i64 k ∧ Below w.heap.size w wr) (fun i _ => xss.length - (intOf i).toNat)
  case atStart => exact ⟨0, Nat.zero_le _, rfl, Below.refl _ _⟩
  case round =>
    obtain ⟨k, hk, rfl, HB⟩ := hrel
    by_cases hlt : k < xss.length
    · obtain ⟨b, o, a, c1, rfl, hbl, hc, _, _, hrow⟩ := hR.at hlt
      obtain ⟨b', o', a', c1', rfl, hbl', hc', _, _, hrow'⟩ := hR'.at hlt
      have hlen := HL.out _ (List.getElem_mem hlt)
      obtain ⟨xs, hx⟩ : ∃ xs, xs = xss[k] := ⟨_, rfl⟩
      rw [← hx] at hc hc' hrow hrow' hlen
      have HC : ∀ W, Below w.heap.size w W → (W.cell? ⟨b, o + k, none⟩ = some (.slice a xs.length c1) ∧ W.cell? ⟨b', o' + k, none⟩ = some (.slice a' xs.length c1')) := fun W h =>
        ⟨(h.cell (p := ⟨b, o + k, none⟩) hbl).trans hc, (h.cell (p := ⟨b', o' + k, none⟩) hbl').trans hc'⟩
      have HR1 : ∀ W, Below w.heap.size w W → Row I64 W W.heap.size a xs := fun W h => (hrow.below h).more h.size
      have HR2 : ∀ W, Below w.heap.size w W → Row I64 W W.heap.size a' xs := fun W h => (hrow'.below h).more h.size
      have hlt' : (k : Int) < (xss.length : Int) := by omega
      have hge' : (0 : Int) ≤ (k : Int) := by omega
      clear hx hR hR' hc hc' hbl hbl' hrow hrow'
      go_wp2_with fail
      go_region_held3 (fun w' => w'.cell? ⟨b, o + k, none⟩ = some (.slice a xs.length c1) ∧ w'.cell? ⟨b', o' + k, none⟩ = some (.slice a' xs.length c1'))
         (first | (with_reducible exact HC _ HB) | (with_reducible exact HC _ HB.drew))
         (first | (go_at_call 70; refine (eqIntS_same _ _ _ _ xs _ (by first | with_reducible exact HR1 _ HB | with_reducible exact HR1 _ HB.drew) (by first | with_reducible exact HR2 _ HB | with_reducible exact HR2 _ HB.drew) hlen).mono ?_; rintro e w1 ⟨rfl, hb1⟩; (first | (have HB := bcall HB hb1 HB.size) | (have HB := bcall HB.drew hb1 HB.size))))
      clear HC HR1 HR2
      go_wp2
      go_roundw
      case rel => exact ⟨k + 1, by omega, by go_num, HB⟩
      case measure => simp [intOf]; omega
    · clear hR hR'
      go_wp2
      go_ret
      exact ⟨rfl, HB⟩

theorem szIntS_yes (A : Option Addr) (c n : Nat) (m : Int) (w : World) (h : (n : Int) ≤ m) (hm : m ≤ 4611686018427387904) :
    Calls Tryz.prog 38 #[.slice A n c, .int .i64 m] w fun e w' => e = .returned (.int .i64 (m - n)) ∧ w = w' := by
  go_enter Tryz.func38, Tryz.ntmps38
  go_wp2_with fail
  go_ret
  exact ⟨rfl, rfl⟩
theorem szIntS_no (A : Option Addr) (c n : Nat) (m : Int) (w : World) (h : m < (n : Int)) (h0 : 0 ≤ m) (hn : n ≤ maxLen) :
    Calls Tryz.prog 38 #[.slice A n c, .int .i64 m] w fun e w' => e = .returned (.int .i64 (-1)) ∧ w = w' := by
  unfold maxLen at hn
  go_enter Tryz.func38, Tryz.ntmps38
  go_wp2_with fail
  go_ret
  exact ⟨rfl, rfl⟩

set_option maxHeartbeats 2000000 in
theorem szIntSS_any (A : Option Addr) (c : Nat) (xss : List (List Int)) (m : Int) (w : World) (hR : RowSS w w.heap.size A xss) (h0 : 0 ≤ m) (hm : m ≤ 4611686018427387904) (hn : xss.length ≤ maxLen) (hs : ∀ xs ∈ xss, xs.length ≤ maxLen) :
    Calls Tryz.prog 15 #[.slice A xss.length c, .int .i64 m] w fun e w' => e = .returned (.int .i64 (if (xss.length + sumL xss : Nat) ≤ m then m - (xss.length + sumL xss : Nat) else -1)) ∧ w = w' := by
  have HR := Lib.hid hR
  have HL := Lib.hid hs
  clear hR hs
  have hn' : (xss.length : Int) ≤ 9223372036854775807 := by unfold maxLen at hn; omega
  obtain ⟨R, hRR⟩ : ∃ R : Int, R = if (xss.length + sumL xss : Nat) ≤ m then m - (xss.length + sumL xss : Nat) else -1 := ⟨_, rfl⟩
  rw [← hRR]
  have HRR := Lib.hid hRR
  clear hRR
  by_cases hf : (xss.length : Int) ≤ m
  · go_enter Tryz.func15, Tryz.ntmps15
    go_wp2
    go_loop [1, 5] (fun l i => ∃ k : Nat, k ≤ xss.length ∧ i = .int .i64 k ∧ l = .int .i64 (m - xss.length - (sumL (xss.take k) : Nat)) ∧ ((sumL (xss.take k) : Nat) : Int) ≤ m - xss.length) (fun _ i => xss.length - (intOf i).toNat)
    case atStart => exact ⟨0, Nat.zero_le _, rfl, by simp [sumL], by simp [sumL]; omega⟩
    case round =>
      obtain ⟨k, hk, rfl, rfl, hle⟩ := hrel
      by_cases hlt : k < xss.length
      · obtain ⟨b, o, a, c1, rfl, hbl, hc, _, _, _⟩ := HR.out.at hlt
        have hlen := HL.out _ (List.getElem_mem hlt)
        have HST := Lib.hid (sumL_step xss k hlt)
        have HLE := Lib.hid (sumL_le xss (k + 1))
        obtain ⟨xs, hx⟩ : ∃ xs, xs = xss[k] := ⟨_, rfl⟩
        rw [← hx] at hc hlen HST
        obtain ⟨s, hsx⟩ : ∃ s, s = sumL (xss.take k) := ⟨_, rfl⟩
        rw [← hsx] at hle HST ⊢
        clear hx hsx HR HL
        by_cases hfit : (xs.length : Int) ≤ m - xss.length - (s : Int)
        · have hpos : ¬ (m - xss.length - (s : Int) - (xs.length : Int) < 0) := by omega
          go_wp2_with (go_at_call 38; refine (szIntS_yes _ _ _ _ _ hfit (by omega)).mono ?_; rintro e w' ⟨rfl, rfl⟩)
          go_round
          case rel => exact ⟨k + 1, by omega, by go_num, by rw [HST.out]; simp only [Value.int.injEq, true_and]; omega, by rw [HST.out]; omega⟩
          case measure => simp [intOf]; omega
        · have hfit : m - xss.length - (s : Int) < (xs.length : Int) := by omega
          go_wp2_with (go_at_call 38; refine (szIntS_no _ _ _ _ _ hfit (by omega) hlen).mono ?_; rintro e w' ⟨rfl, rfl⟩)
          go_ret
          exact ⟨ret_int (by rw [HRR.out, if_neg]; have := HST.out; have := HLE.out; omega), rfl⟩
      · have e : k = xss.length := by omega
        have e2 : sumL (xss.take k) = sumL xss := by rw [e, List.take_length]
        have HE := Lib.hid e2
        have HLE := Lib.hid hle
        clear e hle e2
        go_wp2
        go_ret
        exact ⟨ret_int (by have h1 := HE.out; have h2 := HLE.out; rw [h1] at h2 ⊢; rw [HRR.out, if_pos (by omega)]; omega), rfl⟩
  · have hf' : m < (xss.length : Int) := by omega
    go_enter Tryz.func15, Tryz.ntmps15
    go_wp2_with fail
    go_ret
    exact ⟨ret_int (by rw [HRR.out, if_neg (by omega)]), rfl⟩

end Go.Proofs.YtdefhepagpgnaaaGreat
