/- The laws' own helpers on programs, on: toProgram. -/
import Derived.Test.YtpcdlehicdepaaaProg
import Derived.Test.YtpcdlehicdepaaaInts
import Derived.Test.YtpcdlehicdepaaaVbox
import Derived.Test.YtpcdlehicdepaaaHeld
import Derived.Test.YtpcdlehicdepaaaMem
import Derived.Test.YtpcdlehicdepaaaFlat
import Derived.Test.YtpcdlehicdepaaaRowC
import Derived.Test.YtpcdlehicdepaaaKS
import Derived.Test.YtpcdlehicdepaaaStrS
import Derived.Test.YtpcdlehicdepaaaIntS
import Derived.Test.YtpcdlehicdepaaaSS
import Derived.Test.YtpcdlehicdepaaaPg
import Derived.Test.YtpcdlehicdepaaaPh
import Derived.WalkKit
import Derived.WalkSpells
import Derived.WalkLawsBesides
import Derived.Lib.Hide
import Derived.Deep.RegionHeld3
import Derived.Deep.QuietTactic
import Derived.BigQuiet
import Derived.Handy
import Derived.Deep.DeepCutAuto
namespace Go.Proofs.Ytpcdlehicdepaaa
open Go.RowKit
theorem Mbox.of_ownP {α : Type} {f : α → Value} {w : World} {base g c n : Nat} {e : TypeId} {xs : List α} (h : w.ownsRow base e 1 (.slice (some ⟨g, 0, none⟩) n c) n (xs.map f)) : Mbox w g (xs.map f) := fun i v hv => by
  have hl := h.1
  have hi : i < n * 1 := by
    have := (List.getElem?_eq_some_iff.1 hv).1
    omega
  have := h.cellAt i hi
  rw [hv] at this
  exact ⟨this, h.frozenAt i⟩
set_option maxHeartbeats 1000000 in
theorem toIntP_own (A : Option Addr) (c : Nat) (xs : List Int) (w : World) (hR : Row I64 w w.heap.size A xs) (hl : xs.length ≤ 17592186044416) :
    Calls Try.prog 69 #[.slice A xs.length c] w fun e w' => e = .returned (.slice (some ⟨w.heap.size, 0, none⟩) xs.length xs.length) ∧ Below w.heap.size w w' ∧ Mbox w' w.heap.size (xs.map I64) ∧ w.heap.size < w'.heap.size := by
  obtain ⟨i0, hi, hz0, hz1, hz2⟩ := info_parts infoInt
  go_enter Try.func69, Try.ntmps69
  go_wp2_with (at_make; refine wpList_make_full _ rfl _ _ 49 rfl w.heap.size 3 i0 (.int .i64 0) 1 Try.underlying49 hi hz0 hz1 .i64 .i64 _ _ xs.length rfl rfl rfl rfl (by rw [hz2]; omega) (by unfold maxLen; omega) (by omega) ?_)
  intro w1 hown hgrow
  have hb0 : Below w.heap.size w w1 := (Below.refl _ _).grown hgrow (Nat.le_refl _) (fun k h => by cases h)
  have hown : w1.ownsRow w.heap.size 3 1 (.slice (some ⟨w.heap.size, 0, none⟩) xs.length xs.length) xs.length ((half xs 0).map I64) := by
    rw [half_zero, List.map_replicate, ← made_one]; exact hown
  clear hgrow
  have HO := Lib.hid hown
  have HB0 := Lib.hid hb0
  clear hown hb0
  go_wp2
  go_loopw [4] (fun i wr => ∃ k : Nat, k ≤ xs.length ∧ i = .int .i64 k ∧ wr.ownsRow w.heap.size 3 1 (.slice (some ⟨w.heap.size, 0, none⟩) xs.length xs.length) xs.length ((half xs k).map I64) ∧ Below w.heap.size w wr) (fun i _ => xs.length - (intOf i).toNat)
  case atStart => exact ⟨0, Nat.zero_le _, rfl, HO.out, HB0.out⟩
  case round =>
    obtain ⟨k, hk, rfl, hown, hb⟩ := hrel
    clear HO HB0
    by_cases hlt : k < xs.length
    · obtain ⟨b, o, rfl, hbl, hc⟩ := hR.at hlt
      have hc := (hb.cell hbl).trans hc
      have hd := hown.cellAt k (by omega)
      have hf := hown.frozenAt k
      have hlh : k < (half xs k).length := by rw [half_len _ _ hk]; exact hlt
      rw [List.getElem?_map, List.getElem?_eq_getElem hlh, Option.map_some] at hd
      obtain ⟨y, hy⟩ : ∃ y, y = (half xs k)[k] := ⟨_, rfl⟩
      rw [← hy] at hd
      have hs := (hown.stored k (I64 xs[k])).1
      rw [← List.map_set, half_step _ _ hlt] at hs
      have hs' := hb.setCell (p := ⟨w.heap.size, k, none⟩) (Nat.le_refl _) (I64 xs[k])
      obtain ⟨x, hx⟩ : ∃ x, x = xs[k] := ⟨_, rfl⟩
      rw [← hx] at hc hs hs'
      have HS := Lib.hid hs
      have HS' := Lib.hid hs'
      clear hx hy hR hb hown hs hs' hlh
      go_wp2
      go_roundw
      case rel => exact ⟨k + 1, by omega, by go_num, HS.out, HS'.out⟩
      case measure => simp [intOf]; omega
    · have e : k = xs.length := by omega
      have hown : wr.ownsRow w.heap.size 3 1 (.slice (some ⟨w.heap.size, 0, none⟩) xs.length xs.length) xs.length (xs.map I64) := by rw [e, half_all] at hown; exact hown
      have HO := Lib.hid hown
      have HB := Lib.hid hb
      clear e hown hb hR
      go_wp2
      go_ret
      exact ⟨rfl, HB.out, Mbox.of_ownP HO.out, (HO.out.lt _ rfl).2⟩


set_option maxHeartbeats 2000000 in
theorem toNode_any (v0 v2 : Int) (s : ByteArray) (A : Option Addr) (c : Nat) (xs : List Int) (w : World) (hR : Row I64 w w.heap.size A xs) (hl : xs.length ≤ 17592186044416) :
    Calls Try.prog 54 #[.agg #[.int .i64 v0, .string s, .int .i64 v2, .slice A xs.length c]] w fun e w' => ∃ g, w.heap.size ≤ g ∧ g < w'.heap.size ∧ e = .returned (.agg #[.int .i64 v0, .string s, .int .i64 v2, .slice (some ⟨g, 0, none⟩) xs.length xs.length]) ∧ Below w.heap.size w w' ∧ Mbox w' g (xs.map I64) := by
  have HR := Lib.hid (fun W (h : Below w.heap.size w W) => toIntP_own A c xs W (row_up hR h) hl)
  have HT : Held w (((w.alloc (.cells #[.int .i64 v0, .string s, .int .i64 v2, .slice A xs.length c] 67)).alloc (.cells #[.int .i64 0, .string ⟨#[]⟩, .int .i64 0, .slice none 0 0] 56)).alloc (.cells #[.int .i64 v0, .string s, .int .i64 v2, .slice none 0 0] 56))
      [(w.heap.size + 1 + 1, [.int .i64 v0, .string s, .int .i64 v2, .slice none 0 0]), (w.heap.size + 1, [.int .i64 0, .string ⟨#[]⟩, .int .i64 0, .slice none 0 0]), (w.heap.size, [.int .i64 v0, .string s, .int .i64 v2, .slice A xs.length c])] := by
    have h := (((Held.nil w).new #[.int .i64 v0, .string s, .int .i64 v2, .slice A xs.length c] 67).new #[.int .i64 0, .string ⟨#[]⟩, .int .i64 0, .slice none 0 0] 56).new #[.int .i64 v0, .string s, .int .i64 v2, .slice none 0 0] 56
    simpa only [World.size_alloc] using h
  clear hR
  go_enter Try.func54, Try.ntmps54
  go_upto_region 5 with fail
  obtain ⟨W3, hW3⟩ : ∃ W, W = ((w.alloc (.cells #[.int .i64 v0, .string s, .int .i64 v2, .slice A xs.length c] 67)).alloc (.cells #[.int .i64 0, .string ⟨#[]⟩, .int .i64 0, .slice none 0 0] 56)).alloc (.cells #[.int .i64 v0, .string s, .int .i64 v2, .slice none 0 0] 56) := ⟨_, rfl⟩
  have hge : w.heap.size + 1 + 1 + 1 = W3.heap.size := by rw [hW3]; simp
  rw [← hW3] at HT ⊢
  have HGE := Lib.hid hge
  clear hW3 hge
  have c3 := (HT.box 2).c 3
  go_wp2_with fail
  refine (HR.out _ HT.below).mono ?_
  rintro e w1 ⟨rfl, hb1, hm1, hlt1⟩
  have HT := HT.later hb1
  obtain ⟨g, hg⟩ : ∃ g, g = W3.heap.size := ⟨_, rfl⟩
  rw [← hg] at hm1 hlt1 ⊢
  have hgg : w.heap.size + 1 + 1 < g := by rw [hg, ← HGE.out]; omega
  have HM := Lib.hid hm1
  have HGG := Lib.hid hgg
  have HLT := Lib.hid hlt1
  clear hb1 hm1 hg hgg c3 hlt1
  have q0 := (HT.box 0).c 0
  have q1 := (HT.box 0).c 1
  have q2 := (HT.box 0).c 2
  have q3 := (HT.box 0).c 3
  have p3 := (HT.box 0).f 3
  have r0 := (HT.box 1).c 0
  have r1 := (HT.box 1).c 1
  have r2 := (HT.box 1).c 2
  have r3 := (HT.box 1).c 3
  have g0 := (HT.box 1).f 0
  have g1 := (HT.box 1).f 1
  have g2 := (HT.box 1).f 2
  have g3 := (HT.box 1).f 3
  go_wp2_with fail
  have hge1 : w.heap.size ≤ w.heap.size + 1 := Nat.le_succ _
  have hge2 : w.heap.size ≤ w.heap.size + 1 + 1 := by omega
  refine bodyPost_ret (v := .agg #[.int .i64 v0, .string s, .int .i64 v2, .slice (some ⟨g, 0, none⟩) xs.length xs.length]) (by simp [results, Try.results54, go_sem, r0, r1, r2, r3]) rfl ⟨g, by have := HGG.out; omega, by simpa using HLT.out, rfl, ?_, ?_⟩
  · exact (((((HT.below.setCell (p := ⟨w.heap.size + 1 + 1, 3, none⟩) hge2 _).setCell (p := ⟨w.heap.size + 1, 0, none⟩) hge1 _).setCell (p := ⟨w.heap.size + 1, 1, none⟩) hge1 _).setCell (p := ⟨w.heap.size + 1, 2, none⟩) hge1 _).setCell (p := ⟨w.heap.size + 1, 3, none⟩) hge1 _)
  · have h1 : g ≠ w.heap.size + 1 := by have := HGG.out; omega
    have h2 : g ≠ w.heap.size + 1 + 1 := by have := HGG.out; omega
    exact ((((HM.out.far h2 _).far h1 _).far h1 _).far h1 _).far h1 _

abbrev V4c := Value × Value × Value × Value
def g4 (v : V4c) : List Value := [v.1, v.2.1, v.2.2.1, v.2.2.2]
theorem g4_len (v : V4c) : (g4 v).length = 4 := rfl
theorem g4_set (xs : List V4c) : ∀ (k : Nat) (v : V4c), ((((xs.flatMap g4).set (k * 4) v.1).set (k * 4 + 1) v.2.1).set (k * 4 + 2) v.2.2.1).set (k * 4 + 3) v.2.2.2 = (xs.set k v).flatMap g4 := by
  induction xs with
  | nil => intro k v; simp
  | cons x xs ih =>
    intro k v
    match k with
    | 0 => simp [g4]
    | k + 1 =>
      have := ih k v
      simp only [List.flatMap_cons, List.set_cons_succ]
      rw [← this]
      have e0 : (k + 1) * 4 = k * 4 + 1 + 1 + 1 + 1 := by omega
      rw [e0]
      simp [g4]
theorem madeP4 (a b c d : Value) (n : Nat) : ∀ (k j : Nat), k < n → j < 4 → ((madeCells #[a, b, c, d] (n * 4)).toList)[k * 4 + j]? = ([a, b, c, d] : List Value)[j]? := by
  intro k j hk hj
  have hlt : k * 4 + j < n * 4 := by omega
  have e : (k * 4 + j) % 4 = j := by omega
  have : j = 0 ∨ j = 1 ∨ j = 2 ∨ j = 3 := by omega
  rcases this with rfl | rfl | rfl | rfl <;>
    (simp only [madeCells, Array.toList_map, Array.toList_range, List.getElem?_map]
     rw [List.getElem?_range (by omega)]
     simp only [Option.map_some]
     simp [e])
theorem made_g4 (v : V4c) (n : Nat) : (madeCells #[v.1, v.2.1, v.2.2.1, v.2.2.2] (n * 4)).toList = (List.replicate n v).flatMap g4 := by
  apply List.ext_getElem?
  intro i
  by_cases h : i < n * 4
  · obtain ⟨k, j, rfl, hj⟩ : ∃ k j, i = k * 4 + j ∧ j < 4 := ⟨i / 4, i % 4, by omega, by omega⟩
    have hk : k < n := by omega
    rw [madeP4 _ _ _ _ n k j hk hj, flat_get g4_len _ k j (by simpa using hk) hj, List.getElem_replicate]
    rfl
  · rw [List.getElem?_eq_none (by simp [madeCells]; omega), List.getElem?_eq_none (by rw [flat_len g4_len]; simp; omega)]
def nq (p : Nat × Nd) : V4c := (.int .i64 p.2.1, .string p.2.2.1, .int .i64 p.2.2.2.1, .slice (some ⟨p.1, 0, none⟩) p.2.2.2.2.length p.2.2.2.2.length)
def zq : V4c := (.int .i64 0, .string ⟨#[]⟩, .int .i64 0, .slice none 0 0)
theorem nq_flat (ps : List (Nat × Nd)) : (ps.map nq).flatMap g4 = ps.flatMap nh := by rw [List.flatMap_map]; rfl
def halfN (n : Nat) (ps : List (Nat × Nd)) : List V4c := ps.map nq ++ List.replicate (n - ps.length) zq
theorem halfN_zero (n : Nat) : halfN n [] = List.replicate n zq := by simp [halfN]
theorem halfN_len (n : Nat) (ps : List (Nat × Nd)) (h : ps.length ≤ n) : (halfN n ps).length = n := by simp [halfN]; omega
theorem halfN_all (n : Nat) (ps : List (Nat × Nd)) (h : ps.length = n) : halfN n ps = ps.map nq := by simp [halfN, h]
theorem halfN_step (n : Nat) (ps : List (Nat × Nd)) (p : Nat × Nd) (h : ps.length < n) : (halfN n ps).set ps.length (nq p) = halfN n (ps ++ [p]) := by
  unfold halfN
  rw [List.set_append_right _ _ (by simp)]
  have e : n - ps.length = (n - (ps ++ [p]).length) + 1 := by simp; omega
  rw [e, List.replicate_succ]
  simp

set_option maxHeartbeats 4000000 in
theorem toNodeS_own (A : Option Addr) (c : Nat) (xs : List Nd) (w : World) (hR : NdRow w w.heap.size A xs) (hl : xs.length ≤ 1099511627776) (hm : ∀ x ∈ xs, x.2.2.2.length ≤ 1099511627776) :
    Calls Try.prog 32 #[.slice A xs.length c] w fun e w' => e = .returned (.slice (some ⟨w.heap.size, 0, none⟩) xs.length xs.length) ∧ Below w.heap.size w w' ∧ ∃ ps : List (Nat × Nd), ps.map Prod.snd = xs ∧ NdGrid w' w.heap.size w.heap.size ps := by
  obtain ⟨i0, hi, hz0, hz1, hz2⟩ := info_parts infoNode
  have HL := Lib.hid hm
  have HR := Lib.hid hR
  clear hm hR
  go_enter Try.func32, Try.ntmps32
  go_wp2_with (at_make; refine wpList_make_full _ rfl _ _ 32 rfl w.heap.size 56 i0 (.agg #[.int .i64 0, .string ⟨#[]⟩, .int .i64 0, .slice none 0 0]) 4 Try.underlying32 hi hz0 hz1 .i64 .i64 _ _ xs.length rfl rfl rfl rfl (by rw [hz2]; omega) (by unfold maxLen; omega) (by omega) ?_)
  intro w1 hown hgrow
  have hb0 : Below w.heap.size w w1 := (Below.refl _ _).grown hgrow (Nat.le_refl _) (fun k h => by cases h)
  have hown : w1.ownsRow w.heap.size 56 4 (.slice (some ⟨w.heap.size, 0, none⟩) xs.length xs.length) xs.length ((halfN xs.length []).flatMap g4) := by
    rw [halfN_zero, ← made_g4]; exact hown
  clear hgrow
  have HO := Lib.hid hown
  have HB0 := Lib.hid hb0
  clear hown hb0
  go_wp2
  go_loopw [4] (fun i wr => ∃ ps : List (Nat × Nd), ps.length ≤ xs.length ∧ i = .int .i64 (ps.length : Nat) ∧ ps.map Prod.snd = xs.take ps.length ∧ wr.ownsRow w.heap.size 56 4 (.slice (some ⟨w.heap.size, 0, none⟩) xs.length xs.length) xs.length ((halfN xs.length ps).flatMap g4) ∧ Lots wr (ps.map argL) ∧ (∀ p ∈ ps, w.heap.size < p.1) ∧ Below w.heap.size w wr) (fun i _ => xs.length - (intOf i).toNat)
  case atStart => exact ⟨[], Nat.zero_le _, rfl, rfl, HO.out, Lots.nil _, (fun p h => by cases h), HB0.out⟩
  case round =>
    obtain ⟨ps, hk, rfl, hsnd, hown, hlots, hgt, hb⟩ := hrel
    clear HO HB0
    obtain ⟨k, hkk⟩ : ∃ k, k = ps.length := ⟨_, rfl⟩
    have HK := Lib.hid hkk
    rw [← hkk] at hk hsnd ⊢
    have HO := Lib.hid hown
    have HP := Lib.hid hlots
    have HG := Lib.hid hgt
    have HB := Lib.hid hb
    have HSN := Lib.hid hsnd
    clear hown hlots hgt hb hkk hsnd
    by_cases hlt : k < xs.length
    · obtain ⟨b, o, rfl, hbl, a, ca, q0, q1, q2, q3, _, _, q6⟩ := HR.out.at hlt
      have c0 := (HB.out.cell (p := ⟨b, o + k * 4, none⟩) hbl).trans q0
      have c1 := (HB.out.cell (p := ⟨b, o + k * 4 + 1, none⟩) hbl).trans q1
      have c2 := (HB.out.cell (p := ⟨b, o + k * 4 + 2, none⟩) hbl).trans q2
      have c3 := (HB.out.cell (p := ⟨b, o + k * 4 + 3, none⟩) hbl).trans q3
      have hrow' := (q6.below HB.out).more HB.out.size
      have hlen := HL.out _ (List.getElem_mem hlt)
      have HT := Lib.hid (List.take_succ_eq_append_getElem hlt)
      obtain ⟨v, hv⟩ : ∃ v, v = xs[k] := ⟨_, rfl⟩
      have HV := Lib.hid hv
      rw [← hv] at c0 c1 c2 c3 hrow' hlen
      have HT : Hid (xs.take (k + 1) = xs.take k ++ [v]) := Lib.hid (by rw [HV.out]; exact HT.out)
      have HN := Lib.hid (toNode_any v.1 v.2.2.1 v.2.1 a ca v.2.2.2 wr hrow' (by omega))
      have hlt' : (k : Int) < (xs.length : Int) := by omega
      have hge' : (0 : Int) ≤ (k : Int) := by omega
      clear hv q0 q1 q2 q3 q6 hlen hrow'
      go_wp2_with fail
      refine (HN.out).mono ?_
      rintro e w2 ⟨g, hg1, hg2, rfl, hb2, hm2⟩
      have hown := own_keep' HO.out hb2
      have hll : k < (halfN xs.length ps).length := by rw [halfN_len _ _ (by have := HK.out; omega)]; exact hlt
      have d0 := hown.cellAt (k * 4) (by omega)
      have d1 := hown.cellAt (k * 4 + 1) (by omega)
      have d2 := hown.cellAt (k * 4 + 2) (by omega)
      have d3 := hown.cellAt (k * 4 + 3) (by omega)
      rw [← Nat.add_zero (k * 4), flat_get g4_len _ k 0 hll (by omega)] at d0
      rw [flat_get g4_len _ k 1 hll (by omega)] at d1
      rw [flat_get g4_len _ k 2 hll (by omega)] at d2
      rw [flat_get g4_len _ k 3 hll (by omega)] at d3
      generalize (halfN xs.length ps)[k] = y at d0 d1 d2 d3
      change _ = some y.1 at d0
      change _ = some y.2.1 at d1
      change _ = some y.2.2.1 at d2
      change _ = some y.2.2.2 at d3
      rw [Nat.add_zero] at d0
      have f0 := hown.frozenAt (k * 4)
      have f1 := hown.frozenAt (k * 4 + 1)
      have f2 := hown.frozenAt (k * 4 + 2)
      have f3 := hown.frozenAt (k * 4 + 3)
      have hs := ((((hown.stored (k * 4) (.int .i64 v.1)).1.stored (k * 4 + 1) (.string v.2.1)).1.stored (k * 4 + 2) (.int .i64 v.2.2.1)).1.stored (k * 4 + 3) (.slice (some ⟨g, 0, none⟩) v.2.2.2.length v.2.2.2.length)).1
      have hst : (halfN xs.length ps).set k (nq (g, v)) = halfN xs.length (ps ++ [(g, v)]) := by
        have := halfN_step xs.length ps (g, v) (by have := HK.out; omega)
        rwa [← HK.out] at this
      have hv4 := g4_set (halfN xs.length ps) k (nq (g, v))
      dsimp only [nq] at hv4 hst
      rw [hv4, hst] at hs
      have HW := HB.out.size
      have hwl : w.heap.size < wr.heap.size := (HO.out.lt _ rfl).2
      have hP2 : Lots w2 ((ps ++ [(g, v)]).map argL) := by
        have h1 := HP.out.later hb2
        rw [List.map_append]
        refine ⟨?_, fun p hp => ?_⟩
        · rw [List.map_append, List.nodup_append]
          refine ⟨h1.1, by simp, fun x hx y hy => ?_⟩
          simp [argL] at hy
          obtain ⟨p, hp, rfl⟩ := List.mem_map.1 hx
          have := (HP.out.2 p hp).2
          omega
        · rcases List.mem_append.1 hp with hp | hp
          · exact h1.2 p hp
          · rw [List.map_singleton, List.mem_singleton] at hp
            subst hp
            exact ⟨hm2, hg2⟩
      have hGG : ∀ p ∈ ps ++ [(g, v)], w.heap.size < p.1 := fun p hp => by
        rcases List.mem_append.1 hp with hp | hp
        · exact HG.out p hp
        · rw [List.mem_singleton] at hp
          subst hp
          exact Nat.lt_of_lt_of_le hwl hg1
      have hne : ∀ p ∈ (ps ++ [(g, v)]).map argL, p.1 ≠ w.heap.size := fun p hp => by
        obtain ⟨p', hp', rfl⟩ := List.mem_map.1 hp
        have := hGG p' hp'
        show p'.1 ≠ _
        omega
      have hb3 := bcall HB.out hb2 HB.out.size
      have hP3 := (Lots.far (g := w.heap.size) (i := k * 4 + 3) (Lots.far (g := w.heap.size) (i := k * 4 + 2) (Lots.far (g := w.heap.size) (i := k * 4 + 1) (Lots.far (g := w.heap.size) (i := k * 4) hP2 hne (.int .i64 v.1)) hne (.string v.2.1)) hne (.int .i64 v.2.2.1)) hne (.slice (some ⟨g, 0, none⟩) v.2.2.2.length v.2.2.2.length))
      have hb4 := ((((hb3.setCell (p := ⟨w.heap.size, k * 4, none⟩) (Nat.le_refl _) (.int .i64 v.1)).setCell (p := ⟨w.heap.size, k * 4 + 1, none⟩) (Nat.le_refl _) (.string v.2.1)).setCell (p := ⟨w.heap.size, k * 4 + 2, none⟩) (Nat.le_refl _) (.int .i64 v.2.2.1)).setCell (p := ⟨w.heap.size, k * 4 + 3, none⟩) (Nat.le_refl _) (.slice (some ⟨g, 0, none⟩) v.2.2.2.length v.2.2.2.length))
      have HP3 := Lib.hid hP3
      have HS := Lib.hid hs
      have HGG := Lib.hid hGG
      have HB3 := Lib.hid hb4
      have HK2 : Hid ((ps ++ [(g, v)]).length = k + 1) := Lib.hid (by simp [HK.out])
      have HSN2 : Hid ((ps ++ [(g, v)]).map Prod.snd = xs.take (k + 1)) := Lib.hid (by rw [List.map_append, HSN.out, HT.out]; rfl)
      clear hP2 hP3 hs hGG hb3 hb4 hown hst hll hm2 hg2 hb2 HO HP HG HB HSN HT hv4 hne hwl hg1 c0 c1 c2 c3 HN
      go_wp2
      go_roundw
      case rel => exact ⟨ps ++ [(g, v)], by rw [HK2.out]; omega, by rw [HK2.out]; go_num, by rw [HK2.out]; exact HSN2.out, HS.out, HP3.out, HGG.out, HB3.out⟩
      case measure => simp [intOf]; omega
    · have e : k = xs.length := by omega
      have hl2 : xs.length = ps.length := by rw [← e]; exact HK.out
      have hown : wr.ownsRow w.heap.size 56 4 (.slice (some ⟨w.heap.size, 0, none⟩) xs.length xs.length) xs.length (ps.flatMap nh) := by have := HO.out; rw [halfN_all _ _ hl2.symm, nq_flat] at this; exact this
      have HW : Hid (ps.map Prod.snd = xs ∧ NdGrid wr w.heap.size w.heap.size ps) := Lib.hid ⟨by rw [HSN.out, e]; simp, Nat.le_refl _, by rw [← hl2]; exact hown, HP.out, HG.out⟩
      clear e hown HO HP HG HSN HK hl2
      go_wp2
      go_ret
      exact ⟨rfl, HB.out, ps, HW.out⟩

theorem asg_set (xs : List As) : ∀ (k : Nat) (v : As), ((xs.flatMap asg).set (k * 2) (.string v.1)).set (k * 2 + 1) (.int .i64 v.2) = (xs.set k v).flatMap asg := by
  induction xs with
  | nil => intro k v; simp
  | cons x xs ih =>
    intro k v
    match k with
    | 0 => simp [asg]
    | k + 1 =>
      have := ih k v
      simp only [List.flatMap_cons, List.set_cons_succ]
      rw [← this]
      have e0 : (k + 1) * 2 = k * 2 + 1 + 1 := by omega
      rw [e0]
      simp [asg]
def zA : As := (⟨#[]⟩, 0)
theorem madeP2 (a b : Value) (n : Nat) : ∀ (k j : Nat), k < n → j < 2 → ((madeCells #[a, b] (n * 2)).toList)[k * 2 + j]? = ([a, b] : List Value)[j]? := by
  intro k j hk hj
  have hlt : k * 2 + j < n * 2 := by omega
  have e : (k * 2 + j) % 2 = j := by omega
  have : j = 0 ∨ j = 1 := by omega
  rcases this with rfl | rfl <;>
    (simp only [madeCells, Array.toList_map, Array.toList_range, List.getElem?_map]
     rw [List.getElem?_range (by omega)]
     simp only [Option.map_some]
     simp [e])
theorem made_asg (n : Nat) : (madeCells #[.string ⟨#[]⟩, .int .i64 0] (n * 2)).toList = (List.replicate n zA).flatMap asg := by
  apply List.ext_getElem?
  intro i
  by_cases h : i < n * 2
  · obtain ⟨k, j, rfl, hj⟩ : ∃ k j, i = k * 2 + j ∧ j < 2 := ⟨i / 2, i % 2, by omega, by omega⟩
    have hk : k < n := by omega
    rw [madeP2 _ _ n k j hk hj, flat_get asg_len _ k j (by simpa using hk) hj, List.getElem_replicate]
    rfl
  · rw [List.getElem?_eq_none (by simp [madeCells]; omega), List.getElem?_eq_none (by rw [flat_len asg_len]; simp; omega)]
def halfAs (xs : List As) (k : Nat) : List As := xs.take k ++ List.replicate (xs.length - k) zA
theorem halfAs_zero (xs : List As) : halfAs xs 0 = List.replicate xs.length zA := by simp [halfAs]
theorem halfAs_all (xs : List As) : halfAs xs xs.length = xs := by simp [halfAs]
theorem halfAs_len (xs : List As) (k : Nat) (h : k ≤ xs.length) : (halfAs xs k).length = xs.length := by simp [halfAs]; omega
theorem halfAs_step (xs : List As) (k : Nat) (h : k < xs.length) : (halfAs xs k).set k xs[k] = halfAs xs (k + 1) := by
  unfold halfAs
  rw [List.take_succ_eq_append_getElem h, List.set_append_right _ _ (by simp; omega)]
  have e : xs.length - k = (xs.length - (k + 1)) + 1 := by omega
  rw [e, List.replicate_succ]
  simp only [List.length_take, Nat.min_eq_left (Nat.le_of_lt h), Nat.sub_self, List.set_cons_zero, List.append_assoc, List.cons_append, List.nil_append]
theorem own_asg {w : World} {base : Nat} {e : TypeId} {g n cap : Nat} {xs : List As} (h : w.ownsRow base e 2 (.slice (some ⟨g, 0, none⟩) n cap) n (xs.flatMap asg)) (hn : xs.length = n) {k : Nat} (hk : k < n) :
    ∃ (x : ByteArray) (y : Int), w.cell? ⟨g, k * 2, none⟩ = some (.string x) ∧ w.cell? ⟨g, k * 2 + 1, none⟩ = some (.int .i64 y) := by
  have hk' : k < xs.length := by omega
  have h0 := h.cellAt (k * 2) (by omega)
  have h1 := h.cellAt (k * 2 + 1) (by omega)
  rw [← Nat.add_zero (k * 2), flat_get asg_len xs k 0 hk' (by omega)] at h0
  rw [flat_get asg_len xs k 1 hk' (by omega)] at h1
  exact ⟨_, _, h0, h1⟩
/-- a program that a call made: the nodes in block g, the assignments in block g', all of it the call's own -/
def ProgOwn (w : World) (lo g g' : Nat) (ps : List (Nat × Nd)) (ys : List As) : Prop :=
  NdGrid w lo g ps ∧ w.ownsRow lo 58 2 (.slice (some ⟨g', 0, none⟩) ys.length ys.length) ys.length (ys.flatMap asg) ∧ g < g' ∧ ∀ p ∈ ps, p.1 < g'
theorem ProgOwn.read {w : World} {lo g g' : Nat} {ps : List (Nat × Nd)} {ys : List As} (h : ProgOwn w lo g g' ps ys) (hm : ∀ p ∈ ps, p.2.2.2.2.length ≤ maxLen) : ProgIn w w.heap.size (some ⟨g, 0, none⟩) (some ⟨g', 0, none⟩) (ps.map Prod.snd) ys :=
  ⟨h.1.row hm, RowC.of_own asg_len h.2.1 rfl⟩
theorem NdGrid.later {w w' : World} {lo g : Nat} {ps : List (Nat × Nd)} (h : NdGrid w lo g ps) (hb : Below w.heap.size w w') : NdGrid w' lo g ps :=
  ⟨h.1, own_keep' h.2.1 hb, h.2.2.1.later hb, h.2.2.2⟩
theorem own_far1 {w : World} {base : Nat} {e : TypeId} {size n : Nat} {v : Value} {xs : List Value} (h : w.ownsRow base e size v n xs) {b i : Nat} (hb : v.ownBlock ≠ some b) (u : Value) : (w.setCell ⟨b, i, none⟩ u).ownsRow base e size v n xs :=
  h.kept (gb_set (gb_refl w (some b)) u) (.inr hb)
theorem NdGrid.far {w : World} {lo g b i : Nat} {ps : List (Nat × Nd)} (h : NdGrid w lo g ps) (hb : b < g) (v : Value) : NdGrid (w.setCell ⟨b, i, none⟩ v) lo g ps :=
  ⟨h.1, own_far1 h.2.1 (by simp [Value.ownBlock]; omega) v, h.2.2.1.far (fun p hp => by
    obtain ⟨q, hq, rfl⟩ := List.mem_map.1 hp
    have := h.2.2.2 q hq
    show q.1 ≠ b
    omega) v, h.2.2.2⟩
theorem NdGrid.base {w : World} {lo lo' g : Nat} {ps : List (Nat × Nd)} (h : NdGrid w lo g ps) (hl : lo' ≤ lo) : NdGrid w lo' g ps := ⟨Nat.le_trans hl h.1, own_base h.2.1 hl, h.2.2⟩
theorem ProgOwn.far {w : World} {lo g g' b i : Nat} {ps : List (Nat × Nd)} {ys : List As} (h : ProgOwn w lo g g' ps ys) (hb : b < g) (v : Value) : ProgOwn (w.setCell ⟨b, i, none⟩ v) lo g g' ps ys :=
  ⟨h.1.far hb v, own_far1 h.2.1 (by have := h.2.2.1; simp [Value.ownBlock]; omega) v, h.2.2⟩
theorem ProgOwn.later {w w' : World} {lo g g' : Nat} {ps : List (Nat × Nd)} {ys : List As} (h : ProgOwn w lo g g' ps ys) (hb : Below w.heap.size w w') : ProgOwn w' lo g g' ps ys :=
  ⟨h.1.later hb, own_keep' h.2.1 hb, h.2.2⟩

set_option maxHeartbeats 2000000 in
theorem toAsg_any (s : ByteArray) (b : Int) (w : World) :
    Calls Try.prog 55 #[.agg #[.string s, .int .i64 b]] w (fun e w' => e = .returned (.agg #[.string s, .int .i64 b]) ∧ Below w.heap.size w w') := by
  go_enter Try.func55, Try.ntmps55
  go_wp2_with fail
  exact bodyPost_ret (v := .agg #[.string s, .int .i64 b]) (by simp [results, Try.results55, go_sem]) rfl ⟨rfl, by go_grown⟩

set_option maxHeartbeats 4000000 in
theorem toAsgS_own (A : Option Addr) (c : Nat) (xs : List As) (w : World) (hR : RowC 2 asg w w.heap.size A xs) (hl : xs.length ≤ 1099511627776) :
    Calls Try.prog 33 #[.slice A xs.length c] w fun e w' => e = .returned (.slice (some ⟨w.heap.size, 0, none⟩) xs.length xs.length) ∧ Below w.heap.size w w' ∧ w'.ownsRow w.heap.size 58 2 (.slice (some ⟨w.heap.size, 0, none⟩) xs.length xs.length) xs.length (xs.flatMap asg) := by
  obtain ⟨i0, hi, hz0, hz1, hz2⟩ := info_parts infoAsg
  go_enter Try.func33, Try.ntmps33
  go_wp2_with (at_make; refine wpList_make_full _ rfl _ _ 33 rfl w.heap.size 58 i0 (.agg #[.string ⟨#[]⟩, .int .i64 0]) 2 Try.underlying33 hi hz0 hz1 .i64 .i64 _ _ xs.length rfl rfl rfl rfl (by rw [hz2]; omega) (by unfold maxLen; omega) (by omega) ?_)
  intro w1 hown hgrow
  have hb0 : Below w.heap.size w w1 := (Below.refl _ _).grown hgrow (Nat.le_refl _) (fun k h => by cases h)
  have hown : w1.ownsRow w.heap.size 58 2 (.slice (some ⟨w.heap.size, 0, none⟩) xs.length xs.length) xs.length ((halfAs xs 0).flatMap asg) := by
    rw [halfAs_zero, ← made_asg]; exact hown
  clear hgrow
  have HO := Lib.hid hown
  have HB0 := Lib.hid hb0
  clear hown hb0
  go_wp2
  go_loopw [4] (fun i wr => ∃ k : Nat, k ≤ xs.length ∧ i = .int .i64 k ∧ wr.ownsRow w.heap.size 58 2 (.slice (some ⟨w.heap.size, 0, none⟩) xs.length xs.length) xs.length ((halfAs xs k).flatMap asg) ∧ Below w.heap.size w wr) (fun i _ => xs.length - (intOf i).toNat)
  case atStart => exact ⟨0, Nat.zero_le _, rfl, HO.out, HB0.out⟩
  case round =>
    obtain ⟨k, hk, rfl, hown, hb⟩ := hrel
    clear HO HB0
    by_cases hlt : k < xs.length
    · obtain ⟨b, o, rfl, hbl, hc⟩ := hR.at hlt
      obtain ⟨c0, c1⟩ := asg_at hc
      have c0 := (hb.cell (p := ⟨b, o + k * 2, none⟩) hbl).trans c0
      have c1 := (hb.cell (p := ⟨b, o + k * 2 + 1, none⟩) hbl).trans c1
      obtain ⟨v, hv⟩ : ∃ v, v = xs[k] := ⟨_, rfl⟩
      have HV := Lib.hid hv
      rw [← hv] at c0 c1
      have hlt' : (k : Int) < (xs.length : Int) := by omega
      have hge' : (0 : Int) ≤ (k : Int) := by omega
      have HO := Lib.hid hown
      have HB := Lib.hid hb
      clear hv hR hb hown hc
      go_wp2_with fail
      refine (toAsg_any _ _ _).mono ?_
      rintro e w2 ⟨rfl, hb2⟩
      have hb := bcall HB.out hb2 HB.out.size
      have hown := own_keep' HO.out hb2
      clear hb2 HO HB c0 c1
      obtain ⟨x, y, d0, d1⟩ := own_asg hown (halfAs_len _ _ hk) hlt
      have f0 := hown.frozenAt (k * 2)
      have f1 := hown.frozenAt (k * 2 + 1)
      have hs := ((hown.stored (k * 2) (.string v.1)).1.stored (k * 2 + 1) (.int .i64 v.2)).1
      rw [asg_set, HV.out, halfAs_step _ _ hlt, ← HV.out] at hs
      have hs' := ((hb.setCell (p := ⟨w.heap.size, k * 2, none⟩) (Nat.le_refl _) (.string v.1)).setCell (p := ⟨w.heap.size, k * 2 + 1, none⟩) (Nat.le_refl _) (.int .i64 v.2))
      have HS := Lib.hid hs
      have HS' := Lib.hid hs'
      clear hb hown hs hs' HV
      go_wp2
      go_roundw
      case rel => exact ⟨k + 1, by omega, by go_num, HS.out, HS'.out⟩
      case measure => simp [intOf]; omega
    · have e : k = xs.length := by omega
      have hown : wr.ownsRow w.heap.size 58 2 (.slice (some ⟨w.heap.size, 0, none⟩) xs.length xs.length) xs.length (xs.flatMap asg) := by rw [e, halfAs_all] at hown; exact hown
      have HO := Lib.hid hown
      have HB := Lib.hid hb
      clear e hown hb hR
      go_wp2
      go_ret
      exact ⟨rfl, HB.out, HO.out⟩

set_option maxHeartbeats 4000000 in
theorem toProg_own (A A' : Option Addr) (c c' : Nat) (xs : List Nd) (ys : List As) (w : World) (hR : ProgIn w w.heap.size A A' xs ys) (hl : xs.length ≤ 1099511627776) (hl' : ys.length ≤ 1099511627776) (hm : ∀ x ∈ xs, x.2.2.2.length ≤ 1099511627776) :
    Calls Try.prog 18 #[pgv A A' xs.length c ys.length c'] w fun e w' => Below w.heap.size w w' ∧ ∃ (g g' : Nat) (ps : List (Nat × Nd)), ps.map Prod.snd = xs ∧ e = .returned (pgv (some ⟨g, 0, none⟩) (some ⟨g', 0, none⟩) xs.length xs.length ys.length ys.length) ∧ ProgOwn w' w.heap.size g g' ps ys := by
  have H1 := Lib.hid (fun (W : World) (h : Below w.heap.size w W) => toNodeS_own A c xs W ((hR.1.below h).more h.size) hl hm)
  have H2 := Lib.hid (fun (W : World) (h : Below w.heap.size w W) => toAsgS_own A' c' ys W ((hR.2.below h).more h.size) hl')
  have HT : Held w (((w.alloc (.cells #[.slice A xs.length c, .slice A' ys.length c'] 29)).alloc (.cells #[.slice none 0 0, .slice none 0 0] 35)).alloc (.cells #[.slice none 0 0, .slice none 0 0] 35))
      [(w.heap.size + 1 + 1, [.slice none 0 0, .slice none 0 0]), (w.heap.size + 1, [.slice none 0 0, .slice none 0 0]), (w.heap.size, [.slice A xs.length c, .slice A' ys.length c'])] := by
    have h := (((Held.nil w).new #[.slice A xs.length c, .slice A' ys.length c'] 29).new #[.slice none 0 0, .slice none 0 0] 35).new #[.slice none 0 0, .slice none 0 0] 35
    simpa only [World.size_alloc] using h
  clear hR hm
  go_enter Try.func18, Try.ntmps18
  go_upto_region 2 with fail
  obtain ⟨W3, hW3⟩ : ∃ W, W = ((w.alloc (.cells #[.slice A xs.length c, .slice A' ys.length c'] 29)).alloc (.cells #[.slice none 0 0, .slice none 0 0] 35)).alloc (.cells #[.slice none 0 0, .slice none 0 0] 35) := ⟨_, rfl⟩
  have hge : w.heap.size + 1 + 1 + 1 = W3.heap.size := by rw [hW3]; simp
  rw [← hW3] at HT ⊢
  have HGE := Lib.hid hge
  clear hW3 hge
  have c0 := (HT.box 2).c 0
  go_wp2_with fail
  refine (H1.out _ HT.below).mono ?_
  rintro e w1 ⟨rfl, hb1, ps, hps, hgr⟩
  have HT := HT.later hb1
  obtain ⟨g, hg⟩ : ∃ g, g = W3.heap.size := ⟨_, rfl⟩
  rw [← hg] at hgr ⊢
  have hgg : w.heap.size + 1 + 1 < g := by rw [hg, ← HGE.out]; omega
  have hgl : g < w1.heap.size := (hgr.2.1.lt g rfl).2
  have hlt : ∀ p ∈ ps, p.1 < w1.heap.size := fun p hp => (hgr.2.2.1.2 (argL p) (List.mem_map.2 ⟨p, hp, rfl⟩)).2
  have hgr := hgr.base (lo' := w.heap.size) (by omega)
  have HPS := Lib.hid hps
  have HGG := Lib.hid hgg
  have HGR := Lib.hid (hgr.far (b := w.heap.size + 1 + 1) (i := 0) hgg (.slice (some ⟨g, 0, none⟩) xs.length xs.length))
  have HT2 := HT.put (by omega) (by simp <;> omega) 0 (.slice (some ⟨g, 0, none⟩) xs.length xs.length)
  have HT2 : Held w (w1.setCell ⟨w.heap.size + 1 + 1, 0, none⟩ (.slice (some ⟨g, 0, none⟩) xs.length xs.length)) [(w.heap.size + 1 + 1, [.slice (some ⟨g, 0, none⟩) xs.length xs.length, .slice none 0 0]), (w.heap.size + 1, [.slice none 0 0, .slice none 0 0]), (w.heap.size, [.slice A xs.length c, .slice A' ys.length c'])] := HT2
  have d0 := (HT.box 0).c 0
  have d1 := (HT.box 0).f 0
  have hsz : (w1.setCell ⟨w.heap.size + 1 + 1, 0, none⟩ (.slice (some ⟨g, 0, none⟩) xs.length xs.length)).heap.size = w1.heap.size := by simp
  have HLT := Lib.hid hlt
  have HGL := Lib.hid hgl
  clear hb1 c0 hg hps hgr hlt hgg hgl HT
  go_upto_region 3 with fail
  obtain ⟨W4, hW4⟩ : ∃ W, W = w1.setCell ⟨w.heap.size + 1 + 1, 0, none⟩ (.slice (some ⟨g, 0, none⟩) xs.length xs.length) := ⟨_, rfl⟩
  rw [← hW4] at HT2 HGR hsz ⊢
  have HSZ := Lib.hid hsz
  clear hW4 d0 d1 hsz
  have c1 := (HT2.box 2).c 1
  go_wp2_with fail
  refine (H2.out _ HT2.below).mono ?_
  rintro e w5 ⟨rfl, hb5, hown5⟩
  have HT := HT2.later hb5
  have hgr5 := HGR.out.later hb5
  obtain ⟨g', hg'⟩ : ∃ g', g' = W4.heap.size := ⟨_, rfl⟩
  rw [← hg'] at hown5 ⊢
  have hgg' : g < g' ∧ ∀ p ∈ ps, p.1 < g' := by
    rw [hg', HSZ.out]
    exact ⟨HGL.out, HLT.out⟩
  have hown5 := own_base (base' := w.heap.size) hown5 (by have := HGG.out; omega)
  have hpo : ProgOwn w5 w.heap.size g g' ps ys := ⟨hgr5, hown5, hgg'⟩
  have HPO := Lib.hid hpo
  clear hb5 hgr5 hown5 hg' hgg' hpo c1
  have q0 := (HT.box 0).c 0
  have q1 := (HT.box 0).c 1
  have p1 := (HT.box 0).f 1
  have r0 := (HT.box 1).c 0
  have r1 := (HT.box 1).c 1
  have g0 := (HT.box 1).f 0
  have g1 := (HT.box 1).f 1
  go_wp2_with fail
  have hge1 : w.heap.size ≤ w.heap.size + 1 := Nat.le_succ _
  have hge2 : w.heap.size ≤ w.heap.size + 1 + 1 := by omega
  have hlt1 : w.heap.size + 1 < g := by have := HGG.out; omega
  have hlt2 : w.heap.size + 1 + 1 < g := HGG.out
  refine bodyPost_ret (v := pgv (some ⟨g, 0, none⟩) (some ⟨g', 0, none⟩) xs.length xs.length ys.length ys.length) (by simp [results, Try.results18, go_sem, r0, r1]) rfl ⟨?_, g, g', ps, HPS.out, rfl, ?_⟩
  · exact ((HT.below.setCell (p := ⟨w.heap.size + 1 + 1, 1, none⟩) hge2 _).setCell (p := ⟨w.heap.size + 1, 0, none⟩) hge1 _).setCell (p := ⟨w.heap.size + 1, 1, none⟩) hge1 _
  · exact ((HPO.out.far hlt2 _).far hlt1 _).far hlt1 _
end Go.Proofs.Ytpcdlehicdepaaa
