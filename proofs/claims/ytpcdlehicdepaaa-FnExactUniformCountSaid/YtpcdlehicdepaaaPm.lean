/- Marks on a program that a law copied; Roots. -/
import Derived.Test.YtpcdlehicdepaaaProg
import Derived.Test.YtpcdlehicdepaaaInts
import Derived.Test.YtpcdlehicdepaaaVbox
import Derived.Test.YtpcdlehicdepaaaHeld
import Derived.Test.YtpcdlehicdepaaaMem
import Derived.Test.YtpcdlehicdepaaaFlat
import Derived.Test.YtpcdlehicdepaaaRowC
import Derived.Test.YtpcdlehicdepaaaKS
import Derived.Test.YtpcdlehicdepaaaStrS
import Derived.Test.YtpcdlehicdepaaaIntS
import Derived.Test.YtpcdlehicdepaaaSS
import Derived.Test.YtpcdlehicdepaaaPg
import Derived.Test.YtpcdlehicdepaaaPh
import Derived.Test.YtpcdlehicdepaaaPi
import Derived.Test.YtpcdlehicdepaaaPj
import Derived.Test.YtpcdlehicdepaaaPk
import Derived.Test.YtpcdlehicdepaaaPl
import Derived.WalkKit
import Derived.WalkSpells
import Derived.WalkLawsBesides
import Derived.Lib.Hide
import Derived.Deep.RegionHeld3
import Derived.Deep.QuietTactic
import Derived.BigQuiet
import Derived.Handy
import Derived.Deep.DeepCutAuto
namespace Go.Proofs.Ytpcdlehicdepaaa
open Go.RowKit

theorem own_turn' {S : Nat → Prop} {w w' : World} {base m n : Nat} {e : TypeId} {v : Value} {xs : List Value} (h : w.ownsRow base e m v n xs) (ht : Turn S w w') (hS : ∀ k, S k → k < base) : w'.ownsRow base e m v n xs :=
  own_keepN h (fun b hb => ht.block (h.lt b hb).2 (fun c => by have := hS b c; have := (h.lt b hb).1; omega))
theorem Held.under' {w W W' : World} {bs : List (Nat × List Value)} {B : Nat} (h : Held w W bs) (hb : Below B W W') (hB : w.heap.size ≤ B) (hn : ∀ p ∈ bs, p.1 < B) : Held w W' bs :=
  ⟨h.1.trans (hb.mono hB), fun i k vs e => (h.2 i k vs e).keep fun _ => hb.block k (hn (k, vs) (List.mem_of_getElem? e))⟩
theorem Held.turn' {S : Nat → Prop} {w W W' : World} {bs : List (Nat × List Value)} (h : Held w W bs) (ht : Turn S W W') (hS : ∀ k, S k → w.heap.size ≤ k) (hn : ∀ p ∈ bs, ¬ S p.1) : Held w W' bs :=
  ⟨h.1.trans (ht.below h.1.size hS), fun i k vs e => (h.2 i k vs e).turn ht (hn (k, vs) (List.mem_of_getElem? e))⟩
def QM (w : World) (a : Option Addr × Nat) (xs : List Int) : Prop := ∃ g, a.1 = some ⟨g, 0, none⟩ ∧ Mbox w g (xs.map I64) ∧ g < w.heap.size
def pn (p : Nat × Nd) : PN := ((some ⟨p.1, 0, none⟩, p.2.2.2.2.length), p.2)
theorem pn_cells (ps : List (Nat × Nd)) : (ps.map pn).flatMap ng = ps.flatMap nh := by
  rw [List.flatMap_map]
  rfl
theorem ProgOwn.gen {w : World} {lo g g' : Nat} {ps : List (Nat × Nd)} {ys : List As} (h : ProgOwn w lo g g' ps ys) : ProgG QM w lo (some ⟨g, 0, none⟩) ps.length (some ⟨g', 0, none⟩) ys.length (ps.map pn) ys := by
  obtain ⟨⟨h1, h2, h3, h4⟩, h5, h6, h7⟩ := h
  refine ⟨⟨by rw [pn_cells, List.length_map]; exact h2, fun i hi => ?_, fun i j hi hj hne => ?_⟩, h5, ?_, fun i hi => ?_⟩
  · have hi' : i < ps.length := by simpa using hi
    rw [List.getElem_map]
    have hm := List.getElem_mem hi'
    have := h3.2 (argL ps[i]) (List.mem_map.2 ⟨_, hm, rfl⟩)
    refine ⟨⟨(ps[i]).1, rfl, this.1, this.2⟩, ?_⟩
    intro k hk he
    have e1 : (ps[i]).1 = k := by injection hk
    have e2 : g = k := by injection he
    have := h4 _ hm
    omega
  · have hi' : i < ps.length := by simpa using hi
    have hj' : j < ps.length := by simpa using hj
    rw [List.getElem_map, List.getElem_map]
    intro k hk he
    have e1 : (ps[i]).1 = k := by injection hk
    have e2 : (ps[j]).1 = k := by injection he
    have hn := h3.1
    rw [List.map_map] at hn
    have hne2 : ∀ a b (ha : a < ps.length) (hb : b < ps.length), a < b → (ps[a]).1 ≠ (ps[b]).1 := fun a b ha hb hab => by
      have := List.pairwise_iff_getElem.1 hn a b (by simpa using ha) (by simpa using hb) hab
      simpa [argL] using this
    rcases Nat.lt_or_gt_of_ne hne with h | h
    · exact hne2 i j hi' hj' h (by rw [e1, e2])
    · exact hne2 j i hj' hi' h (by rw [e1, e2])
  · intro k hk he
    have e1 : g = k := by injection hk
    have e2 : g' = k := by injection he
    omega
  · have hi' : i < ps.length := by simpa using hi
    rw [List.getElem_map]
    intro k hk he
    have e1 : (ps[i]).1 = k := by injection hk
    have e2 : g' = k := by injection he
    have := h7 _ (List.getElem_mem hi')
    omega
theorem offN_sz (ps : List (Nat × Nd)) : offN (ps.map pn) (ps.map pn).length ≤ 3 * ps.length + szN (ps.map Prod.snd) := by
  unfold offN
  rw [List.take_length]
  induction ps with
  | nil => simp [szN]
  | cons p ps ih =>
    simp only [List.map_cons, List.sum_cons, List.length_cons, szN]
    have e : (pn p).2.2.2.2.length = p.2.2.2.2.length := rfl
    rw [e]
    omega
def rtsL (ys : List As) : List Int := ys.map (·.2)
theorem rts_step (ys : List As) (k : Nat) (h : k < ys.length) : rtsL (ys.take (k + 1)) = rtsL (ys.take k) ++ [(ys[k]).2] := by
  unfold rtsL
  rw [List.take_succ_eq_append_getElem h, List.map_append]
  rfl
theorem rts_len (ys : List As) : (rtsL ys).length = ys.length := by simp [rtsL]
def IntsOutP (xs : List Int) (w : World) (e : Ending) (w' : World) : Prop :=
  ∃ (A : Option Addr) (c : Nat), e = .returned (.slice A xs.length c) ∧ w'.ownsRow w.heap.size 3 1 (.slice A xs.length c) xs.length (xs.map I64) ∧ Below w.heap.size w w'




set_option maxHeartbeats 4000000 in
theorem roots_any (A A' : Option Addr) (c c' : Nat) (xs : List Nd) (ys : List As) (w : World) (hR : ProgIn w w.heap.size A A' xs ys) (hl : ys.length ≤ 1099511627776) :
    Calls Try.prog 60 #[pgv A A' xs.length c ys.length c'] w (IntsOutP (rtsL ys) w) := by
  have hN := hR.2
  clear hR
  go_enter Try.func60, Try.ntmps60
  go_wp2
  go_loopw [3, 9] (fun v i wr => ∃ k : Nat, k ≤ ys.length ∧ i = .int .i64 k ∧ wr.ownsRow w.heap.size 3 1 v (rtsL (ys.take k)).length ((rtsL (ys.take k)).map I64) ∧ Below w.heap.size w wr) (fun _ i _ => ys.length - (intOf i).toNat)
  case atStart => exact ⟨0, Nat.zero_le _, rfl, World.ownsRow_nil _ _ _ _, (Below.refl _ _).alloc (Nat.le_refl _) _⟩
  case round =>
    obtain ⟨k, hk, rfl, hown, hb⟩ := hrel
    by_cases hlt : k < ys.length
    · obtain ⟨b, o, rfl, hbl, hc⟩ := hN.at hlt
      obtain ⟨c0, c1⟩ := asg_at hc
      have c0 := (hb.cell (p := ⟨b, o + k * 2, none⟩) hbl).trans c0
      have c1 := (hb.cell (p := ⟨b, o + k * 2 + 1, none⟩) hbl).trans c1
      have hst := rts_step ys k hlt
      have hle : (rtsL (ys.take k)).length ≤ k := by rw [rts_len]; simp; omega
      obtain ⟨v, hv⟩ : ∃ v, v = ys[k] := ⟨_, rfl⟩
      rw [← hv] at c0 c1 hst
      obtain ⟨ps, hps⟩ : ∃ ps, ps = rtsL (ys.take k) := ⟨_, rfl⟩
      rw [← hps] at hown hst hle
      obtain ⟨v0, v1⟩ := v
      have HO := Lib.hid hown
      have HB := Lib.hid hb
      have HST := Lib.hid hst
      have hlt' : (k : Int) < (ys.length : Int) := by omega
      have hge' : (0 : Int) ≤ (k : Int) := by omega
      clear hown hb hst hps hN hc hv
      go_upto_region 5 with fail
      obtain ⟨W1, hW1⟩ : ∃ W, W = wr.alloc (.cells #[.string v0, .int .i64 v1] 58) := ⟨_, rfl⟩
      have M := Mbox.new wr #[.string v0, .int .i64 v1] 58
      have HO1 := Lib.hid (HO.out.alloc (.cells #[.string v0, .int .i64 v1] 58))
      have HB1 := Lib.hid (HB.out.alloc HB.out.size (.cells #[.string v0, .int .i64 v1] 58))
      rw [← hW1] at M HO1 HB1 ⊢
      have m1 := M.c 1
      clear hW1 M c0 c1
      have hs1 : w.heap.size ≤ W1.heap.size := HB1.out.size
      go_wp2_with (at_builtin; refine wpList_app1 W1 rfl _ _ 49 rfl w.heap.size 3 (.int .i64 0) 8 Try.underlying49 infoInt rfl _ _ _ (by rfl) HO1.out _ (by rfl) (by rfl) (by unfold maxLen; omega) (by omega) hs1 ?_)
      intro v' w4 ho4 hg4
      have HO4 := Lib.hid ho4
      have HB4 := Lib.hid (HB1.out.grown hg4 hs1 (own_block HO1.out))
      clear ho4 hg4
      go_wp2_with fail
      go_roundw
      case rel => exact ⟨k + 1, by omega, by go_num, by rw [HST.out]; simpa using HO4.out, HB4.out⟩
      case measure => simp [intOf]; omega
    · obtain rfl : k = ys.length := by omega
      rw [List.take_length] at hown
      obtain ⟨A4, c4, rfl⟩ := own_shape hown
      have HO := Lib.hid hown
      have HB := Lib.hid hb
      clear hown hb hN
      go_wp2
      go_ret
      exact ⟨A4, c4, rfl, HO.out, HB.out⟩
end Go.Proofs.Ytpcdlehicdepaaa
