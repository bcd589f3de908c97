/- Law words for an answer that is a mesh. -/
import Derived.Test.YtdefhepagpgnaaaGreatProg
import Derived.Test.YtdefhepagpgnaaaGreatInts
import Derived.Test.YtdefhepagpgnaaaGreatVbox
import Derived.Test.YtdefhepagpgnaaaGreatVec
import Derived.Test.YtdefhepagpgnaaaGreatHeld
import Derived.Test.YtdefhepagpgnaaaGreatMem
import Derived.Test.YtdefhepagpgnaaaGreatRowC
import Derived.Test.YtdefhepagpgnaaaGreatIntS
import Derived.Test.YtdefhepagpgnaaaGreatVecS
import Derived.Test.YtdefhepagpgnaaaGreatSS
import Derived.Test.YtdefhepagpgnaaaGreatMkA
import Derived.Test.YtdefhepagpgnaaaGreatMkB
import Derived.Test.YtdefhepagpgnaaaGreatMkC
import Derived.Test.YtdefhepagpgnaaaGreatMkD
import Derived.Test.YtdefhepagpgnaaaGreatMF
import Derived.Test.YtdefhepagpgnaaaGreatMG
import Derived.Test.YtdefhepagpgnaaaGreatMH
import Derived.Test.YtdefhepagpgnaaaGreatMLw
import Derived.WalkKit
import Derived.WalkSpells
import Derived.WalkLawsBesides
import Derived.Lib.Hide
import Derived.Deep.RegionHeld3
import Derived.Deep.QuietTactic
import Derived.BigQuiet
import Derived.Handy
import Derived.Deep.DeepCutAuto
import Derived.OwnWalk
namespace Go.Proofs.YtdefhepagpgnaaaGreat
open Go.RowKit

theorem lotne {w : World} {ps : Lot} {base m n : Nat} {e : TypeId} {v : Value} {xs : List Value} (h : LotT w ps) (ho : w.ownsRow base e m v n xs) (hne : e ≠ 3) : ∀ p ∈ ps, some p.1 ≠ v.ownBlock := fun p hp c => by
  obtain ⟨cs, fz, hc⟩ := h.2 p hp
  rcases ho.2 with ⟨rfl, _⟩ | ⟨g, cap, cur, rfl, _, hh, _⟩
  · simp [Value.ownBlock] at c
  · simp only [Value.ownBlock, Option.some.injEq] at c
    rw [c, hh] at hc
    injection hc with hc
    injection hc with _ ht
    exact hne ht
theorem own_lt {w : World} {base m n : Nat} {e : TypeId} {v : Value} {xs : List Value} (ho : w.ownsRow base e m v n xs) : ∀ q, v.ownBlock = some q → q < w.heap.size := fun q hq => by
  rcases ho.2 with ⟨rfl, _⟩ | ⟨g, cap, cur, rfl, _, hh, _⟩
  · simp [Value.ownBlock] at hq
  · simp only [Value.ownBlock, Option.some.injEq] at hq
    subst hq
    exact (Array.getElem?_eq_some_iff.1 hh).1
theorem ownTurn {S : Nat → Prop} {w w' : World} {base m n : Nat} {e : TypeId} {v : Value} {xs : List Value} (h : w.ownsRow base e m v n xs) (ht : Turn S w w') (hS : ∀ q, S q → some q ≠ v.ownBlock) : w'.ownsRow base e m v n xs := by
  refine ⟨h.1, ?_⟩
  rcases h.2 with h0 | ⟨g, cap, cur, rfl, h2, h3, h4⟩
  · exact .inl h0
  · exact .inr ⟨g, cap, cur, rfl, h2, (ht.block (Array.getElem?_eq_some_iff.1 h3).1 (fun c => hS g c rfl)).trans h3, h4⟩
theorem grown_turn {S : Nat → Prop} {w w' : World} {row : Option Nat} (h : w.grownBy w' row) (hS : ∀ q, row = some q → S q) : Turn S w w' :=
  ⟨h.os, h.tape, h.output, h.size, fun k hk hn => h.block k hk (fun c => hn (hS k c.symm))⟩
theorem own_vec3 {w : World} {base : Nat} {e : TypeId} {g n cap : Nat} {xs : List V3} (h : w.ownsRow base e 3 (.slice (some ⟨g, 0, none⟩) n cap) n (xs.flatMap vg)) (hn : xs.length = n) {k : Nat} (hk : k < n) :
    ∃ x y z : Int, w.cell? ⟨g, k * 3, none⟩ = some (.int .i64 x) ∧ w.cell? ⟨g, k * 3 + 1, none⟩ = some (.int .i64 y) ∧ w.cell? ⟨g, k * 3 + 2, none⟩ = some (.int .i64 z) := by
  have hk' : k < xs.length := by omega
  have h0 := h.cellAt (k * 3) (by omega)
  have h1 := h.cellAt (k * 3 + 1) (by omega)
  have h2 := h.cellAt (k * 3 + 2) (by omega)
  rw [← Nat.add_zero (k * 3), flat_get vg_len xs k 0 hk' (by omega)] at h0
  rw [flat_get vg_len xs k 1 hk' (by omega)] at h1
  rw [flat_get vg_len xs k 2 hk' (by omega)] at h2
  exact ⟨_, _, _, h0, h1, h2⟩
/-- the marks -/
def mrkV (k n : Nat) : List V3 := (List.range n).map fun i => (((k + 3 * i : Nat) : Int), ((k + 3 * i + 1 : Nat) : Int), ((k + 3 * i + 2 : Nat) : Int))
theorem mrkV_len (k n : Nat) : (mrkV k n).length = n := by simp [mrkV]
theorem mrkV_at (k n i : Nat) (h : i < (mrkV k n).length) : (mrkV k n)[i] = (((k + 3 * i : Nat) : Int), ((k + 3 * i + 1 : Nat) : Int), ((k + 3 * i + 2 : Nat) : Int)) := by simp [mrkV]
def mrkIn (k i : Nat) (xs : List V3) : List V3 := mrkV k i ++ xs.drop i
theorem mrkIn_zero (k : Nat) (xs : List V3) : mrkIn k 0 xs = xs := by simp [mrkIn, mrkV]
theorem mrkIn_all (k : Nat) (xs : List V3) : mrkIn k xs.length xs = mrkV k xs.length := by simp [mrkIn]
theorem mrkIn_len (k i : Nat) (xs : List V3) (h : i ≤ xs.length) : (mrkIn k i xs).length = xs.length := by simp [mrkIn, mrkV_len]; omega
theorem mrkIn_step (k i : Nat) (xs : List V3) (h : i < xs.length) : (mrkIn k i xs).set i (((k + 3 * i : Nat) : Int), ((k + 3 * i + 1 : Nat) : Int), ((k + 3 * i + 2 : Nat) : Int)) = mrkIn k (i + 1) xs := by
  unfold mrkIn
  rw [List.set_append_right _ _ (by rw [mrkV_len]; exact Nat.le_refl _), mrkV_len, Nat.sub_self, List.drop_eq_getElem_cons h, List.set_cons_zero]
  have : mrkV k (i + 1) = mrkV k i ++ [(((k + 3 * i : Nat) : Int), ((k + 3 * i + 1 : Nat) : Int), ((k + 3 * i + 2 : Nat) : Int))] := by
    unfold mrkV; rw [List.range_succ, List.map_append]; rfl
  rw [this, List.append_assoc]; rfl
theorem ret_nat {a b : Nat} (h : a = b) : (Ending.returned (.int .i64 (a : Int))) = .returned (.int .i64 (b : Int)) := by rw [h]
/-- a mesh that a call has made -/
def OwnM (w : World) (base : Nat) (A1 : Option Addr) (c1 : Nat) (A2 : Option Addr) (c2 : Nat) (P : List V3) (ps : Lot) : Prop :=
  w.ownsRow base 43 3 (.slice A1 P.length c1) P.length (P.flatMap vg) ∧ OwnSS w base A2 c2 ps
theorem OwnM.later {w w' : World} {base : Nat} {A1 A2 : Option Addr} {c1 c2 : Nat} {P : List V3} {ps : Lot} (h : OwnM w base A1 c1 A2 c2 P ps) (hb : Below w.heap.size w w') : OwnM w' base A1 c1 A2 c2 P ps := ⟨own_keep' h.1 hb, h.2.later hb⟩
/-- the blocks of a made mesh lie below hi -/
def OwnU (hi : Nat) (A1 : Option Addr) (n c : Nat) (ps : Lot) : Prop := (∀ q, (Value.slice A1 n c).ownBlock = some q → q < hi) ∧ ∀ p ∈ ps, p.1 < hi
theorem OwnM.under {w : World} {base : Nat} {A1 A2 : Option Addr} {c1 c2 : Nat} {P : List V3} {ps : Lot} (h : OwnM w base A1 c1 A2 c2 P ps) : OwnU w.heap.size A1 P.length c1 ps := ⟨fun q hq => own_lt h.1 q hq, fun p hp => (h.2.2.1.1.2 p hp).2⟩
theorem OwnM.turn {S : Nat → Prop} {w w' : World} {base : Nat} {A1 A2 : Option Addr} {c1 c2 : Nat} {P : List V3} {ps : Lot} (h : OwnM w base A1 c1 A2 c2 P ps) (ht : Turn S w w') (hS : ∀ k, S k → k < base) : OwnM w' base A1 c1 A2 c2 P ps := ⟨own_turn h.1 ht hS, h.2.turn ht hS⟩
theorem OwnM.read {w : World} {base : Nat} {A1 A2 : Option Addr} {c1 c2 : Nat} {P : List V3} {ps : Lot} {F : List (List Int)} (h : OwnM w base A1 c1 A2 c2 P ps) (hF : ps.map Prod.snd = F) (hl : ∀ f ∈ F, f.length ≤ 1048576) : MeshIn w A1 A2 P F := by
  subst hF
  exact ⟨RowC.of_own vg_len h.1 rfl, h.2.rowSS (fun p hp => by have := hl p.2 (List.mem_map.2 ⟨p, hp, rfl⟩); unfold maxLen; omega)⟩
set_option maxHeartbeats 2000000 in
theorem markVecO (A : Option Addr) (c base k : Nat) (xs : List V3) (w : World) (ho : w.ownsRow base 43 3 (.slice A xs.length c) xs.length (xs.flatMap vg)) (hk2 : k + 3 * xs.length ≤ 4611686018427387904) :
    Calls Tryz.prog 32 #[.slice A xs.length c, .int .i64 k] w fun e w' => e = .returned (.int .i64 ((k + 3 * xs.length : Nat) : Int)) ∧ w'.ownsRow base 43 3 (.slice A xs.length c) xs.length ((mrkV k xs.length).flatMap vg) ∧ w.grownBy w' (Value.ownBlock (.slice A xs.length c)) := by
  have HO := Lib.hid ho
  clear ho
  go_enter Tryz.func32, Tryz.ntmps32
  go_wp2
  go_loopw [1, 5] (fun m i wr => ∃ j : Nat, j ≤ xs.length ∧ i = .int .i64 j ∧ m = .int .i64 ((k + 3 * j : Nat) : Int) ∧ wr.ownsRow base 43 3 (.slice A xs.length c) xs.length ((mrkIn k j xs).flatMap vg) ∧ w.grownBy wr (Value.ownBlock (.slice A xs.length c))) (fun _ i _ => xs.length - (intOf i).toNat)
  case atStart => exact ⟨0, Nat.zero_le _, rfl, rfl, by rw [mrkIn_zero]; exact HO.out, gb_refl _ _⟩
  case round =>
    obtain ⟨j, hj, rfl, rfl, hown, hb⟩ := hrel
    clear HO
    have HO := Lib.hid hown
    have HB := Lib.hid hb
    clear hown hb
    by_cases hlt : j < xs.length
    · obtain ⟨A0, hA⟩ : ∃ g, A = some ⟨g, 0, none⟩ := by
        rcases HO.out.2 with ⟨h, h0⟩ | ⟨g, cap, cur, h, _⟩
        · omega
        · injection h with h; exact ⟨g, h⟩
      subst hA
      obtain ⟨x, y, z, d0, d1, d2⟩ := own_vec3 HO.out (mrkIn_len _ _ _ hj) hlt
      have f0 := HO.out.frozenAt (j * 3)
      have f1 := HO.out.frozenAt (j * 3 + 1)
      have f2 := HO.out.frozenAt (j * 3 + 2)
      have hs := (((HO.out.stored (j * 3) (.int .i64 ((k + 3 * j : Nat) : Int))).1.stored (j * 3 + 1) (.int .i64 ((k + 3 * j + 1 : Nat) : Int))).1.stored (j * 3 + 2) (.int .i64 ((k + 3 * j + 2 : Nat) : Int))).1
      have hv := vg_set (mrkIn k j xs) j (((k + 3 * j : Nat) : Int), ((k + 3 * j + 1 : Nat) : Int), ((k + 3 * j + 2 : Nat) : Int))
      dsimp only at hv
      rw [hv, mrkIn_step _ _ _ hlt] at hs
      have hs' : w.grownBy (((wr.setCell ⟨A0, j * 3, none⟩ (.int .i64 ((k + 3 * j : Nat) : Int))).setCell ⟨A0, j * 3 + 1, none⟩ (.int .i64 ((k + 3 * j + 1 : Nat) : Int))).setCell ⟨A0, j * 3 + 2, none⟩ (.int .i64 ((k + 3 * j + 2 : Nat) : Int))) (Value.ownBlock (.slice (some ⟨A0, 0, none⟩) xs.length c)) := gb_set (gb_set (gb_set HB.out _) _) _
      obtain ⟨m, hm⟩ : ∃ m : Int, m = ((k + 3 * j : Nat) : Int) := ⟨_, rfl⟩
      have e1 : ((k + 3 * j + 1 : Nat) : Int) = m + 1 := by omega
      have e2 : ((k + 3 * j + 2 : Nat) : Int) = m + 1 + 1 := by omega
      have e3 : ((k + 3 * (j + 1) : Nat) : Int) = m + 1 + 1 + 1 := by omega
      rw [← hm, e1, e2] at hs hs'
      have hmb : 0 ≤ m ∧ m ≤ 4611686018427387904 := by omega
      rw [← hm]
      have HS := Lib.hid hs
      have HS' := Lib.hid hs'
      have HE3 := Lib.hid e3
      have hlt' : (j : Int) < (xs.length : Int) := by omega
      have hge' : (0 : Int) ≤ (j : Int) := by omega
      clear hs hs' hv e1 e2 e3 hm HO HB
      go_wp2
      go_roundw
      case rel => exact ⟨j + 1, by omega, by go_num, by rw [HE3.out], HS.out, HS'.out⟩
      case measure => simp [intOf]; omega
    · have e : j = xs.length := by omega
      have HO2 : Hid (wr.ownsRow base 43 3 (.slice A xs.length c) xs.length ((mrkV k xs.length).flatMap vg)) := by have := HO.out; rw [e, mrkIn_all] at this; exact this
      have HE := Lib.hid e
      clear e HO
      go_wp2
      go_ret
      exact ⟨ret_nat (by have := HE.out; omega), HO2.out, HB.out⟩

set_option maxHeartbeats 2000000 in
theorem heldVecM (A : Option Addr) (c k n : Nat) (w : World) (hR : RowC 3 vg w w.heap.size A (mrkV k n)) (hk2 : k + 3 * n ≤ 4611686018427387904) :
    Calls Tryz.prog 34 #[.slice A n c, .int .i64 k] w fun e w' => e = .returned (.int .i64 ((k + 3 * n : Nat) : Int)) ∧ Below w.heap.size w w' := by
  go_enter Tryz.func34, Tryz.ntmps34
  go_wp2
  go_loopw [1, 5] (fun m i wr => ∃ j : Nat, j ≤ n ∧ i = .int .i64 j ∧ m = .int .i64 ((k + 3 * j : Nat) : Int) ∧ Below w.heap.size w wr) (fun _ i _ => n - (intOf i).toNat)
  case atStart => exact ⟨0, Nat.zero_le _, rfl, rfl, Below.refl _ _⟩
  case round =>
    obtain ⟨j, hj, rfl, rfl, hb⟩ := hrel
    have HB := Lib.hid hb
    clear hb
    by_cases hlt : j < n
    · obtain ⟨b, o, rfl, hbl, hc⟩ := hR.at (k := j) (by rw [mrkV_len]; exact hlt)
      obtain ⟨c0, c1, c2⟩ := vg_at hc
      rw [mrkV_at] at c0 c1 c2
      have c0 := (HB.out.cell (p := ⟨b, o + j * 3, none⟩) hbl).trans c0
      have c1 := (HB.out.cell (p := ⟨b, o + j * 3 + 1, none⟩) hbl).trans c1
      have c2 := (HB.out.cell (p := ⟨b, o + j * 3 + 2, none⟩) hbl).trans c2
      dsimp only at c0 c1 c2
      obtain ⟨m, hm⟩ : ∃ m : Int, m = ((k + 3 * j : Nat) : Int) := ⟨_, rfl⟩
      have e1 : ((k + 3 * j + 1 : Nat) : Int) = m + 1 := by omega
      have e2 : ((k + 3 * j + 2 : Nat) : Int) = m + 1 + 1 := by omega
      have e3 : ((k + 3 * (j + 1) : Nat) : Int) = m + 1 + 1 + 1 := by omega
      rw [← hm] at c0 ⊢
      rw [e1] at c1
      rw [e2] at c2
      have hmb : 0 ≤ m ∧ m ≤ 4611686018427387904 := by omega
      have HE3 := Lib.hid e3
      have hlt' : (j : Int) < (n : Int) := by omega
      have hge' : (0 : Int) ≤ (j : Int) := by omega
      clear hR e1 e2 e3 hm hc
      go_wp2
      go_roundw
      case rel => exact ⟨j + 1, by omega, by go_num, by rw [HE3.out], HB.out⟩
      case measure => simp [intOf]; omega
    · have HE : Hid (j = n) := Lib.hid (by omega)
      clear hR
      go_wp2
      go_ret
      exact ⟨ret_nat (by have := HE.out; omega), HB.out⟩

theorem markSS_turn (A : Option Addr) (c base k : Nat) (ps : Lot) (w : World) (h : OwnSS w base A c ps) (hk2 : k + sumL (ps.map Prod.snd) ≤ 4611686018427387904) (hl : ps.length ≤ 1099511627776) (hm : ∀ p ∈ ps, p.2.length ≤ maxLen) :
    Calls Tryz.prog 33 #[.slice A ps.length c, .int .i64 k] w fun e w' => e = .returned (.int .i64 ((k + sumL (ps.map Prod.snd) : Nat) : Int)) ∧ RowSS w' w'.heap.size A ((markL k ps).map Prod.snd) ∧ Turn (fun b => b ∈ ps.map Prod.fst) w w' := by
  by_cases h0 : 0 < ps.length
  · obtain ⟨g, hg⟩ : ∃ g, A = some ⟨g, 0, none⟩ := by
      rcases h.1.2 with ⟨_, h1⟩ | ⟨g, cap, cur, h1, _⟩
      · omega
      · injection h1 with h1; exact ⟨g, h1⟩
    subst hg
    refine (markIntSS_any g c k ps w (Row.of_own h.1) h.2.1.1 (fun p hp e => h.2.1.ne h.1 p hp (by rw [e]; rfl)) hk2 hl).mono fun e w' ⟨he, hr, hlo, ht⟩ => ⟨he, hlo.rowSS hr (fun p hp => ?_), ht⟩
    have h1 : p.2.length ∈ ((markL k ps).map Prod.snd).map List.length := List.mem_map.2 ⟨p.2, List.mem_map.2 ⟨p, hp, rfl⟩, rfl⟩
    rw [markL_snd_len] at h1
    obtain ⟨xs, hx, e⟩ := List.mem_map.1 h1
    obtain ⟨q, hq, rfl⟩ := List.mem_map.1 hx
    rw [← e]
    exact hm q hq
  · have e : ps = [] := List.eq_nil_of_length_eq_zero (by omega)
    subst e
    refine (markSS_none A c k w).mono fun e w' ⟨he, hw⟩ => ⟨by rw [he]; simp [sumL], RowSS.nil, by rw [← hw]; exact Turn.of_later (Below.refl _ _)⟩

set_option maxHeartbeats 2000000 in
theorem markMesh_own (A1 A2 : Option Addr) (c1 c2 base hi : Nat) (P : List V3) (ps : Lot) (w : World) (hO : OwnM w base A1 c1 A2 c2 P ps) (hU : OwnU hi A1 P.length c1 ps) (hhi : hi ≤ w.heap.size) (hp : P.length ≤ 1048576) (hn : ps.length ≤ 1048576) (hs : sumL (ps.map Prod.snd) ≤ 1048576) (hm : ∀ p ∈ ps, p.2.length ≤ maxLen) :
    Calls Tryz.prog 10 #[mv A1 A2 P.length c1 ps.length c2, .int .i64 1] w fun e w' => e = .returned (.int .i64 ((1 + 3 * P.length + sumL (ps.map Prod.snd) : Nat) : Int)) ∧ RowC 3 vg w' w'.heap.size A1 (mrkV 1 P.length) ∧ RowSS w' w'.heap.size A2 ((markL (1 + 3 * P.length) ps).map Prod.snd) ∧ Turn (fun q => base ≤ q ∧ q < hi) w w' := by
  have HB0 : Hid (Turn (fun q => base ≤ q ∧ q < hi) w (w.alloc (.cells #[.slice A1 P.length c1, .slice A2 ps.length c2] 29))) := Lib.hid (Turn.of_later (by go_grown))
  have HM := Lib.hid (hO.later (show Below w.heap.size w (w.alloc (.cells #[.slice A1 P.length c1, .slice A2 ps.length c2] 29)) by go_grown))
  have HN := Lib.hid (Mbox.new w #[.slice A1 P.length c1, .slice A2 ps.length c2] 29)
  have hop : ∀ q, Value.ownBlock (.slice A1 P.length c1) = some q → (base ≤ q ∧ q < hi) ∧ q ≠ w.heap.size := fun q hq => ⟨⟨own_block hO.1 q hq, hU.1 q hq⟩, by have := hU.1 q hq; omega⟩
  have HLM := Lib.hid hm
  have HUU := Lib.hid hU.2
  clear hO hm hU
  go_enter Tryz.func10, Tryz.ntmps10
  go_wp2_with fail
  refine (markVecO A1 c1 base 1 P _ HM.out.1 (by omega)).mono ?_
  rintro e w2 ⟨rfl, ho2, hg2⟩
  have hn2 : Mbox w2 w.heap.size [.slice A1 P.length c1, .slice A2 ps.length c2] := HN.out.keep fun hl => hg2.block _ hl (fun e => (hop _ e.symm).2 rfl)
  have HB2 : Hid (Turn (fun q => base ≤ q ∧ q < hi) w w2) := Lib.hid (HB0.out.trans (grown_turn hg2 (fun q hq => (hop q hq).1)))
  have HS2 : Hid (OwnSS w2 base A2 c2 ps) := Lib.hid ⟨World.ownsRow.kept HM.out.2.1 hg2 (own_ne HM.out.2.1 HM.out.1 (by decide)), HM.out.2.2.1.grown hg2 (lotne HM.out.2.2.1 HM.out.1 (by decide)), HM.out.2.2.2⟩
  have HO2 := Lib.hid ho2
  have hc1 := hn2.c 1
  have HNE := Lib.hid (lotne HS2.out.2.1 HO2.out (by decide))
  clear hg2 hn2 ho2 HM HN HB0 hop
  go_wp2_with fail
  refine (markSS_turn A2 c2 base (1 + 3 * P.length) ps w2 HS2.out (by omega) (by omega) HLM.out).mono ?_
  rintro e w3 ⟨rfl, hr3, ht3⟩
  have HB3 : Hid (Turn (fun q => base ≤ q ∧ q < hi) w w3) := Lib.hid (HB2.out.trans (ht3.mono fun k hk => by
    obtain ⟨p, hp, rfl⟩ := List.mem_map.1 hk
    exact ⟨HS2.out.2.2 p hp, HUU.out p hp⟩))
  have HR3 := Lib.hid hr3
  have HV3 : Hid (RowC 3 vg w3 w3.heap.size A1 (mrkV 1 P.length)) := Lib.hid (RowC.of_own vg_len (ownTurn HO2.out ht3 (fun q hq => by obtain ⟨p, hp, rfl⟩ := List.mem_map.1 hq; exact HNE.out p hp)) (mrkV_len _ _))
  clear ht3 hr3 HB2 HS2 HO2 HNE hc1
  go_wp2_with fail
  go_ret
  exact ⟨rfl, HV3.out, HR3.out, HB3.out⟩

set_option maxHeartbeats 2000000 in
theorem heldMesh_any (A1 A2 : Option Addr) (c1 c2 n : Nat) (xss : List (List Int)) (w : World) (hV : RowC 3 vg w w.heap.size A1 (mrkV 1 n)) (hR : RowSS w w.heap.size A2 xss) (hC : Counted (1 + 3 * n) xss) (hn : n ≤ 1048576) (hl : xss.length ≤ 1048576) (hs : sumL xss ≤ 1048576) :
    Calls Tryz.prog 11 #[mv A1 A2 n c1 xss.length c2, .int .i64 1] w fun e w' => e = .returned (.int .i64 ((1 + 3 * n + sumL xss : Nat) : Int)) ∧ Below w.heap.size w w' := by
  have HB0 : Below w.heap.size w (w.alloc (.cells #[.slice A1 n c1, .slice A2 xss.length c2] 29)) := by go_grown
  have HN := Mbox.new w #[.slice A1 n c1, .slice A2 xss.length c2] 29
  have HV := Lib.hid ((hV.below HB0).more HB0.size)
  have HR := Lib.hid ((hR.below HB0).more HB0.size)
  have HC := Lib.hid hC
  obtain ⟨k2, hk2e⟩ : ∃ k, k = 1 + 3 * n + sumL xss := ⟨_, rfl⟩
  rw [← hk2e]
  have HK2 := Lib.hid hk2e
  clear hV hR hC hk2e
  go_enter Tryz.func11, Tryz.ntmps11
  go_wp2_with fail
  refine (heldVecM A1 c1 1 n _ HV.out (by omega)).mono ?_
  rintro e w2 ⟨rfl, hb2⟩
  have HN := HN.later hb2
  have HR := Lib.hid ((HR.out.below hb2).more hb2.size)
  have HB2 := Lib.hid (HB0.trans (hb2.mono HB0.size))
  have hc1 := HN.c 1
  have hk0 : ¬ ((1 + 3 * n : Nat) : Int) < 0 := by omega
  obtain ⟨k1, hk1e⟩ : ∃ k, k = 1 + 3 * n := ⟨_, rfl⟩
  have HHE := heldIntSS_any A2 c2 (1 + 3 * n) xss w2 HR.out HC.out (by omega) (by omega)
  rw [← HK2.out, ← hk1e] at HHE
  rw [← hk1e] at hk0 ⊢
  have hd0 : decide ((k1 : Int) < 0) = false := by simp
  have hd1 : decide ((k2 : Int) < 0) = false := by simp
  clear hb2 HB0 HN HV hk1e hk0
  go_wp2_with fail
  refine HHE.mono ?_
  rintro e w3 ⟨rfl, hb3⟩
  have HB3 := Lib.hid (HB2.out.trans (hb3.mono HB2.out.size))
  clear hb3 HHE HB2 hc1 HR
  go_wp2_with fail
  go_ret
  exact ⟨rfl, HB3.out⟩


end Go.Proofs.YtdefhepagpgnaaaGreat
