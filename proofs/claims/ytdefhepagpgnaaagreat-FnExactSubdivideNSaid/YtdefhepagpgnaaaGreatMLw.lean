/- What a law holds of an answer that is a slice of slices of integers. -/
import Derived.Test.YtdefhepagpgnaaaGreatProg
import Derived.Test.YtdefhepagpgnaaaGreatInts
import Derived.Test.YtdefhepagpgnaaaGreatVbox
import Derived.Test.YtdefhepagpgnaaaGreatVec
import Derived.Test.YtdefhepagpgnaaaGreatHeld
import Derived.Test.YtdefhepagpgnaaaGreatMem
import Derived.Test.YtdefhepagpgnaaaGreatRowC
import Derived.Test.YtdefhepagpgnaaaGreatIntS
import Derived.Test.YtdefhepagpgnaaaGreatVecS
import Derived.Test.YtdefhepagpgnaaaGreatSS
import Derived.Test.YtdefhepagpgnaaaGreatMkA
import Derived.Test.YtdefhepagpgnaaaGreatMkB
import Derived.Test.YtdefhepagpgnaaaGreatMkC
import Derived.Test.YtdefhepagpgnaaaGreatMkD
import Derived.Test.YtdefhepagpgnaaaGreatMF
import Derived.Test.YtdefhepagpgnaaaGreatMG
import Derived.Test.YtdefhepagpgnaaaGreatMH
import Derived.WalkKit
import Derived.WalkSpells
import Derived.WalkLawsBesides
import Derived.Lib.Hide
import Derived.Deep.RegionHeld3
import Derived.Deep.QuietTactic
import Derived.BigQuiet
import Derived.Handy
import Derived.Deep.DeepCutAuto
import Derived.OwnWalk
namespace Go.Proofs.YtdefhepagpgnaaaGreat
open Go.RowKit


/-- a slice of slices that a call has made: its row and its rows lie from base on -/
def OwnSS (w : World) (base : Nat) (A : Option Addr) (c : Nat) (ps : Lot) : Prop :=
  w.ownsRow base 45 1 (.slice A ps.length c) ps.length (ps.map hdr) ∧ LotT w ps ∧ ∀ p ∈ ps, base ≤ p.1
theorem OwnSS.later {w w' : World} {base : Nat} {A : Option Addr} {c : Nat} {ps : Lot} (h : OwnSS w base A c ps) (hb : Below w.heap.size w w') : OwnSS w' base A c ps := ⟨own_keep' h.1 hb, h.2.1.later hb, h.2.2⟩
theorem OwnSS.turn {S : Nat → Prop} {w w' : World} {base : Nat} {A : Option Addr} {c : Nat} {ps : Lot} (h : OwnSS w base A c ps) (ht : Turn S w w') (hS : ∀ k, S k → k < base) : OwnSS w' base A c ps :=
  ⟨own_turn h.1 ht hS, h.2.1.keep ht.size (fun p hp => ht.block (h.2.1.1.2 p hp).2 (fun c => by have := hS _ c; have := h.2.2 p hp; omega)), h.2.2⟩
theorem OwnSS.rowSS {w : World} {base : Nat} {A : Option Addr} {c : Nat} {ps : Lot} (h : OwnSS w base A c ps) (hm : ∀ p ∈ ps, p.2.length ≤ maxLen) : RowSS w w.heap.size A (ps.map Prod.snd) := h.2.1.1.rowSS (Row.of_own h.1) hm
theorem prs_bd (l : List E2) (h : l.length ≤ 1000) : (l.map pr).length ≤ 1048576 ∧ (∀ xs ∈ l.map pr, xs.length ≤ 1048576) ∧ sumL (l.map pr) ≤ 1048576 := by
  refine ⟨by simp; omega, fun xs hx => by obtain ⟨e, _, rfl⟩ := List.mem_map.1 hx; simp [pr], ?_⟩
  have hs : sumL (l.map pr) = 2 * l.length := by
    clear h
    unfold sumL
    induction l with
    | nil => rfl
    | cons a r ih => simp only [List.map_cons, List.sum_cons, List.length_cons, ih, pr, List.length_nil]; omega
  omega
theorem SSOut.own {w w' : World} {xss : List (List Int)} {e : Ending} (h : SSOut w xss e w') : ∃ A c ps, e = .returned (.slice A xss.length c) ∧ ps.map Prod.snd = xss ∧ OwnSS w' w.heap.size A c ps ∧ Below w.heap.size w w' := by
  obtain ⟨v, ps, rfl, ho, hs, hl, hge, hb⟩ := h
  obtain ⟨A, c, rfl⟩ := own_shape ho
  exact ⟨A, c, ps, by rw [← hs]; simp, hs, ⟨ho, hl, hge⟩, hb⟩
set_option maxHeartbeats 1000000 in
theorem markSS_none (A : Option Addr) (c k : Nat) (w : World) : Calls Tryz.prog 33 #[.slice A 0 c, .int .i64 k] w fun e w' => e = .returned (.int .i64 (k : Int)) ∧ w = w' := by
  go_enter Tryz.func33, Tryz.ntmps33
  go_wp2
  go_loop [1, 5] (fun m i => i = .int .i64 0 ∧ m = .int .i64 (k : Int)) (fun _ i => 0)
  case atStart => exact ⟨rfl, rfl⟩
  case round =>
    obtain ⟨rfl, rfl⟩ := hrel
    go_wp2
    go_ret
    exact ⟨rfl, rfl⟩

theorem markSS_own (A : Option Addr) (c base k : Nat) (ps : Lot) (w : World) (h : OwnSS w base A c ps) (hk2 : k + sumL (ps.map Prod.snd) ≤ 4611686018427387904) (hl : ps.length ≤ 1099511627776) (hm : ∀ p ∈ ps, p.2.length ≤ maxLen) (hbase : base ≤ w.heap.size) :
    Calls Tryz.prog 33 #[.slice A ps.length c, .int .i64 k] w fun e w' => e = .returned (.int .i64 ((k + sumL (ps.map Prod.snd) : Nat) : Int)) ∧ RowSS w' w'.heap.size A ((markL k ps).map Prod.snd) ∧ Below base w w' := by
  by_cases h0 : 0 < ps.length
  · obtain ⟨g, hg⟩ : ∃ g, A = some ⟨g, 0, none⟩ := by
      rcases h.1.2 with ⟨_, h1⟩ | ⟨g, cap, cur, h1, _⟩
      · omega
      · injection h1 with h1; exact ⟨g, h1⟩
    subst hg
    refine (markIntSS_any g c k ps w (Row.of_own h.1) h.2.1.1 (fun p hp e => h.2.1.ne h.1 p hp (by rw [e]; rfl)) hk2 hl).mono fun e w' ⟨he, hr, hlo, ht⟩ => ⟨he, hlo.rowSS hr (fun p hp => ?_), ht.below hbase (fun q hq => by obtain ⟨p, hp, rfl⟩ := List.mem_map.1 hq; exact h.2.2 p hp)⟩
    have h1 : p.2.length ∈ ((markL k ps).map Prod.snd).map List.length := List.mem_map.2 ⟨p.2, List.mem_map.2 ⟨p, hp, rfl⟩, rfl⟩
    rw [markL_snd_len] at h1
    obtain ⟨xs, hx, e⟩ := List.mem_map.1 h1
    obtain ⟨q, hq, rfl⟩ := List.mem_map.1 hx
    rw [← e]
    exact hm q hq
  · have e : ps = [] := List.eq_nil_of_length_eq_zero (by omega)
    subst e
    refine (markSS_none A c k w).mono fun e w' ⟨he, hw⟩ => ⟨by rw [he]; simp [sumL], RowSS.nil, by rw [← hw]; exact Below.refl _ _⟩


end Go.Proofs.YtdefhepagpgnaaaGreat
