/- Contract of BoxesOverlap. -/
import Derived.Test.YtjnebohcffeneaaProg
import Derived.Test.YtjnebohcffeneaaInts
import Derived.Test.YtjnebohcffeneaaVbox
import Derived.Test.YtjnebohcffeneaaVec
import Derived.Test.YtjnebohcffeneaaHeld
import Derived.Test.YtjnebohcffeneaaBox
import Derived.WalkKit
import Derived.WalkSpells
import Derived.WalkLawsBesides
import Derived.Lib.Hide
import Derived.Deep.RegionHeld3
import Derived.Deep.QuietTactic
import Derived.BigQuiet
import Derived.Handy
import Derived.Deep.DeepCutAuto
namespace Go.Proofs.Ytjnebohcffeneaa
open Go.RowKit

/-- two boxes overlap -/
def ovB (a b c d e f p q r s t u : Int) : Bool := le3 a b c d e f && (le3 a b c s t u && (le3 p q r d e f && le3 p q r s t u))
theorem ovB_comm (a b c d e f p q r s t u : Int) : ovB p q r s t u a b c d e f = ovB a b c d e f p q r s t u := by
  unfold ovB
  cases le3 a b c d e f <;> cases le3 a b c s t u <;> cases le3 p q r d e f <;> cases le3 p q r s t u <;> rfl
theorem Held.put6b {w W : World} {bs : List (Nat × List Value)} {k : Nat} {p q r s t u : Value} (h : Held w W ((k, [p, q, r, s, t, u]) :: bs)) (hg : w.heap.size ≤ k) (hne : ∀ p ∈ bs, p.1 ≠ k) (a b c d e f : Value) : Held w ((((((W.setCell ⟨k, 0, none⟩ a).setCell ⟨k, 1, none⟩ b).setCell ⟨k, 2, none⟩ c).setCell ⟨k, 3, none⟩ d).setCell ⟨k, 4, none⟩ e).setCell ⟨k, 5, none⟩ f) ((k, [a, b, c, d, e, f]) :: bs) :=
  (((((h.put hg hne 0 a).put hg hne 1 b).put hg hne 2 c).put hg hne 3 d).put hg hne 4 e).put hg hne 5 f
theorem Held.swap {w W : World} {bs : List (Nat × List Value)} {x y : Nat × List Value} (h : Held w W (x :: y :: bs)) : Held w W (y :: x :: bs) := h.pick (fun p hp => by simp only [List.mem_cons] at hp ⊢; rcases hp with h | h | h <;> simp [h])

set_option maxHeartbeats 8000000 in
theorem boxesOverlap_any (a b c d e f p q r s t u : Int) (w : World) :
    Calls Try.prog 14 #[box a b c d e f, box p q r s t u] w (BoolOut2 (ovB a b c d e f p q r s t u) w) := by
  have HT : Held w ((w.alloc (.cells #[.int .i64 a, .int .i64 b, .int .i64 c, .int .i64 d, .int .i64 e, .int .i64 f] 26)).alloc (.cells #[.int .i64 p, .int .i64 q, .int .i64 r, .int .i64 s, .int .i64 t, .int .i64 u] 26)) [(w.heap.size + 1, [.int .i64 p, .int .i64 q, .int .i64 r, .int .i64 s, .int .i64 t, .int .i64 u]), (w.heap.size, [.int .i64 a, .int .i64 b, .int .i64 c, .int .i64 d, .int .i64 e, .int .i64 f])] := by
    have h := ((Held.nil w).new #[.int .i64 a, .int .i64 b, .int .i64 c, .int .i64 d, .int .i64 e, .int .i64 f] 26).new #[.int .i64 p, .int .i64 q, .int .i64 r, .int .i64 s, .int .i64 t, .int .i64 u] 26
    simpa only [World.size_alloc] using h
  have HC : ∀ W, Held w W [(w.heap.size + 1, [.int .i64 p, .int .i64 q, .int .i64 r, .int .i64 s, .int .i64 t, .int .i64 u]), (w.heap.size, [.int .i64 a, .int .i64 b, .int .i64 c, .int .i64 d, .int .i64 e, .int .i64 f])] → (W.cell? ⟨w.heap.size, 0, none⟩ = some (.int .i64 a) ∧ W.cell? ⟨w.heap.size, 1, none⟩ = some (.int .i64 b) ∧ W.cell? ⟨w.heap.size, 2, none⟩ = some (.int .i64 c) ∧ W.cell? ⟨w.heap.size, 3, none⟩ = some (.int .i64 d) ∧ W.cell? ⟨w.heap.size, 4, none⟩ = some (.int .i64 e) ∧ W.cell? ⟨w.heap.size, 5, none⟩ = some (.int .i64 f) ∧ W.cell? ⟨w.heap.size + 1, 0, none⟩ = some (.int .i64 p) ∧ W.cell? ⟨w.heap.size + 1, 1, none⟩ = some (.int .i64 q) ∧ W.cell? ⟨w.heap.size + 1, 2, none⟩ = some (.int .i64 r) ∧ W.cell? ⟨w.heap.size + 1, 3, none⟩ = some (.int .i64 s) ∧ W.cell? ⟨w.heap.size + 1, 4, none⟩ = some (.int .i64 t) ∧ W.cell? ⟨w.heap.size + 1, 5, none⟩ = some (.int .i64 u)) := fun W h => ⟨(h.box 1).c 0, (h.box 1).c 1, (h.box 1).c 2, (h.box 1).c 3, (h.box 1).c 4, (h.box 1).c 5, (h.box 0).c 0, (h.box 0).c 1, (h.box 0).c 2, (h.box 0).c 3, (h.box 0).c 4, (h.box 0).c 5⟩
  have hz0 := (HT.box 0).lt
  have hz1 := (HT.box 1).lt
  go_enter Try.func14, Try.ntmps14
  go_upto_region 1 with fail
  go_cut [5, 6] (fun s5 s6 wx => ∃ g h : Nat, s5 = .pointer (some ⟨g, 0, none⟩) ∧ s6 = .pointer (some ⟨h, 0, none⟩) ∧ Held w wx [(g, [.int .i64 a, .int .i64 b, .int .i64 c, .int .i64 d, .int .i64 e, .int .i64 f]), (h, [.int .i64 p, .int .i64 q, .int .i64 r, .int .i64 s, .int .i64 t, .int .i64 u]), (w.heap.size + 1, [.int .i64 p, .int .i64 q, .int .i64 r, .int .i64 s, .int .i64 t, .int .i64 u]), (w.heap.size, [.int .i64 a, .int .i64 b, .int .i64 c, .int .i64 d, .int .i64 e, .int .i64 f])])
  case first =>
    go_region_held3 (fun w' => w'.cell? ⟨w.heap.size, 0, none⟩ = some (.int .i64 a) ∧ w'.cell? ⟨w.heap.size, 1, none⟩ = some (.int .i64 b) ∧ w'.cell? ⟨w.heap.size, 2, none⟩ = some (.int .i64 c) ∧ w'.cell? ⟨w.heap.size, 3, none⟩ = some (.int .i64 d) ∧ w'.cell? ⟨w.heap.size, 4, none⟩ = some (.int .i64 e) ∧ w'.cell? ⟨w.heap.size, 5, none⟩ = some (.int .i64 f) ∧ w'.cell? ⟨w.heap.size + 1, 0, none⟩ = some (.int .i64 p) ∧ w'.cell? ⟨w.heap.size + 1, 1, none⟩ = some (.int .i64 q) ∧ w'.cell? ⟨w.heap.size + 1, 2, none⟩ = some (.int .i64 r) ∧ w'.cell? ⟨w.heap.size + 1, 3, none⟩ = some (.int .i64 s) ∧ w'.cell? ⟨w.heap.size + 1, 4, none⟩ = some (.int .i64 t) ∧ w'.cell? ⟨w.heap.size + 1, 5, none⟩ = some (.int .i64 u))
      (first | (with_reducible exact HC _ (HT.pick (cs := [(w.heap.size + 1, [.int .i64 p, .int .i64 q, .int .i64 r, .int .i64 s, .int .i64 t, .int .i64 u]), (w.heap.size, [.int .i64 a, .int .i64 b, .int .i64 c, .int .i64 d, .int .i64 e, .int .i64 f])]) (by simp))) | (with_reducible exact HC _ (HT.pick (cs := [(w.heap.size + 1, [.int .i64 p, .int .i64 q, .int .i64 r, .int .i64 s, .int .i64 t, .int .i64 u]), (w.heap.size, [.int .i64 a, .int .i64 b, .int .i64 c, .int .i64 d, .int .i64 e, .int .i64 f])]) (by simp)).drew) | (with_reducible exact HC _ ((HT.pick (cs := [(w.heap.size + 1, [.int .i64 p, .int .i64 q, .int .i64 r, .int .i64 s, .int .i64 t, .int .i64 u]), (w.heap.size, [.int .i64 a, .int .i64 b, .int .i64 c, .int .i64 d, .int .i64 e, .int .i64 f])]) (by simp)).alloc _)) | (with_reducible exact HC _ ((HT.pick (cs := [(w.heap.size + 1, [.int .i64 p, .int .i64 q, .int .i64 r, .int .i64 s, .int .i64 t, .int .i64 u]), (w.heap.size, [.int .i64 a, .int .i64 b, .int .i64 c, .int .i64 d, .int .i64 e, .int .i64 f])]) (by simp)).alloc _).drew) | (with_reducible exact HC _ (((HT.pick (cs := [(w.heap.size + 1, [.int .i64 p, .int .i64 q, .int .i64 r, .int .i64 s, .int .i64 t, .int .i64 u]), (w.heap.size, [.int .i64 a, .int .i64 b, .int .i64 c, .int .i64 d, .int .i64 e, .int .i64 f])]) (by simp)).alloc _).alloc _)) | (with_reducible exact HC _ (((HT.pick (cs := [(w.heap.size + 1, [.int .i64 p, .int .i64 q, .int .i64 r, .int .i64 s, .int .i64 t, .int .i64 u]), (w.heap.size, [.int .i64 a, .int .i64 b, .int .i64 c, .int .i64 d, .int .i64 e, .int .i64 f])]) (by simp)).alloc _).alloc _).drew) | (with_reducible exact HC _ (((HT.pick (cs := [(w.heap.size + 1, [.int .i64 p, .int .i64 q, .int .i64 r, .int .i64 s, .int .i64 t, .int .i64 u]), (w.heap.size, [.int .i64 a, .int .i64 b, .int .i64 c, .int .i64 d, .int .i64 e, .int .i64 f])]) (by simp)).far6 (by omega) (by simp <;> omega) _ _ _ _ _ _).alloc _)) | (with_reducible exact HC _ ((HT.pick (cs := [(w.heap.size + 1, [.int .i64 p, .int .i64 q, .int .i64 r, .int .i64 s, .int .i64 t, .int .i64 u]), (w.heap.size, [.int .i64 a, .int .i64 b, .int .i64 c, .int .i64 d, .int .i64 e, .int .i64 f])]) (by simp)).far6 (by omega) (by simp <;> omega) _ _ _ _ _ _)) | (with_reducible exact HC _ (((HT.pick (cs := [(w.heap.size + 1, [.int .i64 p, .int .i64 q, .int .i64 r, .int .i64 s, .int .i64 t, .int .i64 u]), (w.heap.size, [.int .i64 a, .int .i64 b, .int .i64 c, .int .i64 d, .int .i64 e, .int .i64 f])]) (by simp)).far6 (by omega) (by simp <;> omega) _ _ _ _ _ _).far6 (by omega) (by simp <;> omega) _ _ _ _ _ _)))
      (first | (go_at_call 35; refine (corners_any _ _ _ _ _ _ _).mono ?_; rintro e w1 ⟨rfl, hb1⟩; (first | (have HT := (HT).later hb1) | (have HT := (HT.drew).later hb1) | (have HT := ((HT.new #[.int .i64 0, .int .i64 0, .int .i64 0, .int .i64 0, .int .i64 0, .int .i64 0] 62)).later hb1) | (have HT := ((HT.new #[.int .i64 0, .int .i64 0, .int .i64 0, .int .i64 0, .int .i64 0, .int .i64 0] 62).drew).later hb1) | (have HT := ((HT.drew.new #[.int .i64 0, .int .i64 0, .int .i64 0, .int .i64 0, .int .i64 0, .int .i64 0] 62)).later hb1) | (have HT := (((HT.new #[.int .i64 0, .int .i64 0, .int .i64 0, .int .i64 0, .int .i64 0, .int .i64 0] 62).new #[.int .i64 0, .int .i64 0, .int .i64 0, .int .i64 0, .int .i64 0, .int .i64 0] 62)).later hb1) | (have HT := (((HT.new #[.int .i64 0, .int .i64 0, .int .i64 0, .int .i64 0, .int .i64 0, .int .i64 0] 62).new #[.int .i64 0, .int .i64 0, .int .i64 0, .int .i64 0, .int .i64 0, .int .i64 0] 62).drew).later hb1) | (have HT := (((HT.drew.new #[.int .i64 0, .int .i64 0, .int .i64 0, .int .i64 0, .int .i64 0, .int .i64 0] 62).new #[.int .i64 0, .int .i64 0, .int .i64 0, .int .i64 0, .int .i64 0, .int .i64 0] 62)).later hb1)); (try simp only [World.size_alloc] at HT); have hz0 := (HT.box 0).lt; have hz1 := (HT.box 1).lt; (try (have h20 := (HT.box 2).c 0; have hz2 := (HT.box 2).lt)); have xc0 := (HT.box 0).c 0; have xf0 := (HT.box 0).f 0; have xc1 := (HT.box 0).c 1; have xf1 := (HT.box 0).f 1; have xc2 := (HT.box 0).c 2; have xf2 := (HT.box 0).f 2; have xc3 := (HT.box 0).c 3; have xf3 := (HT.box 0).f 3; have xc4 := (HT.box 0).c 4; have xf4 := (HT.box 0).f 4; have xc5 := (HT.box 0).c 5; have xf5 := (HT.box 0).f 5; have yc0 := (HT.box 1).c 0; have yf0 := (HT.box 1).f 0; have yc1 := (HT.box 1).c 1; have yf1 := (HT.box 1).f 1; have yc2 := (HT.box 1).c 2; have yf2 := (HT.box 1).f 2; have yc3 := (HT.box 1).c 3; have yf3 := (HT.box 1).f 3; have yc4 := (HT.box 1).c 4; have yf4 := (HT.box 1).f 4; have yc5 := (HT.box 1).c 5; have yf5 := (HT.box 1).f 5))
    all_goals (go_wp2_with fail; go_meet)
    all_goals (refine ⟨_, _, rfl, rfl, ?_⟩)
    all_goals (first | with_reducible exact ((HT.new #[.int .i64 a, .int .i64 b, .int .i64 c, .int .i64 d, .int .i64 e, .int .i64 f] 62).new #[.int .i64 p, .int .i64 q, .int .i64 r, .int .i64 s, .int .i64 t, .int .i64 u] 62).pick (by simp) | with_reducible exact ((HT.new #[.int .i64 p, .int .i64 q, .int .i64 r, .int .i64 s, .int .i64 t, .int .i64 u] 62).new #[.int .i64 a, .int .i64 b, .int .i64 c, .int .i64 d, .int .i64 e, .int .i64 f] 62).pick (by simp) | with_reducible exact ((HT.put6b (by omega) (by simp <;> omega) (.int .i64 a) (.int .i64 b) (.int .i64 c) (.int .i64 d) (.int .i64 e) (.int .i64 f)).new #[.int .i64 p, .int .i64 q, .int .i64 r, .int .i64 s, .int .i64 t, .int .i64 u] 62).pick (by simp) | with_reducible exact ((HT.put6b (by omega) (by simp <;> omega) (.int .i64 p) (.int .i64 q) (.int .i64 r) (.int .i64 s) (.int .i64 t) (.int .i64 u)).new #[.int .i64 a, .int .i64 b, .int .i64 c, .int .i64 d, .int .i64 e, .int .i64 f] 62).pick (by simp) | with_reducible exact ((HT.put6b (by omega) (by simp <;> omega) (.int .i64 a) (.int .i64 b) (.int .i64 c) (.int .i64 d) (.int .i64 e) (.int .i64 f)).swap.put6b (by omega) (by simp <;> omega) (.int .i64 p) (.int .i64 q) (.int .i64 r) (.int .i64 s) (.int .i64 t) (.int .i64 u)).pick (by simp) | with_reducible exact ((HT.swap.put6b (by omega) (by simp <;> omega) (.int .i64 a) (.int .i64 b) (.int .i64 c) (.int .i64 d) (.int .i64 e) (.int .i64 f)).swap.put6b (by omega) (by simp <;> omega) (.int .i64 p) (.int .i64 q) (.int .i64 r) (.int .i64 s) (.int .i64 t) (.int .i64 u)).pick (by simp))
  case rest =>
    clear HT HC hz0 hz1
    obtain ⟨g, h, rfl, rfl, HT⟩ := hcut
    have c0 := (HT.box 0).c 0
    have c1 := (HT.box 0).c 1
    have c2 := (HT.box 0).c 2
    have c3 := (HT.box 0).c 3
    have c4 := (HT.box 0).c 4
    have c5 := (HT.box 0).c 5
    have d0 := (HT.box 1).c 0
    have d1 := (HT.box 1).c 1
    have d2 := (HT.box 1).c 2
    have d3 := (HT.box 1).c 3
    have d4 := (HT.box 1).c 4
    have d5 := (HT.box 1).c 5
    have a3 := (HT.box 3).c 3
    have a4 := (HT.box 3).c 4
    have a5 := (HT.box 3).c 5
    have b3 := (HT.box 2).c 3
    have b4 := (HT.box 2).c 4
    have b5 := (HT.box 2).c 5
    go_wp2_with fail
    refine (isBelow_any _ _ _ _ _ _ _).mono ?_
    rintro e w1 ⟨rfl, hb1⟩
    have HT := HT.later hb1
    clear hb1 c0 d0 c1 d1 c2 d2 c3 d3 c4 d4 c5 d5 a3 b3 a4 b4 a5 b5
    rcases h0 : le3 a b c d e f with _ | _
    · go_wp2_with fail
      go_ret
      exact ⟨ret_bool (by unfold ovB; rw [h0]; rfl), HT.below⟩
    have c0 := (HT.box 0).c 0
    have c1 := (HT.box 0).c 1
    have c2 := (HT.box 0).c 2
    have c3 := (HT.box 0).c 3
    have c4 := (HT.box 0).c 4
    have c5 := (HT.box 0).c 5
    have d0 := (HT.box 1).c 0
    have d1 := (HT.box 1).c 1
    have d2 := (HT.box 1).c 2
    have d3 := (HT.box 1).c 3
    have d4 := (HT.box 1).c 4
    have d5 := (HT.box 1).c 5
    have a3 := (HT.box 3).c 3
    have a4 := (HT.box 3).c 4
    have a5 := (HT.box 3).c 5
    have b3 := (HT.box 2).c 3
    have b4 := (HT.box 2).c 4
    have b5 := (HT.box 2).c 5
    go_wp2_with fail
    refine (isBelow_any _ _ _ _ _ _ _).mono ?_
    rintro e w2 ⟨rfl, hb2⟩
    have HT := HT.later hb2
    clear hb2 c0 d0 c1 d1 c2 d2 c3 d3 c4 d4 c5 d5 a3 b3 a4 b4 a5 b5
    rcases h1 : le3 a b c s t u with _ | _
    · go_wp2_with fail
      go_ret
      exact ⟨ret_bool (by unfold ovB; rw [h0, h1]; rfl), HT.below⟩
    have c0 := (HT.box 0).c 0
    have c1 := (HT.box 0).c 1
    have c2 := (HT.box 0).c 2
    have c3 := (HT.box 0).c 3
    have c4 := (HT.box 0).c 4
    have c5 := (HT.box 0).c 5
    have d0 := (HT.box 1).c 0
    have d1 := (HT.box 1).c 1
    have d2 := (HT.box 1).c 2
    have d3 := (HT.box 1).c 3
    have d4 := (HT.box 1).c 4
    have d5 := (HT.box 1).c 5
    have a3 := (HT.box 3).c 3
    have a4 := (HT.box 3).c 4
    have a5 := (HT.box 3).c 5
    have b3 := (HT.box 2).c 3
    have b4 := (HT.box 2).c 4
    have b5 := (HT.box 2).c 5
    go_wp2_with fail
    refine (isBelow_any _ _ _ _ _ _ _).mono ?_
    rintro e w3 ⟨rfl, hb3⟩
    have HT := HT.later hb3
    clear hb3 c0 d0 c1 d1 c2 d2 c3 d3 c4 d4 c5 d5 a3 b3 a4 b4 a5 b5
    rcases h2 : le3 p q r d e f with _ | _
    · go_wp2_with fail
      go_ret
      exact ⟨ret_bool (by unfold ovB; rw [h0, h1, h2]; rfl), HT.below⟩
    have c0 := (HT.box 0).c 0
    have c1 := (HT.box 0).c 1
    have c2 := (HT.box 0).c 2
    have c3 := (HT.box 0).c 3
    have c4 := (HT.box 0).c 4
    have c5 := (HT.box 0).c 5
    have d0 := (HT.box 1).c 0
    have d1 := (HT.box 1).c 1
    have d2 := (HT.box 1).c 2
    have d3 := (HT.box 1).c 3
    have d4 := (HT.box 1).c 4
    have d5 := (HT.box 1).c 5
    have a3 := (HT.box 3).c 3
    have a4 := (HT.box 3).c 4
    have a5 := (HT.box 3).c 5
    have b3 := (HT.box 2).c 3
    have b4 := (HT.box 2).c 4
    have b5 := (HT.box 2).c 5
    go_wp2_with fail
    refine (isBelow_any _ _ _ _ _ _ _).mono ?_
    rintro e w4 ⟨rfl, hb4⟩
    have HT := HT.later hb4
    clear hb4 c0 d0 c1 d1 c2 d2 c3 d3 c4 d4 c5 d5 a3 b3 a4 b4 a5 b5
    go_wp2_with fail
    go_ret
    exact ⟨ret_bool (by unfold ovB; rw [h0, h1, h2]; rfl), HT.below⟩
end Go.Proofs.Ytjnebohcffeneaa
