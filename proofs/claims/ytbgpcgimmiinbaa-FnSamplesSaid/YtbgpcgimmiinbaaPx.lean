/- PixelSamples: the program; the samples of a pixel as values. -/
import Derived.Test.YtbgpcgimmiinbaaProg
import Derived.Test.YtbgpcgimmiinbaaInts
import Derived.Test.YtbgpcgimmiinbaaMem
import Derived.Test.YtbgpcgimmiinbaaIntS
import Derived.Test.YtbgpcgimmiinbaaVbox
import Derived.Test.YtbgpcgimmiinbaaVec
import Derived.Test.YtbgpcgimmiinbaaHeld
import Derived.Test.YtbgpcgimmiinbaaFlat
import Derived.Test.YtbgpcgimmiinbaaRowC
import Derived.Test.YtbgpcgimmiinbaaCam
import Derived.Test.YtbgpcgimmiinbaaSmp
import Derived.Test.YtbgpcgimmiinbaaHsh
import Derived.WalkKit
import Derived.WalkSpells
import Derived.WalkLawsBesides
import Derived.Lib.Hide
import Derived.Deep.RegionHeld3
import Derived.Deep.QuietTactic
import Derived.BigQuiet
import Derived.Handy
import Derived.Deep.DeepCutAuto
import Derived.Laws.RangeAny
namespace Go.Proofs.Ytbgpcgimmiinbaa
open Go.RowKit

/-- the sample in square k of the pixel (i, j), s squares a side -/
def psm (i j : Int) (s k : Nat) : S5 :=
  (i * 16 + ((k % s : Nat) : Int) * ((16 / s : Nat) : Int) + hashR [i, j, (k : Int), 1] ((16 / s : Nat) : Int),
   j * 16 + ((k / s : Nat) : Int) * ((16 / s : Nat) : Int) + hashR [i, j, (k : Int), 2] ((16 / s : Nat) : Int),
   hashR [i, j, (k : Int), 3] 16, hashR [i, j, (k : Int), 4] 33 - 16, hashR [i, j, (k : Int), 5] 33 - 16)
/-- the squares a side -/
def okSd (s : Int) : Bool := decide (s = 1 ∨ s = 2 ∨ s = 4)
theorem okSd_iff (s : Int) : okSd s = true ↔ s = 1 ∨ s = 2 ∨ s = 4 := by simp [okSd]
def pxL (i j : Int) (s n : Nat) : List S5 := (List.range n).map (psm i j s)
theorem pxL_len (i j : Int) (s n : Nat) : (pxL i j s n).length = n := by simp [pxL]
theorem pxL_step (i j : Int) (s n : Nat) : pxL i j s (n + 1) = pxL i j s n ++ [psm i j s n] := by
  unfold pxL
  rw [List.range_succ, List.map_append]
  rfl
/-- the samples of a pixel -/
def psL (k : Bool) (a b i j s : Int) : List S5 := if k && (inC 0 (a - 1) i && (inC 0 (b - 1) j && okSd s)) then pxL i j s.toNat (s.toNat * s.toNat) else []
theorem psL_no {k : Bool} {a b i j s : Int} (h : (k && (inC 0 (a - 1) i && (inC 0 (b - 1) j && okSd s))) = false) : psL k a b i j s = [] := if_neg (by rw [h]; simp)
theorem psL_len (k : Bool) (a b i j s : Int) : (psL k a b i j s).length ≤ 16 := by
  unfold psL
  split
  · rename_i h
    simp only [Bool.and_eq_true] at h
    have h4 := (okSd_iff _).1 h.2.2.2
    rw [pxL_len]
    rcases h4 with rfl | rfl | rfl <;> decide
  · simp
def SmpIs (v : S5) (w : World) (e : Ending) (w' : World) : Prop := e = .returned (s5v v) ∧ Below w.heap.size w w'
theorem row4i (w : World) (a b c d : Int) (t : TypeId) : Row I64 (w.alloc (.cells #[.int .i64 a, .int .i64 b, .int .i64 c, .int .i64 d] t)) (w.alloc (.cells #[.int .i64 a, .int .i64 b, .int .i64 c, .int .i64 d] t)).heap.size (some ⟨w.heap.size, 0, none⟩) [a, b, c, d] := fun _ => by
  have V := Mbox.new w #[.int .i64 a, .int .i64 b, .int .i64 c, .int .i64 d] t
  refine ⟨w.heap.size, 0, rfl, by simp, fun k hk => ?_⟩
  match k, hk with
  | 0, _ => exact V.c 0
  | 1, _ => exact V.c 1
  | 2, _ => exact V.c 2
  | 3, _ => exact V.c 3
theorem bset5 {B k : Nat} {a w : World} {x y z p q : Value} (h : Below B a w) (hk : B ≤ k) : Below B a (((((w.setCell ⟨k, 0, none⟩ x).setCell ⟨k, 1, none⟩ y).setCell ⟨k, 2, none⟩ z).setCell ⟨k, 3, none⟩ p).setCell ⟨k, 4, none⟩ q) :=
  ((((h.setCell (p := ⟨k, 0, none⟩) hk x).setCell (p := ⟨k, 1, none⟩) hk y).setCell (p := ⟨k, 2, none⟩) hk z).setCell (p := ⟨k, 3, none⟩) hk p).setCell (p := ⟨k, 4, none⟩) hk q
/-- the numbers of a square: divisions, the hashes, the sample -/
structure Sq (i j : Int) (s k : Nat) (S K st ro cl P Q g1 g2 g3 g4 g5 : Int) : Prop where
  eS : S = (s : Int)
  eK : K = (k : Int)
  est : Int.tdiv 16 S = st
  ero : Int.tdiv K S = ro
  ecl : Int.tmod K S = cl
  eP : cl * st = P
  eQ : ro * st = Q
  h1 : g1 = hashR [i, j, K, 1] st
  h2 : g2 = hashR [i, j, K, 2] st
  h3 : g3 = hashR [i, j, K, 3] 16
  h4 : g4 = hashR [i, j, K, 4] 33
  h5 : g5 = hashR [i, j, K, 5] 33
  v : psm i j s k = (i * 16 + P + g1, j * 16 + Q + g2, g3, g4 - 16, g5 - 16)
  bS : 1 ≤ S ∧ S ≤ 4
  bK : 0 ≤ K ∧ K ≤ 15
  bst : 4 ≤ st ∧ st ≤ 16
  bro : 0 ≤ ro ∧ ro ≤ 3
  bcl : 0 ≤ cl ∧ cl ≤ 3
  bP : 0 ≤ P ∧ P + st ≤ 16
  bQ : 0 ≤ Q ∧ Q + st ≤ 16
  b1 : 0 ≤ g1 ∧ g1 < st
  b2 : 0 ≤ g2 ∧ g2 < st
  b3 : 0 ≤ g3 ∧ g3 < 16
  b4 : 0 ≤ g4 ∧ g4 < 33
  b5 : 0 ≤ g5 ∧ g5 < 33
theorem sq_of (i j : Int) (s k : Nat) (hs : s = 1 ∨ s = 2 ∨ s = 4) (hk : k < s * s) : ∃ S K st ro cl P Q g1 g2 g3 g4 g5, Sq i j s k S K st ro cl P Q g1 g2 g3 g4 g5 := by
  have hst : 4 ≤ ((16 / s : Nat) : Int) ∧ ((16 / s : Nat) : Int) ≤ 16 := by rcases hs with rfl | rfl | rfl <;> decide
  refine ⟨(s : Int), (k : Int), ((16 / s : Nat) : Int), ((k / s : Nat) : Int), ((k % s : Nat) : Int), ((k % s : Nat) : Int) * ((16 / s : Nat) : Int), ((k / s : Nat) : Int) * ((16 / s : Nat) : Int), _, _, _, _, _, rfl, rfl, rfl, rfl, rfl, rfl, rfl, rfl, rfl, rfl, rfl, rfl, rfl, ?_, ?_, hst, ?_, ?_, ?_, ?_, hashR_bd _ _ (by omega), hashR_bd _ _ (by omega), hashR_bd _ _ (by omega), hashR_bd _ _ (by omega), hashR_bd _ _ (by omega)⟩
  all_goals (rcases hs with rfl | rfl | rfl <;> (try simp only [Nat.reduceDiv]) <;> omega)

set_option maxHeartbeats 4000000 in
theorem pixelSample_any (i j : Int) (s k : Nat) (hs : s = 1 ∨ s = 2 ∨ s = 4) (hk : k < s * s) (hi : 0 ≤ i ∧ i ≤ 11) (hj : 0 ≤ j ∧ j ≤ 11) (w : World) :
    Calls Try.prog 40 #[.int .i64 i, .int .i64 j, .int .i64 (k : Int), .int .i64 (s : Int)] w (SmpIs (psm i j s k) w) := by
  obtain ⟨S, K, st, ro, cl, P, Q, g1, g2, g3, g4, g5, q⟩ := sq_of i j s k hs hk
  have H1 : Hid (∀ (W : World), Calls Try.prog 21 #[.slice (some ⟨W.heap.size, 0, none⟩) 4 4, .int .i64 st] (W.alloc (.cells #[.int .i64 i, .int .i64 j, .int .i64 K, .int .i64 1] 3)) (HashIs g1 (W.alloc (.cells #[.int .i64 i, .int .i64 j, .int .i64 K, .int .i64 1] 3)))) := Lib.hid (fun W => by rw [q.h1]; exact hashRange_any _ _ [i, j, K, 1] st _ _ (row4i W i j K 1 3) (by simp) (by have := q.bst; omega))
  have H2 : Hid (∀ (W : World), Calls Try.prog 21 #[.slice (some ⟨W.heap.size, 0, none⟩) 4 4, .int .i64 st] (W.alloc (.cells #[.int .i64 i, .int .i64 j, .int .i64 K, .int .i64 2] 3)) (HashIs g2 (W.alloc (.cells #[.int .i64 i, .int .i64 j, .int .i64 K, .int .i64 2] 3)))) := Lib.hid (fun W => by rw [q.h2]; exact hashRange_any _ _ [i, j, K, 2] st _ _ (row4i W i j K 2 3) (by simp) (by have := q.bst; omega))
  have H3 : Hid (∀ (W : World), Calls Try.prog 21 #[.slice (some ⟨W.heap.size, 0, none⟩) 4 4, .int .i64 16] (W.alloc (.cells #[.int .i64 i, .int .i64 j, .int .i64 K, .int .i64 3] 3)) (HashIs g3 (W.alloc (.cells #[.int .i64 i, .int .i64 j, .int .i64 K, .int .i64 3] 3)))) := Lib.hid (fun W => by rw [q.h3]; exact hashRange_any _ _ [i, j, K, 3] 16 _ _ (row4i W i j K 3 3) (by simp) (by have := q.bst; omega))
  have H4 : Hid (∀ (W : World), Calls Try.prog 21 #[.slice (some ⟨W.heap.size, 0, none⟩) 4 4, .int .i64 33] (W.alloc (.cells #[.int .i64 i, .int .i64 j, .int .i64 K, .int .i64 4] 3)) (HashIs g4 (W.alloc (.cells #[.int .i64 i, .int .i64 j, .int .i64 K, .int .i64 4] 3)))) := Lib.hid (fun W => by rw [q.h4]; exact hashRange_any _ _ [i, j, K, 4] 33 _ _ (row4i W i j K 4 3) (by simp) (by have := q.bst; omega))
  have H5 : Hid (∀ (W : World), Calls Try.prog 21 #[.slice (some ⟨W.heap.size, 0, none⟩) 4 4, .int .i64 33] (W.alloc (.cells #[.int .i64 i, .int .i64 j, .int .i64 K, .int .i64 5] 3)) (HashIs g5 (W.alloc (.cells #[.int .i64 i, .int .i64 j, .int .i64 K, .int .i64 5] 3)))) := Lib.hid (fun W => by rw [q.h5]; exact hashRange_any _ _ [i, j, K, 5] 33 _ _ (row4i W i j K 5 3) (by simp) (by have := q.bst; omega))
  have HV := Lib.hid q.v
  rw [← q.eS, ← q.eK]
  have bS := q.bS
  have bK := q.bK
  have bst := q.bst
  have bro := q.bro
  have bcl := q.bcl
  have bP := q.bP
  have bQ := q.bQ
  have b1 := q.b1
  have b2 := q.b2
  have b3 := q.b3
  have b4 := q.b4
  have b5 := q.b5
  have qst := q.est
  have qro := q.ero
  have qcl := q.ecl
  have qP := q.eP
  have qQ := q.eQ
  clear q hk hs
  have HT : Held w (w.alloc (.cells #[.int .i64 0, .int .i64 0, .int .i64 0, .int .i64 0, .int .i64 0] 31)) [(w.heap.size, [.int .i64 0, .int .i64 0, .int .i64 0, .int .i64 0, .int .i64 0])] := by
    have h := (Held.nil w).new #[.int .i64 0, .int .i64 0, .int .i64 0, .int .i64 0, .int .i64 0] 31
    simpa only [World.size_alloc] using h
  go_enter Try.func40, Try.ntmps40
  go_upto_region 2 with fail
  go_quiet (fail)
  go_upto_region 3 with fail
  have HT := HT.drewN nq
  obtain ⟨W0, hW0⟩ : ∃ W, W = (w.alloc (.cells #[.int .i64 0, .int .i64 0, .int .i64 0, .int .i64 0, .int .i64 0] 31)).drewN nq := ⟨_, rfl⟩
  rw [← hW0] at HT ⊢
  clear hW0 qst qro qcl bS bK
  go_wp2_with fail
  refine (H1.out _).mono ?_
  rintro e2 w2 ⟨rfl, rfl⟩
  have HT := HT.alloc (.cells #[.int .i64 i, .int .i64 j, .int .i64 K, .int .i64 1] 3)
  obtain ⟨W1, hW1⟩ : ∃ W, W = W0.alloc (.cells #[.int .i64 i, .int .i64 j, .int .i64 K, .int .i64 1] 3) := ⟨_, rfl⟩
  rw [← hW1] at HT ⊢
  clear hW1
  go_wp2_with fail
  refine (H2.out _).mono ?_
  rintro e2 w2 ⟨rfl, rfl⟩
  have HT := HT.alloc (.cells #[.int .i64 i, .int .i64 j, .int .i64 K, .int .i64 2] 3)
  obtain ⟨W2, hW2⟩ : ∃ W, W = W1.alloc (.cells #[.int .i64 i, .int .i64 j, .int .i64 K, .int .i64 2] 3) := ⟨_, rfl⟩
  rw [← hW2] at HT ⊢
  clear hW2
  go_wp2_with fail
  refine (H3.out _).mono ?_
  rintro e2 w2 ⟨rfl, rfl⟩
  have HT := HT.alloc (.cells #[.int .i64 i, .int .i64 j, .int .i64 K, .int .i64 3] 3)
  obtain ⟨W3, hW3⟩ : ∃ W, W = W2.alloc (.cells #[.int .i64 i, .int .i64 j, .int .i64 K, .int .i64 3] 3) := ⟨_, rfl⟩
  rw [← hW3] at HT ⊢
  clear hW3
  go_wp2_with fail
  refine (H4.out _).mono ?_
  rintro e2 w2 ⟨rfl, rfl⟩
  have HT := HT.alloc (.cells #[.int .i64 i, .int .i64 j, .int .i64 K, .int .i64 4] 3)
  obtain ⟨W4, hW4⟩ : ∃ W, W = W3.alloc (.cells #[.int .i64 i, .int .i64 j, .int .i64 K, .int .i64 4] 3) := ⟨_, rfl⟩
  rw [← hW4] at HT ⊢
  clear hW4
  go_wp2_with fail
  refine (H5.out _).mono ?_
  rintro e2 w2 ⟨rfl, rfl⟩
  have HT := HT.alloc (.cells #[.int .i64 i, .int .i64 j, .int .i64 K, .int .i64 5] 3)
  obtain ⟨W5, hW5⟩ : ∃ W, W = W4.alloc (.cells #[.int .i64 i, .int .i64 j, .int .i64 K, .int .i64 5] 3) := ⟨_, rfl⟩
  rw [← hW5] at HT ⊢
  clear hW5
  have r0 := (HT.box 0).c 0
  have r1 := (HT.box 0).c 1
  have r2 := (HT.box 0).c 2
  have r3 := (HT.box 0).c 3
  have r4 := (HT.box 0).c 4
  have f0 := (HT.box 0).f 0
  have f1 := (HT.box 0).f 1
  have f2 := (HT.box 0).f 2
  have f3 := (HT.box 0).f 3
  have f4 := (HT.box 0).f 4
  have HW := HT.below
  go_wp2_with fail
  exact bodyPost_ret (v := smp (i * 16 + P + g1) (j * 16 + Q + g2) g3 (g4 - 16) (g5 - 16)) (by simp [results, Try.results40, go_sem, r0, r1, r2, r3, r4]) rfl ⟨by rw [HV.out], bset5 HW (Nat.le_refl _)⟩

set_option maxHeartbeats 400000 in
theorem isSide_any (s : Int) (w : World) :
    Calls Try.prog 39 #[.int .i64 s] w (fun x w' => x = .returned (.bool (okSd s)) ∧ w = w') := by
  by_cases h1 : s = 1
  · subst h1
    go_enter Try.func39, Try.ntmps39
    go_wp2_with fail
    go_ret
    exact ⟨rfl, rfl⟩
  · by_cases h2 : s = 2
    · subst h2
      go_enter Try.func39, Try.ntmps39
      go_wp2_with fail
      go_ret
      exact ⟨rfl, rfl⟩
    · by_cases h4 : s = 4
      · subst h4
        go_enter Try.func39, Try.ntmps39
        go_wp2_with fail
        go_ret
        exact ⟨rfl, rfl⟩
      · have HE := Lib.hid (show okSd s = false by simp [okSd, h1, h2, h4])
        have e1 : (s == 1) = false := by simpa using h1
        have e2 : (s == 2) = false := by simpa using h2
        have e4 : (s == 4) = false := by simpa using h4
        clear h1 h2 h4
        go_enter Try.func39, Try.ntmps39
        go_wp2_with fail
        go_ret
        exact ⟨ret_b (by first | exact HE.out.symm | rw [HE.out, e4]), rfl⟩

set_option maxHeartbeats 8000000 in
theorem pixelSamples_any (a b c d : Int) (e : Bool) (f g : Int) (i j s : Int) (w : World) :
    Calls Try.prog 11 #[cam a b c d e f g, .int .i64 i, .int .i64 j, .int .i64 s] w (SmpsOut (psL (okC a b c d f g) a b i j s) w) := by
  have HT : Held w (w.alloc (.cells #[.int .i64 a, .int .i64 b, .int .i64 c, .int .i64 d, .bool e, .int .i64 f, .int .i64 g] 24)) [(w.heap.size, [.int .i64 a, .int .i64 b, .int .i64 c, .int .i64 d, .bool e, .int .i64 f, .int .i64 g])] := by
    have h := (Held.nil w).new #[.int .i64 a, .int .i64 b, .int .i64 c, .int .i64 d, .bool e, .int .i64 f, .int .i64 g] 24
    simpa only [World.size_alloc] using h
  rcases hk : okC a b c d f g with _ | _
  · rw [psL_no (by rfl)]
    go_enter Try.func11, Try.ntmps11
    go_wp2_with fail
    refine (isValidCamera_any a b c d e f g _).mono ?_
    rintro e1 w1 ⟨rfl, hb1⟩
    have HT := HT.later hb1
    rw [hk]
    have c0 := (HT.box 0).c 0
    have c1 := (HT.box 0).c 1
    have c2 := (HT.box 0).c 2
    have c3 := (HT.box 0).c 3
    have c4 := (HT.box 0).c 4
    have c5 := (HT.box 0).c 5
    have c6 := (HT.box 0).c 6
    clear hb1
    go_wp2_with fail
    go_ret
    exact ⟨none, 0, rfl, World.ownsRow_nil _ _ _ _, HT.below⟩
  · have ha := ((okC_iff ..).1 hk).1.1
    have hb := ((okC_iff ..).1 hk).1.2
    rcases hi : inC 0 (a - 1) i with _ | _
    · rw [psL_no (by rw [hi]; rfl)]
      go_enter Try.func11, Try.ntmps11
      go_wp2_with fail
      refine (isValidCamera_any a b c d e f g _).mono ?_
      rintro e1 w1 ⟨rfl, hb1⟩
      have HT := HT.later hb1
      rw [hk]
      have c0 := (HT.box 0).c 0
      have c1 := (HT.box 0).c 1
      have c2 := (HT.box 0).c 2
      have c3 := (HT.box 0).c 3
      have c4 := (HT.box 0).c 4
      have c5 := (HT.box 0).c 5
      have c6 := (HT.box 0).c 6
      clear hb1
      go_wp2_with (first | (go_at_call 38; refine (isWithin_any _ _ _ _).mono ?_; rintro e2 w2 ⟨rfl, rfl⟩; (first | simp only [hi] | simp only [hj] | skip)) | (go_at_call 39; refine (isSide_any _ _).mono ?_; rintro e2 w2 ⟨rfl, rfl⟩; (first | simp only [hs] | skip)))
      go_ret
      exact ⟨none, 0, rfl, World.ownsRow_nil _ _ _ _, HT.below⟩
    · rcases hj : inC 0 (b - 1) j with _ | _
      · rw [psL_no (by rw [hi, hj]; rfl)]
        go_enter Try.func11, Try.ntmps11
        go_wp2_with fail
        refine (isValidCamera_any a b c d e f g _).mono ?_
        rintro e1 w1 ⟨rfl, hb1⟩
        have HT := HT.later hb1
        rw [hk]
        have c0 := (HT.box 0).c 0
        have c1 := (HT.box 0).c 1
        have c2 := (HT.box 0).c 2
        have c3 := (HT.box 0).c 3
        have c4 := (HT.box 0).c 4
        have c5 := (HT.box 0).c 5
        have c6 := (HT.box 0).c 6
        clear hb1
        go_wp2_with (first | (go_at_call 38; refine (isWithin_any _ _ _ _).mono ?_; rintro e2 w2 ⟨rfl, rfl⟩; (first | simp only [hi] | simp only [hj] | skip)) | (go_at_call 39; refine (isSide_any _ _).mono ?_; rintro e2 w2 ⟨rfl, rfl⟩; (first | simp only [hs] | skip)))
        go_ret
        exact ⟨none, 0, rfl, World.ownsRow_nil _ _ _ _, HT.below⟩
      · rcases hs : okSd s with _ | _
        · rw [psL_no (by rw [hi, hj, hs]; rfl)]
          go_enter Try.func11, Try.ntmps11
          go_wp2_with fail
          refine (isValidCamera_any a b c d e f g _).mono ?_
          rintro e1 w1 ⟨rfl, hb1⟩
          have HT := HT.later hb1
          rw [hk]
          have c0 := (HT.box 0).c 0
          have c1 := (HT.box 0).c 1
          have c2 := (HT.box 0).c 2
          have c3 := (HT.box 0).c 3
          have c4 := (HT.box 0).c 4
          have c5 := (HT.box 0).c 5
          have c6 := (HT.box 0).c 6
          clear hb1
          go_wp2_with (first | (go_at_call 38; refine (isWithin_any _ _ _ _).mono ?_; rintro e2 w2 ⟨rfl, rfl⟩; (first | simp only [hi] | simp only [hj] | skip)) | (go_at_call 39; refine (isSide_any _ _).mono ?_; rintro e2 w2 ⟨rfl, rfl⟩; (first | simp only [hs] | skip)))
          go_ret
          exact ⟨none, 0, rfl, World.ownsRow_nil _ _ _ _, HT.below⟩
        · have hi' := (inC_iff ..).1 hi
          have hj' := (inC_iff ..).1 hj
          have hs' := (okSd_iff s).1 hs
          obtain ⟨n, hn, hn4⟩ : ∃ n : Nat, s = (n : Int) ∧ (n = 1 ∨ n = 2 ∨ n = 4) := ⟨s.toNat, by omega, by omega⟩
          have hv : psL true a b i j s = pxL i j n (n * n) := by
            unfold psL
            rw [hi, hj, hs, hn]
            rfl
          rw [hv]
          subst hn
          obtain ⟨N, hN⟩ : ∃ N, N = n * n := ⟨_, rfl⟩
          have hNN : (n : Int) * (n : Int) = (N : Int) := by rw [hN, Int.natCast_mul]
          have hN16 : N ≤ 16 := by rw [hN]; rcases hn4 with rfl | rfl | rfl <;> decide
          rw [← hN]
          have HN := Lib.hid hN
          clear hN
          go_enter Try.func11, Try.ntmps11
          go_wp2_with fail
          refine (isValidCamera_any a b c d e f g _).mono ?_
          rintro e1 w1 ⟨rfl, hb1⟩
          have HT := HT.later hb1
          rw [hk]
          have c0 := (HT.box 0).c 0
          have c1 := (HT.box 0).c 1
          have c2 := (HT.box 0).c 2
          have c3 := (HT.box 0).c 3
          have c4 := (HT.box 0).c 4
          have c5 := (HT.box 0).c 5
          have c6 := (HT.box 0).c 6
          clear hb1
          have HB1 := Lib.hid HT.below
          go_wp2_with (first | (go_at_call 38; refine (isWithin_any _ _ _ _).mono ?_; rintro e2 w2 ⟨rfl, rfl⟩; (first | simp only [hi] | simp only [hj] | skip)) | (go_at_call 39; refine (isSide_any _ _).mono ?_; rintro e2 w2 ⟨rfl, rfl⟩; (first | simp only [hs] | skip)))
          clear HT c0 c1 c2 c3 c4 c5 c6 hi hj hs
          go_loopw [9, 38] (fun t x wr => ∃ k : Nat, k ≤ N ∧ x = .int .i64 k ∧ wr.ownsRow w.heap.size 31 5 t (k) ((pxL i j n (k)).flatMap sg) ∧ Below w.heap.size w wr) (fun _ x _ => N - (intOf x).toNat)
          case atStart => exact ⟨0, Nat.zero_le _, rfl, World.ownsRow_nil _ _ _ _, HB1.out⟩
          case round =>
            obtain ⟨k, hkN, rfl, hown, hbw⟩ := hrel
            have HO := Lib.hid hown
            have HB := Lib.hid hbw
            clear hown hbw HB1
            by_cases hlt : k < N
            · have hlt' : (k : Int) < (N : Int) := by omega
              have hge' : (0 : Int) ≤ (k : Int) := by omega
              have HL := Lib.hid hlt
              go_wp2_with fail
              refine (pixelSample_any i j n k hn4 (by rw [← HN.out]; exact HL.out) (by omega) (by omega) _).mono ?_
              rintro e2 w2 ⟨rfl, hb2⟩
              have HO2 := Lib.hid (own_keep' HO.out hb2)
              have HB2 := Lib.hid (bcall HB.out hb2 HB.out.size)
              have hsz : w.heap.size ≤ w2.heap.size := HB2.out.size
              clear hb2 HO HB
              go_wp2_with (at_builtin; refine wpList_app5 _ rfl _ _ 28 rfl w.heap.size 31 (smp 0 0 0 0 0) 40 Try.underlying28 infoSmp rfl _ _ _ (by rfl) HO2.out _ _ _ _ _ (by rfl) ⟨by rfl, by rfl, by rfl, by rfl, by rfl⟩ (by unfold maxLen; omega) (by omega) hsz ?_)
              intro v' w4 ho4 hg4
              have HO4 := Lib.hid ho4
              have HB4 := Lib.hid (HB2.out.grown hg4 hsz (own_block HO2.out))
              clear ho4 hg4 hsz HO2 HB2
              go_wp2_with fail
              go_roundw
              case rel => exact ⟨k + 1, by have := HL.out; omega, by go_num, by
                have h := HO4.out
                rw [pxL_step, List.flatMap_append]
                exact h, HB4.out⟩
              case measure => have := HL.out; simp [intOf]; omega
            · have e : k = N := by omega
              subst e
              obtain ⟨A2, c2, rfl⟩ := own_shape HO.out
              clear hlt hkN
              go_wp2_with fail
              go_ret
              exact ⟨A2, c2, by rw [pxL_len] <;> rfl, by rw [pxL_len]; exact HO.out, HB.out⟩
end Go.Proofs.Ytbgpcgimmiinbaa
