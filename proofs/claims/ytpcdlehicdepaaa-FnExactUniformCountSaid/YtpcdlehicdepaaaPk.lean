/- Marks on programs that a call made: the laws' helpers on nodes. -/
import Derived.Test.YtpcdlehicdepaaaProg
import Derived.Test.YtpcdlehicdepaaaInts
import Derived.Test.YtpcdlehicdepaaaVbox
import Derived.Test.YtpcdlehicdepaaaHeld
import Derived.Test.YtpcdlehicdepaaaMem
import Derived.Test.YtpcdlehicdepaaaFlat
import Derived.Test.YtpcdlehicdepaaaRowC
import Derived.Test.YtpcdlehicdepaaaKS
import Derived.Test.YtpcdlehicdepaaaStrS
import Derived.Test.YtpcdlehicdepaaaIntS
import Derived.Test.YtpcdlehicdepaaaSS
import Derived.Test.YtpcdlehicdepaaaPg
import Derived.Test.YtpcdlehicdepaaaPh
import Derived.WalkKit
import Derived.WalkSpells
import Derived.WalkLawsBesides
import Derived.Lib.Hide
import Derived.Deep.RegionHeld3
import Derived.Deep.QuietTactic
import Derived.BigQuiet
import Derived.Handy
import Derived.Deep.DeepCutAuto
namespace Go.Proofs.Ytpcdlehicdepaaa
open Go.RowKit
theorem retIP {a b : Int} (h : a = b) : Ending.returned (.int .i64 a) = Ending.returned (.int .i64 b) := by rw [h]
def cntQ (k n : Nat) : List Int := (List.range n).map fun i => ((k + i : Nat) : Int)
theorem cnt_lenP (k n : Nat) : (cntQ k n).length = n := by simp [cntQ]
theorem cnt_atP (k n i : Nat) (h : i < (cntQ k n).length) : (cntQ k n)[i] = ((k + i : Nat) : Int) := by simp [cntQ]
def cntInP (k i : Nat) (xs : List Int) : List Int := cntQ k i ++ xs.drop i
theorem cntIn_zeroP (k : Nat) (xs : List Int) : cntInP k 0 xs = xs := by simp [cntInP, cntQ]
theorem cntIn_allP (k : Nat) (xs : List Int) : cntInP k xs.length xs = cntQ k xs.length := by simp [cntInP]
theorem cntIn_lenP (k i : Nat) (xs : List Int) (h : i ≤ xs.length) : (cntInP k i xs).length = xs.length := by simp [cntInP, cnt_lenP]; omega
theorem cntIn_stepP (k i : Nat) (xs : List Int) (h : i < xs.length) : (cntInP k i xs).set i ((k + i : Nat) : Int) = cntInP k (i + 1) xs := by
  unfold cntInP
  rw [List.set_append_right _ _ (by rw [cnt_lenP]; omega), cnt_lenP, Nat.sub_self, List.drop_eq_getElem_cons h, List.set_cons_zero]
  have e : cntQ k (i + 1) = cntQ k i ++ [((k + i : Nat) : Int)] := by simp [cntQ, List.range_succ]
  rw [e, List.append_assoc, List.singleton_append]
/-- how many integers the rows hold -/
def sumL (xss : List (List Int)) : Nat := (xss.map List.length).sum
theorem sumL_step (xss : List (List Int)) (k : Nat) (h : k < xss.length) : sumL (xss.take (k + 1)) = sumL (xss.take k) + xss[k].length := by
  unfold sumL
  rw [List.take_succ_eq_append_getElem h, List.map_append, List.sum_append]
  simp only [List.map_cons, List.map_nil, List.sum_cons, List.sum_nil, Nat.add_zero]
theorem sumL_le (xss : List (List Int)) (k : Nat) : sumL (xss.take k) ≤ sumL xss := by
  unfold sumL
  have h : (xss.map List.length).sum = ((xss.take k).map List.length).sum + ((xss.drop k).map List.length).sum := by
    rw [← List.sum_append, ← List.map_append, List.take_append_drop]
  omega
theorem len_le_sum (xss : List (List Int)) : ∀ xs ∈ xss, xs.length ≤ sumL xss := by
  intro xs hx
  obtain ⟨k, hk, rfl⟩ := List.getElem_of_mem hx
  have h1 := sumL_step xss k hk
  have h2 := sumL_le xss (k + 1)
  omega




def blk (A : Option Addr) : Option Nat := A.map (·.block)
def Apart (A B : Option Addr) : Prop := ∀ k, blk A = some k → blk B ≠ some k
theorem Apart.symm {A B : Option Addr} (h : Apart A B) : Apart B A := fun k hb ha => h k ha hb
/-- a node with the place of its arguments -/
abbrev PN := (Option Addr × Nat) × Nd
def ng (p : PN) : List Value := [.int .i64 p.2.1, .string p.2.2.1, .int .i64 p.2.2.2.1, .slice p.1.1 p.2.2.2.2.length p.1.2]
theorem ng_len (p : PN) : (ng p).length = 4 := rfl
theorem ng_set (xs : List PN) : ∀ (k : Nat) (h : k < xs.length) (v : PN), v.1 = (xs[k]).1 → v.2.2.2.2.length = (xs[k]).2.2.2.2.length → ((((xs.flatMap ng).set (k * 4) (.int .i64 v.2.1)).set (k * 4 + 1) (.string v.2.2.1)).set (k * 4 + 2) (.int .i64 v.2.2.2.1)) = (xs.set k v).flatMap ng := by
  induction xs with
  | nil => intro k h; simp at h
  | cons x xs ih =>
    intro k h v h1 h2
    match k, h with
    | 0, _ =>
      simp at h1 h2
      simp [ng, h1, h2]
    | k + 1, h =>
      have := ih k (by simpa using h) v (by simpa using h1) (by simpa using h2)
      rw [List.flatMap_cons, List.set_cons_succ, List.flatMap_cons, ← this]
      rw [List.set_append_right _ _ (by simp [ng]; omega), List.set_append_right _ _ (by simp [ng]; omega), List.set_append_right _ _ (by simp [ng]; omega)]
      have e : ∀ q, (k + 1) * 4 + q - (ng x).length = k * 4 + q := fun q => by rw [ng_len]; omega
      have e0 : (k + 1) * 4 - (ng x).length = k * 4 := e 0
      rw [e0, e 1, e 2]
/-- how many marks the first j nodes take -/
def offN (ps : List PN) (j : Nat) : Nat := ((ps.take j).map (fun p => 3 + p.2.2.2.2.length)).sum
theorem offN_succ (ps : List PN) (j : Nat) (h : j < ps.length) : offN ps (j + 1) = offN ps j + (3 + (ps[j]).2.2.2.2.length) := by
  unfold offN
  rw [List.take_succ_eq_append_getElem h, List.map_append, List.sum_append]
  simp only [List.map_cons, List.map_nil, List.sum_cons, List.sum_nil, Nat.add_zero]
theorem offN_zero (ps : List PN) : offN ps 0 = 0 := by simp [offN]
theorem offN_le (ps : List PN) (j : Nat) : offN ps j ≤ offN ps ps.length := by
  have h : (ps.map (fun p => 3 + p.2.2.2.2.length)).sum = ((ps.take j).map (fun p => 3 + p.2.2.2.2.length)).sum + ((ps.drop j).map (fun p => 3 + p.2.2.2.2.length)).sum := by
    rw [← List.sum_append, ← List.map_append, List.take_append_drop]
  unfold offN
  rw [List.take_length, h]
  omega
def mk1N (k : Nat) (p : PN) : PN := (p.1, ((k : Nat) : Int), markP (k + 1), ((k + 2 : Nat) : Int), cntQ (k + 3) p.2.2.2.2.length)
def mkI (k j : Nat) (ps : List PN) : List PN := ps.mapIdx (fun i p => if i < j then mk1N (k + offN ps i) p else p)
theorem mkI_len (k j : Nat) (ps : List PN) : (mkI k j ps).length = ps.length := by simp [mkI]
theorem mkI_at (k j : Nat) (ps : List PN) (i : Nat) (h : i < (mkI k j ps).length) (h' : i < ps.length) : (mkI k j ps)[i] = if i < j then mk1N (k + offN ps i) ps[i] else ps[i] := by simp [mkI]
theorem mkI_zero (k : Nat) (ps : List PN) : mkI k 0 ps = ps := by
  apply List.ext_getElem
  · simp [mkI]
  · intro i h1 h2
    simp [mkI]
theorem mkI_addr (k j : Nat) (ps : List PN) (i : Nat) (h : i < (mkI k j ps).length) (h' : i < ps.length) : ((mkI k j ps)[i]).1 = (ps[i]).1 := by
  rw [mkI_at k j ps i h h']
  split <;> rfl
theorem mkI_alen (k j : Nat) (ps : List PN) (i : Nat) (h : i < (mkI k j ps).length) (h' : i < ps.length) : ((mkI k j ps)[i]).2.2.2.2.length = (ps[i]).2.2.2.2.length := by
  rw [mkI_at k j ps i h h']
  split
  · simp [mk1N, cnt_lenP]
  · rfl
theorem mkI_step (k j : Nat) (ps : List PN) (h : j < ps.length) : (mkI k j ps).set j (mk1N (k + offN ps j) ps[j]) = mkI k (j + 1) ps := by
  apply List.ext_getElem
  · simp [mkI]
  · intro i h1 h2
    have hi : i < ps.length := by simpa [mkI] using h2
    rw [List.getElem_set, mkI_at k (j + 1) ps i h2 hi]
    by_cases e : j = i
    · subst e
      simp
    · rw [if_neg e, mkI_at k j ps i (by simpa [mkI] using hi) hi]
      by_cases e2 : i < j
      · rw [if_pos e2, if_pos (by omega)]
      · rw [if_neg e2, if_neg (by omega)]
/-- nodes that a call made, their arguments wherever Q says -/
def NdG (Q : World → Option Addr × Nat → List Int → Prop) (w : World) (base : Nat) (A : Option Addr) (c : Nat) (ps : List PN) : Prop :=
  w.ownsRow base 56 4 (.slice A ps.length c) ps.length (ps.flatMap ng) ∧ (∀ i (h : i < ps.length), Q w (ps[i]).1 (ps[i]).2.2.2.2 ∧ Apart (ps[i]).1.1 A) ∧ ∀ i j (hi : i < ps.length) (hj : j < ps.length), i ≠ j → Apart (ps[i]).1.1 (ps[j]).1.1
def SN (A : Option Addr) (ps : List PN) (b : Nat) : Prop := blk A = some b ∨ ∃ p ∈ ps, blk p.1.1 = some b
theorem gb_of_turn {a : Option Addr} {w w' : World} (h : Turn (fun b => blk a = some b) w w') : w.grownBy w' (blk a) := ⟨h.1, h.2.1, h.2.2.1, h.2.2.2.1, fun k hk hn => h.block hk (fun e => hn (by rw [e]))⟩
theorem own_turnN {a : Option Addr} {w w' : World} {base m n : Nat} {e : TypeId} {A : Option Addr} {l c : Nat} {xs : List Value} (h : w.ownsRow base e m (.slice A l c) n xs) (ht : Turn (fun b => blk a = some b) w w') (hn : Apart a A) : w'.ownsRow base e m (.slice A l c) n xs :=
  h.kept (gb_of_turn ht) (by
    rcases hA : A with _ | x
    · exact .inl rfl
    · refine .inr ?_
      intro e
      have e : some x.block = blk a := e
      exact hn x.block e.symm (by rw [hA]; rfl))


end Go.Proofs.Ytpcdlehicdepaaa
