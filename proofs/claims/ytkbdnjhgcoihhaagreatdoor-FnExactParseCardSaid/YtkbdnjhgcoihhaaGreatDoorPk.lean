/- Marks on programs that a call made: the laws' helpers on nodes. -/
import Derived.Test.YtkbdnjhgcoihhaaGreatDoorProg
import Derived.Test.YtkbdnjhgcoihhaaGreatDoorInts
import Derived.Test.YtkbdnjhgcoihhaaGreatDoorVbox
import Derived.Test.YtkbdnjhgcoihhaaGreatDoorHeld
import Derived.Test.YtkbdnjhgcoihhaaGreatDoorMem
import Derived.Test.YtkbdnjhgcoihhaaGreatDoorFlat
import Derived.Test.YtkbdnjhgcoihhaaGreatDoorRowC
import Derived.Test.YtkbdnjhgcoihhaaGreatDoorKS
import Derived.Test.YtkbdnjhgcoihhaaGreatDoorStrS
import Derived.Test.YtkbdnjhgcoihhaaGreatDoorIntS
import Derived.Test.YtkbdnjhgcoihhaaGreatDoorSS
import Derived.Test.YtkbdnjhgcoihhaaGreatDoorPg
import Derived.Test.YtkbdnjhgcoihhaaGreatDoorPh
import Derived.WalkKit
import Derived.WalkSpells
import Derived.WalkLawsBesides
import Derived.Lib.Hide
import Derived.Deep.RegionHeld3
import Derived.Deep.QuietTactic
import Derived.BigQuiet
import Derived.Handy
import Derived.Deep.DeepCutAuto
namespace Go.Proofs.YtkbdnjhgcoihhaaGreatDoor
open Go.RowKit
theorem retIP {a b : Int} (h : a = b) : Ending.returned (.int .i64 a) = Ending.returned (.int .i64 b) := by rw [h]
def cntQ (k n : Nat) : List Int := (List.range n).map fun i => ((k + i : Nat) : Int)
theorem cnt_lenP (k n : Nat) : (cntQ k n).length = n := by simp [cntQ]
theorem cnt_atP (k n i : Nat) (h : i < (cntQ k n).length) : (cntQ k n)[i] = ((k + i : Nat) : Int) := by simp [cntQ]
def cntInP (k i : Nat) (xs : List Int) : List Int := cntQ k i ++ xs.drop i
theorem cntIn_zeroP (k : Nat) (xs : List Int) : cntInP k 0 xs = xs := by simp [cntInP, cntQ]
theorem cntIn_allP (k : Nat) (xs : List Int) : cntInP k xs.length xs = cntQ k xs.length := by simp [cntInP]
theorem cntIn_lenP (k i : Nat) (xs : List Int) (h : i ≤ xs.length) : (cntInP k i xs).length = xs.length := by simp [cntInP, cnt_lenP]; omega
theorem cntIn_stepP (k i : Nat) (xs : List Int) (h : i < xs.length) : (cntInP k i xs).set i ((k + i : Nat) : Int) = cntInP k (i + 1) xs := by
  unfold cntInP
  rw [List.set_append_right _ _ (by rw [cnt_lenP]; omega), cnt_lenP, Nat.sub_self, List.drop_eq_getElem_cons h, List.set_cons_zero]
  have e : cntQ k (i + 1) = cntQ k i ++ [((k + i : Nat) : Int)] := by simp [cntQ, List.range_succ]
  rw [e, List.append_assoc, List.singleton_append]
/-- how many integers the rows hold -/
def sumL (xss : List (List Int)) : Nat := (xss.map List.length).sum
theorem sumL_step (xss : List (List Int)) (k : Nat) (h : k < xss.length) : sumL (xss.take (k + 1)) = sumL (xss.take k) + xss[k].length := by
  unfold sumL
  rw [List.take_succ_eq_append_getElem h, List.map_append, List.sum_append]
  simp only [List.map_cons, List.map_nil, List.sum_cons, List.sum_nil, Nat.add_zero]
theorem sumL_le (xss : List (List Int)) (k : Nat) : sumL (xss.take k) ≤ sumL xss := by
  unfold sumL
  have h : (xss.map List.length).sum = ((xss.take k).map List.length).sum + ((xss.drop k).map List.length).sum := by
    rw [← List.sum_append, ← List.map_append, List.take_append_drop]
  omega
theorem len_le_sum (xss : List (List Int)) : ∀ xs ∈ xss, xs.length ≤ sumL xss := by
  intro xs hx
  obtain ⟨k, hk, rfl⟩ := List.getElem_of_mem hx
  have h1 := sumL_step xss k hk
  have h2 := sumL_le xss (k + 1)
  omega
set_option maxHeartbeats 1000000 in
theorem markIntMP (g c k : Nat) (xs : List Int) (w : World) (hM : Mbox w g (xs.map I64)) (hk2 : k + xs.length ≤ 4611686018427387904) :
    Calls Tryz.prog 35 #[.slice (some ⟨g, 0, none⟩) xs.length c, .int .i64 k] w fun e w' => e = .returned (.int .i64 ((k + xs.length : Nat) : Int)) ∧ Mbox w' g ((cntQ k xs.length).map I64) ∧ w.grownBy w' (some g) := by
  have HM := Lib.hid hM
  clear hM
  go_enter Tryz.func35, Tryz.ntmps35
  go_wp2
  go_loopw [1, 5] (fun m i wr => ∃ j : Nat, j ≤ xs.length ∧ i = .int .i64 j ∧ m = .int .i64 ((k + j : Nat) : Int) ∧ Mbox wr g ((cntInP k j xs).map I64) ∧ w.grownBy wr (some g)) (fun _ i _ => xs.length - (intOf i).toNat)
  case atStart => exact ⟨0, Nat.zero_le _, rfl, rfl, by rw [cntIn_zeroP]; exact HM.out, gb_refl _ _⟩
  case round =>
    obtain ⟨j, hj, rfl, rfl, hown, hb⟩ := hrel
    clear HM
    have HO := Lib.hid hown
    have HB := Lib.hid hb
    clear hown hb
    by_cases hlt : j < xs.length
    · have hlh : j < (cntInP k j xs).length := by rw [cntIn_lenP _ _ _ hj]; exact hlt
      have hd := HO.out.c j (v := I64 (cntInP k j xs)[j]) (by rw [List.getElem?_map, List.getElem?_eq_getElem hlh]; rfl)
      have hf := HO.out.f j (v := I64 (cntInP k j xs)[j]) (by rw [List.getElem?_map, List.getElem?_eq_getElem hlh]; rfl)
      obtain ⟨y, hy⟩ : ∃ y, y = (cntInP k j xs)[j] := ⟨_, rfl⟩
      rw [← hy] at hd
      have hs := HO.out.put j (I64 ((k + j : Nat) : Int))
      rw [← List.map_set, cntIn_stepP _ _ _ hlt] at hs
      have hs' := gb_set (i := j) HB.out (I64 ((k + j : Nat) : Int))
      have e : ((k + j : Nat) : Int) = (k : Int) + (j : Int) := by omega
      rw [e] at hs hs'
      have HS := Lib.hid hs
      have HS' := Lib.hid hs'
      clear hy hs hs' hlh e HO HB
      go_wp2
      go_roundw
      case rel => exact ⟨j + 1, by omega, by go_num, by go_num, HS.out, HS'.out⟩
      case measure => simp [intOf]; omega
    · have e : j = xs.length := by omega
      have HO2 : Hid (Mbox wr g ((cntQ k xs.length).map I64)) := by have := HO.out; rw [e, cntIn_allP] at this; exact this
      have HE := Lib.hid e
      clear e HO
      go_wp2
      go_ret
      exact ⟨retIP (by have := HE.out; omega), HO2.out, HB.out⟩

set_option maxHeartbeats 1000000 in
theorem markIntOP (A : Option Addr) (c base k : Nat) (xs : List Int) (w : World) (ho : w.ownsRow base 3 1 (.slice A xs.length c) xs.length (xs.map I64)) (hk2 : k + xs.length ≤ 4611686018427387904) :
    Calls Tryz.prog 35 #[.slice A xs.length c, .int .i64 k] w fun e w' => e = .returned (.int .i64 ((k + xs.length : Nat) : Int)) ∧ w'.ownsRow base 3 1 (.slice A xs.length c) xs.length ((cntQ k xs.length).map I64) ∧ Below base w w' := by
  have HO := Lib.hid ho
  clear ho
  go_enter Tryz.func35, Tryz.ntmps35
  go_wp2
  go_loopw [1, 5] (fun m i wr => ∃ j : Nat, j ≤ xs.length ∧ i = .int .i64 j ∧ m = .int .i64 ((k + j : Nat) : Int) ∧ wr.ownsRow base 3 1 (.slice A xs.length c) xs.length ((cntInP k j xs).map I64) ∧ Below base w wr) (fun _ i _ => xs.length - (intOf i).toNat)
  case atStart => exact ⟨0, Nat.zero_le _, rfl, rfl, by rw [cntIn_zeroP]; exact HO.out, Below.refl _ _⟩
  case round =>
    obtain ⟨j, hj, rfl, rfl, hown, hb⟩ := hrel
    clear HO
    have HO := Lib.hid hown
    have HB := Lib.hid hb
    clear hown hb
    by_cases hlt : j < xs.length
    · obtain ⟨A0, hA⟩ : ∃ g, A = some ⟨g, 0, none⟩ := by
        rcases HO.out.2 with ⟨h, h0⟩ | ⟨g, cap, cur, h, _⟩
        · omega
        · injection h with h; exact ⟨g, h⟩
      subst hA
      have hge := own_block HO.out A0 rfl
      have hlh : j < (cntInP k j xs).length := by rw [cntIn_lenP _ _ _ hj]; exact hlt
      have hd := HO.out.cellAt j (by omega)
      have hf := HO.out.frozenAt j
      rw [List.getElem?_map, List.getElem?_eq_getElem hlh, Option.map_some] at hd
      obtain ⟨y, hy⟩ : ∃ y, y = (cntInP k j xs)[j] := ⟨_, rfl⟩
      rw [← hy] at hd
      have hs := (HO.out.stored j (I64 ((k + j : Nat) : Int))).1
      rw [← List.map_set, cntIn_stepP _ _ _ hlt] at hs
      have hs' := HB.out.setCell (p := ⟨A0, j, none⟩) hge (I64 ((k + j : Nat) : Int))
      have e : ((k + j : Nat) : Int) = (k : Int) + (j : Int) := by omega
      rw [e] at hs hs'
      have HS := Lib.hid hs
      have HS' := Lib.hid hs'
      clear hy hs hs' hlh e
      go_wp2
      go_roundw
      case rel => exact ⟨j + 1, by omega, by go_num, by go_num, HS.out, HS'.out⟩
      case measure => simp [intOf]; omega
    · have e : j = xs.length := by omega
      have HO2 : Hid (wr.ownsRow base 3 1 (.slice A xs.length c) xs.length ((cntQ k xs.length).map I64)) := by have := HO.out; rw [e, cntIn_allP] at this; exact this
      have HE := Lib.hid e
      clear e HO
      go_wp2
      go_ret
      exact ⟨retIP (by have := HE.out; omega), HO2.out, HB.out⟩

set_option maxHeartbeats 1000000 in
theorem heldIntMP (A : Option Addr) (c k n : Nat) (w : World) (hR : Row I64 w w.heap.size A (cntQ k n)) (hk2 : k + n ≤ 4611686018427387904) :
    Calls Tryz.prog 36 #[.slice A n c, .int .i64 k] w fun e w' => e = .returned (.int .i64 ((k + n : Nat) : Int)) ∧ Below w.heap.size w w' := by
  go_enter Tryz.func36, Tryz.ntmps36
  go_wp2
  go_loopw [1, 5] (fun m i wr => ∃ j : Nat, j ≤ n ∧ i = .int .i64 j ∧ m = .int .i64 ((k + j : Nat) : Int) ∧ Below w.heap.size w wr) (fun _ i _ => n - (intOf i).toNat)
  case atStart => exact ⟨0, Nat.zero_le _, rfl, rfl, Below.refl _ _⟩
  case round =>
    obtain ⟨j, hj, rfl, rfl, hb⟩ := hrel
    have HB := Lib.hid hb
    clear hb
    by_cases hlt : j < n
    · obtain ⟨b, o, rfl, hbl, hc⟩ := hR.at (k := j) (by rw [cnt_lenP]; exact hlt)
      have hc := (HB.out.cell hbl).trans hc
      rw [cnt_atP] at hc
      have e : ((k + j : Nat) : Int) = (k : Int) + (j : Int) := by omega
      rw [e] at hc
      have hlt' : (j : Int) < (n : Int) := by omega
      have hge' : (0 : Int) ≤ (j : Int) := by omega
      clear hR e
      go_wp2
      go_roundw
      case rel => exact ⟨j + 1, by omega, by go_num, by go_num, HB.out⟩
      case measure => simp [intOf]; omega
    · have HE : Hid (j = n) := Lib.hid (by omega)
      clear hR
      go_wp2
      go_ret
      exact ⟨retIP (by have := HE.out; omega), HB.out⟩


def blk (A : Option Addr) : Option Nat := A.map (·.block)
def Apart (A B : Option Addr) : Prop := ∀ k, blk A = some k → blk B ≠ some k
theorem Apart.symm {A B : Option Addr} (h : Apart A B) : Apart B A := fun k hb ha => h k ha hb
/-- a node with the place of its arguments -/
abbrev PN := (Option Addr × Nat) × Nd
def ng (p : PN) : List Value := [.int .i64 p.2.1, .string p.2.2.1, .int .i64 p.2.2.2.1, .slice p.1.1 p.2.2.2.2.length p.1.2]
theorem ng_len (p : PN) : (ng p).length = 4 := rfl
theorem ng_set (xs : List PN) : ∀ (k : Nat) (h : k < xs.length) (v : PN), v.1 = (xs[k]).1 → v.2.2.2.2.length = (xs[k]).2.2.2.2.length → ((((xs.flatMap ng).set (k * 4) (.int .i64 v.2.1)).set (k * 4 + 1) (.string v.2.2.1)).set (k * 4 + 2) (.int .i64 v.2.2.2.1)) = (xs.set k v).flatMap ng := by
  induction xs with
  | nil => intro k h; simp at h
  | cons x xs ih =>
    intro k h v h1 h2
    match k, h with
    | 0, _ =>
      simp at h1 h2
      simp [ng, h1, h2]
    | k + 1, h =>
      have := ih k (by simpa using h) v (by simpa using h1) (by simpa using h2)
      rw [List.flatMap_cons, List.set_cons_succ, List.flatMap_cons, ← this]
      rw [List.set_append_right _ _ (by simp [ng]; omega), List.set_append_right _ _ (by simp [ng]; omega), List.set_append_right _ _ (by simp [ng]; omega)]
      have e : ∀ q, (k + 1) * 4 + q - (ng x).length = k * 4 + q := fun q => by rw [ng_len]; omega
      have e0 : (k + 1) * 4 - (ng x).length = k * 4 := e 0
      rw [e0, e 1, e 2]
/-- how many marks the first j nodes take -/
def offN (ps : List PN) (j : Nat) : Nat := ((ps.take j).map (fun p => 3 + p.2.2.2.2.length)).sum
theorem offN_succ (ps : List PN) (j : Nat) (h : j < ps.length) : offN ps (j + 1) = offN ps j + (3 + (ps[j]).2.2.2.2.length) := by
  unfold offN
  rw [List.take_succ_eq_append_getElem h, List.map_append, List.sum_append]
  simp only [List.map_cons, List.map_nil, List.sum_cons, List.sum_nil, Nat.add_zero]
theorem offN_zero (ps : List PN) : offN ps 0 = 0 := by simp [offN]
theorem offN_le (ps : List PN) (j : Nat) : offN ps j ≤ offN ps ps.length := by
  have h : (ps.map (fun p => 3 + p.2.2.2.2.length)).sum = ((ps.take j).map (fun p => 3 + p.2.2.2.2.length)).sum + ((ps.drop j).map (fun p => 3 + p.2.2.2.2.length)).sum := by
    rw [← List.sum_append, ← List.map_append, List.take_append_drop]
  unfold offN
  rw [List.take_length, h]
  omega
def mk1N (k : Nat) (p : PN) : PN := (p.1, ((k : Nat) : Int), markP (k + 1), ((k + 2 : Nat) : Int), cntQ (k + 3) p.2.2.2.2.length)
def mkI (k j : Nat) (ps : List PN) : List PN := ps.mapIdx (fun i p => if i < j then mk1N (k + offN ps i) p else p)
theorem mkI_len (k j : Nat) (ps : List PN) : (mkI k j ps).length = ps.length := by simp [mkI]
theorem mkI_at (k j : Nat) (ps : List PN) (i : Nat) (h : i < (mkI k j ps).length) (h' : i < ps.length) : (mkI k j ps)[i] = if i < j then mk1N (k + offN ps i) ps[i] else ps[i] := by simp [mkI]
theorem mkI_zero (k : Nat) (ps : List PN) : mkI k 0 ps = ps := by
  apply List.ext_getElem
  · simp [mkI]
  · intro i h1 h2
    simp [mkI]
theorem mkI_addr (k j : Nat) (ps : List PN) (i : Nat) (h : i < (mkI k j ps).length) (h' : i < ps.length) : ((mkI k j ps)[i]).1 = (ps[i]).1 := by
  rw [mkI_at k j ps i h h']
  split <;> rfl
theorem mkI_alen (k j : Nat) (ps : List PN) (i : Nat) (h : i < (mkI k j ps).length) (h' : i < ps.length) : ((mkI k j ps)[i]).2.2.2.2.length = (ps[i]).2.2.2.2.length := by
  rw [mkI_at k j ps i h h']
  split
  · simp [mk1N, cnt_lenP]
  · rfl
theorem mkI_step (k j : Nat) (ps : List PN) (h : j < ps.length) : (mkI k j ps).set j (mk1N (k + offN ps j) ps[j]) = mkI k (j + 1) ps := by
  apply List.ext_getElem
  · simp [mkI]
  · intro i h1 h2
    have hi : i < ps.length := by simpa [mkI] using h2
    rw [List.getElem_set, mkI_at k (j + 1) ps i h2 hi]
    by_cases e : j = i
    · subst e
      simp
    · rw [if_neg e, mkI_at k j ps i (by simpa [mkI] using hi) hi]
      by_cases e2 : i < j
      · rw [if_pos e2, if_pos (by omega)]
      · rw [if_neg e2, if_neg (by omega)]
/-- nodes that a call made, their arguments wherever Q says -/
def NdG (Q : World → Option Addr × Nat → List Int → Prop) (w : World) (base : Nat) (A : Option Addr) (c : Nat) (ps : List PN) : Prop :=
  w.ownsRow base 71 4 (.slice A ps.length c) ps.length (ps.flatMap ng) ∧ (∀ i (h : i < ps.length), Q w (ps[i]).1 (ps[i]).2.2.2.2 ∧ Apart (ps[i]).1.1 A) ∧ ∀ i j (hi : i < ps.length) (hj : j < ps.length), i ≠ j → Apart (ps[i]).1.1 (ps[j]).1.1
def SN (A : Option Addr) (ps : List PN) (b : Nat) : Prop := blk A = some b ∨ ∃ p ∈ ps, blk p.1.1 = some b
theorem gb_of_turn {a : Option Addr} {w w' : World} (h : Turn (fun b => blk a = some b) w w') : w.grownBy w' (blk a) := ⟨h.1, h.2.1, h.2.2.1, h.2.2.2.1, fun k hk hn => h.block hk (fun e => hn (by rw [e]))⟩
theorem own_turnN {a : Option Addr} {w w' : World} {base m n : Nat} {e : TypeId} {A : Option Addr} {l c : Nat} {xs : List Value} (h : w.ownsRow base e m (.slice A l c) n xs) (ht : Turn (fun b => blk a = some b) w w') (hn : Apart a A) : w'.ownsRow base e m (.slice A l c) n xs :=
  h.kept (gb_of_turn ht) (by
    rcases hA : A with _ | x
    · exact .inl rfl
    · refine .inr ?_
      intro e
      have e : some x.block = blk a := e
      exact hn x.block e.symm (by rw [hA]; rfl))

structure MarkQ (Q : World → Option Addr × Nat → List Int → Prop) : Prop where
  keep : ∀ (w w' : World) a xs, Q w a xs → w.heap.size ≤ w'.heap.size → (∀ b, blk a.1 = some b → w'.heap[b]? = w.heap[b]?) → Q w' a xs
  inb : ∀ (w : World) a xs, Q w a xs → ∀ b, blk a.1 = some b → b < w.heap.size
  mark : ∀ (w : World) a xs (k : Nat), Q w a xs → k + xs.length ≤ 4611686018427387904 → Calls Tryz.prog 35 #[.slice a.1 xs.length a.2, .int .i64 k] w fun e w' => e = .returned (.int .i64 ((k + xs.length : Nat) : Int)) ∧ Q w' a (cntQ k xs.length) ∧ Turn (fun b => blk a.1 = some b) w w'

set_option maxHeartbeats 4000000 in
theorem markNodeS_any {Q : World → Option Addr × Nat → List Int → Prop} (hQ : MarkQ Q) (A : Option Addr) (c base k : Nat) (ps : List PN) (w : World) (ho : NdG Q w base A c ps) (hk2 : k + offN ps ps.length ≤ 4611686018427387904) (hl : ps.length ≤ 1099511627776) :
    Calls Tryz.prog 19 #[.slice A ps.length c, .int .i64 k] w fun e w' => e = .returned (.int .i64 ((k + offN ps ps.length : Nat) : Int)) ∧ NdG Q w' base A c (mkI k ps.length ps) ∧ Turn (SN A ps) w w' := by
  have HO := Lib.hid ho
  have HQ := Lib.hid hQ
  have HAP := Lib.hid ho.2.2
  clear ho hQ
  go_enter Tryz.func19, Tryz.ntmps19
  go_wp2
  go_loopw [1, 5] (fun m i wr => ∃ j : Nat, j ≤ ps.length ∧ i = .int .i64 j ∧ m = .int .i64 ((k + offN ps j : Nat) : Int) ∧ NdG Q wr base A c (mkI k j ps) ∧ Turn (SN A ps) w wr) (fun _ i _ => ps.length - (intOf i).toNat)
  case atStart => exact ⟨0, Nat.zero_le _, rfl, by rw [offN_zero]; rfl, by rw [mkI_zero]; exact HO.out, Turn.refl _ _⟩
  case round =>
    obtain ⟨j, hj, rfl, rfl, hown, hb⟩ := hrel
    clear HO
    have HO := Lib.hid hown
    have HB := Lib.hid hb
    clear hown hb
    by_cases hlt : j < ps.length
    · have hlj : j < (mkI k j ps).length := by rw [mkI_len]; exact hlt
      have hrow := HO.out.1
      rw [mkI_len] at hrow
      obtain ⟨A0, hA⟩ : ∃ g, A = some ⟨g, 0, none⟩ := by
        rcases hrow.2 with ⟨h, h0⟩ | ⟨g, cap, cur, h, _⟩
        · omega
        · injection h with h; exact ⟨g, h⟩
      subst hA
      have hge := own_block hrow A0 rfl
      have hltA : A0 < wr.heap.size := by
        have h0 := hrow.cellAt 0 (by omega)
        have hcell : ((mkI k j ps).flatMap ng)[0]? = some (.int .i64 (mkI k j ps)[0].2.1) := by
          have := flat_get ng_len (mkI k j ps) 0 0 (by omega) (by omega)
          simpa [ng] using this
        rw [hcell] at h0
        exact World.block_lt_of_cell? wr _ h0
      -- the arguments' place and length
      obtain ⟨q, hq⟩ : ∃ q, q = ps[j] := ⟨_, rfl⟩
      have hqa : ((mkI k j ps)[j]).1 = q.1 := by rw [hq]; exact mkI_addr k j ps j hlj hlt
      have hql : ((mkI k j ps)[j]).2.2.2.2 = q.2.2.2.2 := by rw [hq, mkI_at k j ps j hlj hlt, if_neg (Nat.lt_irrefl j)]
      have hQj := (HO.out.2.1 j hlj).1
      have hAj := (HO.out.2.1 j hlj).2
      rw [hqa, hql] at hQj
      rw [hqa] at hAj
      have hoff := offN_succ ps j hlt
      have hle := offN_le ps (j + 1)
      rw [← hq] at hoff
      obtain ⟨o, ho⟩ : ∃ o, o = k + offN ps j := ⟨_, rfl⟩
      obtain ⟨m, hm⟩ : ∃ m : Int, m = ((k + offN ps j : Nat) : Int) := ⟨_, rfl⟩
      have hob : o + 3 + q.2.2.2.2.length ≤ 4611686018427387904 := by omega
      have hct := fun W : World => markText_any (o + 1) W (by omega) (by omega)
      have e1 : ((o + 1 : Nat) : Int) = m + 1 := by omega
      rw [e1] at hct
      have f0 := hrow.frozenAt (j * 4)
      have hl4 : ((mkI k j ps).flatMap ng).length = ps.length * 4 := by rw [flat_len ng_len, mkI_len]
      have d0 : ∃ v, wr.cell? ⟨A0, j * 4, none⟩ = some v := ⟨_, (hrow.cellAt (j * 4) (by omega)).trans (List.getElem?_eq_getElem (by rw [hl4]; omega))⟩
      obtain ⟨v0, d0⟩ := d0
      have ho1 := (hrow.stored (j * 4) (.int .i64 m)).1
      have hT1 : Turn (fun b => b = A0) wr (wr.setCell ⟨A0, j * 4, none⟩ (.int .i64 m)) := (Turn.refl (fun b => b = A0) wr).setCell rfl _
      rw [← hm]
      have hmb : 0 ≤ m ∧ m + 3 ≤ 4611686018427387904 := by omega
      have HO1 := Lib.hid ho1
      have HT1 := Lib.hid hT1
      have HCT := Lib.hid hct
      have HM := Lib.hid hm
      have HOO := Lib.hid ho
      have HQJ := Lib.hid hQj
      have HAJ := Lib.hid hAj
      have HL4 := Lib.hid hl4
      have HQQ := Lib.hid hq
      have HQA := Lib.hid hqa
      have HQL := Lib.hid hql
      have HOB := Lib.hid hob
      have HOF := Lib.hid hoff
      have HLE := Lib.hid hle
      have HGE := Lib.hid hge
      have HLA := Lib.hid hltA
      have hlt' : (j : Int) < (ps.length : Int) := by omega
      have hge' : (0 : Int) ≤ (j : Int) := by omega
      clear ho1 hT1 hct hm ho hQj hAj hl4 hq hqa hql hob hoff hle hge hltA hrow e1
      go_wp2_with fail
      refine (HCT.out _).mono ?_
      rintro e w2 ⟨rfl, hb2⟩
      obtain ⟨mk, hmk⟩ : ∃ mk, mk = markP (o + 1) := ⟨_, rfl⟩
      have ho2 := own_keep' HO1.out hb2
      have hT2 := HT1.out.trans (Turn.of_later (S := fun b => b = A0) hb2)
      clear HO1 HT1 hb2 d0 f0
      obtain ⟨d1, d2⟩ : (∃ v, w2.cell? ⟨A0, j * 4 + 1, none⟩ = some v) ∧ (∃ v, w2.cell? ⟨A0, j * 4 + 2, none⟩ = some v) := by
        have g : ∀ i, i < ps.length * 4 → ∃ v, w2.cell? ⟨A0, i, none⟩ = some v := fun i hi => ⟨_, (ho2.cellAt i hi).trans (List.getElem?_eq_getElem (by have := HL4.out; simp [this]; omega))⟩
        exact ⟨g _ (by omega), g _ (by omega)⟩
      obtain ⟨v1, d1⟩ := d1
      obtain ⟨v2, d2⟩ := d2
      have d3 : w2.cell? ⟨A0, j * 4 + 3, none⟩ = some (.slice q.1.1 q.2.2.2.2.length q.1.2) := by
        refine (ho2.cellAt (j * 4 + 3) (by omega)).trans ?_
        rw [List.getElem?_set_ne (by omega), flat_get ng_len (mkI k j ps) j 3 (by rw [mkI_len]; exact hlt) (by omega)]
        show some (Value.slice ((mkI k j ps)[j]).1.1 ((mkI k j ps)[j]).2.2.2.2.length ((mkI k j ps)[j]).1.2) = _
        rw [HQA.out, HQL.out]
      have f1 := ho2.frozenAt (j * 4 + 1)
      have f2 := ho2.frozenAt (j * 4 + 2)
      have e2 : ((o + 2 : Nat) : Int) = m + 1 + 1 := by have := HM.out; have := HOO.out; omega
      have e0 : ((o : Nat) : Int) = m := by have := HM.out; have := HOO.out; omega
      have e3 : ((o + 3 : Nat) : Int) = m + 1 + 1 + 1 := by have := HM.out; have := HOO.out; omega
      have hs := ((ho2.stored (j * 4 + 1) (.string (markP (o + 1)))).1.stored (j * 4 + 2) (.int .i64 ((o + 2 : Nat) : Int))).1
      have hv := ng_set (mkI k j ps) j (by rw [mkI_len]; exact hlt) (mk1N o ps[j]) (by rw [HQA.out, HQQ.out]; rfl) (by rw [HQL.out, HQQ.out]; simp [mk1N, cnt_lenP])
      dsimp only [mk1N] at hv
      rw [e0] at hv
      have hst := mkI_step k j ps hlt
      rw [← HOO.out] at hst
      dsimp only [mk1N] at hst
      rw [e0] at hst
      rw [hv, hst] at hs
      have hT3 := (hT2.setCell (g := A0) (i := j * 4 + 1) rfl (.string (markP (o + 1)))).setCell (g := A0) (i := j * 4 + 2) rfl (.int .i64 ((o + 2 : Nat) : Int))
      rw [← hmk, e2] at hs hT3
      rw [← hmk]
      have HS := Lib.hid hs
      have HT3 := Lib.hid hT3
      have HE3 := Lib.hid e3
      clear hs hT3 hv hst e0 e2 e3 ho2 hT2 hmk HCT HL4
      go_wp2_with fail
      obtain ⟨W3, hW3⟩ : ∃ W, W = (w2.setCell ⟨A0, j * 4 + 1, none⟩ (.string mk)).setCell ⟨A0, j * 4 + 2, none⟩ (.int .i64 (m + 1 + 1)) := ⟨_, rfl⟩
      rw [← hW3] at HS HT3 ⊢
      clear hW3 d1 d2 d3 f1 f2
      have hkeep : ∀ i (h : i < ps.length), Q W3 (ps[i]).1 ((mkI k j ps)[i]'(by rw [mkI_len]; exact h)).2.2.2.2 := fun i h => by
        have h' : i < (mkI k j ps).length := by rw [mkI_len]; exact h
        have hq := HO.out.2.1 i h'
        rw [mkI_addr k j ps i h' h] at hq
        exact HQ.out.keep _ _ _ _ hq.1 HT3.out.size (fun b hbk => HT3.out.block (HQ.out.inb _ _ _ hq.1 b hbk) (fun e => hq.2 b hbk (by rw [e]; rfl)))
      have hqj := hkeep j hlt
      rw [HQL.out, ← HQQ.out] at hqj
      have hmk3 := HQ.out.mark W3 q.1 q.2.2.2.2 (o + 3) hqj (by have := HOB.out; omega)
      rw [HE3.out] at hmk3
      have HKP := Lib.hid hkeep
      clear hkeep hqj
      refine hmk3.mono ?_
      clear hmk3
      rintro e w4 ⟨rfl, hq4, ht4⟩
      have hrow4 := own_turnN HS.out ht4 HAJ.out
      have hfin : NdG Q w4 base (some ⟨A0, 0, none⟩) c (mkI k (j + 1) ps) := by
        refine ⟨by rw [mkI_len]; exact hrow4, fun i h' => ?_, fun i i' hi hi' hne => ?_⟩
        · have h : i < ps.length := by rw [mkI_len] at h'; exact h'
          rw [mkI_addr k (j + 1) ps i h' h]
          have hap := (HO.out.2.1 i (by rw [mkI_len]; exact h)).2
          rw [mkI_addr k j ps i (by rw [mkI_len]; exact h) h] at hap
          refine ⟨?_, hap⟩
          by_cases e : i = j
          · subst e
            rw [mkI_at k (i + 1) ps i h' h, if_pos (by omega), ← HOO.out, ← HQQ.out]
            exact hq4
          · have e2 : ((mkI k (j + 1) ps)[i]) = ((mkI k j ps)[i]'(by rw [mkI_len]; exact h)) := by
              rw [mkI_at k (j + 1) ps i h' h, mkI_at k j ps i _ h]
              by_cases e3 : i < j
              · rw [if_pos e3, if_pos (by omega)]
              · rw [if_neg e3, if_neg (by omega)]
            rw [e2]
            have hk := HKP.out i h
            refine HQ.out.keep _ _ _ _ hk ht4.size (fun b hbk => ht4.block (HQ.out.inb _ _ _ hk b hbk) (fun e' => ?_))
            have := HAP.out i j h hlt e b hbk
            rw [← HQQ.out] at this
            exact this e'
        · have h : i < ps.length := by rw [mkI_len] at hi; exact hi
          have h2 : i' < ps.length := by rw [mkI_len] at hi'; exact hi'
          rw [mkI_addr k (j + 1) ps i hi h, mkI_addr k (j + 1) ps i' hi' h2]
          exact HAP.out i i' h h2 hne
      have hturn : Turn (SN (some ⟨A0, 0, none⟩) ps) w w4 := (HB.out.trans (HT3.out.mono (fun b e => .inl (by rw [e]; rfl)))).trans (ht4.mono (fun b e => .inr ⟨ps[j], List.getElem_mem hlt, by rw [← HQQ.out]; exact e⟩))
      have HF := Lib.hid hfin
      have HTU := Lib.hid hturn
      have e5 : (m + 1 + 1 + 1 + (q.2.2.2.2.length : Nat) : Int) = ((k + offN ps (j + 1) : Nat) : Int) := by have := HM.out; have := HOF.out; omega
      have e6 : (((o + 3 + q.2.2.2.2.length : Nat) : Nat) : Int) = ((k + offN ps (j + 1) : Nat) : Int) := by have := HOO.out; have := HOF.out; omega
      rw [e6]
      clear hfin hturn hrow4 hq4 ht4 HKP HS HT3 HB HO e5 e6
      go_wp2_with fail
      go_roundw
      case rel => exact ⟨j + 1, by omega, by go_num, rfl, HF.out, HTU.out⟩
      case measure => simp [intOf]; omega
    · have e : j = ps.length := by omega
      have HO2 : Hid (NdG Q wr base A c (mkI k ps.length ps)) := by have := HO.out; rw [e] at this; exact Lib.hid this
      have HE := Lib.hid e
      clear e HO
      go_wp2_with fail
      go_ret
      exact ⟨retIP (by have := HE.out; subst this; rfl), HO2.out, HB.out⟩
end Go.Proofs.YtkbdnjhgcoihhaaGreatDoor
