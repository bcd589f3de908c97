/- The laws' own helpers on programs: toProgram, eqProgram, szProgram. -/
import Derived.Test.YtkbdnjhgcoihhaaGreatDoorProg
import Derived.Test.YtkbdnjhgcoihhaaGreatDoorInts
import Derived.Test.YtkbdnjhgcoihhaaGreatDoorVbox
import Derived.Test.YtkbdnjhgcoihhaaGreatDoorHeld
import Derived.Test.YtkbdnjhgcoihhaaGreatDoorMem
import Derived.Test.YtkbdnjhgcoihhaaGreatDoorFlat
import Derived.Test.YtkbdnjhgcoihhaaGreatDoorRowC
import Derived.Test.YtkbdnjhgcoihhaaGreatDoorKS
import Derived.Test.YtkbdnjhgcoihhaaGreatDoorStrS
import Derived.Test.YtkbdnjhgcoihhaaGreatDoorIntS
import Derived.Test.YtkbdnjhgcoihhaaGreatDoorSS
import Derived.Test.YtkbdnjhgcoihhaaGreatDoorPg
import Derived.WalkKit
import Derived.WalkSpells
import Derived.WalkLawsBesides
import Derived.Lib.Hide
import Derived.Deep.RegionHeld3
import Derived.Deep.QuietTactic
import Derived.BigQuiet
import Derived.Handy
import Derived.Deep.DeepCutAuto
namespace Go.Proofs.YtkbdnjhgcoihhaaGreatDoor
open Go.RowKit

/-- a node whose arguments lie in a block of their own: its cells -/
def nh (p : Nat × Nd) : List Value := [.int .i64 p.2.1, .string p.2.2.1, .int .i64 p.2.2.2.1, .slice (some ⟨p.1, 0, none⟩) p.2.2.2.2.length p.2.2.2.2.length]
theorem nh_len (p : Nat × Nd) : (nh p).length = 4 := rfl
def argL (p : Nat × Nd) : Nat × List Int := (p.1, p.2.2.2.2)
/-- nodes that a call made: their row in block g, the arguments in blocks of their own behind it -/
def NdGrid (w : World) (lo g : Nat) (ps : List (Nat × Nd)) : Prop :=
  lo ≤ g ∧ w.ownsRow lo 71 4 (.slice (some ⟨g, 0, none⟩) ps.length ps.length) ps.length (ps.flatMap nh) ∧ Lots w (ps.map argL) ∧ ∀ p ∈ ps, g < p.1
theorem NdGrid.row {w : World} {lo g : Nat} {ps : List (Nat × Nd)} (h : NdGrid w lo g ps) (hm : ∀ p ∈ ps, p.2.2.2.2.length ≤ maxLen) : NdRow w w.heap.size (some ⟨g, 0, none⟩) (ps.map Prod.snd) := fun h0 => by
  have hR := RowC.of_own nh_len h.2.1 rfl
  obtain ⟨b, o, e, hb, hc⟩ := hR (by simpa using h0)
  refine ⟨b, o, e, hb, fun k hk => ?_⟩
  have hk' : k < ps.length := by simpa using hk
  have c := hc k hk'
  have e2 : (ps.map Prod.snd)[k] = (ps[k]).2 := by simp
  rw [e2]
  refine ⟨some ⟨(ps[k]).1, 0, none⟩, (ps[k]).2.2.2.2.length, c 0 _ rfl, c 1 _ rfl, c 2 _ rfl, c 3 _ rfl, Nat.le_refl _, hm _ (List.getElem_mem hk'), ?_⟩
  exact h.2.2.1.row (p := argL ps[k]) (List.mem_map.2 ⟨_, List.getElem_mem hk', rfl⟩)
theorem infoNode : (Tryz.prog.info? 71).map (fun i => (i.zero, i.size, i.bytes)) = some (some (.agg #[.int .i64 0, .string ⟨#[]⟩, .int .i64 0, .slice none 0 0]), 4, 56) := by kernel_rfl
theorem infoAsg : (Tryz.prog.info? 43).map (fun i => (i.zero, i.size, i.bytes)) = some (some (.agg #[.string ⟨#[]⟩, .int .i64 0]), 2, 24) := by kernel_rfl
/-- the letters of names, and arguments -/
def szN : List Nd → Nat
  | [] => 0
  | x :: xs => x.2.1.size + x.2.2.2.length + szN xs
theorem szN_take (xs : List Nd) : ∀ (k : Nat) (h : k < xs.length), szN (xs.take (k + 1)) = szN (xs.take k) + ((xs[k]).2.1.size + (xs[k]).2.2.2.length) := by
  induction xs with
  | nil => intro k h; simp at h
  | cons x xs ih =>
    intro k h
    match k, h with
    | 0, _ => simp [szN]
    | k + 1, h =>
      have := ih k (by simpa using h)
      simp only [List.take_succ_cons, szN, List.getElem_cons_succ, this]
      omega
theorem szN_le (xs : List Nd) (k : Nat) : szN (xs.take k) ≤ szN xs := by
  induction xs generalizing k with
  | nil => simp [szN]
  | cons x xs ih =>
    match k with
    | 0 => simp [szN]
    | k + 1 =>
      have := ih k
      simp only [List.take_succ_cons, szN]
      omega
theorem szN_mem {xs : List Nd} {x : Nd} (h : x ∈ xs) : x.2.1.size + x.2.2.2.length ≤ szN xs := by
  induction xs with
  | nil => cases h
  | cons y ys ih =>
    rcases List.mem_cons.1 h with rfl | h
    · exact Nat.le_add_right _ _
    · exact Nat.le_trans (ih h) (Nat.le_add_left _ _)
def szA : List As → Nat
  | [] => 0
  | x :: xs => x.1.size + szA xs
theorem szA_take (xs : List As) : ∀ (k : Nat) (h : k < xs.length), szA (xs.take (k + 1)) = szA (xs.take k) + (xs[k]).1.size := by
  induction xs with
  | nil => intro k h; simp at h
  | cons x xs ih =>
    intro k h
    match k, h with
    | 0, _ => simp [szA]
    | k + 1, h =>
      have := ih k (by simpa using h)
      simp only [List.take_succ_cons, szA, List.getElem_cons_succ, this]
      omega
theorem szA_le (xs : List As) (k : Nat) : szA (xs.take k) ≤ szA xs := by
  induction xs generalizing k with
  | nil => simp [szA]
  | cons x xs ih =>
    match k with
    | 0 => simp [szA]
    | k + 1 =>
      have := ih k
      simp only [List.take_succ_cons, szA]
      omega
theorem szA_mem {xs : List As} {x : As} (h : x ∈ xs) : x.1.size ≤ szA xs := by
  induction xs with
  | nil => cases h
  | cons y ys ih =>
    rcases List.mem_cons.1 h with rfl | h
    · exact Nat.le_add_right _ _
    · exact Nat.le_trans (ih h) (Nat.le_add_left _ _)
/-- what a size's count answers: what is left, or -1; not more than was there -/
def SzOutP (L n : Nat) (w : World) (e : Ending) (w' : World) : Prop := Below w.heap.size w w' ∧ ((n ≤ L ∧ e = .returned (.int .i64 (L - n : Nat))) ∨ (L < n ∧ e = .returned (.int .i64 (-1))))







theorem row_up {α : Type} {f : α → Value} {w W : World} {A : Option Addr} {xs : List α} (h : Row f w w.heap.size A xs) (hb : Below w.heap.size w W) : Row f W W.heap.size A xs := (h.below hb).more hb.size

set_option maxHeartbeats 2000000 in
theorem eqNode_same (v0 v2 : Int) (s : ByteArray) (A A' : Option Addr) (c c' : Nat) (xs : List Int) (w : World) (hR : Row I64 w w.heap.size A xs) (hR' : Row I64 w w.heap.size A' xs) (hl : xs.length ≤ 1152921504606846976) :
    Calls Tryz.prog 32 #[.agg #[.int .i64 v0, .string s, .int .i64 v2, .slice A xs.length c], .agg #[.int .i64 v0, .string s, .int .i64 v2, .slice A' xs.length c']] w fun e w' => e = .returned (.bool true) ∧ Below w.heap.size w w' := by
  have HR := Lib.hid (fun W (h : Below w.heap.size w W) => row_up hR h)
  have HR' := Lib.hid (fun W (h : Below w.heap.size w W) => row_up hR' h)
  clear hR hR'
  go_enter Tryz.func32, Tryz.ntmps32
  go_wp2_with fail
  refine (eqIntS_same _ _ _ _ xs _ (HR.out _ (by go_grown)) (HR'.out _ (by go_grown)) hl).mono ?_
  rintro e w1 ⟨rfl, hb1⟩
  have HB := Lib.hid hb1
  clear hb1
  go_wp2_with fail
  go_ret
  exact ⟨rfl, (((Below.refl w.heap.size w).alloc (Nat.le_refl _) _).alloc (by simp) _).trans (HB.out.mono (by simp; omega))⟩

set_option maxHeartbeats 4000000 in
theorem eqNodeS_same (A A' : Option Addr) (c c' : Nat) (xs : List Nd) (w : World) (hR : NdRow w w.heap.size A xs) (hR' : NdRow w w.heap.size A' xs) (hl : xs.length ≤ 1099511627776) (hm : ∀ x ∈ xs, x.2.2.2.length ≤ 1099511627776) :
    Calls Tryz.prog 17 #[.slice A xs.length c, .slice A' xs.length c'] w fun e w' => e = .returned (.bool true) ∧ Below w.heap.size w w' := by
  go_enter Tryz.func17, Tryz.ntmps17
  go_wp2
  go_loopw [5] (fun i wr => ∃ k : Nat, k ≤ xs.length ∧ i = .int .i64 k ∧ Below w.heap.size w wr) (fun i _ => xs.length - (intOf i).toNat)
  case atStart => exact ⟨0, Nat.zero_le _, rfl, Below.refl _ _⟩
  case round =>
    obtain ⟨k, hk, rfl, HB⟩ := hrel
    by_cases hlt : k < xs.length
    · obtain ⟨b, o, rfl, hbl, a, ca, c0, c1, c2, c3, _, _, c6⟩ := hR.at hlt
      obtain ⟨b', o', rfl, hbl', a', ca', d0, d1, d2, d3, _, _, d6⟩ := hR'.at hlt
      have hvl := hm xs[k] (List.getElem_mem _)
      obtain ⟨v, hv⟩ : ∃ v, v = xs[k] := ⟨_, rfl⟩
      rw [← hv] at c0 c1 c2 c3 c6 d0 d1 d2 d3 d6 hvl
      have HC : ∀ W, Below w.heap.size w W → ((W.cell? ⟨b, o + k * 4, none⟩ = some (.int .i64 v.1) ∧ W.cell? ⟨b, o + k * 4 + 1, none⟩ = some (.string v.2.1) ∧ W.cell? ⟨b, o + k * 4 + 2, none⟩ = some (.int .i64 v.2.2.1) ∧ W.cell? ⟨b, o + k * 4 + 3, none⟩ = some (.slice a v.2.2.2.length ca)) ∧ W.cell? ⟨b', o' + k * 4, none⟩ = some (.int .i64 v.1) ∧ W.cell? ⟨b', o' + k * 4 + 1, none⟩ = some (.string v.2.1) ∧ W.cell? ⟨b', o' + k * 4 + 2, none⟩ = some (.int .i64 v.2.2.1) ∧ W.cell? ⟨b', o' + k * 4 + 3, none⟩ = some (.slice a' v.2.2.2.length ca')) := fun W h =>
        ⟨⟨(h.cell (p := ⟨b, o + k * 4, none⟩) hbl).trans c0, (h.cell (p := ⟨b, o + k * 4 + 1, none⟩) hbl).trans c1, (h.cell (p := ⟨b, o + k * 4 + 2, none⟩) hbl).trans c2, (h.cell (p := ⟨b, o + k * 4 + 3, none⟩) hbl).trans c3⟩, (h.cell (p := ⟨b', o' + k * 4, none⟩) hbl').trans d0, (h.cell (p := ⟨b', o' + k * 4 + 1, none⟩) hbl').trans d1, (h.cell (p := ⟨b', o' + k * 4 + 2, none⟩) hbl').trans d2, (h.cell (p := ⟨b', o' + k * 4 + 3, none⟩) hbl').trans d3⟩
      have HE := Lib.hid (fun (W : World) (h : Below w.heap.size w W) => eqNode_same v.1 v.2.2.1 v.2.1 a a' ca ca' v.2.2.2 W (row_up c6 h) (row_up d6 h) (by omega))
      have hlt' : (k : Int) < (xs.length : Int) := by omega
      have hge' : (0 : Int) ≤ (k : Int) := by omega
      clear hv hR hR' hm hvl c0 c1 c2 c3 c6 d0 d1 d2 d3 d6 hbl hbl'
      go_wp2_with fail
      go_region_held3 (fun w' => (w'.cell? ⟨b, o + k * 4, none⟩ = some (.int .i64 v.1) ∧ w'.cell? ⟨b, o + k * 4 + 1, none⟩ = some (.string v.2.1) ∧ w'.cell? ⟨b, o + k * 4 + 2, none⟩ = some (.int .i64 v.2.2.1) ∧ w'.cell? ⟨b, o + k * 4 + 3, none⟩ = some (.slice a v.2.2.2.length ca)) ∧ w'.cell? ⟨b', o' + k * 4, none⟩ = some (.int .i64 v.1) ∧ w'.cell? ⟨b', o' + k * 4 + 1, none⟩ = some (.string v.2.1) ∧ w'.cell? ⟨b', o' + k * 4 + 2, none⟩ = some (.int .i64 v.2.2.1) ∧ w'.cell? ⟨b', o' + k * 4 + 3, none⟩ = some (.slice a' v.2.2.2.length ca'))
        (first | (with_reducible exact HC _ HB) | (with_reducible exact HC _ HB.drew))
        (first | (go_at_call 32; refine (HE.out _ (by first | with_reducible exact HB | with_reducible exact HB.drew)).mono ?_; rintro e w1 ⟨rfl, hb1⟩; (first | (have HB := bcall HB hb1 HB.size) | (have HB := bcall HB.drew hb1 HB.size))))
      clear HC
      go_wp2
      go_roundw
      case rel => exact ⟨k + 1, by omega, by go_num, HB⟩
      case measure => simp [intOf]; omega
    · clear hR hR' hm
      go_wp2
      go_ret
      exact ⟨rfl, HB⟩

theorem eqAsg_same (v1 : Int) (s : ByteArray) (w : World) :
    Calls Tryz.prog 33 #[.agg #[.string s, .int .i64 v1], .agg #[.string s, .int .i64 v1]] w fun e w' => e = .returned (.bool true) ∧ Below w.heap.size w w' := by
  go_enter Tryz.func33, Tryz.ntmps33
  go_wp2_with fail
  go_ret
  exact ⟨rfl, by go_grown⟩

set_option maxHeartbeats 4000000 in
theorem eqAsgS_same (A A' : Option Addr) (c c' : Nat) (xs : List As) (w : World) (hR : RowC 2 asg w w.heap.size A xs) (hR' : RowC 2 asg w w.heap.size A' xs) (hl : xs.length ≤ 1099511627776) :
    Calls Tryz.prog 18 #[.slice A xs.length c, .slice A' xs.length c'] w fun e w' => e = .returned (.bool true) ∧ Below w.heap.size w w' := by
  go_enter Tryz.func18, Tryz.ntmps18
  go_wp2
  go_loopw [5] (fun i wr => ∃ k : Nat, k ≤ xs.length ∧ i = .int .i64 k ∧ Below w.heap.size w wr) (fun i _ => xs.length - (intOf i).toNat)
  case atStart => exact ⟨0, Nat.zero_le _, rfl, Below.refl _ _⟩
  case round =>
    obtain ⟨k, hk, rfl, HB⟩ := hrel
    by_cases hlt : k < xs.length
    · obtain ⟨b, o, rfl, hbl, hc⟩ := hR.at hlt
      obtain ⟨b', o', rfl, hbl', hc'⟩ := hR'.at hlt
      obtain ⟨c0, c1⟩ := asg_at hc
      obtain ⟨d0, d1⟩ := asg_at hc'
      obtain ⟨v, hv⟩ : ∃ v, v = xs[k] := ⟨_, rfl⟩
      rw [← hv] at c0 c1 d0 d1
      have HC : ∀ W, Below w.heap.size w W → ((W.cell? ⟨b, o + k * 2, none⟩ = some (.string v.1) ∧ W.cell? ⟨b, o + k * 2 + 1, none⟩ = some (.int .i64 v.2)) ∧ W.cell? ⟨b', o' + k * 2, none⟩ = some (.string v.1) ∧ W.cell? ⟨b', o' + k * 2 + 1, none⟩ = some (.int .i64 v.2)) := fun W h =>
        ⟨⟨(h.cell (p := ⟨b, o + k * 2, none⟩) hbl).trans c0, (h.cell (p := ⟨b, o + k * 2 + 1, none⟩) hbl).trans c1⟩, (h.cell (p := ⟨b', o' + k * 2, none⟩) hbl').trans d0, (h.cell (p := ⟨b', o' + k * 2 + 1, none⟩) hbl').trans d1⟩
      have hlt' : (k : Int) < (xs.length : Int) := by omega
      have hge' : (0 : Int) ≤ (k : Int) := by omega
      clear hv hR hR' hc hc' c0 c1 d0 d1 hbl hbl'
      go_wp2_with fail
      go_region_held3 (fun w' => (w'.cell? ⟨b, o + k * 2, none⟩ = some (.string v.1) ∧ w'.cell? ⟨b, o + k * 2 + 1, none⟩ = some (.int .i64 v.2)) ∧ w'.cell? ⟨b', o' + k * 2, none⟩ = some (.string v.1) ∧ w'.cell? ⟨b', o' + k * 2 + 1, none⟩ = some (.int .i64 v.2))
        (first | (with_reducible exact HC _ HB) | (with_reducible exact HC _ HB.drew))
        (first | (go_at_call 33; refine (eqAsg_same _ _ _).mono ?_; rintro e w1 ⟨rfl, hb1⟩; (first | (have HB := bcall HB hb1 HB.size) | (have HB := bcall HB.drew hb1 HB.size))))
      clear HC
      go_wp2
      go_roundw
      case rel => exact ⟨k + 1, by omega, by go_num, HB⟩
      case measure => simp [intOf]; omega
    · clear hR hR'
      go_wp2
      go_ret
      exact ⟨rfl, HB⟩

set_option maxHeartbeats 4000000 in
theorem eqProg_same (A A' B B' : Option Addr) (c c' d d' : Nat) (xs : List Nd) (ys : List As) (w : World) (hR : ProgIn w w.heap.size A A' xs ys) (hR' : ProgIn w w.heap.size B B' xs ys) (hl : xs.length ≤ 1099511627776) (hl' : ys.length ≤ 1099511627776) (hm : ∀ x ∈ xs, x.2.2.2.length ≤ 1099511627776) :
    Calls Tryz.prog 6 #[pgv A A' xs.length c ys.length c', pgv B B' xs.length d ys.length d'] w fun e w' => e = .returned (.bool true) ∧ Below w.heap.size w w' := by
  have H1 := Lib.hid (fun (W : World) (h : Below w.heap.size w W) => eqNodeS_same A B c d xs W ((hR.1.below h).more h.size) ((hR'.1.below h).more h.size) hl hm)
  have H2 := Lib.hid (fun (W : World) (h : Below w.heap.size w W) => eqAsgS_same A' B' c' d' ys W ((hR.2.below h).more h.size) ((hR'.2.below h).more h.size) hl')
  have HT : Held w ((w.alloc (.cells #[.slice A xs.length c, .slice A' ys.length c'] 25)).alloc (.cells #[.slice B xs.length d, .slice B' ys.length d'] 25)) [(w.heap.size + 1, [.slice B xs.length d, .slice B' ys.length d']), (w.heap.size, [.slice A xs.length c, .slice A' ys.length c'])] := by
    have h := ((Held.nil w).new #[.slice A xs.length c, .slice A' ys.length c'] 25).new #[.slice B xs.length d, .slice B' ys.length d'] 25
    simpa only [World.size_alloc] using h
  clear hR hR' hm
  go_enter Tryz.func6, Tryz.ntmps6
  go_wp2_with fail
  refine (H1.out _ HT.below).mono ?_
  rintro e w1 ⟨rfl, hb1⟩
  have HT := HT.later hb1
  clear hb1
  have c0 := (HT.box 1).c 1
  have c1 := (HT.box 0).c 1
  go_wp2_with fail
  refine (H2.out _ HT.below).mono ?_
  rintro e w2 ⟨rfl, hb2⟩
  have HT := HT.later hb2
  clear hb2 c0 c1
  go_wp2_with fail
  go_ret
  exact ⟨rfl, HT.below⟩
end Go.Proofs.YtkbdnjhgcoihhaaGreatDoor
