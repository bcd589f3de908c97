/- Slices of sub-patches: equality, marks, an append of one, as the law on SplitSubPatch has them. -/
import Derived.Test.YtjflkapdnnecjaaProg
import Derived.Test.YtjflkapdnnecjaaInts
import Derived.Test.YtjflkapdnnecjaaVbox
import Derived.Test.YtjflkapdnnecjaaVec
import Derived.Test.YtjflkapdnnecjaaHeld
import Derived.Test.YtjflkapdnnecjaaMem
import Derived.Test.YtjflkapdnnecjaaFlat
import Derived.Test.YtjflkapdnnecjaaRowC
import Derived.Test.YtjflkapdnnecjaaArr
import Derived.Test.YtjflkapdnnecjaaTr
import Derived.Test.YtjflkapdnnecjaaSub
import Derived.WalkKit
import Derived.WalkSpells
import Derived.WalkLawsBesides
import Derived.Lib.Hide
import Derived.Deep.RegionHeld3
import Derived.Deep.QuietTactic
import Derived.BigQuiet
import Derived.Handy
import Derived.Deep.DeepCutAuto
import Derived.Laws.RangeAny
namespace Go.Proofs.Ytjflkapdnnecjaa
open Go.RowKit

theorem infoSub : (Try.prog.info? 33).map (fun i => (i.zero, i.size, i.bytes)) = some (some (vec 0 0 0), 3, 24) := by kernel_rfl
theorem wpList_app3 {P : Program} {ops : Array Oper} {rest : List Oper} {o : Oper} {a : Act} {Q : Exit → Act → World → Prop} (w0 : World) (hgd : o.guard = none) (s x : Operand) (t : TypeId)
    (ho : o.op = .call { callee := .builtin .append, args := #[s, x], argTypes := #[t, t] }) (base : Nat) (e : TypeId) (z : Value) (bytes : Nat)
    (ht : P.underlying t = some (.slice e)) (hinfo : (P.info? e).map (fun i => (i.zero, i.size, i.bytes)) = some (some z, 3, bytes)) (hzs : z.cells.size = 3)
    (v : Value) (n : Nat) (xs : List Value) (hs : a.eval s = v) (hown : w0.ownsRow base e 3 v n xs) (u0 u1 u2 : Value) (hx : a.eval x = .slice (some ⟨w0.heap.size, 0, none⟩) 1 1) (hu : u0.oneCell' = true ∧ u1.oneCell' = true ∧ u2.oneCell' = true)
    (h63 : n + 1 ≤ maxLen) (hbytes : (n + 1) * bytes ≤ 140737488355328) (hbase : base ≤ w0.heap.size)
    (h : ∀ v' w', w'.ownsRow base e 3 v' (n + 1) (xs ++ [u0, u1, u2]) → w0.grownBy w' v.ownBlock → wpList P ops Q rest (a.put o.dst v') w') : wpList P ops Q (o :: rest) a (w0.alloc (.cells #[u0, u1, u2] e)) := by
  obtain ⟨i0, hi, hz0, hz1, hz2⟩ := info_parts hinfo
  refine wpList_append_own _ hgd s x t ho base e i0 z 3 bytes ht hi hz0 hz1 hz2 hzs (by omega) v n xs hs (hown.alloc _) ⟨w0.heap.size, 0, none⟩ 1 1 [u0, u1, u2] hx rfl ?_ ?_ h63 hbytes (by simp; omega) ?_
  · intro j y hj
    have M := Mbox.new w0 #[u0, u1, u2] e
    have := M.c j hj
    rw [Addr.add_mid, Nat.zero_add]
    exact this
  · intro y hy
    simp at hy
    rcases hy with rfl | rfl | rfl
    · exact hu.1
    · exact hu.2.1
    · exact hu.2.2
  · intro v' w' h1 h2 _
    exact h v' w' h1 ⟨h2.os, h2.tape, h2.output, Nat.le_trans (by simp) h2.size, fun k hk hr => (h2.block k (by simp; omega) hr).trans (Below.heap_alloc w0 _ k hk)⟩
theorem own_sub {w : World} {base : Nat} {e : TypeId} {g n cap : Nat} {xs : List V3} (h : w.ownsRow base e 3 (.slice (some ⟨g, 0, none⟩) n cap) n (xs.flatMap vg)) (hn : xs.length = n) {k : Nat} (hk : k < n) :
    ∃ x y z : Int, w.cell? ⟨g, k * 3, none⟩ = some (.int .i64 x) ∧ w.cell? ⟨g, k * 3 + 1, none⟩ = some (.int .i64 y) ∧ w.cell? ⟨g, k * 3 + 2, none⟩ = some (.int .i64 z) := by
  have hk' : k < xs.length := by omega
  have h0 := h.cellAt (k * 3) (by omega)
  have h1 := h.cellAt (k * 3 + 1) (by omega)
  have h2 := h.cellAt (k * 3 + 2) (by omega)
  rw [← Nat.add_zero (k * 3), flat_get vg_len xs k 0 hk' (by omega)] at h0
  rw [flat_get vg_len xs k 1 hk' (by omega)] at h1
  rw [flat_get vg_len xs k 2 hk' (by omega)] at h2
  exact ⟨_, _, _, h0, h1, h2⟩
/-- the quarters -/
def quar (u v n : Int) : List V3 := [(2 * u, 2 * v, 2 * n), (2 * u + 1, 2 * v, 2 * n), (2 * u, 2 * v + 1, 2 * n), (2 * u + 1, 2 * v + 1, 2 * n)]
def splS (u v n : Int) : List V3 := if okS u v n = true ∧ n ≠ 64 then quar u v n else []
theorem splS_len (u v n : Int) : (splS u v n).length ≤ 4 := by unfold splS; split <;> simp [quar]
theorem quar_step (u v n : Int) (j k : Nat) (hj : j < 2) (hk : k < 2) : (quar u v n).take (2 * k + j + 1) = (quar u v n).take (2 * k + j) ++ [(2 * u + (j : Int), 2 * v + (k : Int), 2 * n)] := by
  have hj' : j = 0 ∨ j = 1 := by omega
  have hk' : k = 0 ∨ k = 1 := by omega
  rcases hj' with rfl | rfl <;> rcases hk' with rfl | rfl <;> simp [quar]
def SubsOut (xs : List V3) (w : World) (e : Ending) (w' : World) : Prop :=
  ∃ (A : Option Addr) (c : Nat), e = .returned (.slice A xs.length c) ∧ w'.ownsRow w.heap.size 33 3 (.slice A xs.length c) xs.length (xs.flatMap vg) ∧ Below w.heap.size w w'
theorem Held.laterS {w W W' : World} {bs : List (Nat × List Value)} {B : Nat} (h : Held w W bs) (hb : Below B W W') (hB : w.heap.size ≤ B) (hk : ∀ p ∈ bs, p.1 < B) : Held w W' bs :=
  ⟨h.1.trans (hb.mono hB), fun i k vs e => (h.2 i k vs e).keep fun _ => hb.block k (hk (k, vs) (List.mem_of_getElem? e))⟩
/-- the marks -/
def markV (k n : Nat) : List V3 := (List.range n).map fun i => (((k + 3 * i : Nat) : Int), ((k + 3 * i + 1 : Nat) : Int), ((k + 3 * i + 2 : Nat) : Int))
theorem markV_len (k n : Nat) : (markV k n).length = n := by simp [markV]
theorem markV_at (k n i : Nat) (h : i < (markV k n).length) : (markV k n)[i] = (((k + 3 * i : Nat) : Int), ((k + 3 * i + 1 : Nat) : Int), ((k + 3 * i + 2 : Nat) : Int)) := by simp [markV]
def markIn (k i : Nat) (xs : List V3) : List V3 := markV k i ++ xs.drop i
theorem markIn_zero (k : Nat) (xs : List V3) : markIn k 0 xs = xs := by simp [markIn, markV]
theorem markIn_all (k : Nat) (xs : List V3) : markIn k xs.length xs = markV k xs.length := by simp [markIn]
theorem markIn_len (k i : Nat) (xs : List V3) (h : i ≤ xs.length) : (markIn k i xs).length = xs.length := by simp [markIn, markV_len]; omega
theorem markIn_step (k i : Nat) (xs : List V3) (h : i < xs.length) : (markIn k i xs).set i (((k + 3 * i : Nat) : Int), ((k + 3 * i + 1 : Nat) : Int), ((k + 3 * i + 2 : Nat) : Int)) = markIn k (i + 1) xs := by
  unfold markIn
  rw [List.set_append_right _ _ (by rw [markV_len]; exact Nat.le_refl _), markV_len, Nat.sub_self, List.drop_eq_getElem_cons h, List.set_cons_zero]
  have : markV k (i + 1) = markV k i ++ [(((k + 3 * i : Nat) : Int), ((k + 3 * i + 1 : Nat) : Int), ((k + 3 * i + 2 : Nat) : Int))] := by
    unfold markV; rw [List.range_succ, List.map_append]; rfl
  rw [this, List.append_assoc]; rfl

set_option maxHeartbeats 1000000 in
theorem eqSub_same (u v n : Int) (w : World) :
    Calls Try.prog 59 #[vec u v n, vec u v n] w fun e w' => e = .returned (.bool true) ∧ Below w.heap.size w w' := by
  go_enter Try.func59, Try.ntmps59
  go_wp2
  go_ret
  exact ⟨rfl, by go_grown⟩

set_option maxHeartbeats 2000000 in
theorem eqSubS_same (A A' : Option Addr) (c c' : Nat) (xs : List V3) (w : World) (hR : RowC 3 vg w w.heap.size A xs) (hR' : RowC 3 vg w w.heap.size A' xs) (hl : xs.length ≤ 1099511627776) :
    Calls Try.prog 28 #[.slice A xs.length c, .slice A' xs.length c'] w fun e w' => e = .returned (.bool true) ∧ Below w.heap.size w w' := by
  go_enter Try.func28, Try.ntmps28
  go_wp2
  go_loopw [5] (fun i wr => ∃ k : Nat, k ≤ xs.length ∧ i = .int .i64 k ∧ Below w.heap.size w wr) (fun i _ => xs.length - (intOf i).toNat)
  case atStart => exact ⟨0, Nat.zero_le _, rfl, Below.refl _ _⟩
  case round =>
    obtain ⟨k, hk, rfl, HB⟩ := hrel
    by_cases hlt : k < xs.length
    · obtain ⟨b, o, rfl, hbl, hc⟩ := hR.at hlt
      obtain ⟨b', o', rfl, hbl', hc'⟩ := hR'.at hlt
      obtain ⟨c0, c1, c2⟩ := vg_at hc
      obtain ⟨d0, d1, d2⟩ := vg_at hc'
      obtain ⟨v, hv⟩ : ∃ v, v = xs[k] := ⟨_, rfl⟩
      rw [← hv] at c0 c1 c2 d0 d1 d2
      have HC : ∀ W, Below w.heap.size w W → (W.cell? ⟨b, o + k * 3, none⟩ = some (.int .i64 v.1) ∧ W.cell? ⟨b, o + k * 3 + 1, none⟩ = some (.int .i64 v.2.1) ∧ W.cell? ⟨b, o + k * 3 + 2, none⟩ = some (.int .i64 v.2.2) ∧ W.cell? ⟨b', o' + k * 3, none⟩ = some (.int .i64 v.1) ∧ W.cell? ⟨b', o' + k * 3 + 1, none⟩ = some (.int .i64 v.2.1) ∧ W.cell? ⟨b', o' + k * 3 + 2, none⟩ = some (.int .i64 v.2.2)) := fun W h =>
        ⟨(h.cell (p := ⟨b, o + k * 3, none⟩) hbl).trans c0, (h.cell (p := ⟨b, o + k * 3 + 1, none⟩) hbl).trans c1, (h.cell (p := ⟨b, o + k * 3 + 2, none⟩) hbl).trans c2, (h.cell (p := ⟨b', o' + k * 3, none⟩) hbl').trans d0, (h.cell (p := ⟨b', o' + k * 3 + 1, none⟩) hbl').trans d1, (h.cell (p := ⟨b', o' + k * 3 + 2, none⟩) hbl').trans d2⟩
      have hlt' : (k : Int) < (xs.length : Int) := by omega
      have hge' : (0 : Int) ≤ (k : Int) := by omega
      clear hv hR hR' hc hc' c0 c1 c2 d0 d1 d2 hbl hbl'
      go_wp2_with fail
      go_region_held3 (fun w' => w'.cell? ⟨b, o + k * 3, none⟩ = some (.int .i64 v.1) ∧ w'.cell? ⟨b, o + k * 3 + 1, none⟩ = some (.int .i64 v.2.1) ∧ w'.cell? ⟨b, o + k * 3 + 2, none⟩ = some (.int .i64 v.2.2) ∧ w'.cell? ⟨b', o' + k * 3, none⟩ = some (.int .i64 v.1) ∧ w'.cell? ⟨b', o' + k * 3 + 1, none⟩ = some (.int .i64 v.2.1) ∧ w'.cell? ⟨b', o' + k * 3 + 2, none⟩ = some (.int .i64 v.2.2))
        (first | (with_reducible exact HC _ HB) | (with_reducible exact HC _ HB.drew))
        (first | (go_at_call 59; refine (eqSub_same _ _ _ _).mono ?_; rintro e w1 ⟨rfl, hb1⟩; (first | (have HB := bcall HB hb1 HB.size) | (have HB := bcall HB.drew hb1 HB.size))))
      clear HC
      go_wp2
      go_roundw
      case rel => exact ⟨k + 1, by omega, by go_num, HB⟩
      case measure => simp [intOf]; omega
    · clear hR hR'
      go_wp2
      go_ret
      exact ⟨rfl, HB⟩

set_option maxHeartbeats 2000000 in
theorem markSubS_any (A : Option Addr) (c base k : Nat) (xs : List V3) (w : World) (ho : w.ownsRow base 33 3 (.slice A xs.length c) xs.length (xs.flatMap vg)) (hk2 : k + 3 * xs.length ≤ 4611686018427387904) :
    Calls Try.prog 29 #[.slice A xs.length c, .int .i64 k] w fun e w' => e = .returned (.int .i64 ((k + 3 * xs.length : Nat) : Int)) ∧ w'.ownsRow base 33 3 (.slice A xs.length c) xs.length ((markV k xs.length).flatMap vg) ∧ Below base w w' := by
  have HO := Lib.hid ho
  clear ho
  go_enter Try.func29, Try.ntmps29
  go_wp2
  go_loopw [1, 5] (fun m i wr => ∃ j : Nat, j ≤ xs.length ∧ i = .int .i64 j ∧ m = .int .i64 ((k + 3 * j : Nat) : Int) ∧ wr.ownsRow base 33 3 (.slice A xs.length c) xs.length ((markIn k j xs).flatMap vg) ∧ Below base w wr) (fun _ i _ => xs.length - (intOf i).toNat)
  case atStart => exact ⟨0, Nat.zero_le _, rfl, rfl, by rw [markIn_zero]; exact HO.out, Below.refl _ _⟩
  case round =>
    obtain ⟨j, hj, rfl, rfl, hown, hb⟩ := hrel
    clear HO
    have HO := Lib.hid hown
    have HB := Lib.hid hb
    clear hown hb
    by_cases hlt : j < xs.length
    · obtain ⟨A0, hA⟩ : ∃ g, A = some ⟨g, 0, none⟩ := by
        rcases HO.out.2 with ⟨h, h0⟩ | ⟨g, cap, cur, h, _⟩
        · omega
        · injection h with h; exact ⟨g, h⟩
      subst hA
      have hge := own_block HO.out A0 rfl
      obtain ⟨x, y, z, d0, d1, d2⟩ := own_sub HO.out (markIn_len _ _ _ hj) hlt
      have f0 := HO.out.frozenAt (j * 3)
      have f1 := HO.out.frozenAt (j * 3 + 1)
      have f2 := HO.out.frozenAt (j * 3 + 2)
      have hs := (((HO.out.stored (j * 3) (.int .i64 ((k + 3 * j : Nat) : Int))).1.stored (j * 3 + 1) (.int .i64 ((k + 3 * j + 1 : Nat) : Int))).1.stored (j * 3 + 2) (.int .i64 ((k + 3 * j + 2 : Nat) : Int))).1
      have hv := vg_set (markIn k j xs) j (((k + 3 * j : Nat) : Int), ((k + 3 * j + 1 : Nat) : Int), ((k + 3 * j + 2 : Nat) : Int))
      dsimp only at hv
      rw [hv, markIn_step _ _ _ hlt] at hs
      have hs' := ((HB.out.setCell (p := ⟨A0, j * 3, none⟩) hge (.int .i64 ((k + 3 * j : Nat) : Int))).setCell (p := ⟨A0, j * 3 + 1, none⟩) hge (.int .i64 ((k + 3 * j + 1 : Nat) : Int))).setCell (p := ⟨A0, j * 3 + 2, none⟩) hge (.int .i64 ((k + 3 * j + 2 : Nat) : Int))
      obtain ⟨m, hm⟩ : ∃ m : Int, m = ((k + 3 * j : Nat) : Int) := ⟨_, rfl⟩
      have e1 : ((k + 3 * j + 1 : Nat) : Int) = m + 1 := by omega
      have e2 : ((k + 3 * j + 2 : Nat) : Int) = m + 1 + 1 := by omega
      have e3 : ((k + 3 * (j + 1) : Nat) : Int) = m + 1 + 1 + 1 := by omega
      rw [← hm, e1, e2] at hs hs'
      have hmb : 0 ≤ m ∧ m ≤ 4611686018427387904 := by omega
      rw [← hm]
      have HS := Lib.hid hs
      have HS' := Lib.hid hs'
      have HE3 := Lib.hid e3
      have hlt' : (j : Int) < (xs.length : Int) := by omega
      have hge' : (0 : Int) ≤ (j : Int) := by omega
      clear hs hs' hv e1 e2 e3 hm HO HB
      go_wp2
      go_roundw
      case rel => exact ⟨j + 1, by omega, by go_num, by rw [HE3.out], HS.out, HS'.out⟩
      case measure => simp [intOf]; omega
    · have e : j = xs.length := by omega
      have HO2 : Hid (wr.ownsRow base 33 3 (.slice A xs.length c) xs.length ((markV k xs.length).flatMap vg)) := by have := HO.out; rw [e, markIn_all] at this; exact this
      have HE := Lib.hid e
      clear e HO
      go_wp2
      go_ret
      exact ⟨ret_int (by have := HE.out; omega), HO2.out, HB.out⟩

set_option maxHeartbeats 2000000 in
theorem heldSubS_any (A : Option Addr) (c k n : Nat) (w : World) (hR : RowC 3 vg w w.heap.size A (markV k n)) (hk2 : k + 3 * n ≤ 4611686018427387904) :
    Calls Try.prog 30 #[.slice A n c, .int .i64 k] w fun e w' => e = .returned (.int .i64 ((k + 3 * n : Nat) : Int)) ∧ Below w.heap.size w w' := by
  go_enter Try.func30, Try.ntmps30
  go_wp2
  go_loopw [1, 5] (fun m i wr => ∃ j : Nat, j ≤ n ∧ i = .int .i64 j ∧ m = .int .i64 ((k + 3 * j : Nat) : Int) ∧ Below w.heap.size w wr) (fun _ i _ => n - (intOf i).toNat)
  case atStart => exact ⟨0, Nat.zero_le _, rfl, rfl, Below.refl _ _⟩
  case round =>
    obtain ⟨j, hj, rfl, rfl, hb⟩ := hrel
    have HB := Lib.hid hb
    clear hb
    by_cases hlt : j < n
    · obtain ⟨b, o, rfl, hbl, hc⟩ := hR.at (k := j) (by rw [markV_len]; exact hlt)
      obtain ⟨c0, c1, c2⟩ := vg_at hc
      rw [markV_at] at c0 c1 c2
      have c0 := (HB.out.cell (p := ⟨b, o + j * 3, none⟩) hbl).trans c0
      have c1 := (HB.out.cell (p := ⟨b, o + j * 3 + 1, none⟩) hbl).trans c1
      have c2 := (HB.out.cell (p := ⟨b, o + j * 3 + 2, none⟩) hbl).trans c2
      dsimp only at c0 c1 c2
      obtain ⟨m, hm⟩ : ∃ m : Int, m = ((k + 3 * j : Nat) : Int) := ⟨_, rfl⟩
      have e1 : ((k + 3 * j + 1 : Nat) : Int) = m + 1 := by omega
      have e2 : ((k + 3 * j + 2 : Nat) : Int) = m + 1 + 1 := by omega
      have e3 : ((k + 3 * (j + 1) : Nat) : Int) = m + 1 + 1 + 1 := by omega
      rw [← hm] at c0 ⊢
      rw [e1] at c1
      rw [e2] at c2
      have hmb : 0 ≤ m ∧ m ≤ 4611686018427387904 := by omega
      have HE3 := Lib.hid e3
      have hlt' : (j : Int) < (n : Int) := by omega
      have hge' : (0 : Int) ≤ (j : Int) := by omega
      clear hR e1 e2 e3 hm hc
      go_wp2
      go_roundw
      case rel => exact ⟨j + 1, by omega, by go_num, by rw [HE3.out], HB.out⟩
      case measure => simp [intOf]; omega
    · have HE : Hid (j = n) := Lib.hid (by omega)
      clear hR
      go_wp2
      go_ret
      exact ⟨ret_int (by have := HE.out; omega), HB.out⟩
end Go.Proofs.Ytjflkapdnnecjaa
