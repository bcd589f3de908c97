/- Slices of sub-patches: equality, marks, an append of one, as the law on SplitSubPatch has them. -/
import Derived.Test.YtmhcpjednogegaaProg
import Derived.Test.YtmhcpjednogegaaInts
import Derived.Test.YtmhcpjednogegaaVbox
import Derived.Test.YtmhcpjednogegaaVec
import Derived.Test.YtmhcpjednogegaaHeld
import Derived.Test.YtmhcpjednogegaaMem
import Derived.Test.YtmhcpjednogegaaFlat
import Derived.Test.YtmhcpjednogegaaRowC
import Derived.Test.YtmhcpjednogegaaArr
import Derived.Test.YtmhcpjednogegaaTr
import Derived.Test.YtmhcpjednogegaaSub
import Derived.WalkKit
import Derived.WalkSpells
import Derived.WalkLawsBesides
import Derived.Lib.Hide
import Derived.Deep.RegionHeld3
import Derived.Deep.QuietTactic
import Derived.BigQuiet
import Derived.Handy
import Derived.Deep.DeepCutAuto
import Derived.Laws.RangeAny
namespace Go.Proofs.Ytmhcpjednogegaa
open Go.RowKit

theorem infoSub : (Try.prog.info? 39).map (fun i => (i.zero, i.size, i.bytes)) = some (some (vec 0 0 0), 3, 24) := by kernel_rfl
theorem wpList_app3 {P : Program} {ops : Array Oper} {rest : List Oper} {o : Oper} {a : Act} {Q : Exit → Act → World → Prop} (w0 : World) (hgd : o.guard = none) (s x : Operand) (t : TypeId)
    (ho : o.op = .call { callee := .builtin .append, args := #[s, x], argTypes := #[t, t] }) (base : Nat) (e : TypeId) (z : Value) (bytes : Nat)
    (ht : P.underlying t = some (.slice e)) (hinfo : (P.info? e).map (fun i => (i.zero, i.size, i.bytes)) = some (some z, 3, bytes)) (hzs : z.cells.size = 3)
    (v : Value) (n : Nat) (xs : List Value) (hs : a.eval s = v) (hown : w0.ownsRow base e 3 v n xs) (u0 u1 u2 : Value) (hx : a.eval x = .slice (some ⟨w0.heap.size, 0, none⟩) 1 1) (hu : u0.oneCell' = true ∧ u1.oneCell' = true ∧ u2.oneCell' = true)
    (h63 : n + 1 ≤ maxLen) (hbytes : (n + 1) * bytes ≤ 140737488355328) (hbase : base ≤ w0.heap.size)
    (h : ∀ v' w', w'.ownsRow base e 3 v' (n + 1) (xs ++ [u0, u1, u2]) → w0.grownBy w' v.ownBlock → wpList P ops Q rest (a.put o.dst v') w') : wpList P ops Q (o :: rest) a (w0.alloc (.cells #[u0, u1, u2] e)) := by
  obtain ⟨i0, hi, hz0, hz1, hz2⟩ := info_parts hinfo
  refine wpList_append_own _ hgd s x t ho base e i0 z 3 bytes ht hi hz0 hz1 hz2 hzs (by omega) v n xs hs (hown.alloc _) ⟨w0.heap.size, 0, none⟩ 1 1 [u0, u1, u2] hx rfl ?_ ?_ h63 hbytes (by simp; omega) ?_
  · intro j y hj
    have M := Mbox.new w0 #[u0, u1, u2] e
    have := M.c j hj
    rw [Addr.add_mid, Nat.zero_add]
    exact this
  · intro y hy
    simp at hy
    rcases hy with rfl | rfl | rfl
    · exact hu.1
    · exact hu.2.1
    · exact hu.2.2
  · intro v' w' h1 h2 _
    exact h v' w' h1 ⟨h2.os, h2.tape, h2.output, Nat.le_trans (by simp) h2.size, fun k hk hr => (h2.block k (by simp; omega) hr).trans (Below.heap_alloc w0 _ k hk)⟩
theorem own_sub {w : World} {base : Nat} {e : TypeId} {g n cap : Nat} {xs : List V3} (h : w.ownsRow base e 3 (.slice (some ⟨g, 0, none⟩) n cap) n (xs.flatMap vg)) (hn : xs.length = n) {k : Nat} (hk : k < n) :
    ∃ x y z : Int, w.cell? ⟨g, k * 3, none⟩ = some (.int .i64 x) ∧ w.cell? ⟨g, k * 3 + 1, none⟩ = some (.int .i64 y) ∧ w.cell? ⟨g, k * 3 + 2, none⟩ = some (.int .i64 z) := by
  have hk' : k < xs.length := by omega
  have h0 := h.cellAt (k * 3) (by omega)
  have h1 := h.cellAt (k * 3 + 1) (by omega)
  have h2 := h.cellAt (k * 3 + 2) (by omega)
  rw [← Nat.add_zero (k * 3), flat_get vg_len xs k 0 hk' (by omega)] at h0
  rw [flat_get vg_len xs k 1 hk' (by omega)] at h1
  rw [flat_get vg_len xs k 2 hk' (by omega)] at h2
  exact ⟨_, _, _, h0, h1, h2⟩
/-- the quarters -/
def quar (u v n : Int) : List V3 := [(2 * u, 2 * v, 2 * n), (2 * u + 1, 2 * v, 2 * n), (2 * u, 2 * v + 1, 2 * n), (2 * u + 1, 2 * v + 1, 2 * n)]
def splS (u v n : Int) : List V3 := if okS u v n = true ∧ n ≠ 64 then quar u v n else []
theorem splS_len (u v n : Int) : (splS u v n).length ≤ 4 := by unfold splS; split <;> simp [quar]
theorem quar_step (u v n : Int) (j k : Nat) (hj : j < 2) (hk : k < 2) : (quar u v n).take (2 * k + j + 1) = (quar u v n).take (2 * k + j) ++ [(2 * u + (j : Int), 2 * v + (k : Int), 2 * n)] := by
  have hj' : j = 0 ∨ j = 1 := by omega
  have hk' : k = 0 ∨ k = 1 := by omega
  rcases hj' with rfl | rfl <;> rcases hk' with rfl | rfl <;> simp [quar]
def SubsOut (xs : List V3) (w : World) (e : Ending) (w' : World) : Prop :=
  ∃ (A : Option Addr) (c : Nat), e = .returned (.slice A xs.length c) ∧ w'.ownsRow w.heap.size 39 3 (.slice A xs.length c) xs.length (xs.flatMap vg) ∧ Below w.heap.size w w'
theorem Held.laterS {w W W' : World} {bs : List (Nat × List Value)} {B : Nat} (h : Held w W bs) (hb : Below B W W') (hB : w.heap.size ≤ B) (hk : ∀ p ∈ bs, p.1 < B) : Held w W' bs :=
  ⟨h.1.trans (hb.mono hB), fun i k vs e => (h.2 i k vs e).keep fun _ => hb.block k (hk (k, vs) (List.mem_of_getElem? e))⟩
/-- the marks -/
def markV (k n : Nat) : List V3 := (List.range n).map fun i => (((k + 3 * i : Nat) : Int), ((k + 3 * i + 1 : Nat) : Int), ((k + 3 * i + 2 : Nat) : Int))
theorem markV_len (k n : Nat) : (markV k n).length = n := by simp [markV]
theorem markV_at (k n i : Nat) (h : i < (markV k n).length) : (markV k n)[i] = (((k + 3 * i : Nat) : Int), ((k + 3 * i + 1 : Nat) : Int), ((k + 3 * i + 2 : Nat) : Int)) := by simp [markV]
def markIn (k i : Nat) (xs : List V3) : List V3 := markV k i ++ xs.drop i
theorem markIn_zero (k : Nat) (xs : List V3) : markIn k 0 xs = xs := by simp [markIn, markV]
theorem markIn_all (k : Nat) (xs : List V3) : markIn k xs.length xs = markV k xs.length := by simp [markIn]
theorem markIn_len (k i : Nat) (xs : List V3) (h : i ≤ xs.length) : (markIn k i xs).length = xs.length := by simp [markIn, markV_len]; omega
theorem markIn_step (k i : Nat) (xs : List V3) (h : i < xs.length) : (markIn k i xs).set i (((k + 3 * i : Nat) : Int), ((k + 3 * i + 1 : Nat) : Int), ((k + 3 * i + 2 : Nat) : Int)) = markIn k (i + 1) xs := by
  unfold markIn
  rw [List.set_append_right _ _ (by rw [markV_len]; exact Nat.le_refl _), markV_len, Nat.sub_self, List.drop_eq_getElem_cons h, List.set_cons_zero]
  have : markV k (i + 1) = markV k i ++ [(((k + 3 * i : Nat) : Int), ((k + 3 * i + 1 : Nat) : Int), ((k + 3 * i + 2 : Nat) : Int))] := by
    unfold markV; rw [List.range_succ, List.map_append]; rfl
  rw [this, List.append_assoc]; rfl




end Go.Proofs.Ytmhcpjednogegaa
