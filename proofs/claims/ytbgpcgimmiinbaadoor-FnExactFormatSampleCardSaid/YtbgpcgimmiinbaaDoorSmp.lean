/- Samples as values; the laws own helpers on samples and on slices of them. -/
import Derived.Test.YtbgpcgimmiinbaaDoorProg
import Derived.Test.YtbgpcgimmiinbaaDoorInts
import Derived.Test.YtbgpcgimmiinbaaDoorVbox
import Derived.Test.YtbgpcgimmiinbaaDoorHeld
import Derived.Test.YtbgpcgimmiinbaaDoorMem
import Derived.Test.YtbgpcgimmiinbaaDoorFlat
import Derived.Test.YtbgpcgimmiinbaaDoorRowC
import Derived.WalkKit
import Derived.WalkSpells
import Derived.WalkLawsBesides
import Derived.Lib.Hide
import Derived.Deep.RegionHeld3
import Derived.Deep.QuietTactic
import Derived.BigQuiet
import Derived.Handy
import Derived.Deep.DeepCutAuto
import Derived.Laws.RangeAny
namespace Go.Proofs.YtbgpcgimmiinbaaDoor
open Go.RowKit

abbrev smp (a b c d e : Int) : Value := .agg #[.int .i64 a, .int .i64 b, .int .i64 c, .int .i64 d, .int .i64 e]
abbrev S5 := Int × Int × Int × Int × Int
def sg (v : S5) : List Value := [.int .i64 v.1, .int .i64 v.2.1, .int .i64 v.2.2.1, .int .i64 v.2.2.2.1, .int .i64 v.2.2.2.2]
theorem sg_len (v : S5) : (sg v).length = 5 := rfl
abbrev s5v (v : S5) : Value := smp v.1 v.2.1 v.2.2.1 v.2.2.2.1 v.2.2.2.2
def SmpOut (a b c d e : Int) (w : World) (x : Ending) (w' : World) : Prop := x = .returned (smp a b c d e) ∧ Below w.heap.size w w'
def BoolS (b : Bool) (w : World) (x : Ending) (w' : World) : Prop := x = .returned (.bool b) ∧ Below w.heap.size w w'
theorem sg_at {w : World} {b o : Nat} {v : S5} (h : ∀ j u, (sg v)[j]? = some u → w.cell? ⟨b, o + j, none⟩ = some u) :
    w.cell? ⟨b, o, none⟩ = some (.int .i64 v.1) ∧ w.cell? ⟨b, o + 1, none⟩ = some (.int .i64 v.2.1) ∧ w.cell? ⟨b, o + 2, none⟩ = some (.int .i64 v.2.2.1) ∧ w.cell? ⟨b, o + 3, none⟩ = some (.int .i64 v.2.2.2.1) ∧ w.cell? ⟨b, o + 4, none⟩ = some (.int .i64 v.2.2.2.2) :=
  ⟨h 0 _ rfl, h 1 _ rfl, h 2 _ rfl, h 3 _ rfl, h 4 _ rfl⟩
theorem sg_set (xs : List S5) : ∀ (k : Nat) (v : S5), (((((xs.flatMap sg).set (k * 5) (.int .i64 v.1)).set (k * 5 + 1) (.int .i64 v.2.1)).set (k * 5 + 2) (.int .i64 v.2.2.1)).set (k * 5 + 3) (.int .i64 v.2.2.2.1)).set (k * 5 + 4) (.int .i64 v.2.2.2.2) = (xs.set k v).flatMap sg := by
  induction xs with
  | nil => intro k v; simp
  | cons x xs ih =>
    intro k v
    match k with
    | 0 => simp [sg]
    | k + 1 =>
      have := ih k v
      simp only [List.flatMap_cons, List.set_cons_succ]
      rw [← this]
      have e0 : (k + 1) * 5 = k * 5 + 1 + 1 + 1 + 1 + 1 := by omega
      rw [e0]
      simp [sg]
theorem infoSmp : (Tryd.prog.info? 25).map (fun i => (i.zero, i.size, i.bytes)) = some (some (smp 0 0 0 0 0), 5, 40) := by kernel_rfl
def SmpsOut (xs : List S5) (w : World) (e : Ending) (w' : World) : Prop :=
  ∃ (A : Option Addr) (c : Nat), e = .returned (.slice A xs.length c) ∧ w'.ownsRow w.heap.size 25 5 (.slice A xs.length c) xs.length (xs.flatMap sg) ∧ Below w.heap.size w w'
theorem wpList_app5 {P : Program} {ops : Array Oper} {rest : List Oper} {o : Oper} {a : Act} {Q : Exit → Act → World → Prop} (w0 : World) (hgd : o.guard = none) (s x : Operand) (t : TypeId)
    (ho : o.op = .call { callee := .builtin .append, args := #[s, x], argTypes := #[t, t] }) (base : Nat) (e : TypeId) (z : Value) (bytes : Nat)
    (ht : P.underlying t = some (.slice e)) (hinfo : (P.info? e).map (fun i => (i.zero, i.size, i.bytes)) = some (some z, 5, bytes)) (hzs : z.cells.size = 5)
    (v : Value) (n : Nat) (xs : List Value) (hs : a.eval s = v) (hown : w0.ownsRow base e 5 v n xs) (u0 u1 u2 u3 u4 : Value) (hx : a.eval x = .slice (some ⟨w0.heap.size, 0, none⟩) 1 1) (hu : u0.oneCell' = true ∧ u1.oneCell' = true ∧ u2.oneCell' = true ∧ u3.oneCell' = true ∧ u4.oneCell' = true)
    (h63 : n + 1 ≤ maxLen) (hbytes : (n + 1) * bytes ≤ 140737488355328) (hbase : base ≤ w0.heap.size)
    (h : ∀ v' w', w'.ownsRow base e 5 v' (n + 1) (xs ++ [u0, u1, u2, u3, u4]) → w0.grownBy w' v.ownBlock → wpList P ops Q rest (a.put o.dst v') w') : wpList P ops Q (o :: rest) a (w0.alloc (.cells #[u0, u1, u2, u3, u4] e)) := by
  obtain ⟨i0, hi, hz0, hz1, hz2⟩ := info_parts hinfo
  refine wpList_append_own _ hgd s x t ho base e i0 z 5 bytes ht hi hz0 hz1 hz2 hzs (by omega) v n xs hs (hown.alloc _) ⟨w0.heap.size, 0, none⟩ 1 1 [u0, u1, u2, u3, u4] hx rfl ?_ ?_ h63 hbytes (by simp; omega) ?_
  · intro j y hj
    have M := Mbox.new w0 #[u0, u1, u2, u3, u4] e
    have := M.c j hj
    rw [Addr.add_mid, Nat.zero_add]
    exact this
  · intro y hy
    simp at hy
    rcases hy with rfl | rfl | rfl | rfl | rfl
    · exact hu.1
    · exact hu.2.1
    · exact hu.2.2.1
    · exact hu.2.2.2.1
    · exact hu.2.2.2.2
  · intro v' w' h1 h2 _
    exact h v' w' h1 ⟨h2.os, h2.tape, h2.output, Nat.le_trans (by simp) h2.size, fun k hk hr => (h2.block k (by simp; omega) hr).trans (Below.heap_alloc w0 _ k hk)⟩
theorem own_smp {w : World} {base : Nat} {e : TypeId} {g n cap : Nat} {xs : List S5} (h : w.ownsRow base e 5 (.slice (some ⟨g, 0, none⟩) n cap) n (xs.flatMap sg)) (hn : xs.length = n) {k : Nat} (hk : k < n) :
    ∃ x y z p q : Int, w.cell? ⟨g, k * 5, none⟩ = some (.int .i64 x) ∧ w.cell? ⟨g, k * 5 + 1, none⟩ = some (.int .i64 y) ∧ w.cell? ⟨g, k * 5 + 2, none⟩ = some (.int .i64 z) ∧ w.cell? ⟨g, k * 5 + 3, none⟩ = some (.int .i64 p) ∧ w.cell? ⟨g, k * 5 + 4, none⟩ = some (.int .i64 q) := by
  have hk' : k < xs.length := by omega
  have h0 := h.cellAt (k * 5) (by omega)
  have h1 := h.cellAt (k * 5 + 1) (by omega)
  have h2 := h.cellAt (k * 5 + 2) (by omega)
  have h3 := h.cellAt (k * 5 + 3) (by omega)
  have h4 := h.cellAt (k * 5 + 4) (by omega)
  rw [← Nat.add_zero (k * 5), flat_get sg_len xs k 0 hk' (by omega)] at h0
  rw [flat_get sg_len xs k 1 hk' (by omega)] at h1
  rw [flat_get sg_len xs k 2 hk' (by omega)] at h2
  rw [flat_get sg_len xs k 3 hk' (by omega)] at h3
  rw [flat_get sg_len xs k 4 hk' (by omega)] at h4
  exact ⟨_, _, _, _, _, h0, h1, h2, h3, h4⟩
theorem Held.laterP5 {w W W' : World} {bs : List (Nat × List Value)} {B : Nat} (h : Held w W bs) (hb : Below B W W') (hB : w.heap.size ≤ B) (hk : ∀ p ∈ bs, p.1 < B) : Held w W' bs :=
  ⟨h.1.trans (hb.mono hB), fun i k vs e => (h.2 i k vs e).keep fun _ => hb.block k (hk (k, vs) (List.mem_of_getElem? e))⟩
theorem rowC5_drew {α : Type} {n : Nat} {g : α → List Value} {w : World} {A : Option Addr} {xs : List α} (h : RowC n g w w.heap.size A xs) : RowC n g w.drew w.drew.heap.size A xs := h.keep fun _ _ => rfl
/-- the marks -/
def mk5 (k i : Nat) : S5 := (((k + 5 * i : Nat) : Int), ((k + 5 * i + 1 : Nat) : Int), ((k + 5 * i + 2 : Nat) : Int), ((k + 5 * i + 3 : Nat) : Int), ((k + 5 * i + 4 : Nat) : Int))
def marks5 (k n : Nat) : List S5 := (List.range n).map (mk5 k)
theorem marks5_len (k n : Nat) : (marks5 k n).length = n := by simp [marks5]
theorem marks5_at (k n i : Nat) (h : i < (marks5 k n).length) : (marks5 k n)[i] = mk5 k i := by simp [marks5]
def markI5 (k i : Nat) (xs : List S5) : List S5 := marks5 k i ++ xs.drop i
theorem markI5_zero (k : Nat) (xs : List S5) : markI5 k 0 xs = xs := by simp [markI5, marks5]
theorem markI5_all (k : Nat) (xs : List S5) : markI5 k xs.length xs = marks5 k xs.length := by simp [markI5]
theorem markI5_len (k i : Nat) (xs : List S5) (h : i ≤ xs.length) : (markI5 k i xs).length = xs.length := by simp [markI5, marks5_len]; omega
theorem markI5_step (k i : Nat) (xs : List S5) (h : i < xs.length) : (markI5 k i xs).set i (mk5 k i) = markI5 k (i + 1) xs := by
  unfold markI5
  rw [List.set_append_right _ _ (by rw [marks5_len]; exact Nat.le_refl _), marks5_len, Nat.sub_self, List.drop_eq_getElem_cons h, List.set_cons_zero]
  have : marks5 k (i + 1) = marks5 k i ++ [mk5 k i] := by
    unfold marks5; rw [List.range_succ, List.map_append]; rfl
  rw [this, List.append_assoc]; rfl
theorem ret_int5 {a b : Int} (h : a = b) : Ending.returned (.int .i64 a) = .returned (.int .i64 b) := by rw [h]

set_option maxHeartbeats 2000000 in
theorem toSample_any (a b c d e : Int) (w : World) :
    Calls Tryd.prog 5 #[smp a b c d e] w (SmpOut a b c d e w) := by
  go_enter Tryd.func5, Tryd.ntmps5
  go_wp2_with fail
  exact bodyPost_ret (v := smp a b c d e) (by simp [results, Tryd.results5, go_sem]) rfl ⟨rfl, by go_grown⟩




end Go.Proofs.YtbgpcgimmiinbaaDoor
