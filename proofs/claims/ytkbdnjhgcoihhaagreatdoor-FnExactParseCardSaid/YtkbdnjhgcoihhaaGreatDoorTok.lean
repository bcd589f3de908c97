/- Tokens as values; the laws own helpers on tokens and on slices of them. -/
import Derived.Test.YtkbdnjhgcoihhaaGreatDoorProg
import Derived.Test.YtkbdnjhgcoihhaaGreatDoorInts
import Derived.Test.YtkbdnjhgcoihhaaGreatDoorVbox
import Derived.Test.YtkbdnjhgcoihhaaGreatDoorHeld
import Derived.Test.YtkbdnjhgcoihhaaGreatDoorMem
import Derived.Test.YtkbdnjhgcoihhaaGreatDoorFlat
import Derived.Test.YtkbdnjhgcoihhaaGreatDoorRowC
import Derived.Test.YtkbdnjhgcoihhaaGreatDoorKS
import Derived.Test.YtkbdnjhgcoihhaaGreatDoorStrS
import Derived.WalkKit
import Derived.WalkSpells
import Derived.WalkLawsBesides
import Derived.Lib.Hide
import Derived.Deep.RegionHeld3
import Derived.Deep.QuietTactic
import Derived.BigQuiet
import Derived.Handy
import Derived.Deep.DeepCutAuto
import Derived.Laws.RangeAny
namespace Go.Proofs.YtkbdnjhgcoihhaaGreatDoor
open Go.RowKit

abbrev tok (a : Int) (s : ByteArray) (b c : Int) : Value := .agg #[.int .i64 a, .string s, .int .i64 b, .int .i64 c]
abbrev tkv (v : Tk) : Value := tok v.1 v.2.1 v.2.2.1 v.2.2.2
def TokOut (a : Int) (s : ByteArray) (b c : Int) (w : World) (x : Ending) (w' : World) : Prop := x = .returned (tok a s b c) ∧ Below w.heap.size w w'
def BoolT (b : Bool) (w : World) (x : Ending) (w' : World) : Prop := x = .returned (.bool b) ∧ Below w.heap.size w w'
theorem tkg_at {w : World} {b o : Nat} {v : Tk} (h : ∀ j u, (tkg v)[j]? = some u → w.cell? ⟨b, o + j, none⟩ = some u) :
    w.cell? ⟨b, o, none⟩ = some (.int .i64 v.1) ∧ w.cell? ⟨b, o + 1, none⟩ = some (.string v.2.1) ∧ w.cell? ⟨b, o + 2, none⟩ = some (.int .i64 v.2.2.1) ∧ w.cell? ⟨b, o + 3, none⟩ = some (.int .i64 v.2.2.2) :=
  ⟨h 0 _ rfl, h 1 _ rfl, h 2 _ rfl, h 3 _ rfl⟩
theorem tkg_set (xs : List Tk) : ∀ (k : Nat) (v : Tk), ((((xs.flatMap tkg).set (k * 4) (.int .i64 v.1)).set (k * 4 + 1) (.string v.2.1)).set (k * 4 + 2) (.int .i64 v.2.2.1)).set (k * 4 + 3) (.int .i64 v.2.2.2) = (xs.set k v).flatMap tkg := by
  induction xs with
  | nil => intro k v; simp
  | cons x xs ih =>
    intro k v
    match k with
    | 0 => simp [tkg]
    | k + 1 =>
      have := ih k v
      simp only [List.flatMap_cons, List.set_cons_succ]
      rw [← this]
      have e0 : (k + 1) * 4 = k * 4 + 1 + 1 + 1 + 1 := by omega
      rw [e0]
      simp [tkg]
theorem infoTok : (Tryz.prog.info? 38).map (fun i => (i.zero, i.size, i.bytes)) = some (some (tok 0 ByteArray.empty 0 0), 4, 40) := by kernel_rfl
def ToksOut (xs : List Tk) (w : World) (e : Ending) (w' : World) : Prop :=
  ∃ (A : Option Addr) (c : Nat), e = .returned (.slice A xs.length c) ∧ w'.ownsRow w.heap.size 38 4 (.slice A xs.length c) xs.length (xs.flatMap tkg) ∧ Below w.heap.size w w'
/-- 'append(s, x)' of one struct of four cells onto a row of the call's own -/
theorem wpList_app4 {P : Program} {ops : Array Oper} {rest : List Oper} {o : Oper} {a : Act} {Q : Exit → Act → World → Prop} (w0 : World) (hgd : o.guard = none) (s x : Operand) (t : TypeId)
    (ho : o.op = .call { callee := .builtin .append, args := #[s, x], argTypes := #[t, t] }) (base : Nat) (e : TypeId) (z : Value) (bytes : Nat)
    (ht : P.underlying t = some (.slice e)) (hinfo : (P.info? e).map (fun i => (i.zero, i.size, i.bytes)) = some (some z, 4, bytes)) (hzs : z.cells.size = 4)
    (v : Value) (n : Nat) (xs : List Value) (hs : a.eval s = v) (hown : w0.ownsRow base e 4 v n xs) (u0 u1 u2 u3 : Value) (hx : a.eval x = .slice (some ⟨w0.heap.size, 0, none⟩) 1 1) (hu : u0.oneCell' = true ∧ u1.oneCell' = true ∧ u2.oneCell' = true ∧ u3.oneCell' = true)
    (h63 : n + 1 ≤ maxLen) (hbytes : (n + 1) * bytes ≤ 140737488355328) (hbase : base ≤ w0.heap.size)
    (h : ∀ v' w', w'.ownsRow base e 4 v' (n + 1) (xs ++ [u0, u1, u2, u3]) → w0.grownBy w' v.ownBlock → wpList P ops Q rest (a.put o.dst v') w') : wpList P ops Q (o :: rest) a (w0.alloc (.cells #[u0, u1, u2, u3] e)) := by
  obtain ⟨i0, hi, hz0, hz1, hz2⟩ := info_parts hinfo
  refine wpList_append_own _ hgd s x t ho base e i0 z 4 bytes ht hi hz0 hz1 hz2 hzs (by omega) v n xs hs (hown.alloc _) ⟨w0.heap.size, 0, none⟩ 1 1 [u0, u1, u2, u3] hx rfl ?_ ?_ h63 hbytes (by simp; omega) ?_
  · intro j y hj
    have M := Mbox.new w0 #[u0, u1, u2, u3] e
    have := M.c j hj
    rw [Addr.add_mid, Nat.zero_add]
    exact this
  · intro y hy
    simp at hy
    rcases hy with rfl | rfl | rfl | rfl
    · exact hu.1
    · exact hu.2.1
    · exact hu.2.2.1
    · exact hu.2.2.2
  · intro v' w' h1 h2 _
    exact h v' w' h1 ⟨h2.os, h2.tape, h2.output, Nat.le_trans (by simp) h2.size, fun k hk hr => (h2.block k (by simp; omega) hr).trans (Below.heap_alloc w0 _ k hk)⟩
theorem own_tok {w : World} {base : Nat} {e : TypeId} {g n cap : Nat} {xs : List Tk} (h : w.ownsRow base e 4 (.slice (some ⟨g, 0, none⟩) n cap) n (xs.flatMap tkg)) (hn : xs.length = n) {k : Nat} (hk : k < n) :
    ∃ (x : Int) (y : ByteArray) (z p : Int), w.cell? ⟨g, k * 4, none⟩ = some (.int .i64 x) ∧ w.cell? ⟨g, k * 4 + 1, none⟩ = some (.string y) ∧ w.cell? ⟨g, k * 4 + 2, none⟩ = some (.int .i64 z) ∧ w.cell? ⟨g, k * 4 + 3, none⟩ = some (.int .i64 p) := by
  have hk' : k < xs.length := by omega
  have h0 := h.cellAt (k * 4) (by omega)
  have h1 := h.cellAt (k * 4 + 1) (by omega)
  have h2 := h.cellAt (k * 4 + 2) (by omega)
  have h3 := h.cellAt (k * 4 + 3) (by omega)
  rw [← Nat.add_zero (k * 4), flat_get tkg_len xs k 0 hk' (by omega)] at h0
  rw [flat_get tkg_len xs k 1 hk' (by omega)] at h1
  rw [flat_get tkg_len xs k 2 hk' (by omega)] at h2
  rw [flat_get tkg_len xs k 3 hk' (by omega)] at h3
  exact ⟨_, _, _, _, h0, h1, h2, h3⟩
theorem rowC4_drew {α : Type} {n : Nat} {g : α → List Value} {w : World} {A : Option Addr} {xs : List α} (h : RowC n g w w.heap.size A xs) : RowC n g w.drew w.drew.heap.size A xs := h.keep fun _ _ => rfl
/-- the marks -/
def mk4 (k i : Nat) : Tk := (((k + 4 * i : Nat) : Int), markP (k + 4 * i + 1), ((k + 4 * i + 2 : Nat) : Int), ((k + 4 * i + 3 : Nat) : Int))
def marks4 (k n : Nat) : List Tk := (List.range n).map (mk4 k)
theorem marks4_len (k n : Nat) : (marks4 k n).length = n := by simp [marks4]
theorem marks4_at (k n i : Nat) (h : i < (marks4 k n).length) : (marks4 k n)[i] = mk4 k i := by simp [marks4]
def markI4 (k i : Nat) (xs : List Tk) : List Tk := marks4 k i ++ xs.drop i
theorem markI4_zero (k : Nat) (xs : List Tk) : markI4 k 0 xs = xs := by simp [markI4, marks4]
theorem markI4_all (k : Nat) (xs : List Tk) : markI4 k xs.length xs = marks4 k xs.length := by simp [markI4]
theorem markI4_len (k i : Nat) (xs : List Tk) (h : i ≤ xs.length) : (markI4 k i xs).length = xs.length := by simp [markI4, marks4_len]; omega
theorem markI4_step (k i : Nat) (xs : List Tk) (h : i < xs.length) : (markI4 k i xs).set i (mk4 k i) = markI4 k (i + 1) xs := by
  unfold markI4
  rw [List.set_append_right _ _ (by rw [marks4_len]; exact Nat.le_refl _), marks4_len, Nat.sub_self, List.drop_eq_getElem_cons h, List.set_cons_zero]
  have : marks4 k (i + 1) = marks4 k i ++ [mk4 k i] := by
    unfold marks4; rw [List.range_succ, List.map_append]; rfl
  rw [this, List.append_assoc]; rfl
theorem ret_int4 {a b : Int} (h : a = b) : Ending.returned (.int .i64 a) = .returned (.int .i64 b) := by rw [h]
theorem keep_stepT {w W w' : World} {a : Addr} {v : Value} (ha : a.block < w.heap.size) (h : W.cell? a = some v ∧ Below w.heap.size w W) (hb : Below W.heap.size W w') : w'.cell? a = some v ∧ Below w.heap.size w w' :=
  ⟨(hb.cell (Nat.lt_of_lt_of_le ha h.2.size)).trans h.1, h.2.trans (hb.mono h.2.size)⟩
/-- the letters of all the tokens' texts -/
def szT : List Tk → Nat
  | [] => 0
  | x :: xs => x.2.1.size + szT xs
theorem szT_take (xs : List Tk) : ∀ (k : Nat) (h : k < xs.length), szT (xs.take (k + 1)) = szT (xs.take k) + (xs[k]).2.1.size := by
  induction xs with
  | nil => intro k h; simp at h
  | cons x xs ih =>
    intro k h
    match k, h with
    | 0, _ => simp [szT]
    | k + 1, h =>
      have := ih k (by simpa using h)
      simp only [List.take_succ_cons, szT, List.getElem_cons_succ, this]
      omega
theorem szT_mem {xs : List Tk} {x : Tk} (h : x ∈ xs) : x.2.1.size ≤ szT xs := by
  induction xs with
  | nil => cases h
  | cons y ys ih =>
    rcases List.mem_cons.1 h with rfl | h
    · exact Nat.le_add_right _ _
    · exact Nat.le_trans (ih h) (Nat.le_add_left _ _)
theorem szT_le (xs : List Tk) (k : Nat) : szT (xs.take k) ≤ szT xs := by
  induction xs generalizing k with
  | nil => simp [szT]
  | cons x xs ih =>
    match k with
    | 0 => simp [szT]
    | k + 1 =>
      have := ih k
      simp only [List.take_succ_cons, szT]
      omega





theorem made4 (a b c d : Value) (n : Nat) : ∀ (k j : Nat), k < n → j < 4 → ((madeCells #[a, b, c, d] (n * 4)).toList)[k * 4 + j]? = ([a, b, c, d] : List Value)[j]? := by
  intro k j hk hj
  have hlt : k * 4 + j < n * 4 := by omega
  have e : (k * 4 + j) % 4 = j := by omega
  have : j = 0 ∨ j = 1 ∨ j = 2 ∨ j = 3 := by omega
  rcases this with rfl | rfl | rfl | rfl <;>
    (simp only [madeCells, Array.toList_map, Array.toList_range, List.getElem?_map]
     rw [List.getElem?_range (by omega)]
     simp only [Option.map_some]
     simp [e])
def zTk : Tk := (0, ByteArray.empty, 0, 0)
theorem made_tok (n : Nat) : (madeCells #[.int .i64 0, .string ⟨#[]⟩, .int .i64 0, .int .i64 0] (n * 4)).toList = (List.replicate n zTk).flatMap tkg := by
  apply List.ext_getElem?
  intro i
  by_cases h : i < n * 4
  · obtain ⟨k, j, rfl, hj⟩ : ∃ k j, i = k * 4 + j ∧ j < 4 := ⟨i / 4, i % 4, by omega, by omega⟩
    have hk : k < n := by omega
    rw [made4 _ _ _ _ n k j hk hj, flat_get tkg_len _ k j (by simpa using hk) hj, List.getElem_replicate]
    rfl
  · rw [List.getElem?_eq_none (by simp [madeCells]; omega), List.getElem?_eq_none (by rw [flat_len tkg_len]; simp; omega)]
def halfT (xs : List Tk) (k : Nat) : List Tk := xs.take k ++ List.replicate (xs.length - k) zTk
theorem halfT_zero (xs : List Tk) : halfT xs 0 = List.replicate xs.length zTk := by simp [halfT]
theorem halfT_all (xs : List Tk) : halfT xs xs.length = xs := by simp [halfT]
theorem halfT_len (xs : List Tk) (k : Nat) (h : k ≤ xs.length) : (halfT xs k).length = xs.length := by simp [halfT]; omega
theorem halfT_step (xs : List Tk) (k : Nat) (h : k < xs.length) : (halfT xs k).set k xs[k] = halfT xs (k + 1) := by
  unfold halfT
  rw [List.take_succ_eq_append_getElem h, List.set_append_right _ _ (by simp; omega)]
  have e : xs.length - k = (xs.length - (k + 1)) + 1 := by omega
  rw [e, List.replicate_succ]
  simp only [List.length_take, Nat.min_eq_left (Nat.le_of_lt h), Nat.sub_self, List.set_cons_zero, List.append_assoc, List.cons_append, List.nil_append]


def SzTok (L n : Nat) (w : World) (e : Ending) (w' : World) : Prop := ∃ r : Int, e = .returned (.int .i64 r) ∧ (0 ≤ r → n ≤ L) ∧ r ≤ L ∧ -1 ≤ r ∧ Below w.heap.size w w'



end Go.Proofs.YtkbdnjhgcoihhaaGreatDoor
