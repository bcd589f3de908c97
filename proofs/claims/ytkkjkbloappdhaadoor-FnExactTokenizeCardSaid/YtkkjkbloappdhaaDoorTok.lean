/- Tokens as values; the laws own helpers on tokens and on slices of them. -/
import Derived.Test.YtkkjkbloappdhaaDoorProg
import Derived.Test.YtkkjkbloappdhaaDoorInts
import Derived.Test.YtkkjkbloappdhaaDoorVbox
import Derived.Test.YtkkjkbloappdhaaDoorHeld
import Derived.Test.YtkkjkbloappdhaaDoorMem
import Derived.Test.YtkkjkbloappdhaaDoorFlat
import Derived.Test.YtkkjkbloappdhaaDoorRowC
import Derived.Test.YtkkjkbloappdhaaDoorKS
import Derived.Test.YtkkjkbloappdhaaDoorStrS
import Derived.WalkKit
import Derived.WalkSpells
import Derived.WalkLawsBesides
import Derived.Lib.Hide
import Derived.Deep.RegionHeld3
import Derived.Deep.QuietTactic
import Derived.BigQuiet
import Derived.Handy
import Derived.Deep.DeepCutAuto
import Derived.Laws.RangeAny
namespace Go.Proofs.YtkkjkbloappdhaaDoor
open Go.RowKit

abbrev tok (a : Int) (s : ByteArray) (b c : Int) : Value := .agg #[.int .i64 a, .string s, .int .i64 b, .int .i64 c]
abbrev tkv (v : Tk) : Value := tok v.1 v.2.1 v.2.2.1 v.2.2.2
def TokOut (a : Int) (s : ByteArray) (b c : Int) (w : World) (x : Ending) (w' : World) : Prop := x = .returned (tok a s b c) ∧ Below w.heap.size w w'
def BoolT (b : Bool) (w : World) (x : Ending) (w' : World) : Prop := x = .returned (.bool b) ∧ Below w.heap.size w w'
theorem tkg_at {w : World} {b o : Nat} {v : Tk} (h : ∀ j u, (tkg v)[j]? = some u → w.cell? ⟨b, o + j, none⟩ = some u) :
    w.cell? ⟨b, o, none⟩ = some (.int .i64 v.1) ∧ w.cell? ⟨b, o + 1, none⟩ = some (.string v.2.1) ∧ w.cell? ⟨b, o + 2, none⟩ = some (.int .i64 v.2.2.1) ∧ w.cell? ⟨b, o + 3, none⟩ = some (.int .i64 v.2.2.2) :=
  ⟨h 0 _ rfl, h 1 _ rfl, h 2 _ rfl, h 3 _ rfl⟩
theorem tkg_set (xs : List Tk) : ∀ (k : Nat) (v : Tk), ((((xs.flatMap tkg).set (k * 4) (.int .i64 v.1)).set (k * 4 + 1) (.string v.2.1)).set (k * 4 + 2) (.int .i64 v.2.2.1)).set (k * 4 + 3) (.int .i64 v.2.2.2) = (xs.set k v).flatMap tkg := by
  induction xs with
  | nil => intro k v; simp
  | cons x xs ih =>
    intro k v
    match k with
    | 0 => simp [tkg]
    | k + 1 =>
      have := ih k v
      simp only [List.flatMap_cons, List.set_cons_succ]
      rw [← this]
      have e0 : (k + 1) * 4 = k * 4 + 1 + 1 + 1 + 1 := by omega
      rw [e0]
      simp [tkg]
theorem infoTok : (Tryd.prog.info? 31).map (fun i => (i.zero, i.size, i.bytes)) = some (some (tok 0 ByteArray.empty 0 0), 4, 40) := by kernel_rfl
def ToksOut (xs : List Tk) (w : World) (e : Ending) (w' : World) : Prop :=
  ∃ (A : Option Addr) (c : Nat), e = .returned (.slice A xs.length c) ∧ w'.ownsRow w.heap.size 31 4 (.slice A xs.length c) xs.length (xs.flatMap tkg) ∧ Below w.heap.size w w'
/-- 'append(s, x)' of one struct of four cells onto a row of the call's own -/
theorem wpList_app4 {P : Program} {ops : Array Oper} {rest : List Oper} {o : Oper} {a : Act} {Q : Exit → Act → World → Prop} (w0 : World) (hgd : o.guard = none) (s x : Operand) (t : TypeId)
    (ho : o.op = .call { callee := .builtin .append, args := #[s, x], argTypes := #[t, t] }) (base : Nat) (e : TypeId) (z : Value) (bytes : Nat)
    (ht : P.underlying t = some (.slice e)) (hinfo : (P.info? e).map (fun i => (i.zero, i.size, i.bytes)) = some (some z, 4, bytes)) (hzs : z.cells.size = 4)
    (v : Value) (n : Nat) (xs : List Value) (hs : a.eval s = v) (hown : w0.ownsRow base e 4 v n xs) (u0 u1 u2 u3 : Value) (hx : a.eval x = .slice (some ⟨w0.heap.size, 0, none⟩) 1 1) (hu : u0.oneCell' = true ∧ u1.oneCell' = true ∧ u2.oneCell' = true ∧ u3.oneCell' = true)
    (h63 : n + 1 ≤ maxLen) (hbytes : (n + 1) * bytes ≤ 140737488355328) (hbase : base ≤ w0.heap.size)
    (h : ∀ v' w', w'.ownsRow base e 4 v' (n + 1) (xs ++ [u0, u1, u2, u3]) → w0.grownBy w' v.ownBlock → wpList P ops Q rest (a.put o.dst v') w') : wpList P ops Q (o :: rest) a (w0.alloc (.cells #[u0, u1, u2, u3] e)) := by
  obtain ⟨i0, hi, hz0, hz1, hz2⟩ := info_parts hinfo
  refine wpList_append_own _ hgd s x t ho base e i0 z 4 bytes ht hi hz0 hz1 hz2 hzs (by omega) v n xs hs (hown.alloc _) ⟨w0.heap.size, 0, none⟩ 1 1 [u0, u1, u2, u3] hx rfl ?_ ?_ h63 hbytes (by simp; omega) ?_
  · intro j y hj
    have M := Mbox.new w0 #[u0, u1, u2, u3] e
    have := M.c j hj
    rw [Addr.add_mid, Nat.zero_add]
    exact this
  · intro y hy
    simp at hy
    rcases hy with rfl | rfl | rfl | rfl
    · exact hu.1
    · exact hu.2.1
    · exact hu.2.2.1
    · exact hu.2.2.2
  · intro v' w' h1 h2 _
    exact h v' w' h1 ⟨h2.os, h2.tape, h2.output, Nat.le_trans (by simp) h2.size, fun k hk hr => (h2.block k (by simp; omega) hr).trans (Below.heap_alloc w0 _ k hk)⟩
theorem own_tok {w : World} {base : Nat} {e : TypeId} {g n cap : Nat} {xs : List Tk} (h : w.ownsRow base e 4 (.slice (some ⟨g, 0, none⟩) n cap) n (xs.flatMap tkg)) (hn : xs.length = n) {k : Nat} (hk : k < n) :
    ∃ (x : Int) (y : ByteArray) (z p : Int), w.cell? ⟨g, k * 4, none⟩ = some (.int .i64 x) ∧ w.cell? ⟨g, k * 4 + 1, none⟩ = some (.string y) ∧ w.cell? ⟨g, k * 4 + 2, none⟩ = some (.int .i64 z) ∧ w.cell? ⟨g, k * 4 + 3, none⟩ = some (.int .i64 p) := by
  have hk' : k < xs.length := by omega
  have h0 := h.cellAt (k * 4) (by omega)
  have h1 := h.cellAt (k * 4 + 1) (by omega)
  have h2 := h.cellAt (k * 4 + 2) (by omega)
  have h3 := h.cellAt (k * 4 + 3) (by omega)
  rw [← Nat.add_zero (k * 4), flat_get tkg_len xs k 0 hk' (by omega)] at h0
  rw [flat_get tkg_len xs k 1 hk' (by omega)] at h1
  rw [flat_get tkg_len xs k 2 hk' (by omega)] at h2
  rw [flat_get tkg_len xs k 3 hk' (by omega)] at h3
  exact ⟨_, _, _, _, h0, h1, h2, h3⟩
theorem rowC4_drew {α : Type} {n : Nat} {g : α → List Value} {w : World} {A : Option Addr} {xs : List α} (h : RowC n g w w.heap.size A xs) : RowC n g w.drew w.drew.heap.size A xs := h.keep fun _ _ => rfl
/-- the marks -/
def mk4 (k i : Nat) : Tk := (((k + 4 * i : Nat) : Int), markP (k + 4 * i + 1), ((k + 4 * i + 2 : Nat) : Int), ((k + 4 * i + 3 : Nat) : Int))
def marks4 (k n : Nat) : List Tk := (List.range n).map (mk4 k)
theorem marks4_len (k n : Nat) : (marks4 k n).length = n := by simp [marks4]
theorem marks4_at (k n i : Nat) (h : i < (marks4 k n).length) : (marks4 k n)[i] = mk4 k i := by simp [marks4]
def markI4 (k i : Nat) (xs : List Tk) : List Tk := marks4 k i ++ xs.drop i
theorem markI4_zero (k : Nat) (xs : List Tk) : markI4 k 0 xs = xs := by simp [markI4, marks4]
theorem markI4_all (k : Nat) (xs : List Tk) : markI4 k xs.length xs = marks4 k xs.length := by simp [markI4]
theorem markI4_len (k i : Nat) (xs : List Tk) (h : i ≤ xs.length) : (markI4 k i xs).length = xs.length := by simp [markI4, marks4_len]; omega
theorem markI4_step (k i : Nat) (xs : List Tk) (h : i < xs.length) : (markI4 k i xs).set i (mk4 k i) = markI4 k (i + 1) xs := by
  unfold markI4
  rw [List.set_append_right _ _ (by rw [marks4_len]; exact Nat.le_refl _), marks4_len, Nat.sub_self, List.drop_eq_getElem_cons h, List.set_cons_zero]
  have : marks4 k (i + 1) = marks4 k i ++ [mk4 k i] := by
    unfold marks4; rw [List.range_succ, List.map_append]; rfl
  rw [this, List.append_assoc]; rfl
theorem ret_int4 {a b : Int} (h : a = b) : Ending.returned (.int .i64 a) = .returned (.int .i64 b) := by rw [h]
theorem keep_stepT {w W w' : World} {a : Addr} {v : Value} (ha : a.block < w.heap.size) (h : W.cell? a = some v ∧ Below w.heap.size w W) (hb : Below W.heap.size W w') : w'.cell? a = some v ∧ Below w.heap.size w w' :=
  ⟨(hb.cell (Nat.lt_of_lt_of_le ha h.2.size)).trans h.1, h.2.trans (hb.mono h.2.size)⟩
/-- the letters of all the tokens' texts -/
def szT : List Tk → Nat
  | [] => 0
  | x :: xs => x.2.1.size + szT xs
theorem szT_take (xs : List Tk) : ∀ (k : Nat) (h : k < xs.length), szT (xs.take (k + 1)) = szT (xs.take k) + (xs[k]).2.1.size := by
  induction xs with
  | nil => intro k h; simp at h
  | cons x xs ih =>
    intro k h
    match k, h with
    | 0, _ => simp [szT]
    | k + 1, h =>
      have := ih k (by simpa using h)
      simp only [List.take_succ_cons, szT, List.getElem_cons_succ, this]
      omega
theorem szT_mem {xs : List Tk} {x : Tk} (h : x ∈ xs) : x.2.1.size ≤ szT xs := by
  induction xs with
  | nil => cases h
  | cons y ys ih =>
    rcases List.mem_cons.1 h with rfl | h
    · exact Nat.le_add_right _ _
    · exact Nat.le_trans (ih h) (Nat.le_add_left _ _)
theorem szT_le (xs : List Tk) (k : Nat) : szT (xs.take k) ≤ szT xs := by
  induction xs generalizing k with
  | nil => simp [szT]
  | cons x xs ih =>
    match k with
    | 0 => simp [szT]
    | k + 1 =>
      have := ih k
      simp only [List.take_succ_cons, szT]
      omega


set_option maxHeartbeats 2000000 in
theorem eqToken_same (a : Int) (s : ByteArray) (b c : Int) (w : World) :
    Calls Tryd.prog 15 #[tok a s b c, tok a s b c] w (BoolT true w) := by
  go_enter Tryd.func15, Tryd.ntmps15
  go_wp2_with fail
  go_ret
  exact ⟨rfl, by go_grown⟩

set_option maxHeartbeats 4000000 in
theorem eqTokS_same (A A' : Option Addr) (c c' : Nat) (xs : List Tk) (w : World) (hR : RowC 4 tkg w w.heap.size A xs) (hR' : RowC 4 tkg w w.heap.size A' xs) (hl : xs.length ≤ 1099511627776) :
    Calls Tryd.prog 7 #[.slice A xs.length c, .slice A' xs.length c'] w fun e w' => e = .returned (.bool true) ∧ Below w.heap.size w w' := by
  go_enter Tryd.func7, Tryd.ntmps7
  go_wp2
  go_loopw [5] (fun i wr => ∃ k : Nat, k ≤ xs.length ∧ i = .int .i64 k ∧ Below w.heap.size w wr) (fun i _ => xs.length - (intOf i).toNat)
  case atStart => exact ⟨0, Nat.zero_le _, rfl, Below.refl _ _⟩
  case round =>
    obtain ⟨k, hk, rfl, HB⟩ := hrel
    by_cases hlt : k < xs.length
    · obtain ⟨b, o, rfl, hbl, hc⟩ := hR.at hlt
      obtain ⟨b', o', rfl, hbl', hc'⟩ := hR'.at hlt
      obtain ⟨c0, c1, c2, c3⟩ := tkg_at hc
      obtain ⟨d0, d1, d2, d3⟩ := tkg_at hc'
      obtain ⟨v, hv⟩ : ∃ v, v = xs[k] := ⟨_, rfl⟩
      rw [← hv] at c0 c1 c2 c3 d0 d1 d2 d3
      have HC : ∀ W, Below w.heap.size w W → ((W.cell? ⟨b, o + k * 4, none⟩ = some (.int .i64 v.1) ∧ W.cell? ⟨b, o + k * 4 + 1, none⟩ = some (.string v.2.1) ∧ W.cell? ⟨b, o + k * 4 + 2, none⟩ = some (.int .i64 v.2.2.1) ∧ W.cell? ⟨b, o + k * 4 + 3, none⟩ = some (.int .i64 v.2.2.2)) ∧ W.cell? ⟨b', o' + k * 4, none⟩ = some (.int .i64 v.1) ∧ W.cell? ⟨b', o' + k * 4 + 1, none⟩ = some (.string v.2.1) ∧ W.cell? ⟨b', o' + k * 4 + 2, none⟩ = some (.int .i64 v.2.2.1) ∧ W.cell? ⟨b', o' + k * 4 + 3, none⟩ = some (.int .i64 v.2.2.2)) := fun W h =>
        ⟨⟨(h.cell (p := ⟨b, o + k * 4, none⟩) hbl).trans c0, (h.cell (p := ⟨b, o + k * 4 + 1, none⟩) hbl).trans c1, (h.cell (p := ⟨b, o + k * 4 + 2, none⟩) hbl).trans c2, (h.cell (p := ⟨b, o + k * 4 + 3, none⟩) hbl).trans c3⟩, (h.cell (p := ⟨b', o' + k * 4, none⟩) hbl').trans d0, (h.cell (p := ⟨b', o' + k * 4 + 1, none⟩) hbl').trans d1, (h.cell (p := ⟨b', o' + k * 4 + 2, none⟩) hbl').trans d2, (h.cell (p := ⟨b', o' + k * 4 + 3, none⟩) hbl').trans d3⟩
      have hlt' : (k : Int) < (xs.length : Int) := by omega
      have hge' : (0 : Int) ≤ (k : Int) := by omega
      clear hv hR hR' hc hc' c0 c1 c2 c3 d0 d1 d2 d3 hbl hbl'
      go_wp2_with fail
      go_region_held3 (fun w' => (w'.cell? ⟨b, o + k * 4, none⟩ = some (.int .i64 v.1) ∧ w'.cell? ⟨b, o + k * 4 + 1, none⟩ = some (.string v.2.1) ∧ w'.cell? ⟨b, o + k * 4 + 2, none⟩ = some (.int .i64 v.2.2.1) ∧ w'.cell? ⟨b, o + k * 4 + 3, none⟩ = some (.int .i64 v.2.2.2)) ∧ w'.cell? ⟨b', o' + k * 4, none⟩ = some (.int .i64 v.1) ∧ w'.cell? ⟨b', o' + k * 4 + 1, none⟩ = some (.string v.2.1) ∧ w'.cell? ⟨b', o' + k * 4 + 2, none⟩ = some (.int .i64 v.2.2.1) ∧ w'.cell? ⟨b', o' + k * 4 + 3, none⟩ = some (.int .i64 v.2.2.2))
        (first | (with_reducible exact HC _ HB) | (with_reducible exact HC _ HB.drew))
        (first | (go_at_call 15; refine (eqToken_same _ _ _ _ _).mono ?_; rintro e w1 ⟨rfl, hb1⟩; (first | (have HB := bcall HB hb1 HB.size) | (have HB := bcall HB.drew hb1 HB.size))))
      clear HC
      go_wp2
      go_roundw
      case rel => exact ⟨k + 1, by omega, by go_num, HB⟩
      case measure => simp [intOf]; omega
    · clear hR hR'
      go_wp2
      go_ret
      exact ⟨rfl, HB⟩


theorem made4 (a b c d : Value) (n : Nat) : ∀ (k j : Nat), k < n → j < 4 → ((madeCells #[a, b, c, d] (n * 4)).toList)[k * 4 + j]? = ([a, b, c, d] : List Value)[j]? := by
  intro k j hk hj
  have hlt : k * 4 + j < n * 4 := by omega
  have e : (k * 4 + j) % 4 = j := by omega
  have : j = 0 ∨ j = 1 ∨ j = 2 ∨ j = 3 := by omega
  rcases this with rfl | rfl | rfl | rfl <;>
    (simp only [madeCells, Array.toList_map, Array.toList_range, List.getElem?_map]
     rw [List.getElem?_range (by omega)]
     simp only [Option.map_some]
     simp [e])
def zTk : Tk := (0, ByteArray.empty, 0, 0)
theorem made_tok (n : Nat) : (madeCells #[.int .i64 0, .string ⟨#[]⟩, .int .i64 0, .int .i64 0] (n * 4)).toList = (List.replicate n zTk).flatMap tkg := by
  apply List.ext_getElem?
  intro i
  by_cases h : i < n * 4
  · obtain ⟨k, j, rfl, hj⟩ : ∃ k j, i = k * 4 + j ∧ j < 4 := ⟨i / 4, i % 4, by omega, by omega⟩
    have hk : k < n := by omega
    rw [made4 _ _ _ _ n k j hk hj, flat_get tkg_len _ k j (by simpa using hk) hj, List.getElem_replicate]
    rfl
  · rw [List.getElem?_eq_none (by simp [madeCells]; omega), List.getElem?_eq_none (by rw [flat_len tkg_len]; simp; omega)]
def halfT (xs : List Tk) (k : Nat) : List Tk := xs.take k ++ List.replicate (xs.length - k) zTk
theorem halfT_zero (xs : List Tk) : halfT xs 0 = List.replicate xs.length zTk := by simp [halfT]
theorem halfT_all (xs : List Tk) : halfT xs xs.length = xs := by simp [halfT]
theorem halfT_len (xs : List Tk) (k : Nat) (h : k ≤ xs.length) : (halfT xs k).length = xs.length := by simp [halfT]; omega
theorem halfT_step (xs : List Tk) (k : Nat) (h : k < xs.length) : (halfT xs k).set k xs[k] = halfT xs (k + 1) := by
  unfold halfT
  rw [List.take_succ_eq_append_getElem h, List.set_append_right _ _ (by simp; omega)]
  have e : xs.length - k = (xs.length - (k + 1)) + 1 := by omega
  rw [e, List.replicate_succ]
  simp only [List.length_take, Nat.min_eq_left (Nat.le_of_lt h), Nat.sub_self, List.set_cons_zero, List.append_assoc, List.cons_append, List.nil_append]


def SzTok (L n : Nat) (w : World) (e : Ending) (w' : World) : Prop := ∃ r : Int, e = .returned (.int .i64 r) ∧ (0 ≤ r → n ≤ L) ∧ r ≤ L ∧ -1 ≤ r ∧ Below w.heap.size w w'


set_option maxHeartbeats 4000000 in
theorem markTokS_any (A : Option Addr) (c base k : Nat) (xs : List Tk) (w : World) (ho : w.ownsRow base 31 4 (.slice A xs.length c) xs.length (xs.flatMap tkg)) (hbase : base ≤ w.heap.size) (hk1 : 1 ≤ k) (hk2 : k + 4 * xs.length ≤ 4611686018427387904) :
    Calls Tryd.prog 8 #[.slice A xs.length c, .int .i64 k] w fun e w' => e = .returned (.int .i64 ((k + 4 * xs.length : Nat) : Int)) ∧ w'.ownsRow base 31 4 (.slice A xs.length c) xs.length ((marks4 k xs.length).flatMap tkg) ∧ w.grownBy w' (Value.slice A xs.length c).ownBlock := by
  have HO := Lib.hid ho
  clear ho
  go_enter Tryd.func8, Tryd.ntmps8
  go_wp2
  go_loopw [1, 5] (fun m i wr => ∃ j : Nat, j ≤ xs.length ∧ i = .int .i64 j ∧ m = .int .i64 ((k + 4 * j : Nat) : Int) ∧ wr.ownsRow base 31 4 (.slice A xs.length c) xs.length ((markI4 k j xs).flatMap tkg) ∧ w.grownBy wr (Value.slice A xs.length c).ownBlock) (fun _ i _ => xs.length - (intOf i).toNat)
  case atStart => exact ⟨0, Nat.zero_le _, rfl, rfl, by rw [markI4_zero]; exact HO.out, gb_refl _ _⟩
  case round =>
    obtain ⟨j, hj, rfl, rfl, hown, hb⟩ := hrel
    clear HO
    have HO := Lib.hid hown
    have HB := Lib.hid hb
    clear hown hb
    by_cases hlt : j < xs.length
    · obtain ⟨A0, hA⟩ : ∃ g, A = some ⟨g, 0, none⟩ := by
        rcases HO.out.2 with ⟨h, h0⟩ | ⟨g, cap, cur, h, _⟩
        · omega
        · injection h with h; exact ⟨g, h⟩
      subst hA
      have hge := own_block HO.out A0 rfl
      obtain ⟨x, y, z, p, d0, d1, d2, d3⟩ := own_tok HO.out (markI4_len _ _ _ hj) hlt
      have f0 := HO.out.frozenAt (j * 4)
      have ho1 := (HO.out.stored (j * 4) (.int .i64 ((k + 4 * j : Nat) : Int))).1
      have HBg : w.grownBy wr (some A0) := HB.out
      have hb1 := gb_set (i := j * 4) HBg (.int .i64 ((k + 4 * j : Nat) : Int))
      obtain ⟨m, hm⟩ : ∃ m : Int, m = ((k + 4 * j : Nat) : Int) := ⟨_, rfl⟩
      have hct := fun W : World => markText_any (k + 4 * j + 1) W (by omega) (by omega)
      have e1 : ((k + 4 * j + 1 : Nat) : Int) = m + 1 := by omega
      rw [e1] at hct
      rw [← hm] at ho1 hb1 ⊢
      have hmb : 0 ≤ m ∧ m ≤ 4611686018427387904 := by omega
      have hsz : base ≤ wr.heap.size := Nat.le_trans hbase HB.out.size
      have HO1 := Lib.hid ho1
      have HB1 := Lib.hid hb1
      have HCT := Lib.hid hct
      have HM := Lib.hid hm
      have HSZ := Lib.hid hsz
      have hlt' : (j : Int) < (xs.length : Int) := by omega
      have hge' : (0 : Int) ≤ (j : Int) := by omega
      clear ho1 hb1 hct hm HO HB HBg d1 d2 d3 e1 hsz
      go_wp2_with fail
      refine (HCT.out _).mono ?_
      rintro e w2 ⟨rfl, hb2⟩
      obtain ⟨mk, hmk⟩ : ∃ mk, mk = markP (k + 4 * j + 1) := ⟨_, rfl⟩
      have ho2 := own_keep' HO1.out hb2
      have hb2' := gb_trans HB1.out (gb_of_below (row := some A0) hb2)
      clear HO1 HB1 hb2 d0 f0
      have hl4 : ((markI4 k j xs).flatMap tkg).length = xs.length * 4 := by rw [flat_len tkg_len, markI4_len _ _ _ hj]
      obtain ⟨d1, d2, d3⟩ : (∃ v, w2.cell? ⟨A0, j * 4 + 1, none⟩ = some v) ∧ (∃ v, w2.cell? ⟨A0, j * 4 + 2, none⟩ = some v) ∧ (∃ v, w2.cell? ⟨A0, j * 4 + 3, none⟩ = some v) := by
        have g : ∀ i, i < xs.length * 4 → ∃ v, w2.cell? ⟨A0, i, none⟩ = some v := fun i hi => ⟨_, (ho2.cellAt i hi).trans (List.getElem?_eq_getElem (by simp [hl4]; omega))⟩
        exact ⟨g _ (by omega), g _ (by omega), g _ (by omega)⟩
      obtain ⟨v1, d1⟩ := d1
      obtain ⟨v2, d2⟩ := d2
      obtain ⟨v3, d3⟩ := d3
      have f1 := ho2.frozenAt (j * 4 + 1)
      have f2 := ho2.frozenAt (j * 4 + 2)
      have f3 := ho2.frozenAt (j * 4 + 3)
      have e2 : ((k + 4 * j + 2 : Nat) : Int) = m + 1 + 1 := by have := HM.out; omega
      have e3 : ((k + 4 * j + 3 : Nat) : Int) = m + 1 + 1 + 1 := by have := HM.out; omega
      have e5 : ((k + 4 * (j + 1) : Nat) : Int) = m + 1 + 1 + 1 + 1 := by have := HM.out; omega
      have hs := (((ho2.stored (j * 4 + 1) (.string (markP (k + 4 * j + 1)))).1.stored (j * 4 + 2) (.int .i64 ((k + 4 * j + 2 : Nat) : Int))).1.stored (j * 4 + 3) (.int .i64 ((k + 4 * j + 3 : Nat) : Int))).1
      rw [HM.out] at hs
      have hv := tkg_set (markI4 k j xs) j (mk4 k j)
      dsimp only [mk4] at hv
      have hst := markI4_step k j xs hlt
      dsimp only [mk4] at hst
      rw [hv, hst] at hs
      have hs' := gb_set (i := j * 4 + 3) (gb_set (i := j * 4 + 2) (gb_set (i := j * 4 + 1) hb2' (.string (markP (k + 4 * j + 1)))) (.int .i64 ((k + 4 * j + 2 : Nat) : Int))) (.int .i64 ((k + 4 * j + 3 : Nat) : Int))
      rw [← hmk, e2, e3] at hs hs'
      rw [← hmk]
      have HS := Lib.hid hs
      have HS' := Lib.hid hs'
      have HE5 := Lib.hid e5
      clear hs hs' hv hst e2 e3 e5 ho2 hb2' hmk HM HCT hl4
      go_wp2
      go_roundw
      case rel => exact ⟨j + 1, by omega, by go_num, by rw [HE5.out], HS.out, HS'.out⟩
      case measure => simp [intOf]; omega
    · have e : j = xs.length := by omega
      have HO2 : Hid (wr.ownsRow base 31 4 (.slice A xs.length c) xs.length ((marks4 k xs.length).flatMap tkg)) := by have := HO.out; rw [e, markI4_all] at this; exact this
      have HE := Lib.hid e
      clear e HO
      go_wp2
      go_ret
      exact ⟨ret_int4 (by have := HE.out; omega), HO2.out, HB.out⟩

set_option maxHeartbeats 4000000 in
theorem heldTokS_any (A : Option Addr) (c k n : Nat) (w : World) (hR : RowC 4 tkg w w.heap.size A (marks4 k n)) (hk1 : 1 ≤ k) (hk2 : k + 4 * n ≤ 4611686018427387904) :
    Calls Tryd.prog 9 #[.slice A n c, .int .i64 k] w fun e w' => e = .returned (.int .i64 ((k + 4 * n : Nat) : Int)) ∧ Below w.heap.size w w' := by
  go_enter Tryd.func9, Tryd.ntmps9
  go_wp2
  go_loopw [1, 5] (fun m i wr => ∃ j : Nat, j ≤ n ∧ i = .int .i64 j ∧ m = .int .i64 ((k + 4 * j : Nat) : Int) ∧ Below w.heap.size w wr) (fun _ i _ => n - (intOf i).toNat)
  case atStart => exact ⟨0, Nat.zero_le _, rfl, rfl, Below.refl _ _⟩
  case round =>
    obtain ⟨j, hj, rfl, rfl, hb⟩ := hrel
    by_cases hlt : j < n
    · obtain ⟨b, o, rfl, hbl, hc⟩ := hR.at (k := j) (by rw [marks4_len]; exact hlt)
      rw [marks4_at] at hc
      obtain ⟨c0, c1, c2, c3⟩ := tkg_at hc
      dsimp only [mk4] at c0 c1 c2 c3
      have hct := fun W : World => markText_any (k + 4 * j + 1) W (by omega) (by omega)
      obtain ⟨m, hm⟩ : ∃ m : Int, m = ((k + 4 * j : Nat) : Int) := ⟨_, rfl⟩
      have e1 : ((k + 4 * j + 1 : Nat) : Int) = m + 1 := by omega
      have e2 : ((k + 4 * j + 2 : Nat) : Int) = m + 1 + 1 := by omega
      have e3 : ((k + 4 * j + 3 : Nat) : Int) = m + 1 + 1 + 1 := by omega
      have e5 : ((k + 4 * (j + 1) : Nat) : Int) = m + 1 + 1 + 1 + 1 := by omega
      obtain ⟨x, hx⟩ : ∃ x, x = markP (k + 4 * j + 1) := ⟨_, rfl⟩
      rw [e1, ← hx] at hct
      rw [← hm] at c0 ⊢
      rw [← hx] at c1
      rw [e2] at c2
      rw [e3] at c3
      have hmb : 0 ≤ m ∧ m ≤ 4611686018427387904 := by omega
      have HC : ∀ W, Below w.heap.size w W → (W.cell? ⟨b, o + j * 4, none⟩ = some (.int .i64 m) ∧ W.cell? ⟨b, o + j * 4 + 1, none⟩ = some (.string x) ∧ W.cell? ⟨b, o + j * 4 + 2, none⟩ = some (.int .i64 (m + 1 + 1)) ∧ W.cell? ⟨b, o + j * 4 + 3, none⟩ = some (.int .i64 (m + 1 + 1 + 1))) := fun W h =>
        ⟨(h.cell (p := ⟨b, o + j * 4, none⟩) hbl).trans c0, (h.cell (p := ⟨b, o + j * 4 + 1, none⟩) hbl).trans c1, (h.cell (p := ⟨b, o + j * 4 + 2, none⟩) hbl).trans c2, (h.cell (p := ⟨b, o + j * 4 + 3, none⟩) hbl).trans c3⟩
      have HE5 := Lib.hid e5
      have HCT := Lib.hid hct
      have hlt' : (j : Int) < (n : Int) := by omega
      have hge' : (0 : Int) ≤ (j : Int) := by omega
      obtain ⟨c0, c1, c2, c3⟩ := HC wr hb
      have HB := Lib.hid hb
      clear hR e1 e2 e3 e5 hm hc hct hx hb
      clear c0 c1 c2 c3
      obtain ⟨c0, c1, c2, c3⟩ := HC wr HB.out
      have HCC := Lib.hid HC
      have HB9 := Lib.hid HB.out
      clear HC
      go_wp2_with fail
      go_region_held3 (fun w' => w'.cell? ⟨b, o + j * 4 + 1, none⟩ = some (.string x) ∧ Below w.heap.size w w') (first | exact ⟨c1, HB.out.drew⟩ | exact keep_stepT (a := ⟨b, o + j * 4 + 1, none⟩) hbl ⟨c1, HB.out⟩ (by assumption) | exact keep_stepT (a := ⟨b, o + j * 4 + 1, none⟩) hbl (by assumption) (by assumption))
        (first | (go_at_call 16; refine (HCT.out _).mono ?_; rintro e w' ⟨rfl, hbm⟩))
      all_goals
        have HB2 : Hid (Below w.heap.size w w') := Lib.hid (And.right (by assumption))
        clear hbm c0 c1 c2 c3
        obtain ⟨c0, c1, c2, c3⟩ := HCC.out w' HB2.out
        go_wp2
        go_roundw
        case rel => exact ⟨j + 1, by omega, by go_num, by rw [HE5.out], HB2.out⟩
        case measure => simp [intOf]; omega
    · have HE : Hid (j = n) := Lib.hid (by omega)
      have HB := Lib.hid hb
      clear hR hb
      go_wp2
      go_ret
      exact ⟨ret_int4 (by have := HE.out; omega), HB.out⟩
end Go.Proofs.YtkkjkbloappdhaaDoor
