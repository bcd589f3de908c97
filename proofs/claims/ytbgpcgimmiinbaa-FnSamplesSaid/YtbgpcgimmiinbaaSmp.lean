/- Samples as values; the laws own helpers on samples and on slices of them. -/
import Derived.Test.YtbgpcgimmiinbaaProg
import Derived.Test.YtbgpcgimmiinbaaInts
import Derived.Test.YtbgpcgimmiinbaaVbox
import Derived.Test.YtbgpcgimmiinbaaHeld
import Derived.Test.YtbgpcgimmiinbaaMem
import Derived.Test.YtbgpcgimmiinbaaFlat
import Derived.Test.YtbgpcgimmiinbaaRowC
import Derived.WalkKit
import Derived.WalkSpells
import Derived.WalkLawsBesides
import Derived.Lib.Hide
import Derived.Deep.RegionHeld3
import Derived.Deep.QuietTactic
import Derived.BigQuiet
import Derived.Handy
import Derived.Deep.DeepCutAuto
import Derived.Laws.RangeAny
namespace Go.Proofs.Ytbgpcgimmiinbaa
open Go.RowKit

abbrev smp (a b c d e : Int) : Value := .agg #[.int .i64 a, .int .i64 b, .int .i64 c, .int .i64 d, .int .i64 e]
abbrev S5 := Int × Int × Int × Int × Int
def sg (v : S5) : List Value := [.int .i64 v.1, .int .i64 v.2.1, .int .i64 v.2.2.1, .int .i64 v.2.2.2.1, .int .i64 v.2.2.2.2]
theorem sg_len (v : S5) : (sg v).length = 5 := rfl
abbrev s5v (v : S5) : Value := smp v.1 v.2.1 v.2.2.1 v.2.2.2.1 v.2.2.2.2
def SmpOut (a b c d e : Int) (w : World) (x : Ending) (w' : World) : Prop := x = .returned (smp a b c d e) ∧ Below w.heap.size w w'
def BoolS (b : Bool) (w : World) (x : Ending) (w' : World) : Prop := x = .returned (.bool b) ∧ Below w.heap.size w w'
theorem sg_at {w : World} {b o : Nat} {v : S5} (h : ∀ j u, (sg v)[j]? = some u → w.cell? ⟨b, o + j, none⟩ = some u) :
    w.cell? ⟨b, o, none⟩ = some (.int .i64 v.1) ∧ w.cell? ⟨b, o + 1, none⟩ = some (.int .i64 v.2.1) ∧ w.cell? ⟨b, o + 2, none⟩ = some (.int .i64 v.2.2.1) ∧ w.cell? ⟨b, o + 3, none⟩ = some (.int .i64 v.2.2.2.1) ∧ w.cell? ⟨b, o + 4, none⟩ = some (.int .i64 v.2.2.2.2) :=
  ⟨h 0 _ rfl, h 1 _ rfl, h 2 _ rfl, h 3 _ rfl, h 4 _ rfl⟩
theorem sg_set (xs : List S5) : ∀ (k : Nat) (v : S5), (((((xs.flatMap sg).set (k * 5) (.int .i64 v.1)).set (k * 5 + 1) (.int .i64 v.2.1)).set (k * 5 + 2) (.int .i64 v.2.2.1)).set (k * 5 + 3) (.int .i64 v.2.2.2.1)).set (k * 5 + 4) (.int .i64 v.2.2.2.2) = (xs.set k v).flatMap sg := by
  induction xs with
  | nil => intro k v; simp
  | cons x xs ih =>
    intro k v
    match k with
    | 0 => simp [sg]
    | k + 1 =>
      have := ih k v
      simp only [List.flatMap_cons, List.set_cons_succ]
      rw [← this]
      have e0 : (k + 1) * 5 = k * 5 + 1 + 1 + 1 + 1 + 1 := by omega
      rw [e0]
      simp [sg]
theorem infoSmp : (Try.prog.info? 31).map (fun i => (i.zero, i.size, i.bytes)) = some (some (smp 0 0 0 0 0), 5, 40) := by kernel_rfl
def SmpsOut (xs : List S5) (w : World) (e : Ending) (w' : World) : Prop :=
  ∃ (A : Option Addr) (c : Nat), e = .returned (.slice A xs.length c) ∧ w'.ownsRow w.heap.size 31 5 (.slice A xs.length c) xs.length (xs.flatMap sg) ∧ Below w.heap.size w w'
theorem wpList_app5 {P : Program} {ops : Array Oper} {rest : List Oper} {o : Oper} {a : Act} {Q : Exit → Act → World → Prop} (w0 : World) (hgd : o.guard = none) (s x : Operand) (t : TypeId)
    (ho : o.op = .call { callee := .builtin .append, args := #[s, x], argTypes := #[t, t] }) (base : Nat) (e : TypeId) (z : Value) (bytes : Nat)
    (ht : P.underlying t = some (.slice e)) (hinfo : (P.info? e).map (fun i => (i.zero, i.size, i.bytes)) = some (some z, 5, bytes)) (hzs : z.cells.size = 5)
    (v : Value) (n : Nat) (xs : List Value) (hs : a.eval s = v) (hown : w0.ownsRow base e 5 v n xs) (u0 u1 u2 u3 u4 : Value) (hx : a.eval x = .slice (some ⟨w0.heap.size, 0, none⟩) 1 1) (hu : u0.oneCell' = true ∧ u1.oneCell' = true ∧ u2.oneCell' = true ∧ u3.oneCell' = true ∧ u4.oneCell' = true)
    (h63 : n + 1 ≤ maxLen) (hbytes : (n + 1) * bytes ≤ 140737488355328) (hbase : base ≤ w0.heap.size)
    (h : ∀ v' w', w'.ownsRow base e 5 v' (n + 1) (xs ++ [u0, u1, u2, u3, u4]) → w0.grownBy w' v.ownBlock → wpList P ops Q rest (a.put o.dst v') w') : wpList P ops Q (o :: rest) a (w0.alloc (.cells #[u0, u1, u2, u3, u4] e)) := by
  obtain ⟨i0, hi, hz0, hz1, hz2⟩ := info_parts hinfo
  refine wpList_append_own _ hgd s x t ho base e i0 z 5 bytes ht hi hz0 hz1 hz2 hzs (by omega) v n xs hs (hown.alloc _) ⟨w0.heap.size, 0, none⟩ 1 1 [u0, u1, u2, u3, u4] hx rfl ?_ ?_ h63 hbytes (by simp; omega) ?_
  · intro j y hj
    have M := Mbox.new w0 #[u0, u1, u2, u3, u4] e
    have := M.c j hj
    rw [Addr.add_mid, Nat.zero_add]
    exact this
  · intro y hy
    simp at hy
    rcases hy with rfl | rfl | rfl | rfl | rfl
    · exact hu.1
    · exact hu.2.1
    · exact hu.2.2.1
    · exact hu.2.2.2.1
    · exact hu.2.2.2.2
  · intro v' w' h1 h2 _
    exact h v' w' h1 ⟨h2.os, h2.tape, h2.output, Nat.le_trans (by simp) h2.size, fun k hk hr => (h2.block k (by simp; omega) hr).trans (Below.heap_alloc w0 _ k hk)⟩
theorem own_smp {w : World} {base : Nat} {e : TypeId} {g n cap : Nat} {xs : List S5} (h : w.ownsRow base e 5 (.slice (some ⟨g, 0, none⟩) n cap) n (xs.flatMap sg)) (hn : xs.length = n) {k : Nat} (hk : k < n) :
    ∃ x y z p q : Int, w.cell? ⟨g, k * 5, none⟩ = some (.int .i64 x) ∧ w.cell? ⟨g, k * 5 + 1, none⟩ = some (.int .i64 y) ∧ w.cell? ⟨g, k * 5 + 2, none⟩ = some (.int .i64 z) ∧ w.cell? ⟨g, k * 5 + 3, none⟩ = some (.int .i64 p) ∧ w.cell? ⟨g, k * 5 + 4, none⟩ = some (.int .i64 q) := by
  have hk' : k < xs.length := by omega
  have h0 := h.cellAt (k * 5) (by omega)
  have h1 := h.cellAt (k * 5 + 1) (by omega)
  have h2 := h.cellAt (k * 5 + 2) (by omega)
  have h3 := h.cellAt (k * 5 + 3) (by omega)
  have h4 := h.cellAt (k * 5 + 4) (by omega)
  rw [← Nat.add_zero (k * 5), flat_get sg_len xs k 0 hk' (by omega)] at h0
  rw [flat_get sg_len xs k 1 hk' (by omega)] at h1
  rw [flat_get sg_len xs k 2 hk' (by omega)] at h2
  rw [flat_get sg_len xs k 3 hk' (by omega)] at h3
  rw [flat_get sg_len xs k 4 hk' (by omega)] at h4
  exact ⟨_, _, _, _, _, h0, h1, h2, h3, h4⟩
theorem Held.laterP5 {w W W' : World} {bs : List (Nat × List Value)} {B : Nat} (h : Held w W bs) (hb : Below B W W') (hB : w.heap.size ≤ B) (hk : ∀ p ∈ bs, p.1 < B) : Held w W' bs :=
  ⟨h.1.trans (hb.mono hB), fun i k vs e => (h.2 i k vs e).keep fun _ => hb.block k (hk (k, vs) (List.mem_of_getElem? e))⟩
theorem rowC5_drew {α : Type} {n : Nat} {g : α → List Value} {w : World} {A : Option Addr} {xs : List α} (h : RowC n g w w.heap.size A xs) : RowC n g w.drew w.drew.heap.size A xs := h.keep fun _ _ => rfl
/-- the marks -/
def mk5 (k i : Nat) : S5 := (((k + 5 * i : Nat) : Int), ((k + 5 * i + 1 : Nat) : Int), ((k + 5 * i + 2 : Nat) : Int), ((k + 5 * i + 3 : Nat) : Int), ((k + 5 * i + 4 : Nat) : Int))
def marks5 (k n : Nat) : List S5 := (List.range n).map (mk5 k)
theorem marks5_len (k n : Nat) : (marks5 k n).length = n := by simp [marks5]
theorem marks5_at (k n i : Nat) (h : i < (marks5 k n).length) : (marks5 k n)[i] = mk5 k i := by simp [marks5]
def markI5 (k i : Nat) (xs : List S5) : List S5 := marks5 k i ++ xs.drop i
theorem markI5_zero (k : Nat) (xs : List S5) : markI5 k 0 xs = xs := by simp [markI5, marks5]
theorem markI5_all (k : Nat) (xs : List S5) : markI5 k xs.length xs = marks5 k xs.length := by simp [markI5]
theorem markI5_len (k i : Nat) (xs : List S5) (h : i ≤ xs.length) : (markI5 k i xs).length = xs.length := by simp [markI5, marks5_len]; omega
theorem markI5_step (k i : Nat) (xs : List S5) (h : i < xs.length) : (markI5 k i xs).set i (mk5 k i) = markI5 k (i + 1) xs := by
  unfold markI5
  rw [List.set_append_right _ _ (by rw [marks5_len]; exact Nat.le_refl _), marks5_len, Nat.sub_self, List.drop_eq_getElem_cons h, List.set_cons_zero]
  have : marks5 k (i + 1) = marks5 k i ++ [mk5 k i] := by
    unfold marks5; rw [List.range_succ, List.map_append]; rfl
  rw [this, List.append_assoc]; rfl
theorem ret_int5 {a b : Int} (h : a = b) : Ending.returned (.int .i64 a) = .returned (.int .i64 b) := by rw [h]

set_option maxHeartbeats 2000000 in
theorem toSample_any (a b c d e : Int) (w : World) :
    Calls Try.prog 29 #[smp a b c d e] w (SmpOut a b c d e w) := by
  go_enter Try.func29, Try.ntmps29
  go_wp2_with fail
  exact bodyPost_ret (v := smp a b c d e) (by simp [results, Try.results29, go_sem]) rfl ⟨rfl, by go_grown⟩

set_option maxHeartbeats 2000000 in
theorem eqSample_same (a b c d e : Int) (w : World) :
    Calls Try.prog 58 #[smp a b c d e, smp a b c d e] w (BoolS true w) := by
  go_enter Try.func58, Try.ntmps58
  go_wp2_with fail
  go_ret
  exact ⟨rfl, by go_grown⟩

set_option maxHeartbeats 4000000 in
theorem eqSmpS_same (A A' : Option Addr) (c c' : Nat) (xs : List S5) (w : World) (hR : RowC 5 sg w w.heap.size A xs) (hR' : RowC 5 sg w w.heap.size A' xs) (hl : xs.length ≤ 1099511627776) :
    Calls Try.prog 25 #[.slice A xs.length c, .slice A' xs.length c'] w fun e w' => e = .returned (.bool true) ∧ Below w.heap.size w w' := by
  go_enter Try.func25, Try.ntmps25
  go_wp2
  go_loopw [5] (fun i wr => ∃ k : Nat, k ≤ xs.length ∧ i = .int .i64 k ∧ Below w.heap.size w wr) (fun i _ => xs.length - (intOf i).toNat)
  case atStart => exact ⟨0, Nat.zero_le _, rfl, Below.refl _ _⟩
  case round =>
    obtain ⟨k, hk, rfl, HB⟩ := hrel
    by_cases hlt : k < xs.length
    · obtain ⟨b, o, rfl, hbl, hc⟩ := hR.at hlt
      obtain ⟨b', o', rfl, hbl', hc'⟩ := hR'.at hlt
      obtain ⟨c0, c1, c2, c3, c4⟩ := sg_at hc
      obtain ⟨d0, d1, d2, d3, d4⟩ := sg_at hc'
      obtain ⟨v, hv⟩ : ∃ v, v = xs[k] := ⟨_, rfl⟩
      rw [← hv] at c0 c1 c2 c3 c4 d0 d1 d2 d3 d4
      have HC : ∀ W, Below w.heap.size w W → ((W.cell? ⟨b, o + k * 5, none⟩ = some (.int .i64 v.1) ∧ W.cell? ⟨b, o + k * 5 + 1, none⟩ = some (.int .i64 v.2.1) ∧ W.cell? ⟨b, o + k * 5 + 2, none⟩ = some (.int .i64 v.2.2.1) ∧ W.cell? ⟨b, o + k * 5 + 3, none⟩ = some (.int .i64 v.2.2.2.1) ∧ W.cell? ⟨b, o + k * 5 + 4, none⟩ = some (.int .i64 v.2.2.2.2)) ∧ W.cell? ⟨b', o' + k * 5, none⟩ = some (.int .i64 v.1) ∧ W.cell? ⟨b', o' + k * 5 + 1, none⟩ = some (.int .i64 v.2.1) ∧ W.cell? ⟨b', o' + k * 5 + 2, none⟩ = some (.int .i64 v.2.2.1) ∧ W.cell? ⟨b', o' + k * 5 + 3, none⟩ = some (.int .i64 v.2.2.2.1) ∧ W.cell? ⟨b', o' + k * 5 + 4, none⟩ = some (.int .i64 v.2.2.2.2)) := fun W h =>
        ⟨⟨(h.cell (p := ⟨b, o + k * 5, none⟩) hbl).trans c0, (h.cell (p := ⟨b, o + k * 5 + 1, none⟩) hbl).trans c1, (h.cell (p := ⟨b, o + k * 5 + 2, none⟩) hbl).trans c2, (h.cell (p := ⟨b, o + k * 5 + 3, none⟩) hbl).trans c3, (h.cell (p := ⟨b, o + k * 5 + 4, none⟩) hbl).trans c4⟩, (h.cell (p := ⟨b', o' + k * 5, none⟩) hbl').trans d0, (h.cell (p := ⟨b', o' + k * 5 + 1, none⟩) hbl').trans d1, (h.cell (p := ⟨b', o' + k * 5 + 2, none⟩) hbl').trans d2, (h.cell (p := ⟨b', o' + k * 5 + 3, none⟩) hbl').trans d3, (h.cell (p := ⟨b', o' + k * 5 + 4, none⟩) hbl').trans d4⟩
      have hlt' : (k : Int) < (xs.length : Int) := by omega
      have hge' : (0 : Int) ≤ (k : Int) := by omega
      clear hv hR hR' hc hc' c0 c1 c2 c3 c4 d0 d1 d2 d3 d4 hbl hbl'
      go_wp2_with fail
      go_region_held3 (fun w' => (w'.cell? ⟨b, o + k * 5, none⟩ = some (.int .i64 v.1) ∧ w'.cell? ⟨b, o + k * 5 + 1, none⟩ = some (.int .i64 v.2.1) ∧ w'.cell? ⟨b, o + k * 5 + 2, none⟩ = some (.int .i64 v.2.2.1) ∧ w'.cell? ⟨b, o + k * 5 + 3, none⟩ = some (.int .i64 v.2.2.2.1) ∧ w'.cell? ⟨b, o + k * 5 + 4, none⟩ = some (.int .i64 v.2.2.2.2)) ∧ w'.cell? ⟨b', o' + k * 5, none⟩ = some (.int .i64 v.1) ∧ w'.cell? ⟨b', o' + k * 5 + 1, none⟩ = some (.int .i64 v.2.1) ∧ w'.cell? ⟨b', o' + k * 5 + 2, none⟩ = some (.int .i64 v.2.2.1) ∧ w'.cell? ⟨b', o' + k * 5 + 3, none⟩ = some (.int .i64 v.2.2.2.1) ∧ w'.cell? ⟨b', o' + k * 5 + 4, none⟩ = some (.int .i64 v.2.2.2.2))
        (first | (with_reducible exact HC _ HB) | (with_reducible exact HC _ HB.drew))
        (first | (go_at_call 58; refine (eqSample_same _ _ _ _ _ _).mono ?_; rintro e w1 ⟨rfl, hb1⟩; (first | (have HB := bcall HB hb1 HB.size) | (have HB := bcall HB.drew hb1 HB.size))))
      clear HC
      go_wp2
      go_roundw
      case rel => exact ⟨k + 1, by omega, by go_num, HB⟩
      case measure => simp [intOf]; omega
    · clear hR hR'
      go_wp2
      go_ret
      exact ⟨rfl, HB⟩

set_option maxHeartbeats 4000000 in
theorem markSmpS_any (A : Option Addr) (c base k : Nat) (xs : List S5) (w : World) (ho : w.ownsRow base 31 5 (.slice A xs.length c) xs.length (xs.flatMap sg)) (hk2 : k + 5 * xs.length ≤ 4611686018427387904) :
    Calls Try.prog 26 #[.slice A xs.length c, .int .i64 k] w fun e w' => e = .returned (.int .i64 ((k + 5 * xs.length : Nat) : Int)) ∧ w'.ownsRow base 31 5 (.slice A xs.length c) xs.length ((marks5 k xs.length).flatMap sg) ∧ Below base w w' := by
  have HO := Lib.hid ho
  clear ho
  go_enter Try.func26, Try.ntmps26
  go_wp2
  go_loopw [1, 5] (fun m i wr => ∃ j : Nat, j ≤ xs.length ∧ i = .int .i64 j ∧ m = .int .i64 ((k + 5 * j : Nat) : Int) ∧ wr.ownsRow base 31 5 (.slice A xs.length c) xs.length ((markI5 k j xs).flatMap sg) ∧ Below base w wr) (fun _ i _ => xs.length - (intOf i).toNat)
  case atStart => exact ⟨0, Nat.zero_le _, rfl, rfl, by rw [markI5_zero]; exact HO.out, Below.refl _ _⟩
  case round =>
    obtain ⟨j, hj, rfl, rfl, hown, hb⟩ := hrel
    clear HO
    have HO := Lib.hid hown
    have HB := Lib.hid hb
    clear hown hb
    by_cases hlt : j < xs.length
    · obtain ⟨A0, hA⟩ : ∃ g, A = some ⟨g, 0, none⟩ := by
        rcases HO.out.2 with ⟨h, h0⟩ | ⟨g, cap, cur, h, _⟩
        · omega
        · injection h with h; exact ⟨g, h⟩
      subst hA
      have hge := own_block HO.out A0 rfl
      obtain ⟨x, y, z, p, q, d0, d1, d2, d3, d4⟩ := own_smp HO.out (markI5_len _ _ _ hj) hlt
      have f0 := HO.out.frozenAt (j * 5)
      have f1 := HO.out.frozenAt (j * 5 + 1)
      have f2 := HO.out.frozenAt (j * 5 + 2)
      have f3 := HO.out.frozenAt (j * 5 + 3)
      have f4 := HO.out.frozenAt (j * 5 + 4)
      have hs := (((((HO.out.stored (j * 5) (.int .i64 ((k + 5 * j : Nat) : Int))).1.stored (j * 5 + 1) (.int .i64 ((k + 5 * j + 1 : Nat) : Int))).1.stored (j * 5 + 2) (.int .i64 ((k + 5 * j + 2 : Nat) : Int))).1.stored (j * 5 + 3) (.int .i64 ((k + 5 * j + 3 : Nat) : Int))).1.stored (j * 5 + 4) (.int .i64 ((k + 5 * j + 4 : Nat) : Int))).1
      have hv := sg_set (markI5 k j xs) j (mk5 k j)
      dsimp only [mk5] at hv
      have hst := markI5_step k j xs hlt
      dsimp only [mk5] at hst
      rw [hv, hst] at hs
      have hs' := (((((HB.out.setCell (p := ⟨A0, j * 5, none⟩) hge (.int .i64 ((k + 5 * j : Nat) : Int))).setCell (p := ⟨A0, j * 5 + 1, none⟩) hge (.int .i64 ((k + 5 * j + 1 : Nat) : Int))).setCell (p := ⟨A0, j * 5 + 2, none⟩) hge (.int .i64 ((k + 5 * j + 2 : Nat) : Int))).setCell (p := ⟨A0, j * 5 + 3, none⟩) hge (.int .i64 ((k + 5 * j + 3 : Nat) : Int))).setCell (p := ⟨A0, j * 5 + 4, none⟩) hge (.int .i64 ((k + 5 * j + 4 : Nat) : Int)))
      obtain ⟨m, hm⟩ : ∃ m : Int, m = ((k + 5 * j : Nat) : Int) := ⟨_, rfl⟩
      have e1 : ((k + 5 * j + 1 : Nat) : Int) = m + 1 := by omega
      have e2 : ((k + 5 * j + 2 : Nat) : Int) = m + 1 + 1 := by omega
      have e3 : ((k + 5 * j + 3 : Nat) : Int) = m + 1 + 1 + 1 := by omega
      have e4 : ((k + 5 * j + 4 : Nat) : Int) = m + 1 + 1 + 1 + 1 := by omega
      have e5 : ((k + 5 * (j + 1) : Nat) : Int) = m + 1 + 1 + 1 + 1 + 1 := by omega
      rw [← hm, e1, e2, e3, e4] at hs hs'
      have hmb : 0 ≤ m ∧ m ≤ 4611686018427387904 := by omega
      rw [← hm]
      have HS := Lib.hid hs
      have HS' := Lib.hid hs'
      have HE5 := Lib.hid e5
      have hlt' : (j : Int) < (xs.length : Int) := by omega
      have hge' : (0 : Int) ≤ (j : Int) := by omega
      clear hs hs' hv hst e1 e2 e3 e4 e5 hm HO HB
      go_wp2
      go_roundw
      case rel => exact ⟨j + 1, by omega, by go_num, by rw [HE5.out], HS.out, HS'.out⟩
      case measure => simp [intOf]; omega
    · have e : j = xs.length := by omega
      have HO2 : Hid (wr.ownsRow base 31 5 (.slice A xs.length c) xs.length ((marks5 k xs.length).flatMap sg)) := by have := HO.out; rw [e, markI5_all] at this; exact this
      have HE := Lib.hid e
      clear e HO
      go_wp2
      go_ret
      exact ⟨ret_int5 (by have := HE.out; omega), HO2.out, HB.out⟩

set_option maxHeartbeats 4000000 in
theorem heldSmpS_any (A : Option Addr) (c k n : Nat) (w : World) (hR : RowC 5 sg w w.heap.size A (marks5 k n)) (hk2 : k + 5 * n ≤ 4611686018427387904) :
    Calls Try.prog 27 #[.slice A n c, .int .i64 k] w fun e w' => e = .returned (.int .i64 ((k + 5 * n : Nat) : Int)) ∧ Below w.heap.size w w' := by
  go_enter Try.func27, Try.ntmps27
  go_wp2
  go_loopw [1, 5] (fun m i wr => ∃ j : Nat, j ≤ n ∧ i = .int .i64 j ∧ m = .int .i64 ((k + 5 * j : Nat) : Int) ∧ Below w.heap.size w wr) (fun _ i _ => n - (intOf i).toNat)
  case atStart => exact ⟨0, Nat.zero_le _, rfl, rfl, Below.refl _ _⟩
  case round =>
    obtain ⟨j, hj, rfl, rfl, hb⟩ := hrel
    have HB := Lib.hid hb
    clear hb
    by_cases hlt : j < n
    · obtain ⟨b, o, rfl, hbl, hc⟩ := hR.at (k := j) (by rw [marks5_len]; exact hlt)
      rw [marks5_at] at hc
      obtain ⟨c0, c1, c2, c3, c4⟩ := sg_at hc
      have c0 := (HB.out.cell (p := ⟨b, o + j * 5, none⟩) hbl).trans c0
      have c1 := (HB.out.cell (p := ⟨b, o + j * 5 + 1, none⟩) hbl).trans c1
      have c2 := (HB.out.cell (p := ⟨b, o + j * 5 + 2, none⟩) hbl).trans c2
      have c3 := (HB.out.cell (p := ⟨b, o + j * 5 + 3, none⟩) hbl).trans c3
      have c4 := (HB.out.cell (p := ⟨b, o + j * 5 + 4, none⟩) hbl).trans c4
      dsimp only [mk5] at c0 c1 c2 c3 c4
      obtain ⟨m, hm⟩ : ∃ m : Int, m = ((k + 5 * j : Nat) : Int) := ⟨_, rfl⟩
      have e1 : ((k + 5 * j + 1 : Nat) : Int) = m + 1 := by omega
      have e2 : ((k + 5 * j + 2 : Nat) : Int) = m + 1 + 1 := by omega
      have e3 : ((k + 5 * j + 3 : Nat) : Int) = m + 1 + 1 + 1 := by omega
      have e4 : ((k + 5 * j + 4 : Nat) : Int) = m + 1 + 1 + 1 + 1 := by omega
      have e5 : ((k + 5 * (j + 1) : Nat) : Int) = m + 1 + 1 + 1 + 1 + 1 := by omega
      rw [← hm] at c0 ⊢
      rw [e1] at c1
      rw [e2] at c2
      rw [e3] at c3
      rw [e4] at c4
      have hmb : 0 ≤ m ∧ m ≤ 4611686018427387904 := by omega
      have HE5 := Lib.hid e5
      have hlt' : (j : Int) < (n : Int) := by omega
      have hge' : (0 : Int) ≤ (j : Int) := by omega
      clear hR e1 e2 e3 e4 e5 hm hc
      go_wp2
      go_roundw
      case rel => exact ⟨j + 1, by omega, by go_num, by rw [HE5.out], HB.out⟩
      case measure => simp [intOf]; omega
    · have HE : Hid (j = n) := Lib.hid (by omega)
      clear hR
      go_wp2
      go_ret
      exact ⟨ret_int5 (by have := HE.out; omega), HB.out⟩
end Go.Proofs.Ytbgpcgimmiinbaa
