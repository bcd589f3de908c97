/- Tiles: the laws' helpers on them. -/
import Derived.Test.YtaelhbbfddcabaaProg
import Derived.Test.YtaelhbbfddcabaaInts
import Derived.Test.YtaelhbbfddcabaaVbox
import Derived.Test.YtaelhbbfddcabaaHeld
import Derived.Test.YtaelhbbfddcabaaMem
import Derived.Test.YtaelhbbfddcabaaFlat
import Derived.Test.YtaelhbbfddcabaaRowC
import Derived.Test.YtaelhbbfddcabaaSS
import Derived.WalkKit
import Derived.WalkSpells
import Derived.WalkLawsBesides
import Derived.Lib.Hide
import Derived.Deep.RegionHeld3
import Derived.Deep.QuietTactic
import Derived.BigQuiet
import Derived.Handy
import Derived.Deep.DeepCutAuto
import Derived.OwnWalk
import Derived.Deep.Slices
import Derived.Deep.OwnRows
import Derived.ChangeSlices
namespace Go.Proofs.Ytaelhbbfddcabaa
open Go.RowKit Go.ChangeShapes Go.WideShapes

/-- a tile as a value -/
abbrev tlv (x y z : Int) : Value := .agg #[.int .i64 x, .int .i64 y, .int .i64 z]
def TileOut (x y z : Int) (w : World) (e : Ending) (w' : World) : Prop := e = .returned (tlv x y z) ∧ Below w.heap.size w w'
/-- a struct of three fields of one cell each, opened -/
theorem open_trio {P : Program} {t : TypeId} {f0 f1 f2 : Field} (ht : P.underlying t = some (.struct #[f0, f1, f2])) (hn : P.cellsOf t = 3) (o0 : f0.offset = 0) (o1 : f1.offset = 1) (o2 : f2.offset = 2) (n0 : P.cellsOf f0.type = 1) (n1 : P.cellsOf f1.type = 1) (n2 : P.cellsOf f2.type = 1)
    {H : Type} {enc : TypeId × Value → H} {w : World} {base : Nat} {spare : Nat → Bool} {held : Bool} {r : Reach} {b0 : Nat} {v : Value} {d : DataW H} {p : List MemPlace} (hv : Value.okWide P w r b0 t v) (h : DataW.Trod enc P w base spare held t v d p) :
    ∃ v0 v1 v2 m x0 x1 x2, v = .agg #[v0, v1, v2] ∧ DataW.trod enc P w base spare held m f0.type [v0] = some x0 ∧ DataW.trod enc P w base spare held m f1.type [v1] = some x1 ∧ DataW.trod enc P w base spare held m f2.type [v2] = some x2 := by
  obtain ⟨cs, rfl, hsz⟩ := okWide_struct ht hv
  obtain ⟨fuel, hf⟩ := h
  obtain ⟨xs, m, _, _, hl, hlen, hg⟩ := DataW.trod_struct ht hf
  simp only [Value.cells] at hg
  obtain ⟨l⟩ := cs
  rw [hn] at hsz
  match l, hsz with
  | [v0, v1, v2], _ =>
    have h0 := hg 0 f0 rfl
    have h1 := hg 1 f1 rfl
    have h2 := hg 2 f2 rfl
    rw [o0, n0] at h0
    rw [o1, n1] at h1
    rw [o2, n2] at h2
    have hlen : xs.length = 3 := hlen
    exact ⟨v0, v1, v2, m, xs[0], xs[1], xs[2], rfl, by simpa [hlen] using h0, by simpa [hlen] using h1, by simpa [hlen] using h2⟩
def teqB (a b c d e f : Int) : Bool := a == d && b == e && c == f
theorem teq_in (a b c d e f : Int) (w : World) : (Op.equalIn 10000 50 (tlv a b c) (tlv d e f)).run Try.prog w = .ok (teqB a b c d e f) w := by
  have u3 := Try.underlying3
  have a3 := Try.isAgg3
  have z3 := Try.sizeOf3
  have hS : Try.prog.underlying 50 = some (.struct (Try.prog.fieldsOf 50)) := by kernel_rfl
  have hp : Try.prog.stoodInHeld 50 = false := by kernel_rfl
  rw [show (10000 : Nat) = 9999 + 1 from rfl, run_equalIn_agg w 9999 50 _ _ hS hp]
  simp only [Program.fieldsOf, Try.underlying50]
  unfold teqB
  go_simp
  by_cases h1 : a = d <;> by_cases h2 : b = e <;> by_cases h3 : c = f <;> simp [h1, h2, h3]
theorem teq_run (a b c d e f : Int) (w : World) : (binOp .eql 50 (tlv a b c) (tlv d e f)).run Try.prog w = .ok (.bool (teqB a b c d e f)) w := by
  rw [run_eql_struct, teq_in]; rfl

set_option maxHeartbeats 2000000 in
theorem toTile_any (x y z : Int) (w : World) :
    Calls Try.prog 38 #[tlv x y z] w (TileOut x y z w) := by
  go_enter Try.func38, Try.ntmps38
  go_wp2_with fail
  exact bodyPost_ret (v := tlv (x) (y) (z)) (by simp [results, Try.results38, go_sem]) rfl ⟨rfl, by go_grown⟩
set_option maxHeartbeats 2000000 in
theorem eqTile_same (x y z : Int) (w : World) :
    Calls Try.prog 29 #[tlv x y z, tlv x y z] w fun e w' => e = .returned (.bool true) ∧ Below w.heap.size w w' := by
  go_enter Try.func29, Try.ntmps29
  go_wp2_with fail
  go_ret
  exact ⟨rfl, by go_grown⟩
theorem infoTile : (Try.prog.info? 50).map (fun i => (i.zero, i.size, i.bytes)) = some (some (tlv 0 0 0), 3, 24) := by kernel_rfl
theorem madeT (z : Value) (n : Nat) : (madeCells #[z, z, z] n).toList = List.replicate n z := by
  refine List.eq_replicate_iff.2 ⟨by simp [madeCells], fun b hb => ?_⟩
  simp [madeCells] at hb
  obtain ⟨i, _, rfl⟩ := hb
  have : i % 3 = 0 ∨ i % 3 = 1 ∨ i % 3 = 2 := by omega
  rcases this with h | h | h <;> rw [h] <;> rfl
theorem replT (n : Nat) : (List.replicate n ((0, 0, 0) : V3)).flatMap vg = List.replicate (n * 3) (.int .i64 0) := by
  induction n with
  | zero => rfl
  | succ n ih => rw [List.replicate_succ, List.flatMap_cons, ih, show (n + 1) * 3 = n * 3 + 1 + 1 + 1 by omega, List.replicate_succ, List.replicate_succ, List.replicate_succ]; rfl
def halfT {α : Type} (z : α) (xs : List α) (k : Nat) : List α := xs.take k ++ List.replicate (xs.length - k) z
theorem halfT_zero {α : Type} (z : α) (xs : List α) : halfT z xs 0 = List.replicate xs.length z := by simp [halfT]
theorem halfT_all {α : Type} (z : α) (xs : List α) : halfT z xs xs.length = xs := by simp [halfT]
theorem halfT_len {α : Type} (z : α) (xs : List α) (k : Nat) (h : k ≤ xs.length) : (halfT z xs k).length = xs.length := by simp [halfT]; omega
theorem halfT_step {α : Type} (z : α) (xs : List α) (k : Nat) (h : k < xs.length) : (halfT z xs k).set k xs[k] = halfT z xs (k + 1) := by
  unfold halfT
  rw [List.take_succ_eq_append_getElem h, List.set_append_right _ _ (by simp; omega)]
  have e : xs.length - k = (xs.length - (k + 1)) + 1 := by omega
  rw [e, List.replicate_succ]
  simp only [List.length_take, Nat.min_eq_left (Nat.le_of_lt h), Nat.sub_self, List.set_cons_zero, List.append_assoc, List.cons_append, List.nil_append]
/-- three cells of a row of vectors -/
theorem own_tile {w : World} {base : Nat} {e : TypeId} {g n cap : Nat} {xs : List V3} (h : w.ownsRow base e 3 (.slice (some ⟨g, 0, none⟩) n cap) n (xs.flatMap vg)) (hn : xs.length = n) {k : Nat} (hk : k < n) :
    ∃ x y z : Int, w.cell? ⟨g, k * 3, none⟩ = some (.int .i64 x) ∧ w.cell? ⟨g, k * 3 + 1, none⟩ = some (.int .i64 y) ∧ w.cell? ⟨g, k * 3 + 2, none⟩ = some (.int .i64 z) := by
  have hk' : k < xs.length := by omega
  have h0 := h.cellAt (k * 3) (by omega)
  have h1 := h.cellAt (k * 3 + 1) (by omega)
  have h2 := h.cellAt (k * 3 + 2) (by omega)
  rw [← Nat.add_zero (k * 3), flat_get vg_len xs k 0 hk' (by omega)] at h0
  rw [flat_get vg_len xs k 1 hk' (by omega)] at h1
  rw [flat_get vg_len xs k 2 hk' (by omega)] at h2
  exact ⟨_, _, _, h0, h1, h2⟩


set_option maxHeartbeats 2000000 in
theorem toTileS_any (A : Option Addr) (c : Nat) (xs : List V3) (w : World) (hR : RowC 3 vg w w.heap.size A xs) (hl : xs.length ≤ 1099511627776) :
    Calls Try.prog 61 #[.slice A xs.length c] w fun e w' => e = .returned (.slice (some ⟨w.heap.size, 0, none⟩) xs.length xs.length) ∧ Below w.heap.size w w' ∧ w'.ownsRow w.heap.size 50 3 (.slice (some ⟨w.heap.size, 0, none⟩) xs.length xs.length) xs.length (xs.flatMap vg) := by
  obtain ⟨i0, hi, hz0, hz1, hz2⟩ := info_parts infoTile
  go_enter Try.func61, Try.ntmps61
  go_wp2_with (at_make; refine wpList_make_full _ rfl _ _ 27 rfl w.heap.size 50 i0 (tlv 0 0 0) 3 Try.underlying27 hi hz0 hz1 .i64 .i64 _ _ xs.length rfl rfl rfl rfl (by rw [hz2]; omega) (by unfold maxLen; omega) (by omega) ?_)
  intro w1 hown hgrow
  have hb0 : Below w.heap.size w w1 := (Below.refl _ _).grown hgrow (Nat.le_refl _) (fun k h => by cases h)
  have hown : w1.ownsRow w.heap.size 50 3 (.slice (some ⟨w.heap.size, 0, none⟩) xs.length xs.length) xs.length ((halfT (0, 0, 0) xs 0).flatMap vg) := by
    rw [halfT_zero, replT, ← madeT]; exact hown
  clear hgrow
  have HO := Lib.hid hown
  have HB0 := Lib.hid hb0
  clear hown hb0
  go_wp2
  go_loopw [4] (fun i wr => ∃ k : Nat, k ≤ xs.length ∧ i = .int .i64 k ∧ wr.ownsRow w.heap.size 50 3 (.slice (some ⟨w.heap.size, 0, none⟩) xs.length xs.length) xs.length ((halfT (0, 0, 0) xs k).flatMap vg) ∧ Below w.heap.size w wr) (fun i _ => xs.length - (intOf i).toNat)
  case atStart => exact ⟨0, Nat.zero_le _, rfl, HO.out, HB0.out⟩
  case round =>
    obtain ⟨k, hk, rfl, hown, hb⟩ := hrel
    clear HO HB0
    by_cases hlt : k < xs.length
    · obtain ⟨b, o, rfl, hbl, hc⟩ := hR.at hlt
      obtain ⟨c0, c1, c2⟩ := vg_at hc
      have c0 := (hb.cell (p := ⟨b, o + k * 3, none⟩) hbl).trans c0
      have c1 := (hb.cell (p := ⟨b, o + k * 3 + 1, none⟩) hbl).trans c1
      have c2 := (hb.cell (p := ⟨b, o + k * 3 + 2, none⟩) hbl).trans c2
      obtain ⟨v, hv⟩ : ∃ v, v = xs[k] := ⟨_, rfl⟩
      have HV := Lib.hid hv
      rw [← hv] at c0 c1 c2
      have hlt' : (k : Int) < (xs.length : Int) := by omega
      have hge' : (0 : Int) ≤ (k : Int) := by omega
      have HO := Lib.hid hown
      have HB := Lib.hid hb
      clear hv hR hb hown hc
      go_wp2_with fail
      refine (toTile_any _ _ _ _).mono ?_
      rintro e w2 ⟨rfl, hb2⟩
      have hb := bcall HB.out hb2 HB.out.size
      have hown := own_keep' HO.out hb2
      clear hb2 HO HB c0 c1 c2
      obtain ⟨x, y, z, d0, d1, d2⟩ := own_tile hown (halfT_len _ _ _ hk) hlt
      have f0 := hown.frozenAt (k * 3)
      have f1 := hown.frozenAt (k * 3 + 1)
      have f2 := hown.frozenAt (k * 3 + 2)
      have hs := (((hown.stored (k * 3) (.int .i64 v.1)).1.stored (k * 3 + 1) (.int .i64 v.2.1)).1.stored (k * 3 + 2) (.int .i64 v.2.2)).1
      rw [vg_set, HV.out, halfT_step _ _ _ hlt, ← HV.out] at hs
      have hs' := ((hb.setCell (p := ⟨w.heap.size, k * 3, none⟩) (Nat.le_refl _) (.int .i64 v.1)).setCell (p := ⟨w.heap.size, k * 3 + 1, none⟩) (Nat.le_refl _) (.int .i64 v.2.1)).setCell (p := ⟨w.heap.size, k * 3 + 2, none⟩) (Nat.le_refl _) (.int .i64 v.2.2)
      have HS := Lib.hid hs
      have HS' := Lib.hid hs'
      clear hb hown hs hs' HV
      go_wp2
      go_roundw
      case rel => exact ⟨k + 1, by omega, by go_num, HS.out, HS'.out⟩
      case measure => simp [intOf]; omega
    · have e : k = xs.length := by omega
      have hown : wr.ownsRow w.heap.size 50 3 (.slice (some ⟨w.heap.size, 0, none⟩) xs.length xs.length) xs.length (xs.flatMap vg) := by rw [e, halfT_all] at hown; exact hown
      have HO := Lib.hid hown
      have HB := Lib.hid hb
      clear e hown hb hR
      go_wp2
      go_ret
      exact ⟨rfl, HB.out, HO.out⟩
set_option maxHeartbeats 2000000 in
theorem eqTileS_same (A A' : Option Addr) (c c' : Nat) (xs : List V3) (w : World) (hR : RowC 3 vg w w.heap.size A xs) (hR' : RowC 3 vg w w.heap.size A' xs) (hl : xs.length ≤ 1099511627776) :
    Calls Try.prog 33 #[.slice A xs.length c, .slice A' xs.length c'] w fun e w' => e = .returned (.bool true) ∧ Below w.heap.size w w' := by
  go_enter Try.func33, Try.ntmps33
  go_wp2
  go_loopw [5] (fun i wr => ∃ k : Nat, k ≤ xs.length ∧ i = .int .i64 k ∧ Below w.heap.size w wr) (fun i _ => xs.length - (intOf i).toNat)
  case atStart => exact ⟨0, Nat.zero_le _, rfl, Below.refl _ _⟩
  case round =>
    obtain ⟨k, hk, rfl, HB⟩ := hrel
    by_cases hlt : k < xs.length
    · obtain ⟨b, o, rfl, hbl, hc⟩ := hR.at hlt
      obtain ⟨b', o', rfl, hbl', hc'⟩ := hR'.at hlt
      obtain ⟨c0, c1, c2⟩ := vg_at hc
      obtain ⟨d0, d1, d2⟩ := vg_at hc'
      obtain ⟨v, hv⟩ : ∃ v, v = xs[k] := ⟨_, rfl⟩
      rw [← hv] at c0 c1 c2 d0 d1 d2
      have HC : ∀ W, Below w.heap.size w W → (W.cell? ⟨b, o + k * 3, none⟩ = some (.int .i64 v.1) ∧ W.cell? ⟨b, o + k * 3 + 1, none⟩ = some (.int .i64 v.2.1) ∧ W.cell? ⟨b, o + k * 3 + 2, none⟩ = some (.int .i64 v.2.2) ∧ W.cell? ⟨b', o' + k * 3, none⟩ = some (.int .i64 v.1) ∧ W.cell? ⟨b', o' + k * 3 + 1, none⟩ = some (.int .i64 v.2.1) ∧ W.cell? ⟨b', o' + k * 3 + 2, none⟩ = some (.int .i64 v.2.2)) := fun W h =>
        ⟨(h.cell (p := ⟨b, o + k * 3, none⟩) hbl).trans c0, (h.cell (p := ⟨b, o + k * 3 + 1, none⟩) hbl).trans c1, (h.cell (p := ⟨b, o + k * 3 + 2, none⟩) hbl).trans c2, (h.cell (p := ⟨b', o' + k * 3, none⟩) hbl').trans d0, (h.cell (p := ⟨b', o' + k * 3 + 1, none⟩) hbl').trans d1, (h.cell (p := ⟨b', o' + k * 3 + 2, none⟩) hbl').trans d2⟩
      have hlt' : (k : Int) < (xs.length : Int) := by omega
      have hge' : (0 : Int) ≤ (k : Int) := by omega
      clear hv hR hR' hc hc' c0 c1 c2 d0 d1 d2 hbl hbl'
      go_wp2_with fail
      go_region_held3 (fun w' => w'.cell? ⟨b, o + k * 3, none⟩ = some (.int .i64 v.1) ∧ w'.cell? ⟨b, o + k * 3 + 1, none⟩ = some (.int .i64 v.2.1) ∧ w'.cell? ⟨b, o + k * 3 + 2, none⟩ = some (.int .i64 v.2.2) ∧ w'.cell? ⟨b', o' + k * 3, none⟩ = some (.int .i64 v.1) ∧ w'.cell? ⟨b', o' + k * 3 + 1, none⟩ = some (.int .i64 v.2.1) ∧ w'.cell? ⟨b', o' + k * 3 + 2, none⟩ = some (.int .i64 v.2.2))
        (first | (with_reducible exact HC _ HB) | (with_reducible exact HC _ HB.drew))
        (first | (go_at_call 29; refine (eqTile_same _ _ _ _).mono ?_; rintro e w1 ⟨rfl, hb1⟩; (first | (have HB := bcall HB hb1 HB.size) | (have HB := bcall HB.drew hb1 HB.size))))
      clear HC
      go_wp2
      go_roundw
      case rel => exact ⟨k + 1, by omega, by go_num, HB⟩
      case measure => simp [intOf]; omega
    · clear hR hR'
      go_wp2
      go_ret
      exact ⟨rfl, HB⟩
theorem szTileS_yes (A : Option Addr) (c n : Nat) (m : Int) (w : World) (h : (n : Int) ≤ m) (hm : m ≤ 4611686018427387904) :
    Calls Try.prog 58 #[.slice A n c, .int .i64 m] w fun e w' => e = .returned (.int .i64 (m - n)) ∧ w = w' := by
  go_enter Try.func58, Try.ntmps58
  go_wp2_with fail
  go_ret
  exact ⟨rfl, rfl⟩
theorem szTileS_no (A : Option Addr) (c n : Nat) (m : Int) (w : World) (h : m < (n : Int)) (h0 : 0 ≤ m) (hn : n ≤ maxLen) :
    Calls Try.prog 58 #[.slice A n c, .int .i64 m] w fun e w' => e = .returned (.int .i64 (-1)) ∧ w = w' := by
  unfold maxLen at hn
  go_enter Try.func58, Try.ntmps58
  go_wp2_with fail
  go_ret
  exact ⟨rfl, rfl⟩
/-- the marks -/
def mrkT (k n : Nat) : List V3 := (List.range n).map fun i => (((k + 3 * i : Nat) : Int), ((k + 3 * i + 1 : Nat) : Int), ((k + 3 * i + 2 : Nat) : Int))
theorem mrkT_len (k n : Nat) : (mrkT k n).length = n := by simp [mrkT]
theorem mrkT_at (k n i : Nat) (h : i < (mrkT k n).length) : (mrkT k n)[i] = (((k + 3 * i : Nat) : Int), ((k + 3 * i + 1 : Nat) : Int), ((k + 3 * i + 2 : Nat) : Int)) := by simp [mrkT]
def mrkTi (k i : Nat) (xs : List V3) : List V3 := mrkT k i ++ xs.drop i
theorem mrkTi_zero (k : Nat) (xs : List V3) : mrkTi k 0 xs = xs := by simp [mrkTi, mrkT]
theorem mrkTi_all (k : Nat) (xs : List V3) : mrkTi k xs.length xs = mrkT k xs.length := by simp [mrkTi]
theorem mrkTi_len (k i : Nat) (xs : List V3) (h : i ≤ xs.length) : (mrkTi k i xs).length = xs.length := by simp [mrkTi, mrkT_len]; omega
theorem mrkTi_step (k i : Nat) (xs : List V3) (h : i < xs.length) : (mrkTi k i xs).set i (((k + 3 * i : Nat) : Int), ((k + 3 * i + 1 : Nat) : Int), ((k + 3 * i + 2 : Nat) : Int)) = mrkTi k (i + 1) xs := by
  unfold mrkTi
  rw [List.set_append_right _ _ (by rw [mrkT_len]; exact Nat.le_refl _), mrkT_len, Nat.sub_self, List.drop_eq_getElem_cons h, List.set_cons_zero]
  have : mrkT k (i + 1) = mrkT k i ++ [(((k + 3 * i : Nat) : Int), ((k + 3 * i + 1 : Nat) : Int), ((k + 3 * i + 2 : Nat) : Int))] := by
    unfold mrkT; rw [List.range_succ, List.map_append]; rfl
  rw [this, List.append_assoc]; rfl
theorem ret_natT {a b : Nat} (h : a = b) : (Ending.returned (.int .i64 (a : Int))) = .returned (.int .i64 (b : Int)) := by rw [h]

set_option maxHeartbeats 2000000 in
theorem markTileO (A : Option Addr) (c base k : Nat) (xs : List V3) (w : World) (ho : w.ownsRow base 50 3 (.slice A xs.length c) xs.length (xs.flatMap vg)) (hk2 : k + 3 * xs.length ≤ 4611686018427387904) :
    Calls Try.prog 35 #[.slice A xs.length c, .int .i64 k] w fun e w' => e = .returned (.int .i64 ((k + 3 * xs.length : Nat) : Int)) ∧ w'.ownsRow base 50 3 (.slice A xs.length c) xs.length ((mrkT k xs.length).flatMap vg) ∧ w.grownBy w' (Value.ownBlock (.slice A xs.length c)) := by
  have HO := Lib.hid ho
  clear ho
  go_enter Try.func35, Try.ntmps35
  go_wp2
  go_loopw [1, 5] (fun m i wr => ∃ j : Nat, j ≤ xs.length ∧ i = .int .i64 j ∧ m = .int .i64 ((k + 3 * j : Nat) : Int) ∧ wr.ownsRow base 50 3 (.slice A xs.length c) xs.length ((mrkTi k j xs).flatMap vg) ∧ w.grownBy wr (Value.ownBlock (.slice A xs.length c))) (fun _ i _ => xs.length - (intOf i).toNat)
  case atStart => exact ⟨0, Nat.zero_le _, rfl, rfl, by rw [mrkTi_zero]; exact HO.out, gb_refl _ _⟩
  case round =>
    obtain ⟨j, hj, rfl, rfl, hown, hb⟩ := hrel
    clear HO
    have HO := Lib.hid hown
    have HB := Lib.hid hb
    clear hown hb
    by_cases hlt : j < xs.length
    · obtain ⟨A0, hA⟩ : ∃ g, A = some ⟨g, 0, none⟩ := by
        rcases HO.out.2 with ⟨h, h0⟩ | ⟨g, cap, cur, h, _⟩
        · omega
        · injection h with h; exact ⟨g, h⟩
      subst hA
      obtain ⟨x, y, z, d0, d1, d2⟩ := own_tile HO.out (mrkTi_len _ _ _ hj) hlt
      have f0 := HO.out.frozenAt (j * 3)
      have f1 := HO.out.frozenAt (j * 3 + 1)
      have f2 := HO.out.frozenAt (j * 3 + 2)
      have hs := (((HO.out.stored (j * 3) (.int .i64 ((k + 3 * j : Nat) : Int))).1.stored (j * 3 + 1) (.int .i64 ((k + 3 * j + 1 : Nat) : Int))).1.stored (j * 3 + 2) (.int .i64 ((k + 3 * j + 2 : Nat) : Int))).1
      have hv := vg_set (mrkTi k j xs) j (((k + 3 * j : Nat) : Int), ((k + 3 * j + 1 : Nat) : Int), ((k + 3 * j + 2 : Nat) : Int))
      dsimp only at hv
      rw [hv, mrkTi_step _ _ _ hlt] at hs
      have hs' : w.grownBy (((wr.setCell ⟨A0, j * 3, none⟩ (.int .i64 ((k + 3 * j : Nat) : Int))).setCell ⟨A0, j * 3 + 1, none⟩ (.int .i64 ((k + 3 * j + 1 : Nat) : Int))).setCell ⟨A0, j * 3 + 2, none⟩ (.int .i64 ((k + 3 * j + 2 : Nat) : Int))) (Value.ownBlock (.slice (some ⟨A0, 0, none⟩) xs.length c)) := gb_set (gb_set (gb_set HB.out _) _) _
      obtain ⟨m, hm⟩ : ∃ m : Int, m = ((k + 3 * j : Nat) : Int) := ⟨_, rfl⟩
      have e1 : ((k + 3 * j + 1 : Nat) : Int) = m + 1 := by omega
      have e2 : ((k + 3 * j + 2 : Nat) : Int) = m + 1 + 1 := by omega
      have e3 : ((k + 3 * (j + 1) : Nat) : Int) = m + 1 + 1 + 1 := by omega
      rw [← hm, e1, e2] at hs hs'
      have hmb : 0 ≤ m ∧ m ≤ 4611686018427387904 := by omega
      rw [← hm]
      have HS := Lib.hid hs
      have HS' := Lib.hid hs'
      have HE3 := Lib.hid e3
      have hlt' : (j : Int) < (xs.length : Int) := by omega
      have hge' : (0 : Int) ≤ (j : Int) := by omega
      clear hs hs' hv e1 e2 e3 hm HO HB
      go_wp2
      go_roundw
      case rel => exact ⟨j + 1, by omega, by go_num, by rw [HE3.out], HS.out, HS'.out⟩
      case measure => simp [intOf]; omega
    · have e : j = xs.length := by omega
      have HO2 : Hid (wr.ownsRow base 50 3 (.slice A xs.length c) xs.length ((mrkT k xs.length).flatMap vg)) := by have := HO.out; rw [e, mrkTi_all] at this; exact this
      have HE := Lib.hid e
      clear e HO
      go_wp2
      go_ret
      exact ⟨ret_natT (by have := HE.out; omega), HO2.out, HB.out⟩
set_option maxHeartbeats 2000000 in
theorem heldTileM (A : Option Addr) (c k n : Nat) (w : World) (hR : RowC 3 vg w w.heap.size A (mrkT k n)) (hk2 : k + 3 * n ≤ 4611686018427387904) :
    Calls Try.prog 36 #[.slice A n c, .int .i64 k] w fun e w' => e = .returned (.int .i64 ((k + 3 * n : Nat) : Int)) ∧ Below w.heap.size w w' := by
  go_enter Try.func36, Try.ntmps36
  go_wp2
  go_loopw [1, 5] (fun m i wr => ∃ j : Nat, j ≤ n ∧ i = .int .i64 j ∧ m = .int .i64 ((k + 3 * j : Nat) : Int) ∧ Below w.heap.size w wr) (fun _ i _ => n - (intOf i).toNat)
  case atStart => exact ⟨0, Nat.zero_le _, rfl, rfl, Below.refl _ _⟩
  case round =>
    obtain ⟨j, hj, rfl, rfl, hb⟩ := hrel
    have HB := Lib.hid hb
    clear hb
    by_cases hlt : j < n
    · obtain ⟨b, o, rfl, hbl, hc⟩ := hR.at (k := j) (by rw [mrkT_len]; exact hlt)
      obtain ⟨c0, c1, c2⟩ := vg_at hc
      rw [mrkT_at] at c0 c1 c2
      have c0 := (HB.out.cell (p := ⟨b, o + j * 3, none⟩) hbl).trans c0
      have c1 := (HB.out.cell (p := ⟨b, o + j * 3 + 1, none⟩) hbl).trans c1
      have c2 := (HB.out.cell (p := ⟨b, o + j * 3 + 2, none⟩) hbl).trans c2
      dsimp only at c0 c1 c2
      obtain ⟨m, hm⟩ : ∃ m : Int, m = ((k + 3 * j : Nat) : Int) := ⟨_, rfl⟩
      have e1 : ((k + 3 * j + 1 : Nat) : Int) = m + 1 := by omega
      have e2 : ((k + 3 * j + 2 : Nat) : Int) = m + 1 + 1 := by omega
      have e3 : ((k + 3 * (j + 1) : Nat) : Int) = m + 1 + 1 + 1 := by omega
      rw [← hm] at c0 ⊢
      rw [e1] at c1
      rw [e2] at c2
      have hmb : 0 ≤ m ∧ m ≤ 4611686018427387904 := by omega
      have HE3 := Lib.hid e3
      have hlt' : (j : Int) < (n : Int) := by omega
      have hge' : (0 : Int) ≤ (j : Int) := by omega
      clear hR e1 e2 e3 hm hc
      go_wp2
      go_roundw
      case rel => exact ⟨j + 1, by omega, by go_num, by rw [HE3.out], HB.out⟩
      case measure => simp [intOf]; omega
    · have HE : Hid (j = n) := Lib.hid (by omega)
      clear hR
      go_wp2
      go_ret
      exact ⟨ret_natT (by have := HE.out; omega), HB.out⟩
end Go.Proofs.Ytaelhbbfddcabaa
