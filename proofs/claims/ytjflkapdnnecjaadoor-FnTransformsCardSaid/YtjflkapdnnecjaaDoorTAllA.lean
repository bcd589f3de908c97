/- Contracts of Apply and ApplyAll in one text. -/
import Derived.Test.YtjflkapdnnecjaaDoorProg
import Derived.Test.YtjflkapdnnecjaaDoorInts
import Derived.Test.YtjflkapdnnecjaaDoorVbox
import Derived.Test.YtjflkapdnnecjaaDoorVec
import Derived.Test.YtjflkapdnnecjaaDoorHeld
import Derived.Test.YtjflkapdnnecjaaDoorMem
import Derived.Test.YtjflkapdnnecjaaDoorFlat
import Derived.Test.YtjflkapdnnecjaaDoorRowC
import Derived.Test.YtjflkapdnnecjaaDoorArr
import Derived.Test.YtjflkapdnnecjaaDoorTr
import Derived.Test.YtjflkapdnnecjaaDoorVecS
import Derived.Test.YtjflkapdnnecjaaDoorTMat
import Derived.Test.YtjflkapdnnecjaaDoorVDot
import Derived.Test.YtjflkapdnnecjaaDoorVAdd
import Derived.Test.YtjflkapdnnecjaaDoorTAw
import Derived.Test.YtjflkapdnnecjaaDoorTApp
import Derived.WalkKit
import Derived.WalkSpells
import Derived.WalkLawsBesides
import Derived.Lib.Hide
import Derived.Deep.RegionHeld3
import Derived.Deep.QuietTactic
import Derived.BigQuiet
import Derived.Handy
import Derived.Deep.DeepCutAuto
import Derived.OwnWalk
namespace Go.Proofs.YtjflkapdnnecjaaDoor
open Go.RowKit

abbrev V12 := V3 × V3 × V3 × V3
def tg (v : V12) : List Value := [.int .i64 v.1.1, .int .i64 v.1.2.1, .int .i64 v.1.2.2, .int .i64 v.2.1.1, .int .i64 v.2.1.2.1, .int .i64 v.2.1.2.2, .int .i64 v.2.2.1.1, .int .i64 v.2.2.1.2.1, .int .i64 v.2.2.1.2.2, .int .i64 v.2.2.2.1, .int .i64 v.2.2.2.2.1, .int .i64 v.2.2.2.2.2]
theorem tg_len (v : V12) : (tg v).length = 12 := rfl
def t12 : List Int → V12
  | [a, b, c, d, e, f, g, h, i, x, y, z] => ((a, b, c), (d, e, f), (g, h, i), (x, y, z))
  | _ => ((0, 0, 0), (0, 0, 0), (0, 0, 0), (0, 0, 0))
theorem tg_t12 (zs : List Int) (h : zs.length = 12) : tg (t12 zs) = zs.map (Value.int .i64) := by
  match zs, h with
  | [a, b, c, d, e, f, g, h, i, x, y, z], _ => rfl
theorem tg_at {w : World} {b o : Nat} {v : V12} (h : ∀ j u, (tg v)[j]? = some u → w.cell? ⟨b, o + j, none⟩ = some u) :
    w.cell? ⟨b, o, none⟩ = some (.int .i64 v.1.1) ∧ w.cell? ⟨b, o + 1, none⟩ = some (.int .i64 v.1.2.1) ∧ w.cell? ⟨b, o + 2, none⟩ = some (.int .i64 v.1.2.2) ∧ w.cell? ⟨b, o + 3, none⟩ = some (.int .i64 v.2.1.1) ∧ w.cell? ⟨b, o + 4, none⟩ = some (.int .i64 v.2.1.2.1) ∧ w.cell? ⟨b, o + 5, none⟩ = some (.int .i64 v.2.1.2.2) ∧ w.cell? ⟨b, o + 6, none⟩ = some (.int .i64 v.2.2.1.1) ∧ w.cell? ⟨b, o + 7, none⟩ = some (.int .i64 v.2.2.1.2.1) ∧ w.cell? ⟨b, o + 8, none⟩ = some (.int .i64 v.2.2.1.2.2) ∧ w.cell? ⟨b, o + 9, none⟩ = some (.int .i64 v.2.2.2.1) ∧ w.cell? ⟨b, o + 10, none⟩ = some (.int .i64 v.2.2.2.2.1) ∧ w.cell? ⟨b, o + 11, none⟩ = some (.int .i64 v.2.2.2.2.2) :=
  ⟨h 0 _ rfl, h 1 _ rfl, h 2 _ rfl, h 3 _ rfl, h 4 _ rfl, h 5 _ rfl, h 6 _ rfl, h 7 _ rfl, h 8 _ rfl, h 9 _ rfl, h 10 _ rfl, h 11 _ rfl⟩
theorem tg_set (xs : List V12) : ∀ (k : Nat) (v : V12), (((((((((((((xs.flatMap tg).set (k * 12) (.int .i64 v.1.1)).set (k * 12 + 1) (.int .i64 v.1.2.1)).set (k * 12 + 2) (.int .i64 v.1.2.2)).set (k * 12 + 3) (.int .i64 v.2.1.1)).set (k * 12 + 4) (.int .i64 v.2.1.2.1)).set (k * 12 + 5) (.int .i64 v.2.1.2.2)).set (k * 12 + 6) (.int .i64 v.2.2.1.1)).set (k * 12 + 7) (.int .i64 v.2.2.1.2.1)).set (k * 12 + 8) (.int .i64 v.2.2.1.2.2)).set (k * 12 + 9) (.int .i64 v.2.2.2.1)).set (k * 12 + 10) (.int .i64 v.2.2.2.2.1)).set (k * 12 + 11) (.int .i64 v.2.2.2.2.2)) = (xs.set k v).flatMap tg := by
  induction xs with
  | nil => intro k v; simp
  | cons x xs ih =>
    intro k v
    match k with
    | 0 => simp [tg]
    | k + 1 =>
      have := ih k v
      rw [show (k + 1) * 12 = k * 12 + 1 + 1 + 1 + 1 + 1 + 1 + 1 + 1 + 1 + 1 + 1 + 1 by omega]
      simp only [List.flatMap_cons, List.set_cons_succ, ← this]
      simp [tg]
theorem infoTr : (Tryd.prog.info? 26).map (fun i => (i.zero, i.size, i.bytes)) = some (some (tr 0 0 0 0 0 0 0 0 0 0 0 0), 12, 96) := by kernel_rfl
theorem made12 (z : Value) (n : Nat) : (madeCells #[z, z, z, z, z, z, z, z, z, z, z, z] n).toList = List.replicate n z := by
  refine List.eq_replicate_iff.2 ⟨by simp [madeCells], fun b hb => ?_⟩
  simp [madeCells] at hb
  obtain ⟨i, _, rfl⟩ := hb
  have : i % 12 = 0 ∨ i % 12 = 1 ∨ i % 12 = 2 ∨ i % 12 = 3 ∨ i % 12 = 4 ∨ i % 12 = 5 ∨ i % 12 = 6 ∨ i % 12 = 7 ∨ i % 12 = 8 ∨ i % 12 = 9 ∨ i % 12 = 10 ∨ i % 12 = 11 := by omega
  rcases this with h | h | h | h | h | h | h | h | h | h | h | h <;> rw [h] <;> rfl
theorem replT (n : Nat) : (List.replicate n (((0, 0, 0), (0, 0, 0), (0, 0, 0), (0, 0, 0)) : V12)).flatMap tg = List.replicate (n * 12) (.int .i64 0) := by
  induction n with
  | zero => rfl
  | succ n ih => rw [List.replicate_succ, List.flatMap_cons, ih, show (n + 1) * 12 = n * 12 + 1 + 1 + 1 + 1 + 1 + 1 + 1 + 1 + 1 + 1 + 1 + 1 by omega]; simp only [List.replicate_succ]; rfl
theorem own_tr {w : World} {base : Nat} {e : TypeId} {g n cap : Nat} {xs : List V12} (h : w.ownsRow base e 12 (.slice (some ⟨g, 0, none⟩) n cap) n (xs.flatMap tg)) (hn : xs.length = n) {k : Nat} (hk : k < n) :
    ∃ x0 x1 x2 x3 x4 x5 x6 x7 x8 x9 x10 x11 : Int, w.cell? ⟨g, k * 12, none⟩ = some (.int .i64 x0) ∧ w.cell? ⟨g, k * 12 + 1, none⟩ = some (.int .i64 x1) ∧ w.cell? ⟨g, k * 12 + 2, none⟩ = some (.int .i64 x2) ∧ w.cell? ⟨g, k * 12 + 3, none⟩ = some (.int .i64 x3) ∧ w.cell? ⟨g, k * 12 + 4, none⟩ = some (.int .i64 x4) ∧ w.cell? ⟨g, k * 12 + 5, none⟩ = some (.int .i64 x5) ∧ w.cell? ⟨g, k * 12 + 6, none⟩ = some (.int .i64 x6) ∧ w.cell? ⟨g, k * 12 + 7, none⟩ = some (.int .i64 x7) ∧ w.cell? ⟨g, k * 12 + 8, none⟩ = some (.int .i64 x8) ∧ w.cell? ⟨g, k * 12 + 9, none⟩ = some (.int .i64 x9) ∧ w.cell? ⟨g, k * 12 + 10, none⟩ = some (.int .i64 x10) ∧ w.cell? ⟨g, k * 12 + 11, none⟩ = some (.int .i64 x11) := by
  have hk' : k < xs.length := by omega
  have h0 := h.cellAt (k * 12) (by omega)
  have h1 := h.cellAt (k * 12 + 1) (by omega)
  have h2 := h.cellAt (k * 12 + 2) (by omega)
  have h3 := h.cellAt (k * 12 + 3) (by omega)
  have h4 := h.cellAt (k * 12 + 4) (by omega)
  have h5 := h.cellAt (k * 12 + 5) (by omega)
  have h6 := h.cellAt (k * 12 + 6) (by omega)
  have h7 := h.cellAt (k * 12 + 7) (by omega)
  have h8 := h.cellAt (k * 12 + 8) (by omega)
  have h9 := h.cellAt (k * 12 + 9) (by omega)
  have h10 := h.cellAt (k * 12 + 10) (by omega)
  have h11 := h.cellAt (k * 12 + 11) (by omega)
  rw [← Nat.add_zero (k * 12), flat_get tg_len xs k 0 hk' (by omega)] at h0
  rw [flat_get tg_len xs k 1 hk' (by omega)] at h1
  rw [flat_get tg_len xs k 2 hk' (by omega)] at h2
  rw [flat_get tg_len xs k 3 hk' (by omega)] at h3
  rw [flat_get tg_len xs k 4 hk' (by omega)] at h4
  rw [flat_get tg_len xs k 5 hk' (by omega)] at h5
  rw [flat_get tg_len xs k 6 hk' (by omega)] at h6
  rw [flat_get tg_len xs k 7 hk' (by omega)] at h7
  rw [flat_get tg_len xs k 8 hk' (by omega)] at h8
  rw [flat_get tg_len xs k 9 hk' (by omega)] at h9
  rw [flat_get tg_len xs k 10 hk' (by omega)] at h10
  rw [flat_get tg_len xs k 11 hk' (by omega)] at h11
  exact ⟨_, _, _, _, _, _, _, _, _, _, _, _, h0, h1, h2, h3, h4, h5, h6, h7, h8, h9, h10, h11⟩
def apV (b : Bool) (u v : Int) : Int := if b then u else v

set_option maxHeartbeats 2000000 in
theorem apply_any (a0 a1 a2 a3 a4 a5 a6 a7 a8 x y z p q r : Int) (w : World) :
    Calls Tryd.prog 16 #[tr a0 a1 a2 a3 a4 a5 a6 a7 a8 x y z, vec (p) (q) (r)] w (VecOut (apV (okT [a0, a1, a2, a3, a4, a5, a6, a7, a8] x y z) (apP a0 a1 a2 p q r x) p) (apV (okT [a0, a1, a2, a3, a4, a5, a6, a7, a8] x y z) (apP a3 a4 a5 p q r y) q) (apV (okT [a0, a1, a2, a3, a4, a5, a6, a7, a8] x y z) (apP a6 a7 a8 p q r z) r) w) := by
  cases h : okT [a0, a1, a2, a3, a4, a5, a6, a7, a8] x y z
  · exact apply_no a0 a1 a2 a3 a4 a5 a6 a7 a8 x y z p q r w h
  · exact apply_yes a0 a1 a2 a3 a4 a5 a6 a7 a8 x y z p q r w h

/-- a transform applied to a vector -/
def apT (v : V3) (x : V12) : V3 := (apV (okT [x.1.1, x.1.2.1, x.1.2.2, x.2.1.1, x.2.1.2.1, x.2.1.2.2, x.2.2.1.1, x.2.2.1.2.1, x.2.2.1.2.2] x.2.2.2.1 x.2.2.2.2.1 x.2.2.2.2.2) (apP x.1.1 x.1.2.1 x.1.2.2 v.1 v.2.1 v.2.2 x.2.2.2.1) v.1, apV (okT [x.1.1, x.1.2.1, x.1.2.2, x.2.1.1, x.2.1.2.1, x.2.1.2.2, x.2.2.1.1, x.2.2.1.2.1, x.2.2.1.2.2] x.2.2.2.1 x.2.2.2.2.1 x.2.2.2.2.2) (apP x.2.1.1 x.2.1.2.1 x.2.1.2.2 v.1 v.2.1 v.2.2 x.2.2.2.2.1) v.2.1, apV (okT [x.1.1, x.1.2.1, x.1.2.2, x.2.1.1, x.2.1.2.1, x.2.1.2.2, x.2.2.1.1, x.2.2.1.2.1, x.2.2.1.2.2] x.2.2.2.1 x.2.2.2.2.1 x.2.2.2.2.2) (apP x.2.2.1.1 x.2.2.1.2.1 x.2.2.1.2.2 v.1 v.2.1 v.2.2 x.2.2.2.2.2) v.2.2)
theorem fold_step (xs : List V12) (u : V3) (k : Nat) (h : k < xs.length) : (xs.take (k + 1)).foldl apT u = apT ((xs.take k).foldl apT u) xs[k] := by
  rw [List.take_succ_eq_append_getElem h, List.foldl_append]; rfl

theorem apply_v (x : V12) (v : V3) (w : World) : Calls Tryd.prog 16 #[tr x.1.1 x.1.2.1 x.1.2.2 x.2.1.1 x.2.1.2.1 x.2.1.2.2 x.2.2.1.1 x.2.2.1.2.1 x.2.2.1.2.2 x.2.2.2.1 x.2.2.2.2.1 x.2.2.2.2.2, vec v.1 v.2.1 v.2.2] w (VecOut (apT v x).1 (apT v x).2.1 (apT v x).2.2 w) :=
  apply_any x.1.1 x.1.2.1 x.1.2.2 x.2.1.1 x.2.1.2.1 x.2.1.2.2 x.2.2.1.1 x.2.2.1.2.1 x.2.2.1.2.2 x.2.2.2.1 x.2.2.2.2.1 x.2.2.2.2.2 v.1 v.2.1 v.2.2 w


set_option maxHeartbeats 4000000 in
theorem applyAll_any (A : Option Addr) (c : Nat) (xs : List V12) (p q r : Int) (w : World) (hR : RowC 12 tg w w.heap.size A xs) (hl : xs.length ≤ 1099511627776) :
    Calls Tryd.prog 15 #[.slice A xs.length c, vec p q r] w (VecOut (xs.foldl apT (p, q, r)).1 (xs.foldl apT (p, q, r)).2.1 (xs.foldl apT (p, q, r)).2.2 w) := by
  have HT : Held w ((w.alloc (.cells #[.int .i64 p, .int .i64 q, .int .i64 r] 24)).alloc (.cells #[.int .i64 0, .int .i64 0, .int .i64 0] 24)) [(w.heap.size + 1, [.int .i64 0, .int .i64 0, .int .i64 0]), (w.heap.size, [.int .i64 p, .int .i64 q, .int .i64 r])] := by
    have h := ((Held.nil w).new #[.int .i64 p, .int .i64 q, .int .i64 r] 24).new #[.int .i64 0, .int .i64 0, .int .i64 0] 24
    simpa only [World.size_alloc] using h
  have HT0 : Held w ((w.alloc (.cells #[.int .i64 p, .int .i64 q, .int .i64 r] 24)).alloc (.cells #[.int .i64 0, .int .i64 0, .int .i64 0] 24)) [(w.heap.size, vg ((xs.take 0).foldl apT (p, q, r))), (w.heap.size + 1, [.int .i64 0, .int .i64 0, .int .i64 0])] := HT.pick (cs := [(w.heap.size, [.int .i64 p, .int .i64 q, .int .i64 r]), (w.heap.size + 1, [.int .i64 0, .int .i64 0, .int .i64 0])]) (by simp)
  clear HT
  go_enter Tryd.func15, Tryd.ntmps15
  go_wp2
  go_loopw [9] (fun i wr => ∃ k : Nat, k ≤ xs.length ∧ i = .int .i64 k ∧ Held w wr [(w.heap.size, vg ((xs.take k).foldl apT (p, q, r))), (w.heap.size + 1, [.int .i64 0, .int .i64 0, .int .i64 0])]) (fun i _ => xs.length - (intOf i).toNat)
  case atStart => exact ⟨0, Nat.zero_le _, rfl, HT0⟩
  case round =>
    clear HT0
    obtain ⟨k, hk, rfl, HT⟩ := hrel
    by_cases hlt : k < xs.length
    · obtain ⟨b, o, rfl, hbl, hc⟩ := hR.at hlt
      have hs := fold_step xs (p, q, r) k hlt
      obtain ⟨c0, c1, c2, c3, c4, c5, c6, c7, c8, c9, c10, c11⟩ := tg_at hc
      have c0 := (HT.below.cell (p := ⟨b, o + k * 12, none⟩) hbl).trans c0
      have c1 := (HT.below.cell (p := ⟨b, o + k * 12 + 1, none⟩) hbl).trans c1
      have c2 := (HT.below.cell (p := ⟨b, o + k * 12 + 2, none⟩) hbl).trans c2
      have c3 := (HT.below.cell (p := ⟨b, o + k * 12 + 3, none⟩) hbl).trans c3
      have c4 := (HT.below.cell (p := ⟨b, o + k * 12 + 4, none⟩) hbl).trans c4
      have c5 := (HT.below.cell (p := ⟨b, o + k * 12 + 5, none⟩) hbl).trans c5
      have c6 := (HT.below.cell (p := ⟨b, o + k * 12 + 6, none⟩) hbl).trans c6
      have c7 := (HT.below.cell (p := ⟨b, o + k * 12 + 7, none⟩) hbl).trans c7
      have c8 := (HT.below.cell (p := ⟨b, o + k * 12 + 8, none⟩) hbl).trans c8
      have c9 := (HT.below.cell (p := ⟨b, o + k * 12 + 9, none⟩) hbl).trans c9
      have c10 := (HT.below.cell (p := ⟨b, o + k * 12 + 10, none⟩) hbl).trans c10
      have c11 := (HT.below.cell (p := ⟨b, o + k * 12 + 11, none⟩) hbl).trans c11
      obtain ⟨x, hx⟩ : ∃ x, x = xs[k] := ⟨_, rfl⟩
      rw [← hx] at hs c0 c1 c2 c3 c4 c5 c6 c7 c8 c9 c10 c11
      generalize (xs.take k).foldl apT (p, q, r) = u at hs HT
      have HS := Lib.hid hs
      have hlt' : (k : Int) < (xs.length : Int) := by omega
      have hge' : (0 : Int) ≤ (k : Int) := by omega
      have hz := Lib.hid (HT.box 1).lt
      clear hx hs hR hc hbl
      go_upto_region 4 with fail
      have HT := (HT.new #[.int .i64 (x.1.1), .int .i64 (x.1.2.1), .int .i64 (x.1.2.2), .int .i64 (x.2.1.1), .int .i64 (x.2.1.2.1), .int .i64 (x.2.1.2.2), .int .i64 (x.2.2.1.1), .int .i64 (x.2.2.1.2.1), .int .i64 (x.2.2.1.2.2), .int .i64 (x.2.2.2.1), .int .i64 (x.2.2.2.2.1), .int .i64 (x.2.2.2.2.2)] 26).pick (cs := [(w.heap.size, vg u), (w.heap.size + 1, [.int .i64 0, .int .i64 0, .int .i64 0]), (wr.heap.size, tg x)]) (by simp [tg])
      clear c0 c1 c2 c3 c4 c5 c6 c7 c8 c9 c10 c11
      generalize wr.alloc _ = W1 at HT ⊢
      generalize wr.heap.size = k1 at HT hz ⊢
      have c0 := (HT.box 2).c 0
      have c1 := (HT.box 2).c 1
      have c2 := (HT.box 2).c 2
      have c3 := (HT.box 2).c 3
      have c4 := (HT.box 2).c 4
      have c5 := (HT.box 2).c 5
      have c6 := (HT.box 2).c 6
      have c7 := (HT.box 2).c 7
      have c8 := (HT.box 2).c 8
      have c9 := (HT.box 2).c 9
      have c10 := (HT.box 2).c 10
      have c11 := (HT.box 2).c 11
      have d0 := (HT.box 0).c 0
      have d1 := (HT.box 0).c 1
      have d2 := (HT.box 0).c 2
      go_wp2_with fail
      refine (apply_v _ _ _).mono ?_
      rintro e w2 ⟨rfl, hb2⟩
      have HT := HT.later hb2
      clear hb2 c0 c1 c2 c3 c4 c5 c6 c7 c8 c9 c10 c11 d0 d1 d2
      have hz2 := hz.out
      have HT := HT.pick (cs := [(w.heap.size, vg u), (w.heap.size + 1, [.int .i64 0, .int .i64 0, .int .i64 0])]) (by simp)
      clear hz hz2
      have d0 := (HT.box 0).c 0
      have d1 := (HT.box 0).c 1
      have d2 := (HT.box 0).c 2
      have f0 := (HT.box 0).f 0
      have f1 := (HT.box 0).f 1
      have f2 := (HT.box 0).f 2
      have HP := ((HT.put (Nat.le_refl _) (by simp) 0 (.int .i64 (apT u x).1)).put (Nat.le_refl _) (by simp) 1 (.int .i64 (apT u x).2.1)).put (Nat.le_refl _) (by simp) 2 (.int .i64 (apT u x).2.2)
      have HH := Lib.hid HP
      clear HP HT
      go_wp2
      go_roundw
      case rel => exact ⟨k + 1, by omega, by go_num, by rw [HS.out]; exact HH.out⟩
      case measure => simp [intOf]; omega
    · have e : k = xs.length := by omega
      subst e
      rw [List.take_length] at HT
      obtain ⟨u, hu⟩ : ∃ u, u = xs.foldl apT (p, q, r) := ⟨_, rfl⟩
      rw [← hu] at HT
      have HU := Lib.hid hu
      clear hu
      have d0 := (HT.box 0).c 0
      have d1 := (HT.box 0).c 1
      have d2 := (HT.box 0).c 2
      have r0 := (HT.box 1).c 0
      have r1 := (HT.box 1).c 1
      have r2 := (HT.box 1).c 2
      have g0 := (HT.box 1).f 0
      have g1 := (HT.box 1).f 1
      have g2 := (HT.box 1).f 2
      have HW := HT.below
      clear HT
      clear hR hlt hk
      go_wp2_with fail
      exact bodyPost_ret (v := vec u.1 u.2.1 u.2.2) (by simp [results, Tryd.results15, go_sem, r0, r1, r2]) rfl ⟨by rw [HU.out], bset3 HW (by omega)⟩

end Go.Proofs.YtjflkapdnnecjaaDoor
