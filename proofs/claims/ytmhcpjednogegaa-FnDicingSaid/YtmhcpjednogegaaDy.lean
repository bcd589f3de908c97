/- Words of our own for transforms as elements of a list. -/
import Derived.Test.YtmhcpjednogegaaProg
import Derived.Test.YtmhcpjednogegaaInts
import Derived.Test.YtmhcpjednogegaaVbox
import Derived.Test.YtmhcpjednogegaaVec
import Derived.Test.YtmhcpjednogegaaHeld
import Derived.Test.YtmhcpjednogegaaMem
import Derived.Test.YtmhcpjednogegaaFlat
import Derived.Test.YtmhcpjednogegaaRowC
import Derived.Test.YtmhcpjednogegaaArr
import Derived.Test.YtmhcpjednogegaaTr
import Derived.Test.YtmhcpjednogegaaVecS
import Derived.WalkKit
import Derived.WalkSpells
import Derived.WalkLawsBesides
import Derived.Lib.Hide
import Derived.Deep.RegionHeld3
import Derived.Deep.QuietTactic
import Derived.BigQuiet
import Derived.Handy
import Derived.Deep.DeepCutAuto
import Derived.OwnWalk
namespace Go.Proofs.Ytmhcpjednogegaa
open Go.RowKit

abbrev V12 := V3 × V3 × V3 × V3
def tg (v : V12) : List Value := [.int .i64 v.1.1, .int .i64 v.1.2.1, .int .i64 v.1.2.2, .int .i64 v.2.1.1, .int .i64 v.2.1.2.1, .int .i64 v.2.1.2.2, .int .i64 v.2.2.1.1, .int .i64 v.2.2.1.2.1, .int .i64 v.2.2.1.2.2, .int .i64 v.2.2.2.1, .int .i64 v.2.2.2.2.1, .int .i64 v.2.2.2.2.2]
theorem tg_len (v : V12) : (tg v).length = 12 := rfl
def t12 : List Int → V12
  | [a, b, c, d, e, f, g, h, i, x, y, z] => ((a, b, c), (d, e, f), (g, h, i), (x, y, z))
  | _ => ((0, 0, 0), (0, 0, 0), (0, 0, 0), (0, 0, 0))
theorem tg_t12 (zs : List Int) (h : zs.length = 12) : tg (t12 zs) = zs.map (Value.int .i64) := by
  match zs, h with
  | [a, b, c, d, e, f, g, h, i, x, y, z], _ => rfl
theorem tg_at {w : World} {b o : Nat} {v : V12} (h : ∀ j u, (tg v)[j]? = some u → w.cell? ⟨b, o + j, none⟩ = some u) :
    w.cell? ⟨b, o, none⟩ = some (.int .i64 v.1.1) ∧ w.cell? ⟨b, o + 1, none⟩ = some (.int .i64 v.1.2.1) ∧ w.cell? ⟨b, o + 2, none⟩ = some (.int .i64 v.1.2.2) ∧ w.cell? ⟨b, o + 3, none⟩ = some (.int .i64 v.2.1.1) ∧ w.cell? ⟨b, o + 4, none⟩ = some (.int .i64 v.2.1.2.1) ∧ w.cell? ⟨b, o + 5, none⟩ = some (.int .i64 v.2.1.2.2) ∧ w.cell? ⟨b, o + 6, none⟩ = some (.int .i64 v.2.2.1.1) ∧ w.cell? ⟨b, o + 7, none⟩ = some (.int .i64 v.2.2.1.2.1) ∧ w.cell? ⟨b, o + 8, none⟩ = some (.int .i64 v.2.2.1.2.2) ∧ w.cell? ⟨b, o + 9, none⟩ = some (.int .i64 v.2.2.2.1) ∧ w.cell? ⟨b, o + 10, none⟩ = some (.int .i64 v.2.2.2.2.1) ∧ w.cell? ⟨b, o + 11, none⟩ = some (.int .i64 v.2.2.2.2.2) :=
  ⟨h 0 _ rfl, h 1 _ rfl, h 2 _ rfl, h 3 _ rfl, h 4 _ rfl, h 5 _ rfl, h 6 _ rfl, h 7 _ rfl, h 8 _ rfl, h 9 _ rfl, h 10 _ rfl, h 11 _ rfl⟩
theorem tg_set (xs : List V12) : ∀ (k : Nat) (v : V12), (((((((((((((xs.flatMap tg).set (k * 12) (.int .i64 v.1.1)).set (k * 12 + 1) (.int .i64 v.1.2.1)).set (k * 12 + 2) (.int .i64 v.1.2.2)).set (k * 12 + 3) (.int .i64 v.2.1.1)).set (k * 12 + 4) (.int .i64 v.2.1.2.1)).set (k * 12 + 5) (.int .i64 v.2.1.2.2)).set (k * 12 + 6) (.int .i64 v.2.2.1.1)).set (k * 12 + 7) (.int .i64 v.2.2.1.2.1)).set (k * 12 + 8) (.int .i64 v.2.2.1.2.2)).set (k * 12 + 9) (.int .i64 v.2.2.2.1)).set (k * 12 + 10) (.int .i64 v.2.2.2.2.1)).set (k * 12 + 11) (.int .i64 v.2.2.2.2.2)) = (xs.set k v).flatMap tg := by
  induction xs with
  | nil => intro k v; simp
  | cons x xs ih =>
    intro k v
    match k with
    | 0 => simp [tg]
    | k + 1 =>
      have := ih k v
      rw [show (k + 1) * 12 = k * 12 + 1 + 1 + 1 + 1 + 1 + 1 + 1 + 1 + 1 + 1 + 1 + 1 by omega]
      simp only [List.flatMap_cons, List.set_cons_succ, ← this]
      simp [tg]
theorem made12 (z : Value) (n : Nat) : (madeCells #[z, z, z, z, z, z, z, z, z, z, z, z] n).toList = List.replicate n z := by
  refine List.eq_replicate_iff.2 ⟨by simp [madeCells], fun b hb => ?_⟩
  simp [madeCells] at hb
  obtain ⟨i, _, rfl⟩ := hb
  have : i % 12 = 0 ∨ i % 12 = 1 ∨ i % 12 = 2 ∨ i % 12 = 3 ∨ i % 12 = 4 ∨ i % 12 = 5 ∨ i % 12 = 6 ∨ i % 12 = 7 ∨ i % 12 = 8 ∨ i % 12 = 9 ∨ i % 12 = 10 ∨ i % 12 = 11 := by omega
  rcases this with h | h | h | h | h | h | h | h | h | h | h | h <;> rw [h] <;> rfl
theorem replT (n : Nat) : (List.replicate n (((0, 0, 0), (0, 0, 0), (0, 0, 0), (0, 0, 0)) : V12)).flatMap tg = List.replicate (n * 12) (.int .i64 0) := by
  induction n with
  | zero => rfl
  | succ n ih => rw [List.replicate_succ, List.flatMap_cons, ih, show (n + 1) * 12 = n * 12 + 1 + 1 + 1 + 1 + 1 + 1 + 1 + 1 + 1 + 1 + 1 + 1 by omega]; simp only [List.replicate_succ]; rfl
theorem own_tr {w : World} {base : Nat} {e : TypeId} {g n cap : Nat} {xs : List V12} (h : w.ownsRow base e 12 (.slice (some ⟨g, 0, none⟩) n cap) n (xs.flatMap tg)) (hn : xs.length = n) {k : Nat} (hk : k < n) :
    ∃ x0 x1 x2 x3 x4 x5 x6 x7 x8 x9 x10 x11 : Int, w.cell? ⟨g, k * 12, none⟩ = some (.int .i64 x0) ∧ w.cell? ⟨g, k * 12 + 1, none⟩ = some (.int .i64 x1) ∧ w.cell? ⟨g, k * 12 + 2, none⟩ = some (.int .i64 x2) ∧ w.cell? ⟨g, k * 12 + 3, none⟩ = some (.int .i64 x3) ∧ w.cell? ⟨g, k * 12 + 4, none⟩ = some (.int .i64 x4) ∧ w.cell? ⟨g, k * 12 + 5, none⟩ = some (.int .i64 x5) ∧ w.cell? ⟨g, k * 12 + 6, none⟩ = some (.int .i64 x6) ∧ w.cell? ⟨g, k * 12 + 7, none⟩ = some (.int .i64 x7) ∧ w.cell? ⟨g, k * 12 + 8, none⟩ = some (.int .i64 x8) ∧ w.cell? ⟨g, k * 12 + 9, none⟩ = some (.int .i64 x9) ∧ w.cell? ⟨g, k * 12 + 10, none⟩ = some (.int .i64 x10) ∧ w.cell? ⟨g, k * 12 + 11, none⟩ = some (.int .i64 x11) := by
  have hk' : k < xs.length := by omega
  have h0 := h.cellAt (k * 12) (by omega)
  have h1 := h.cellAt (k * 12 + 1) (by omega)
  have h2 := h.cellAt (k * 12 + 2) (by omega)
  have h3 := h.cellAt (k * 12 + 3) (by omega)
  have h4 := h.cellAt (k * 12 + 4) (by omega)
  have h5 := h.cellAt (k * 12 + 5) (by omega)
  have h6 := h.cellAt (k * 12 + 6) (by omega)
  have h7 := h.cellAt (k * 12 + 7) (by omega)
  have h8 := h.cellAt (k * 12 + 8) (by omega)
  have h9 := h.cellAt (k * 12 + 9) (by omega)
  have h10 := h.cellAt (k * 12 + 10) (by omega)
  have h11 := h.cellAt (k * 12 + 11) (by omega)
  rw [← Nat.add_zero (k * 12), flat_get tg_len xs k 0 hk' (by omega)] at h0
  rw [flat_get tg_len xs k 1 hk' (by omega)] at h1
  rw [flat_get tg_len xs k 2 hk' (by omega)] at h2
  rw [flat_get tg_len xs k 3 hk' (by omega)] at h3
  rw [flat_get tg_len xs k 4 hk' (by omega)] at h4
  rw [flat_get tg_len xs k 5 hk' (by omega)] at h5
  rw [flat_get tg_len xs k 6 hk' (by omega)] at h6
  rw [flat_get tg_len xs k 7 hk' (by omega)] at h7
  rw [flat_get tg_len xs k 8 hk' (by omega)] at h8
  rw [flat_get tg_len xs k 9 hk' (by omega)] at h9
  rw [flat_get tg_len xs k 10 hk' (by omega)] at h10
  rw [flat_get tg_len xs k 11 hk' (by omega)] at h11
  exact ⟨_, _, _, _, _, _, _, _, _, _, _, _, h0, h1, h2, h3, h4, h5, h6, h7, h8, h9, h10, h11⟩
end Go.Proofs.Ytmhcpjednogegaa
