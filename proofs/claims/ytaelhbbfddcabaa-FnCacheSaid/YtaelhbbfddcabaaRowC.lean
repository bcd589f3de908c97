/- Words of our own for slices in memory whose elements take several cells (nothing of the program). -/
import Derived.WalkKit
import Derived.WalkSpells
import Derived.Laws.OwnMore
import Derived.Deep.Slices
import Derived.Deep.OwnRows
import Derived.OwnWalk
import Derived.Test.YtaelhbbfddcabaaMem
import Derived.Test.YtaelhbbfddcabaaFlat
namespace Go.Proofs.Ytaelhbbfddcabaa
open Go.RowKit

/-- a slice at address A, below block B, whose elements take n cells each (g: the cells of an element) -/
def RowC {α : Type} (n : Nat) (g : α → List Value) (w : World) (B : Nat) (A : Option Addr) (xs : List α) : Prop :=
  0 < xs.length → ∃ b o, A = some ⟨b, o, none⟩ ∧ b < B ∧ ∀ k (h : k < xs.length) j v, (g xs[k])[j]? = some v → w.cell? ⟨b, o + k * n + j, none⟩ = some v
section
variable {α : Type} {n : Nat} {g : α → List Value} {w w' : World} {B B' : Nat} {A : Option Addr} {xs : List α}
theorem RowC.nil : RowC n g w B A [] := fun h => by simp at h
theorem RowC.at (h : RowC n g w B A xs) {k : Nat} (hk : k < xs.length) : ∃ b o, A = some ⟨b, o, none⟩ ∧ b < B ∧ ∀ j v, (g xs[k])[j]? = some v → w.cell? ⟨b, o + k * n + j, none⟩ = some v := by
  obtain ⟨b, o, e, hb, hc⟩ := h (by omega)
  exact ⟨b, o, e, hb, hc k hk⟩
theorem RowC.keep (h : RowC n g w B A xs) (hk : ∀ p : Addr, p.block < B → w'.cell? p = w.cell? p) : RowC n g w' B A xs := fun hn => by
  obtain ⟨b, o, e, hb, hc⟩ := h hn
  exact ⟨b, o, e, hb, fun k hk' j v hv => (hk _ hb).trans (hc k hk' j v hv)⟩
theorem RowC.more (h : RowC n g w B A xs) (hB : B ≤ B') : RowC n g w B' A xs := fun hn => by
  obtain ⟨b, o, e, hb, hc⟩ := h hn
  exact ⟨b, o, e, by omega, hc⟩
theorem RowC.below (h : RowC n g w B A xs) (hb : Below B w w') : RowC n g w' B A xs := h.keep fun _ hp => hb.cell hp
theorem RowC.later (h : RowC n g w w.heap.size A xs) (hb : Below w.heap.size w w') : RowC n g w' w'.heap.size A xs := (h.below hb).more hb.size
theorem RowC.alloc (h : RowC n g w B A xs) (hB : B ≤ w.heap.size) (o : Obj) : RowC n g (w.alloc o) B A xs := h.keep fun p hp => World.cell?_alloc_lt w o p (by omega)
end
theorem flat_len {α : Type} {n : Nat} {g : α → List Value} (hg : ∀ x, (g x).length = n) (xs : List α) : (xs.flatMap g).length = xs.length * n := by
  induction xs with
  | nil => simp
  | cons x xs ih => simp only [List.flatMap_cons, List.length_append, ih, hg, List.length_cons, Nat.succ_mul]; omega
theorem flat_get {α : Type} {n : Nat} {g : α → List Value} (hg : ∀ x, (g x).length = n) (xs : List α) : ∀ (k j : Nat) (hk : k < xs.length), j < n → (xs.flatMap g)[k * n + j]? = (g xs[k])[j]? := by
  induction xs with
  | nil => intro k j hk; simp at hk
  | cons x xs ih =>
    intro k j hk hj
    rw [List.flatMap_cons]
    match k, hk with
    | 0, hk =>
      rw [Nat.zero_mul, Nat.zero_add, List.getElem?_append_left (by rw [hg]; exact hj)]
      rfl
    | k + 1, hk =>
      have h := ih k j (by simpa using hk) hj
      rw [List.getElem?_append_right (by rw [hg, Nat.succ_mul]; omega), hg, show (k + 1) * n + j - n = k * n + j by rw [Nat.succ_mul]; omega, h]
      rfl
theorem RowC.of_own {α : Type} {m : Nat} {g : α → List Value} (hg : ∀ x, (g x).length = m) {w : World} {base : Nat} {e : TypeId} {A : Option Addr} {n c : Nat} {xs : List α} (h : w.ownsRow base e m (.slice A n c) n (xs.flatMap g)) (hn : xs.length = n) : RowC m g w w.heap.size A xs := fun h0 => by
  rcases h.2 with ⟨_, h1⟩ | ⟨b, cap, cur, hv, hb, hh, hnc, hm, hs, ht⟩
  · omega
  · simp only [Value.slice.injEq] at hv
    obtain ⟨rfl, _, rfl⟩ := hv
    refine ⟨b, 0, rfl, (h.lt b rfl).2, fun k hk j v hv => ?_⟩
    have hj : j < m := by
      have := (List.getElem?_eq_some_iff.1 hv).1
      rwa [hg] at this
    have hlt : k * m + j < n * m := by
      have : (k + 1) * m ≤ n * m := Nat.mul_le_mul_right _ (by omega)
      rw [Nat.succ_mul] at this
      omega
    have := h.cellAt (k * m + j) hlt
    rw [Nat.zero_add, this, flat_get hg xs k j hk hj, hv]
theorem list_of {β : Type} {P : Nat → β → Prop} : ∀ n, (∀ i, i < n → ∃ y, P i y) → ∃ ys : List β, ys.length = n ∧ ∀ i (h : i < ys.length), P i ys[i] := by
  intro n
  induction n with
  | zero => intro _; exact ⟨[], rfl, fun i h => by simp at h⟩
  | succ n ih =>
    intro h
    obtain ⟨ys, hl, hp⟩ := ih fun i hi => h i (by omega)
    obtain ⟨y, hy⟩ := h n (by omega)
    refine ⟨ys ++ [y], by simp [hl], fun i hi => ?_⟩
    by_cases e : i < ys.length
    · rw [List.getElem_append_left e]; exact hp i e
    · have : i = n := by simp at hi; omega
      subst this
      rw [List.getElem_append_right (by omega)]
      simpa using hy
/-- what the reading of a slice of flat elements gives -/
theorem rows_of_flat {α : Type} {P : Program} {t e : TypeId} {n : Nat} (dec : List Int → α) (g : α → List Value) (hd : ∀ zs : List Int, zs.length = n → g (dec zs) = zs.map (Value.int .i64)) (ht : P.underlying t = some (.slice e)) (hn : P.cellsOf e = n) (hF : FlatI P e n) (hn0 : 0 < n)
    {H : Type} {enc : TypeId × Value → H} {w : World} {base : Nat} {spare : Nat → Bool} {held : Bool} {A : Option Addr} {len cap : Nat} {d : DataW H} {p : List MemPlace} (h : DataW.Trod enc P w base spare held t (.slice A len cap) d p) :
    ∃ xs : List α, len = xs.length ∧ RowC n g w w.heap.size A xs ∧ xs.length ≤ maxLen := by
  obtain ⟨fuel, hf⟩ := h
  rcases Deep.open_slice ht hf with ⟨hcs, _⟩ | ⟨a, l, c, m, k, D, Pl, hcs, _, hl, hm, hmm, _, hi⟩
  · simp [Value.cells] at hcs
    obtain ⟨rfl, rfl, rfl⟩ := hcs
    exact ⟨[], rfl, RowC.nil, Nat.zero_le _⟩
  · simp [Value.cells] at hcs
    obtain ⟨rfl, rfl, rfl⟩ := hcs
    have hlm : len ≤ m := by rw [hmm]; split <;> omega
    obtain ⟨ys, hy, hp⟩ := list_of (P := fun i (zs : List Int) => zs.length = n ∧ ∀ j, j < n → w.cell? (a.add (i * n + j)) = (zs.map (Value.int .i64))[j]?) len (fun i hlt => by
      obtain ⟨cs', hc, ht'⟩ := hi i (by omega)
      obtain ⟨zs, hzl, rfl, _⟩ := hF _ _ _ _ _ _ _ _ _ ht'
      obtain ⟨_, _, hat⟩ := World.cells?_some hc
      refine ⟨zs, hzl, fun j hj => ?_⟩
      have := hat j (by omega)
      rw [hn, Deep.add_add] at this
      exact this)
    refine ⟨ys.map dec, by simp [hy], fun h0 => ?_, by simp; omega⟩
    have h0 : 0 < ys.length := by simpa using h0
    obtain ⟨hz0, hz1⟩ := hp 0 h0
    have hc0 := hz1 0 hn0
    obtain ⟨b, o, s⟩ := a
    have hs : s = none := by
      have : ((ys[0]).map (Value.int .i64))[0]? = some (.int .i64 ((ys[0])[0]'(by omega))) := by simp [hz0, hn0]
      rw [this] at hc0
      simpa [Addr.add] using World.cell?_spot hc0
    subst hs
    have ea : ∀ k, (⟨b, o, none⟩ : Addr).add k = ⟨b, o + k, none⟩ := fun k => by unfold Addr.add; split <;> simp_all
    refine ⟨b, o, rfl, ?_, fun k hk j v hv => ?_⟩
    · have : ((ys[0]).map (Value.int .i64))[0]? = some (.int .i64 ((ys[0])[0]'(by omega))) := by simp [hz0, hn0]
      rw [this, ea] at hc0
      exact World.block_lt_of_cell? w _ hc0
    · have hk' : k < ys.length := by simpa using hk
      obtain ⟨hzl, hzc⟩ := hp k hk'
      have hv' : ((ys[k]).map (Value.int .i64))[j]? = some v := by
        rw [← hd _ hzl]
        simpa using hv
      have hj : j < n := by
        have := (List.getElem?_eq_some_iff.1 hv').1
        simp only [List.length_map] at this
        omega
      have := hzc j hj
      rw [ea, hv', ← Nat.add_assoc] at this
      exact this
/-- a vector, as a list's element -/
abbrev V3 := Int × Int × Int
def vg (v : V3) : List Value := [.int .i64 v.1, .int .i64 v.2.1, .int .i64 v.2.2]
theorem vg_len (v : V3) : (vg v).length = 3 := rfl
def v3 : List Int → V3
  | [x, y, z] => (x, y, z)
  | _ => (0, 0, 0)
theorem vg_v3 (zs : List Int) (h : zs.length = 3) : vg (v3 zs) = zs.map (Value.int .i64) := by
  match zs, h with
  | [x, y, z], _ => rfl
theorem vg_at {w : World} {b o : Nat} {v : V3} (h : ∀ j u, (vg v)[j]? = some u → w.cell? ⟨b, o + j, none⟩ = some u) :
    w.cell? ⟨b, o, none⟩ = some (.int .i64 v.1) ∧ w.cell? ⟨b, o + 1, none⟩ = some (.int .i64 v.2.1) ∧ w.cell? ⟨b, o + 2, none⟩ = some (.int .i64 v.2.2) :=
  ⟨h 0 _ rfl, h 1 _ rfl, h 2 _ rfl⟩
theorem vg_set (xs : List V3) : ∀ (k : Nat) (v : V3), (((xs.flatMap vg).set (k * 3) (.int .i64 v.1)).set (k * 3 + 1) (.int .i64 v.2.1)).set (k * 3 + 2) (.int .i64 v.2.2) = (xs.set k v).flatMap vg := by
  induction xs with
  | nil => intro k v; simp
  | cons x xs ih =>
    intro k v
    match k with
    | 0 => simp [vg]
    | k + 1 =>
      have := ih k v
      rw [show (k + 1) * 3 = k * 3 + 1 + 1 + 1 by omega]
      simp only [List.flatMap_cons, List.set_cons_succ, ← this]
      simp [vg]
end Go.Proofs.Ytaelhbbfddcabaa
