/- Caches as values; nothing of the program. -/
import Derived.WalkKit
import Derived.WalkSpells
import Derived.Lib.Hide
import Derived.Test.YtaelhbbfddcabaaInts
import Derived.Test.YtaelhbbfddcabaaMem
import Derived.Test.YtaelhbbfddcabaaHeld
import Derived.Test.YtaelhbbfddcabaaRowC
import Derived.Test.YtaelhbbfddcabaaVa
import Derived.Test.YtaelhbbfddcabaaVc
import Derived.Test.YtaelhbbfddcabaaVf
import Derived.Test.YtaelhbbfddcabaaVg
import Derived.Test.YtaelhbbfddcabaaWa
namespace Go.Proofs.Ytaelhbbfddcabaa
open Go.RowKit

/-- a cache's value -/
abbrev cav (R : Int) (A : Option Addr) (n c : Nat) (K : Int) : Value := .agg #[.int .i64 R, .slice A n c, .int .i64 K]
/-- a cache that is valid -/
def okCa (R : Int) (ts : List V3) (K : Int) : Prop := (1 ≤ R ∧ R ≤ 12) ∧ (ts.length : Int) ≤ R ∧ ((ts.length : Int) ≤ K ∧ K ≤ 1000000000) ∧ ts.Nodup
instance (R : Int) (ts : List V3) (K : Int) : Decidable (okCa R ts K) := by unfold okCa; infer_instance
def okC (R : Int) (ts : List V3) (K : Int) : Bool := decide (okCa R ts K)
theorem okC_iff {R : Int} {ts : List V3} {K : Int} : okC R ts K = true ↔ okCa R ts K := by simp [okC]
theorem okC_no {R : Int} {ts : List V3} {K : Int} (h : ¬ okCa R ts K) : okC R ts K = false := by simp [okC, h]
/-- the place of a tile, or -1 -/
def fndT (ts : List V3) (x : V3) : Int := if x ∈ ts then (ts.idxOf x : Int) else -1
theorem fndT_bd (ts : List V3) (x : V3) : -1 ≤ fndT ts x ∧ fndT ts x < (ts.length : Int) ∨ ts = [] ∧ fndT ts x = -1 := by
  unfold fndT
  by_cases h : x ∈ ts
  · rw [if_pos h]
    have := List.idxOf_lt_length_iff.2 h
    omega
  · rw [if_neg h]
    by_cases h0 : ts = []
    · exact .inr ⟨h0, rfl⟩
    · have : 0 < ts.length := List.length_pos_iff.2 h0
      omega
theorem fndT_at {ts : List V3} {x : V3} {k : Nat} (hk : k < ts.length) (hx : ts[k] = x) (hno : ∀ j (h : j < ts.length), j < k → ts[j] ≠ x) : fndT ts x = (k : Int) := by
  have hm : x ∈ ts := by rw [← hx]; exact List.getElem_mem hk
  unfold fndT
  rw [if_pos hm]
  have h1 := List.idxOf_lt_length_iff.2 hm
  have h2 : ts[ts.idxOf x] = x := List.getElem_idxOf h1
  rcases Nat.lt_trichotomy (ts.idxOf x) k with h | h | h
  · exact absurd h2 (hno _ h1 h)
  · rw [h]
  · exfalso
    have := List.not_of_lt_findIdx (xs := ts) (p := (· == x)) (i := k) (by simpa [List.idxOf] using h)
    simp [hx] at this
theorem fndT_none {ts : List V3} {x : V3} (hno : ∀ j (h : j < ts.length), ts[j] ≠ x) : fndT ts x = -1 := by
  unfold fndT
  rw [if_neg]
  intro hm
  obtain ⟨j, hj, e⟩ := List.getElem_of_mem hm
  exact hno j hj e
theorem fndT_neg {ts : List V3} {x : V3} : fndT ts x < 0 ↔ x ∉ ts := by
  unfold fndT
  by_cases h : x ∈ ts
  · rw [if_pos h]; simp [h]
  · rw [if_neg h]; simp [h]
/-- all tiles are distinct just where each is found at its own place -/
theorem nodup_find {ts : List V3} : ts.Nodup ↔ ∀ k (h : k < ts.length), fndT ts ts[k] = (k : Int) := by
  constructor
  · intro hn k hk
    exact fndT_at hk rfl fun j hj hjk e => List.pairwise_iff_getElem.1 hn j k hj hk hjk e
  · intro h
    refine List.pairwise_iff_getElem.2 fun i j hi hj hij e => ?_
    have h1 := h i hi
    have h2 := h j hj
    rw [e, h2] at h1
    omega
/-- the tiles behind a use of x -/
def useL (R : Int) (ts : List V3) (K : Int) (x : V3) : List V3 :=
  if okC R ts K = true then (if x ∈ ts then ts.take (ts.idxOf x) ++ (ts.drop (ts.idxOf x + 1) ++ [x]) else if R < (ts.length : Int) + 1 then (ts ++ [x]).drop 1 else ts ++ [x]) else ts
def useK (R : Int) (ts : List V3) (K : Int) (x : V3) : Int := if okC R ts K = true ∧ x ∉ ts then K + 1 else K
theorem useL_len (R : Int) (ts : List V3) (K : Int) (x : V3) : (useL R ts K x).length ≤ ts.length + 1 := by
  unfold useL
  split
  · split
    · simp; omega
    · split
      · simp
      · simp
  · omega
/-- all tiles of a list used, one after another -/
def useA (R : Int) : List V3 → List V3 × Int → List V3 × Int
  | [], s => s
  | x :: xs, s => useA R xs (useL R s.1 s.2 x, useK R s.1 s.2 x)
theorem useA_snoc (R : Int) (x : V3) : ∀ (xs : List V3) (s : List V3 × Int), useA R (xs ++ [x]) s = (useL R (useA R xs s).1 (useA R xs s).2 x, useK R (useA R xs s).1 (useA R xs s).2 x)
  | [], _ => rfl
  | _ :: ys, _ => useA_snoc R x ys _
theorem useA_len (R : Int) : ∀ (xs : List V3) (s : List V3 × Int), (useA R xs s).1.length ≤ s.1.length + xs.length
  | [], s => by simp [useA]
  | x :: xs, s => by
    have h1 := useA_len R xs (useL R s.1 s.2 x, useK R s.1 s.2 x)
    have h2 := useL_len R s.1 s.2 x
    simp only [useA, List.length_cons]
    dsimp only at h1
    omega
/-- the tile of a texel -/
def tileP (L : Int) (ts : List Int) (x y lv : Int) : V3 := if okM L ts lv = true then (lv, ((wrp x (sd (L - lv)) / 2 : Nat) : Int), ((wrp y (sd (L - lv)) / 2 : Nat) : Int)) else (0, 0, 0)
def addT (ts : List V3) (x : V3) : List V3 := if x ∈ ts then ts else ts ++ [x]
/-- the tiles of the first k texels that a lookup reads -/
def tilK (L : Int) (ts : List Int) (x y lv : Int) : Nat → List V3
  | 0 => []
  | k + 1 => addT (tilK L ts x y lv k) (tileP L ts (x + ((k % 2 : Nat) : Int)) (y + ((k / 2 : Nat) : Int)) lv)
def tilesP (L : Int) (ts : List Int) (u v lv : Int) : List V3 :=
  if okX L ts = true then tilK L ts ((ccT u * (sd (L - clampP lv 0 L) : Int) - 128) / 256) ((ccT v * (sd (L - clampP lv 0 L) : Int) - 128) / 256) (clampP lv 0 L) 4 else []
theorem addT_len (ts : List V3) (x : V3) : (addT ts x).length ≤ ts.length + 1 := by unfold addT; split <;> simp
theorem tilK_len (L : Int) (ts : List Int) (x y lv : Int) : ∀ k, (tilK L ts x y lv k).length ≤ k
  | 0 => Nat.le_refl _
  | k + 1 => Nat.le_trans (addT_len _ _) (by have := tilK_len L ts x y lv k; omega)
theorem tilesP_len (L : Int) (ts : List Int) (u v lv : Int) : (tilesP L ts u v lv).length ≤ 4 := by
  unfold tilesP
  split
  · exact tilK_len _ _ _ _ _ 4
  · simp
end Go.Proofs.Ytaelhbbfddcabaa
