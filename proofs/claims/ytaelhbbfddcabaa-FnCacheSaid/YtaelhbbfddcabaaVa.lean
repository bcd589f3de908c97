/- Textures as values; nothing of the program. -/
import Derived.WalkKit
import Derived.WalkSpells
import Derived.Lib.Hide
import Derived.Test.YtaelhbbfddcabaaMem
import Derived.Test.YtaelhbbfddcabaaHeld
namespace Go.Proofs.Ytaelhbbfddcabaa
open Go.RowKit

/-- the side of a texture -/
def sd (L : Int) : Nat := 2 ^ L.toNat
/-- a texture that is valid -/
def okTx (L : Int) (ts : List Int) : Prop := (0 ≤ L ∧ L ≤ 4) ∧ ts.length = sd L * sd L ∧ ∀ x ∈ ts, 0 ≤ x ∧ x ≤ 256
instance (L : Int) (ts : List Int) : Decidable (okTx L ts) := by unfold okTx; infer_instance
def okX (L : Int) (ts : List Int) : Bool := decide (okTx L ts)
/-- a texture's value -/
abbrev txv (L : Int) (A : Option Addr) (n c : Nat) : Value := .agg #[.int .i64 L, .slice A n c]
def wrp (x : Int) (n : Nat) : Nat := (x % (n : Int)).toNat
/-- the texel in column x and row y -/
def txl (L : Int) (ts : List Int) (x y : Int) : Int := ts.getD (wrp y (sd L) * sd L + wrp x (sd L)) 0
/-- the average of a block -/
def blkT (L : Int) (ts : List Int) (x y : Int) : Int := (txl L ts (2 * x) (2 * y) + txl L ts (2 * x + 1) (2 * y) + txl L ts (2 * x) (2 * y + 1) + txl L ts (2 * x + 1) (2 * y + 1)) / 4
/-- the first k texels of the next mip level -/
def hfL (L : Int) (ts : List Int) (k : Nat) : List Int := (List.range k).map fun j => blkT L ts ((j % sd (L - 1) : Nat) : Int) ((j / sd (L - 1) : Nat) : Int)
def halfL (L : Int) (ts : List Int) : List Int := hfL L ts (sd (L - 1) * sd (L - 1))
/-- the mip level k -/
def mipL : Int → List Int → Nat → List Int
  | _, ts, 0 => ts
  | L, ts, k + 1 => mipL (L - 1) (halfL L ts) k
theorem sd_cases {L : Int} (h : 0 ≤ L ∧ L ≤ 4) : sd L = 1 ∨ sd L = 2 ∨ sd L = 4 ∨ sd L = 8 ∨ sd L = 16 := by
  have : L = 0 ∨ L = 1 ∨ L = 2 ∨ L = 3 ∨ L = 4 := by omega
  rcases this with rfl | rfl | rfl | rfl | rfl <;> simp [sd]
theorem sd_pos {L : Int} : 0 < sd L := Nat.pow_pos (by omega)
theorem sd_le {L : Int} (h : 0 ≤ L ∧ L ≤ 4) : sd L ≤ 16 := by rcases sd_cases h with h | h | h | h | h <;> omega
theorem sd_half {L : Int} (h : 1 ≤ L) : sd L = 2 * sd (L - 1) := by
  unfold sd
  have : L.toNat = (L - 1).toNat + 1 := by omega
  rw [this, Nat.pow_succ, Nat.mul_comm]
theorem sq_le {L : Int} (h : 0 ≤ L ∧ L ≤ 4) : sd L * sd L ≤ 256 := by rcases sd_cases h with h | h | h | h | h <;> rw [h] <;> omega
theorem wrp_lt (x : Int) {n : Nat} (h : 0 < n) : wrp x n < n := by
  unfold wrp
  have h1 := Int.emod_nonneg x (show (n : Int) ≠ 0 by omega)
  have h2 := Int.emod_lt_of_pos x (show (0 : Int) < n by omega)
  omega
theorem wrp_int (x : Int) {n : Nat} (h : 0 < n) : ((wrp x n : Nat) : Int) = x % (n : Int) := by
  unfold wrp
  have h1 := Int.emod_nonneg x (show (n : Int) ≠ 0 by omega)
  omega
theorem tmod_bd (x : Int) {n : Nat} (h : 0 < n) : -(n : Int) < x.tmod n ∧ x.tmod n < n := by
  have h1 := Int.tmod_lt_of_pos x (show (0 : Int) < n by omega)
  have h2 := Int.lt_tmod_of_pos x (show (0 : Int) < n by omega)
  omega
/-- Go's remainder, made positive -/
theorem tmod_wrp (x : Int) {n : Nat} (h : 0 < n) : (x.tmod n + n).tmod n = ((wrp x n : Nat) : Int) := by
  have hb := tmod_bd x h
  rw [wrp_int x h, Int.tmod_eq_emod_of_nonneg (by omega), Int.add_emod_right, Int.tmod_eq_emod]
  split
  · simp
  · simp
theorem idx_lt (x y : Int) {n : Nat} (h : 0 < n) : wrp y n * n + wrp x n < n * n := by
  have h1 := wrp_lt x h
  have h2 := wrp_lt y h
  have h3 : wrp y n * n + n ≤ n * n := by rw [← Nat.succ_mul]; exact Nat.mul_le_mul_right n h2
  omega
section
variable {L : Int} {ts : List Int}
theorem txl_at (h : okTx L ts) (x y : Int) : ∃ hk : wrp y (sd L) * sd L + wrp x (sd L) < ts.length, txl L ts x y = ts[wrp y (sd L) * sd L + wrp x (sd L)] := by
  have hk : wrp y (sd L) * sd L + wrp x (sd L) < ts.length := by rw [h.2.1]; exact idx_lt x y sd_pos
  exact ⟨hk, by unfold txl; simp [List.getD, List.getElem?_eq_getElem hk]⟩
theorem txl_bd (h : okTx L ts) (x y : Int) : 0 ≤ txl L ts x y ∧ txl L ts x y ≤ 256 := by
  obtain ⟨hk, e⟩ := txl_at h x y
  rw [e]
  exact h.2.2 _ (List.getElem_mem hk)
theorem blkT_bd (h : okTx L ts) (x y : Int) : 0 ≤ blkT L ts x y ∧ blkT L ts x y ≤ 256 := by
  unfold blkT
  have h1 := txl_bd h (2 * x) (2 * y)
  have h2 := txl_bd h (2 * x + 1) (2 * y)
  have h3 := txl_bd h (2 * x) (2 * y + 1)
  have h4 := txl_bd h (2 * x + 1) (2 * y + 1)
  omega
theorem hfL_len (k : Nat) : (hfL L ts k).length = k := by simp [hfL]
theorem hfL_step (k : Nat) : hfL L ts (k + 1) = hfL L ts k ++ [blkT L ts ((k % sd (L - 1) : Nat) : Int) ((k / sd (L - 1) : Nat) : Int)] := by
  unfold hfL
  rw [List.range_succ, List.map_append]
  rfl
theorem hfL_next {r c : Nat} (hc : c < sd (L - 1)) : hfL L ts (r * sd (L - 1) + c + 1) = hfL L ts (r * sd (L - 1) + c) ++ [blkT L ts (c : Int) (r : Int)] := by
  have e1 : (r * sd (L - 1) + c) % sd (L - 1) = c := by rw [Nat.mul_comm, Nat.mul_add_mod, Nat.mod_eq_of_lt hc]
  have e2 : (r * sd (L - 1) + c) / sd (L - 1) = r := by
    rw [Nat.mul_comm, Nat.mul_add_div (by omega), Nat.div_eq_of_lt hc, Nat.add_zero]
  rw [hfL_step, e1, e2]
theorem half_ok (h : okTx L ts) (h1 : 1 ≤ L) : okTx (L - 1) (halfL L ts) := by
  refine ⟨by have := h.1; omega, by unfold halfL; rw [hfL_len], fun x hx => ?_⟩
  unfold halfL hfL at hx
  obtain ⟨j, _, rfl⟩ := List.mem_map.1 hx
  exact blkT_bd h _ _
theorem mip_ok : ∀ (k : Nat) (L : Int) (ts : List Int), okTx L ts → (k : Int) ≤ L → okTx (L - k) (mipL L ts k) := by
  intro k
  induction k with
  | zero => intro L ts h _; simpa [mipL] using h
  | succ k ih =>
    intro L ts h hk
    have := ih (L - 1) (halfL L ts) (half_ok h (by omega)) (by omega)
    rw [show L - ((k + 1 : Nat) : Int) = L - 1 - (k : Int) by omega]
    exact this
end
end Go.Proofs.Ytaelhbbfddcabaa
