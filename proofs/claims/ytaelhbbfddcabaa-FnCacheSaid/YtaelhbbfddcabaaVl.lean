/- Rows of a texture, their averages, and slices that were made whole; nothing of the program. -/
import Derived.WalkKit
import Derived.WalkSpells
import Derived.Lib.Hide
import Derived.Laws.CopyOwn
import Derived.OwnWalk
import Derived.Test.YtaelhbbfddcabaaInts
import Derived.Test.YtaelhbbfddcabaaMem
import Derived.Test.YtaelhbbfddcabaaHeld
import Derived.Test.YtaelhbbfddcabaaIntS
import Derived.Test.YtaelhbbfddcabaaVa
namespace Go.Proofs.Ytaelhbbfddcabaa
open Go.RowKit

theorem tx_mod {L : Int} (hL : 0 ≤ L ∧ L ≤ 4) (x : Int) (h0 : -9223372036854775808 ≤ x) (h1 : x ≤ 9223372036854775807) :
    IntKind.i64.wrap ((sd L : Int) * fdivP x (sd L)) = (sd L : Int) * fdivP x (sd L) ∧ IntKind.i64.wrap (x - (sd L : Int) * fdivP x (sd L)) = ((wrp x (sd L) : Nat) : Int) := by
  have hw := wrp_int x (sd_pos (L := L))
  rw [hw]
  unfold fdivP
  rcases sd_cases hL with h | h | h | h | h <;> rw [h] <;> refine ⟨?_, ?_⟩ <;> rw [if_neg (by omega)] <;> refine (IntWalk.i64_in _ (by omega)).trans ?_ <;> omega
theorem addr_add (b o k : Nat) : (⟨b, o, none⟩ : Addr).add k = ⟨b, o + k, none⟩ := by unfold Addr.add; split <;> simp_all

/-- n elements from place a on -/
def rowL (ts : List Int) (a s : Nat) : List Int := (ts.drop a).take s
section
variable {ts us ls : List Int} {a s : Nat}
theorem rowL_len (h : a + s ≤ ts.length) : (rowL ts a s).length = s := by simp [rowL]; omega
theorem rowL_getD {i : Nat} (hi : i < s) : (rowL ts a s).getD i 0 = ts.getD (a + i) 0 := by simp [rowL, List.getD, hi]
theorem rowL_mem {x : Int} (h : x ∈ rowL ts a s) : x ∈ ts := List.mem_of_mem_drop (List.mem_of_mem_take h)
theorem Row.sub {w : World} {B b o : Nat} (hR : Row I64 w B (some ⟨b, o, none⟩) ts) (h : a + s ≤ ts.length) : Row I64 w B (some ⟨b, o + a, none⟩) (rowL ts a s) := fun hn => by
  rw [rowL_len h] at hn
  obtain ⟨b', o', e, hb, hc⟩ := hR (by omega)
  injection e with e
  injection e with e1 e2
  subst e1 e2
  refine ⟨b, o + a, rfl, hb, fun k hk => ?_⟩
  rw [rowL_len h] at hk
  have := hc (a + k) (by omega)
  rw [Nat.add_assoc, this]
  simp [rowL]
/-- the averages of the first m blocks in two rows -/
def avgL (us ls : List Int) (m : Nat) : List Int := (List.range m).map fun j => (us.getD (2 * j) 0 + us.getD (2 * j + 1) 0 + ls.getD (2 * j) 0 + ls.getD (2 * j + 1) 0) / 4
theorem avgL_len (m : Nat) : (avgL us ls m).length = m := by simp [avgL]
theorem avgL_succ (m : Nat) : avgL us ls (m + 1) = avgL us ls m ++ [(us.getD (2 * m) 0 + us.getD (2 * m + 1) 0 + ls.getD (2 * m) 0 + ls.getD (2 * m + 1) 0) / 4] := by
  unfold avgL
  rw [List.range_succ, List.map_append]
  rfl
end
section
variable {L : Int} {ts : List Int}
theorem wrp_self {k s : Nat} (h : k < s) : wrp (k : Int) s = k := by
  unfold wrp
  rw [Int.emod_eq_of_lt (by omega) (by omega)]
  omega
theorem txl_in {x y : Nat} (hx : x < sd L) (hy : y < sd L) : txl L ts (x : Int) (y : Int) = ts.getD (y * sd L + x) 0 := by
  unfold txl
  rw [wrp_self hx, wrp_self hy]
theorem blk_avg (h1 : 1 ≤ L) {c y : Nat} (hc : c < sd (L - 1)) (hy : y < sd (L - 1)) :
    blkT L ts (c : Int) (y : Int) = ((rowL ts (2 * y * sd L) (sd L)).getD (2 * c) 0 + (rowL ts (2 * y * sd L) (sd L)).getD (2 * c + 1) 0 + (rowL ts ((2 * y + 1) * sd L) (sd L)).getD (2 * c) 0 + (rowL ts ((2 * y + 1) * sd L) (sd L)).getD (2 * c + 1) 0) / 4 := by
  have h2 := sd_half h1
  rw [rowL_getD (by omega), rowL_getD (by omega), rowL_getD (by omega), rowL_getD (by omega)]
  have e0 := txl_in (L := L) (ts := ts) (x := 2 * c) (y := 2 * y) (by omega) (by omega)
  have e1 := txl_in (L := L) (ts := ts) (x := 2 * c + 1) (y := 2 * y) (by omega) (by omega)
  have e2 := txl_in (L := L) (ts := ts) (x := 2 * c) (y := 2 * y + 1) (by omega) (by omega)
  have e3 := txl_in (L := L) (ts := ts) (x := 2 * c + 1) (y := 2 * y + 1) (by omega) (by omega)
  rw [← e0, ← e1, ← e2, ← e3]
  unfold blkT
  simp only [Int.natCast_mul, Int.natCast_add, Int.cast_ofNat_Int]
theorem hf_avg (h1 : 1 ≤ L) {y : Nat} (hy : y < sd (L - 1)) : ∀ c, c ≤ sd (L - 1) → hfL L ts (y * sd (L - 1) + c) = hfL L ts (y * sd (L - 1)) ++ avgL (rowL ts (2 * y * sd L) (sd L)) (rowL ts ((2 * y + 1) * sd L) (sd L)) c
  | 0, _ => by simp [avgL]
  | c + 1, h => by
    rw [← Nat.add_assoc, hfL_next (by omega), hf_avg h1 hy c (by omega), avgL_succ, ← blk_avg h1 (by omega) hy, List.append_assoc]
theorem hf_row (h1 : 1 ≤ L) {y : Nat} (hy : y < sd (L - 1)) : hfL L ts ((y + 1) * sd (L - 1)) = hfL L ts (y * sd (L - 1)) ++ avgL (rowL ts (2 * y * sd L) (sd L)) (rowL ts ((2 * y + 1) * sd L) (sd L)) (sd (L - 1)) := by
  rw [← hf_avg h1 hy _ (Nat.le_refl _), Nat.add_mul, Nat.one_mul]
end
/-- a made slice of n elements whose first ones are laid -/
def madeL (n : Nat) (xs : List Int) : List Value := xs.map I64 ++ List.replicate (n - xs.length) (.int .i64 0)
theorem madeL_len {n : Nat} {xs : List Int} (h : xs.length ≤ n) : (madeL n xs).length = n := by simp [madeL]; omega
theorem madeL_full (xs : List Int) : madeL xs.length xs = xs.map I64 := by simp [madeL]
theorem madeL_nil (n : Nat) : madeL n [] = List.replicate n (.int .i64 0) := by simp [madeL]
theorem madeL_splice {n : Nat} {xs ys : List Int} (h : xs.length + ys.length ≤ n) : splice (madeL n xs) xs.length (ys.map I64) = madeL n (xs ++ ys) := by
  unfold splice madeL
  have e1 : ((xs.map I64) ++ List.replicate (n - xs.length) (Value.int .i64 0)).take xs.length = xs.map I64 := by
    rw [List.take_append_of_le_length (by simp)]
    exact List.take_of_length_le (by simp)
  rw [e1, List.drop_append]
  simp only [List.length_map, List.map_append, List.length_append, List.drop_replicate, List.append_assoc]
  rw [List.drop_eq_nil_of_le (by simp), List.nil_append]
  congr 3
  omega
section
variable {w : World} {base g n : Nat} {e : TypeId} {xs : List Value}
theorem own_full (h : w.ownsRow base e 1 (.slice (some ⟨g, 0, none⟩) n n) n xs) : base ≤ g ∧ w.heap[g]? = some (.cells xs.toArray e (0, 0)) := by
  rcases h.2 with ⟨h0, _⟩ | ⟨g', cap, cur, hv, hb, hh, hnc, hm, hs, ht⟩
  · cases h0
  · simp only [Value.slice.injEq, Option.some.injEq, Addr.mk.injEq] at hv
    obtain ⟨⟨rfl, _⟩, _, rfl⟩ := hv
    refine ⟨hb, hh.trans ?_⟩
    congr 2
    apply Array.ext'
    rw [← ht, List.take_of_length_le (by simp [hs])]
theorem full_own (hb : base ≤ g) (hg : w.heap[g]? = some (.cells xs.toArray e (0, 0))) (hn : xs.length = n) (hm : n ≤ maxLen) : w.ownsRow base e 1 (.slice (some ⟨g, 0, none⟩) n n) n xs :=
  ⟨by omega, .inr ⟨g, n, xs.toArray, rfl, hb, hg, Nat.le_refl _, hm, by simp [hn], by simp [← hn]⟩⟩
end
theorem own_capT {w : World} {base : Nat} {e : TypeId} {n c : Nat} {A : Option Addr} {xs : List Value} (h : w.ownsRow base e 1 (.slice A n c) n xs) : n ≤ c := by
  rcases h.2 with ⟨h0, h1⟩ | ⟨g', cap, cur, hv, _, _, hnc, _⟩
  · injection h0 with _ _ h3
    omega
  · injection hv with _ _ h3
    omega
end Go.Proofs.Ytaelhbbfddcabaa
