/- Words of our own for arrays of integers: equality, lists that a loop fills (nothing of the program). -/
import Derived.WalkKit
import Derived.Laws.StructEq
import Derived.Test.YtolinlcihddkoabHeld
namespace Go.Proofs.Ytolinlcihddkoab
open Go.RowKit

abbrev ints (xs : List Int) : List Value := xs.map (Value.int .i64)
theorem all_range_int : ∀ (xs ys : List Int), xs.length = ys.length → ((List.range xs.length).all fun i => xs.getD i 0 == ys.getD i 0) = (xs == ys)
  | [], [], _ => rfl
  | x :: xs, y :: ys, h => by
    have ih := all_range_int xs ys (by simpa using h)
    rw [List.length_cons, List.range_succ_eq_map, List.all_cons, List.all_map]
    simp only [List.getD_cons_zero, Function.comp_def, List.getD_cons_succ, ih]
    simp [List.cons_beq_cons]
  | [], _ :: _, h => by simp at h
  | _ :: _, [], h => by simp at h
theorem equalIn_ints {P : Program} (w : World) (d : Nat) (t e : TypeId) (n : Nat) (ht : P.underlying t = some (.array n e)) (he : P.underlying e = some (.int .i64)) (hsz : ∀ w, (sizeOf e).run P w = .ok 1 w)
    (xs ys : List Int) (hx : xs.length = n) (hy : ys.length = n) :
    (Op.equalIn (d + 2) t (.agg (ints xs).toArray) (.agg (ints ys).toArray)).run P w = .ok (xs == ys) w := by
  rw [← all_range_int xs ys (hx.trans hy.symm), hx, List.range_eq_range', Op.equalIn]
  simp only [Sem.run_bind, run_underlying ht, Result.andThen_ok, hsz, Std.Legacy.Range.forIn_eq_forIn_range', Std.Legacy.Range.size, Nat.sub_zero, Nat.add_sub_cancel, Nat.div_one]
  have hl : ∀ i ∈ List.range' 0 n 1, i < n := fun i hi => by simpa using (List.mem_range'_1.1 hi).2
  generalize List.range' 0 n 1 = l at hl ⊢
  induction l with
  | nil => simp
  | cons i l ih =>
    have hi : i < n := hl i (by simp)
    have px : (part e (ints xs).toArray (i * 1)).run P w = .ok (.int .i64 (xs.getD i 0)) w := by
      simp [part, isAgg, run_underlying he, List.getD, List.getElem?_eq_getElem (show i < xs.length by omega)]
    have py : (part e (ints ys).toArray (i * 1)).run P w = .ok (.int .i64 (ys.getD i 0)) w := by
      simp [part, isAgg, run_underlying he, List.getD, List.getElem?_eq_getElem (show i < ys.length by omega)]
    have pe : (Op.equalIn (d + 1) e (.int .i64 (xs.getD i 0)) (.int .i64 (ys.getD i 0))).run P w = .ok (xs.getD i 0 == ys.getD i 0) w := run_equalIn_int w d e .i64 .i64 _ _ he
    simp only [List.forIn_cons, Sem.run_bind, px, py, pe, Result.andThen_ok, List.all_cons]
    cases hb : (xs.getD i 0 == ys.getD i 0)
    · simp
    · simp only [Bool.not_true, Bool.false_eq_true, if_false, Sem.run_pure, Result.andThen_ok, Bool.true_and]
      exact ih fun j hj => hl j (by simp [hj])
theorem eql_ints {P : Program} (w : World) (t e : TypeId) (n : Nat) (ht : P.underlying t = some (.array n e)) (he : P.underlying e = some (.int .i64)) (hsz : ∀ w, (sizeOf e).run P w = .ok 1 w)
    (xs ys : List Int) (hx : xs.length = n) (hy : ys.length = n) :
    (binOp .eql t (.agg (ints xs).toArray) (.agg (ints ys).toArray)).run P w = .ok (.bool (xs == ys)) w := by
  rw [run_eql_struct, equalIn_ints w 9998 t e n ht he hsz xs ys hx hy]
  rfl
/-- the first k done, the rest as it was -/
def part2 (xs ys : List Int) (k : Nat) : List Int := ys.take k ++ xs.drop k
theorem part2_zero (xs ys : List Int) : part2 xs ys 0 = xs := by simp [part2]
theorem part2_all {xs ys : List Int} (h : xs.length = ys.length) : part2 xs ys ys.length = ys := by unfold part2; rw [List.take_length, List.drop_eq_nil_of_le (by omega), List.append_nil]
theorem part2_len {xs ys : List Int} (h : xs.length = ys.length) (k : Nat) : (part2 xs ys k).length = xs.length := by simp [part2]; omega
theorem part2_at {xs ys : List Int} (h : xs.length = ys.length) {k : Nat} (hk : k < xs.length) : (part2 xs ys k)[k]? = some xs[k] := by
  unfold part2
  rw [List.getElem?_append_right (by simp; omega)]
  simp only [List.length_take, Nat.min_eq_left (show k ≤ ys.length by omega), Nat.sub_self, List.getElem?_drop, Nat.add_zero]
  exact List.getElem?_eq_getElem hk
theorem part2_step {xs ys : List Int} (h : xs.length = ys.length) {k : Nat} (hk : k < ys.length) : (part2 xs ys k).set k ys[k] = part2 xs ys (k + 1) := by
  unfold part2
  rw [List.take_succ_eq_append_getElem hk, List.set_append_right _ _ (by simp; omega)]
  have e : xs.drop k = xs[k]'(by omega) :: xs.drop (k + 1) := List.drop_eq_getElem_cons (by omega)
  rw [e]
  simp only [List.length_take, Nat.min_eq_left (Nat.le_of_lt hk), Nat.sub_self, List.set_cons_zero, List.append_assoc, List.cons_append, List.nil_append]
theorem ints_at {xs : List Int} {k : Nat} {n : Int} (h : xs[k]? = some n) : (ints xs)[k]? = some (.int .i64 n) := by simp [ints, h]
theorem ints_set (xs : List Int) (k : Nat) (n : Int) : (ints xs).set k (.int .i64 n) = ints (xs.set k n) := by simp [ints, List.map_set]
/-- a block of integers: the cell at k, and the block behind a store there -/
theorem Mbox.int {w : World} {b : Nat} {xs : List Int} (h : Mbox w b (ints xs)) {k : Nat} {n : Int} (e : xs[k]? = some n) : w.cell? ⟨b, k, none⟩ = some (.int .i64 n) := h.c k (ints_at e)
theorem Mbox.intF {w : World} {b : Nat} {xs : List Int} (h : Mbox w b (ints xs)) {k : Nat} {n : Int} (e : xs[k]? = some n) : w.frozen? ⟨b, k, none⟩ = false := h.f k (ints_at e)
theorem Mbox.putI {w : World} {b : Nat} {xs : List Int} (h : Mbox w b (ints xs)) (k : Nat) (n : Int) : Mbox (w.setCell ⟨b, k, none⟩ (.int .i64 n)) b (ints (xs.set k n)) := by
  rw [← ints_set]; exact h.put k _
end Go.Proofs.Ytolinlcihddkoab
