/- Averages of points, weighted: values alone. -/
import Derived.Test.YtdefhepagpgnaaaGreatProg
import Derived.Test.YtdefhepagpgnaaaGreatInts
import Derived.Test.YtdefhepagpgnaaaGreatVbox
import Derived.Test.YtdefhepagpgnaaaGreatVec
import Derived.Test.YtdefhepagpgnaaaGreatHeld
import Derived.Test.YtdefhepagpgnaaaGreatMem
import Derived.Test.YtdefhepagpgnaaaGreatRowC
import Derived.Test.YtdefhepagpgnaaaGreatIntS
import Derived.Test.YtdefhepagpgnaaaGreatVecS
import Derived.Test.YtdefhepagpgnaaaGreatSS
import Derived.Test.YtdefhepagpgnaaaGreatMkA
import Derived.Test.YtdefhepagpgnaaaGreatMkB
import Derived.Test.YtdefhepagpgnaaaGreatMkC
import Derived.Test.YtdefhepagpgnaaaGreatMkD
import Derived.Test.YtdefhepagpgnaaaGreatMF
import Derived.Test.YtdefhepagpgnaaaGreatMG
import Derived.Test.YtdefhepagpgnaaaGreatMH
import Derived.OwnWalk
namespace Go.Proofs.YtdefhepagpgnaaaGreat
open Go.RowKit

def addV (a b : V3) : V3 := (a.1 + b.1, a.2.1 + b.2.1, a.2.2 + b.2.2)
def mulV (k : Int) (a : V3) : V3 := (k * a.1, k * a.2.1, k * a.2.2)
def divV (n : Int) (a : V3) : V3 := (fdivP a.1 n, fdivP a.2.1 n, fdivP a.2.2 n)
def sumV (l : List V3) : V3 := l.foldr addV (0, 0, 0)
theorem v3_ext {a b : V3} (h0 : a.1 = b.1) (h1 : a.2.1 = b.2.1) (h2 : a.2.2 = b.2.2) : a = b := by
  obtain ⟨x, y, z⟩ := a
  obtain ⟨p, q, r⟩ := b
  simp only at h0 h1 h2
  rw [h0, h1, h2]
theorem addV_zero (a : V3) : addV a (0, 0, 0) = a := by simp [addV]
theorem zero_addV (a : V3) : addV (0, 0, 0) a = a := by simp [addV]
theorem addV_assoc (a b c : V3) : addV (addV a b) c = addV a (addV b c) := by simp [addV, Int.add_assoc]
theorem sumV_nil : sumV [] = (0, 0, 0) := rfl
theorem sumV_cons (a : V3) (l : List V3) : sumV (a :: l) = addV a (sumV l) := rfl
theorem sumV_app (l m : List V3) : sumV (l ++ m) = addV (sumV l) (sumV m) := by
  induction l with
  | nil => rw [List.nil_append, sumV_nil, zero_addV]
  | cons a r ih => rw [List.cons_append, sumV_cons, sumV_cons, ih, addV_assoc]
theorem sumV_take (l : List V3) {k : Nat} (h : k < l.length) : sumV (l.take (k + 1)) = addV (sumV (l.take k)) l[k] := by
  rw [List.take_succ_eq_append_getElem h, sumV_app, sumV_cons, sumV_nil, addV_zero]
/-- every component lies between -m and m -/
def InV (m : Int) (v : V3) : Prop := (-m ≤ v.1 ∧ v.1 ≤ m) ∧ (-m ≤ v.2.1 ∧ v.2.1 ≤ m) ∧ (-m ≤ v.2.2 ∧ v.2.2 ≤ m)
theorem InV.zero {m : Int} (h : 0 ≤ m) : InV m (0, 0, 0) := by unfold InV; dsimp only; omega
theorem InV.add {m n : Int} {a b : V3} (h : InV m a) (k : InV n b) : InV (m + n) (addV a b) := by
  unfold InV addV at *
  dsimp only
  omega
theorem InV.mono {m n : Int} {a : V3} (h : InV m a) (k : m ≤ n) : InV n a := by
  unfold InV at *
  omega
theorem sumV_bd {m : Int} (hm : 0 ≤ m) : ∀ {l : List V3}, (∀ v ∈ l, InV m v) → InV (l.length * m) (sumV l)
  | [], _ => by simpa [sumV] using InV.zero (Int.le_refl 0)
  | a :: l, h => by
    have h1 := sumV_bd hm (l := l) (fun v hv => h v (List.mem_cons_of_mem _ hv))
    have h2 := (h a List.mem_cons_self).add h1
    rw [sumV_cons]
    have e : ((a :: l).length : Int) * m = m + (l.length : Int) * m := by rw [List.length_cons, Int.natCast_add, Int.add_mul]; omega
    rw [e]
    exact h2
theorem gdN {α : Type} (l : List α) (k : Nat) (d : α) (h : l.length ≤ k) : l.getD k d = d := by simp [List.getD, h]
/-- weighted points -/
abbrev WL := List (Int × V3)
def wsum (l : WL) : V3 := sumV (l.map fun p => mulV p.1 p.2)
def wtot (l : WL) : Int := (l.map Prod.fst).sum
def avgL (l : WL) : V3 := divV (wtot l) (wsum l)
def BdW (l : WL) : Prop := ∀ p ∈ l, (-4096 ≤ p.1 ∧ p.1 ≤ 4096) ∧ InV 1000000 p.2
theorem mulV_bd {k : Int} {v : V3} (hk : -4096 ≤ k ∧ k ≤ 4096) (hv : InV 1000000 v) : InV 4096000000 (mulV k v) :=
  ⟨mul_bd hk hv.1, mul_bd hk hv.2.1, mul_bd hk hv.2.2⟩
theorem BdW.take {l : WL} (h : BdW l) (k : Nat) : BdW (l.take k) := fun p hp => h p (List.mem_of_mem_take hp)
theorem wsum_bd {l : WL} (h : BdW l) (hl : l.length ≤ 1000) : InV 4096000000000 (wsum l) := by
  have h1 := sumV_bd (m := 4096000000) (by omega) (l := l.map fun p => mulV p.1 p.2) (fun v hv => by
    obtain ⟨p, hp, rfl⟩ := List.mem_map.1 hv
    exact mulV_bd (h p hp).1 (h p hp).2)
  rw [List.length_map] at h1
  exact h1.mono (by omega)
theorem wtot_bd : ∀ {l : WL}, BdW l → -(4096 * (l.length : Int)) ≤ wtot l ∧ wtot l ≤ 4096 * (l.length : Int)
  | [], _ => by simp [wtot]
  | a :: l, h => by
    have h1 := wtot_bd (l := l) (fun p hp => h p (List.mem_cons_of_mem _ hp))
    have h2 := (h a List.mem_cons_self).1
    simp only [wtot, List.map_cons, List.sum_cons, List.length_cons] at h1 ⊢
    omega
theorem wsum_take (l : WL) {k : Nat} (h : k < l.length) : wsum (l.take (k + 1)) = addV (wsum (l.take k)) (mulV l[k].1 l[k].2) := by
  unfold wsum
  rw [List.take_succ_eq_append_getElem h, List.map_append, sumV_app]
  simp only [List.map_cons, List.map_nil, sumV_cons, sumV_nil, addV_zero]
theorem wtot_take (l : WL) {k : Nat} (h : k < l.length) : wtot (l.take (k + 1)) = wtot (l.take k) + l[k].1 := by
  unfold wtot
  rw [List.take_succ_eq_append_getElem h, List.map_append, List.sum_append]
  simp
/-- the first points bear the given weights, those behind them 1 -/
def wl (l : List V3) (ws : List Int) : WL := (List.range l.length).map fun k => (ws.getD k 1, l.getD k (0, 0, 0))
theorem wl_len (l : List V3) (ws : List Int) : (wl l ws).length = l.length := by simp [wl]
theorem wl_at (l : List V3) (ws : List Int) {k : Nat} (h : k < l.length) : (wl l ws)[k]'(by rw [wl_len]; exact h) = (ws.getD k 1, l[k]) := by
  simp [wl, h]
theorem wl_bd {l : List V3} {ws : List Int} (hw : ∀ x ∈ ws, -4096 ≤ x ∧ x ≤ 4096) (hl : ∀ v ∈ l, InV 1000000 v) : BdW (wl l ws) := by
  intro p hp
  obtain ⟨k, hk, rfl⟩ := List.getElem_of_mem hp
  rw [wl_len] at hk
  rw [wl_at l ws hk]
  refine ⟨?_, hl _ (List.getElem_mem hk)⟩
  dsimp only
  by_cases h : k < ws.length
  · rw [gd ws k 1 h]; exact hw _ (List.getElem_mem h)
  · rw [gdN _ _ _ (by omega)]; omega
def ones (l : List V3) : WL := l.map fun v => (1, v)
theorem wl_nil (l : List V3) : wl l [] = ones l := by
  apply List.ext_getElem
  · simp [wl, ones]
  · intro k h1 h2
    rw [wl_len] at h1
    rw [wl_at l [] h1]
    simp [ones]
theorem wl_one (v : V3) (l : List V3) (x : Int) : wl (v :: l) [x] = (x, v) :: ones l := by
  apply List.ext_getElem
  · simp [wl, ones]
  · intro k h1 h2
    rw [wl_len] at h1
    rw [wl_at _ _ h1]
    cases k with
    | zero => simp
    | succ k => simp [ones]
theorem mulV_one (v : V3) : mulV 1 v = v := by simp [mulV]
theorem wsum_ones (l : List V3) : wsum (ones l) = sumV l := by
  unfold wsum ones
  rw [List.map_map]
  congr 1
  rw [show ((fun p : Int × V3 => mulV p.1 p.2) ∘ fun v => (1, v)) = id from funext fun v => mulV_one v, List.map_id]
theorem wtot_ones (l : List V3) : wtot (ones l) = l.length := by
  unfold wtot ones
  rw [List.map_map]
  induction l with
  | nil => rfl
  | cons a r ih => simp only [List.map_cons, List.sum_cons, List.length_cons, ih]; simp; omega
theorem wsum_cons (p : Int × V3) (l : WL) : wsum (p :: l) = addV (mulV p.1 p.2) (wsum l) := rfl
theorem wtot_cons (p : Int × V3) (l : WL) : wtot (p :: l) = p.1 + wtot l := by simp [wtot]
theorem ones_bd {l : List V3} (h : ∀ v ∈ l, InV 1000000 v) : BdW (ones l) := by rw [← wl_nil]; exact wl_bd (by simp) h
/-- an average lies within the bounds of what it is taken of -/
theorem quot_bd {s n lo hi : Int} (hn : 0 < n) (h0 : n * lo ≤ s) (h1 : s ≤ n * hi) : lo ≤ fdivP s n ∧ fdivP s n ≤ hi := by
  have hm := fdivP_mul s n (by omega)
  constructor
  · have : n * lo < n * (fdivP s n + 1) := by rw [Int.mul_add, Int.mul_one]; omega
    have := Int.lt_of_mul_lt_mul_left this (by omega)
    omega
  · exact Int.le_of_mul_le_mul_left (a := n) (by omega) hn
/-- within a box -/
def Btw (lo hi v : V3) : Prop := (lo.1 ≤ v.1 ∧ v.1 ≤ hi.1) ∧ (lo.2.1 ≤ v.2.1 ∧ v.2.1 ≤ hi.2.1) ∧ (lo.2.2 ≤ v.2.2 ∧ v.2.2 ≤ hi.2.2)
theorem mul_btw {k x lo hi : Int} (hk : 0 ≤ k) (h : lo ≤ x ∧ x ≤ hi) : k * lo ≤ k * x ∧ k * x ≤ k * hi := ⟨Int.mul_le_mul_of_nonneg_left h.1 hk, Int.mul_le_mul_of_nonneg_left h.2 hk⟩
theorem wsum_btw {lo hi : V3} : ∀ {l : WL}, (∀ p ∈ l, 0 ≤ p.1 ∧ Btw lo hi p.2) → Btw (mulV (wtot l) lo) (mulV (wtot l) hi) (wsum l)
  | [], _ => by simp [Btw, wtot, wsum, sumV, mulV]
  | a :: l, h => by
    have h1 := wsum_btw (l := l) (fun p hp => h p (List.mem_cons_of_mem _ hp))
    obtain ⟨h0, h2⟩ := h a List.mem_cons_self
    have m0 := mul_btw h0 h2.1
    have m1 := mul_btw h0 h2.2.1
    have m2 := mul_btw h0 h2.2.2
    rw [wtot_cons, wsum_cons]
    simp only [Btw, mulV, addV, Int.add_mul] at *
    omega
theorem avg_btw {lo hi : V3} {l : WL} (h : ∀ p ∈ l, 0 ≤ p.1 ∧ Btw lo hi p.2) (ht : 0 < wtot l) : Btw lo hi (avgL l) := by
  have h1 := wsum_btw h
  exact ⟨quot_bd ht h1.1.1 h1.1.2, quot_bd ht h1.2.1.1 h1.2.1.2, quot_bd ht h1.2.2.1 h1.2.2.2⟩
theorem InV.btw {m : Int} {v : V3} : InV m v ↔ Btw (-m, -m, -m) (m, m, m) v := Iff.rfl

theorem heldGrown' {w W W' : World} {bs : List (Nat × List Value)} {row : Option Nat} (h : Held w W bs) (hg : W.grownBy W' row) (hr : ∀ k, row = some k → w.heap.size ≤ k) (hne : ∀ p ∈ bs, some p.1 ≠ row) : Held w W' bs :=
  ⟨h.1.grown hg h.1.size hr, fun i k vs e => (h.2 i k vs e).keep fun hl => hg.block k hl (hne (k, vs) (List.mem_of_getElem? e))⟩
/-- a vector out of a slice of vectors -/
theorem RowC.vecK {w : World} {B : Nat} {A : Option Addr} {vs : List V3} (h : RowC 3 vg w B A vs) {k : Nat} (hk : k < vs.length) :
    ∃ b o v, A = some ⟨b, o, none⟩ ∧ b < B ∧ vs[k] = v ∧ w.cell? ⟨b, o + k * 3, none⟩ = some (.int .i64 v.1) ∧ w.cell? ⟨b, o + k * 3 + 1, none⟩ = some (.int .i64 v.2.1) ∧ w.cell? ⟨b, o + k * 3 + 2, none⟩ = some (.int .i64 v.2.2) := by
  obtain ⟨b, o, e, hb, hc⟩ := h.at hk
  obtain ⟨c0, c1, c2⟩ := vg_at hc
  exact ⟨b, o, _, e, hb, rfl, c0, c1, c2⟩
theorem Held.putVV {w W : World} {k : Nat} {a : V3} {bs : List (Nat × List Value)} (h : Held w W ((k, vg a) :: bs)) (hg : w.heap.size ≤ k) (hne : ∀ p ∈ bs, p.1 ≠ k) (b : V3) :
    Held w (((W.setCell ⟨k, 0, none⟩ (.int .i64 b.1)).setCell ⟨k, 1, none⟩ (.int .i64 b.2.1)).setCell ⟨k, 2, none⟩ (.int .i64 b.2.2)) ((k, vg b) :: bs) := ((h.put hg hne 0 (.int .i64 b.1)).put hg hne 1 (.int .i64 b.2.1)).put hg hne 2 (.int .i64 b.2.2)
/-- 'append(s, x...)' of vectors -/
theorem wpList_appV {P : Program} {ops : Array Oper} {rest : List Oper} {o : Oper} {a : Act} {Q : Exit → Act → World → Prop} (w : World) (hgd : o.guard = none) (s x : Operand) (t : TypeId)
    (ho : o.op = .call { callee := .builtin .append, args := #[s, x], argTypes := #[t, t] }) (base : Nat) (e : TypeId) (z : Value) (bytes : Nat)
    (ht : P.underlying t = some (.slice e)) (hinfo : (P.info? e).map (fun i => (i.zero, i.size, i.bytes)) = some (some z, 3, bytes)) (hzs : z.cells.size = 3)
    (v : Value) (n : Nat) (xs : List Value) (hs : a.eval s = v) (hown : w.ownsRow base e 3 v n xs) (g off m c B : Nat) (us : List V3) (hx : a.eval x = .slice (some ⟨g, off, none⟩) m c) (hl : us.length = m) (hc : RowC 3 vg w B (some ⟨g, off, none⟩) us)
    (h63 : n + m ≤ maxLen) (hbytes : (n + m) * bytes ≤ 140737488355328) (hbase : base ≤ w.heap.size)
    (h : ∀ v' w', w'.ownsRow base e 3 v' (n + m) (xs ++ us.flatMap vg) → w.grownBy w' v.ownBlock → wpList P ops Q rest (a.put o.dst v') w') : wpList P ops Q (o :: rest) a w := by
  obtain ⟨i0, hi, hz0, hz1, hz2⟩ := info_parts hinfo
  refine wpList_append_own _ hgd s x t ho base e i0 z 3 bytes ht hi hz0 hz1 hz2 hzs (by omega) v n xs hs hown ⟨g, off, none⟩ m c (us.flatMap vg) hx (by rw [flat_len vg_len, hl]) ?_ ?_ h63 hbytes hbase (fun v' w' h1 h2 _ => h v' w' h1 h2)
  · intro j y hj
    have hj1 := (List.getElem?_eq_some_iff.1 hj).1
    rw [flat_len vg_len] at hj1
    have hk : j / 3 < us.length := by omega
    obtain ⟨b1, o1, e1, _, hcell⟩ := hc.at hk
    simp only [Option.some.injEq, Addr.mk.injEq, and_true] at e1
    obtain ⟨rfl, rfl⟩ := e1
    rw [Addr.add_mid]
    have hg := flat_get vg_len us (j / 3) (j % 3) hk (by omega)
    have ej : j / 3 * 3 + j % 3 = j := by omega
    rw [ej, hj] at hg
    have := hcell (j % 3) y hg.symm
    rwa [show off + j / 3 * 3 + j % 3 = off + j by omega] at this
  · intro u hu
    obtain ⟨p, _, hp⟩ := List.mem_flatMap.1 hu
    simp only [vg, List.mem_cons, List.not_mem_nil, or_false] at hp
    rcases hp with rfl | rfl | rfl <;> rfl
/-- a call's answer: a slice of vectors of its own -/
def VsOut (w : World) (l : List V3) (e : Ending) (w' : World) : Prop :=
  ∃ A c, e = .returned (.slice A l.length c) ∧ w'.ownsRow w.heap.size 43 3 (.slice A l.length c) l.length (l.flatMap vg) ∧ Below w.heap.size w w'
theorem VsOut.some {w w' : World} {l : List V3} {e : Ending} (h : VsOut w l e w') (hl : 0 < l.length) : ∃ g o c, e = .returned (.slice (some ⟨g, o, none⟩) l.length c) ∧ w'.ownsRow w.heap.size 43 3 (.slice (some ⟨g, o, none⟩) l.length c) l.length (l.flatMap vg) ∧ RowC 3 vg w' w'.heap.size (some ⟨g, o, none⟩) l ∧ Below w.heap.size w w' := by
  obtain ⟨A, c, rfl, ho, hb⟩ := h
  have hr := RowC.of_own vg_len ho rfl
  obtain ⟨b, o, rfl, _, _⟩ := hr.at hl
  exact ⟨b, o, c, rfl, ho, hr, hb⟩
theorem flat_one (l : List V3) (v : V3) : (l ++ [v]).flatMap vg = l.flatMap vg ++ [.int .i64 v.1, .int .i64 v.2.1, .int .i64 v.2.2] := by simp [List.flatMap_append, vg]
end Go.Proofs.YtdefhepagpgnaaaGreat
