/- Contracts of faceEdges (program) and of IsValidMesh (model). -/
import Derived.Test.YtdefhepagpgnaaaGreatProg
import Derived.Test.YtdefhepagpgnaaaGreatInts
import Derived.Test.YtdefhepagpgnaaaGreatVbox
import Derived.Test.YtdefhepagpgnaaaGreatVec
import Derived.Test.YtdefhepagpgnaaaGreatHeld
import Derived.Test.YtdefhepagpgnaaaGreatMem
import Derived.Test.YtdefhepagpgnaaaGreatRowC
import Derived.Test.YtdefhepagpgnaaaGreatIntS
import Derived.Test.YtdefhepagpgnaaaGreatVecS
import Derived.Test.YtdefhepagpgnaaaGreatSS
import Derived.Test.YtdefhepagpgnaaaGreatMkA
import Derived.Test.YtdefhepagpgnaaaGreatMkB
import Derived.Test.YtdefhepagpgnaaaGreatMkC
import Derived.Test.YtdefhepagpgnaaaGreatMkD
import Derived.Test.YtdefhepagpgnaaaGreatMF
import Derived.Test.YtdefhepagpgnaaaGreatMG
import Derived.WalkKit
import Derived.WalkSpells
import Derived.WalkLawsBesides
import Derived.Lib.Hide
import Derived.Deep.RegionHeld3
import Derived.Deep.QuietTactic
import Derived.BigQuiet
import Derived.Handy
import Derived.Deep.DeepCutAuto
import Derived.OwnWalk
namespace Go.Proofs.YtdefhepagpgnaaaGreat
open Go.RowKit


/-- 'append(s, x)' of one element of several cells onto a row of the call's own: the operand's own block is the newest one -/
theorem wpList_appN {P : Program} {ops : Array Oper} {rest : List Oper} {o : Oper} {a : Act} {Q : Exit → Act → World → Prop} (w0 : World) (hgd : o.guard = none) (s x : Operand) (t : TypeId)
    (ho : o.op = .call { callee := .builtin .append, args := #[s, x], argTypes := #[t, t] }) (base : Nat) (e : TypeId) (z : Value) (m bytes : Nat)
    (ht : P.underlying t = some (.slice e)) (hinfo : (P.info? e).map (fun i => (i.zero, i.size, i.bytes)) = some (some z, m, bytes)) (hzs : z.cells.size = m) (hm : 0 < m)
    (v : Value) (n : Nat) (xs : List Value) (hs : a.eval s = v) (hown : w0.ownsRow base e m v n xs) (us : Array Value) (hus : us.size = m) (hx : a.eval x = .slice (some ⟨w0.heap.size, 0, none⟩) 1 1) (hu : ∀ u ∈ us.toList, u.oneCell' = true)
    (h63 : n + 1 ≤ maxLen) (hbytes : (n + 1) * bytes ≤ 140737488355328) (hbase : base ≤ w0.heap.size)
    (h : ∀ v' w', w'.ownsRow base e m v' (n + 1) (xs ++ us.toList) → w0.grownBy w' v.ownBlock → wpList P ops Q rest (a.put o.dst v') w') : wpList P ops Q (o :: rest) a (w0.alloc (.cells us e)) := by
  obtain ⟨i0, hi, hz0, hz1, hz2⟩ := info_parts hinfo
  refine wpList_append_own _ hgd s x t ho base e i0 z m bytes ht hi hz0 hz1 hz2 hzs hm v n xs hs (hown.alloc _) ⟨w0.heap.size, 0, none⟩ 1 1 us.toList hx (by simp [hus]) ?_ hu h63 hbytes (by simp; omega) ?_
  · intro j y hj
    have M := Mbox.new w0 us e
    have := M.c j hj
    rw [Addr.add_mid, Nat.zero_add]
    exact this
  · intro v' w' h1 h2 _
    exact h v' w' h1 ⟨h2.os, h2.tape, h2.output, Nat.le_trans (by simp) h2.size, fun k hk hr => (h2.block k (by simp; omega) hr).trans (Below.heap_alloc w0 _ k hk)⟩
/-- a new slice of edges, owned -/
def EdgesOwn (w : World) (es : List E2) (e : Ending) (w' : World) : Prop :=
  ∃ A c, e = .returned (.slice A es.length c) ∧ w'.ownsRow w.heap.size 81 2 (.slice A es.length c) es.length (es.flatMap eg) ∧ Below w.heap.size w w'
/-- a new slice of edges -/
def EdgesOut (w : World) (es : List E2) (e : Ending) (w' : World) : Prop :=
  ∃ A c, e = .returned (.slice A es.length c) ∧ RowC 2 eg w' w'.heap.size A es ∧ (∀ a, A = some a → w.heap.size ≤ a.block) ∧ Below w.heap.size w w'
theorem eg_at {w : World} {b o : Nat} {v : E2} (h : ∀ j u, (eg v)[j]? = some u → w.cell? ⟨b, o + j, none⟩ = some u) :
    w.cell? ⟨b, o, none⟩ = some (.int .i64 v.1) ∧ w.cell? ⟨b, o + 1, none⟩ = some (.int .i64 v.2) := ⟨h 0 _ rfl, h 1 _ rfl⟩
theorem nilOwn (w : World) (base : Nat) (e : TypeId) (m : Nat) : w.ownsRow base e m nilS 0 [] := World.ownsRow_nil _ _ _ _
set_option maxHeartbeats 2000000 in
theorem faceEdges_own (A : Option Addr) (c : Nat) (f : List Int) (w : World) (hR : Row I64 w w.heap.size A f) (hl : f.length ≤ 1048576) :
    Calls Tryz.prog 67 #[.slice A f.length c] w (EdgesOwn w (stepsL f)) := by
  have HR := Lib.hid hR
  have HO0 := Lib.hid (nilOwn w w.heap.size 81 2)
  obtain ⟨n, hn⟩ : ∃ m, m = f.length := ⟨_, rfl⟩
  have HM := Lib.hid hn
  rw [← hn] at hl ⊢
  clear hR hn
  go_enter Tryz.func67, Tryz.ntmps67
  go_wp2
  go_loopw [3, 8] (fun v i wr => ∃ k : Nat, k ≤ n ∧ i = .int .i64 k ∧ wr.ownsRow w.heap.size 81 2 v k (((List.range k).map (stepAt f)).flatMap eg) ∧ Below w.heap.size w wr) (fun _ i _ => n - (intOf i).toNat)
  case atStart => exact ⟨0, Nat.zero_le _, rfl, HO0.out, Below.refl _ _⟩
  case round =>
    obtain ⟨k, hk, rfl, hown, hb⟩ := hrel
    clear HO0
    have HO := Lib.hid hown
    have HB := Lib.hid hb
    clear hown hb
    by_cases hlt : k < n
    · have hlt' : k < f.length := by have := HM.out; omega
      obtain ⟨b, o, e, hbl, q0⟩ := HR.out.at hlt'
      have hn0 : ¬ ((n : Int) = 0) := by omega
      have hrem := rem_nat k n
      have hr2 : (k + 1) % n < n := Nat.mod_lt _ (by omega)
      have HST : Hid (((List.range (k + 1)).map (stepAt f)).flatMap eg = ((List.range k).map (stepAt f)).flatMap eg ++ [.int .i64 f[k], .int .i64 (f[(k + 1) % n]'(by have := HM.out; omega))]) := Lib.hid (by
        rw [range_take_map, List.flatMap_append]
        have := stepAt_eq f k hlt' (by have := HM.out; rw [← this]; exact hr2)
        simp only [List.flatMap_cons, List.flatMap_nil, List.append_nil, this, eg, HM.out])
      obtain ⟨r, hr⟩ : ∃ r, r = (k + 1) % n := ⟨_, rfl⟩
      rw [← hr] at hrem hr2
      simp only [← hr] at HST
      have hrl : r < f.length := by have := HM.out; omega
      obtain ⟨b1, o1, e1, hbl1, q1⟩ := HR.out.at hrl
      rw [e] at e1
      simp only [Option.some.injEq, Addr.mk.injEq, and_true] at e1
      obtain ⟨rfl, rfl⟩ := e1
      subst e
      have hc0 := (HB.out.cell (p := ⟨b, o + k, none⟩) hbl).trans q0
      have hc1 := (HB.out.cell (p := ⟨b, o + r, none⟩) hbl).trans q1
      obtain ⟨x, hx⟩ : ∃ x, x = f[k] := ⟨_, rfl⟩
      obtain ⟨y, hy⟩ : ∃ y, y = f[r] := ⟨_, rfl⟩
      rw [← hx] at hc0
      rw [← hy] at hc1
      simp only [← hx, ← hy] at HST
      have hri : (0 : Int) ≤ (r : Int) := by omega
      have hri2 : (r : Int) < (n : Int) := by omega
      clear hx hy hr q0 q1 hrl hlt'
      go_wp2_with (at_builtin; (refine wpList_appN wr rfl _ _ 82 rfl w.heap.size 81 (.agg #[.int .i64 0, .int .i64 0]) 2 16 Tryz.underlying82 infoE rfl (by omega) _ _ _ (by rfl) HO.out #[.int .i64 x, .int .i64 y] rfl (by rfl) (by simp [Value.oneCell']) (by unfold maxLen; omega) (by omega) HB.out.size ?_))
      intro v' w4 ho4 hg4
      have HB4 := Lib.hid (HB.out.grown hg4 HB.out.size (own_block HO.out))
      have HO4 : Hid (w4.ownsRow w.heap.size 81 2 v' (k + 1) (((List.range (k + 1)).map (stepAt f)).flatMap eg)) := Lib.hid (by rw [HST.out]; exact ho4)
      clear ho4 hg4 HO HB HST
      go_wp2_with fail
      go_roundw
      case rel => exact ⟨k + 1, by omega, by go_num, HO4.out, HB4.out⟩
      case measure => simp [intOf]; omega
    · have e : k = f.length := by have := HM.out; omega
      obtain ⟨A1, c1, e1⟩ := own_shape HO.out
      have HF : Hid (EdgesOwn w (stepsL f) (.returned u3) wr) := Lib.hid (by
        have ho := HO.out
        rw [e1, e] at ho
        exact ⟨A1, c1, by rw [e1, e, stepsL_len], by rw [stepsL_len]; exact ho, HB.out⟩)
      clear e e1 HO HB
      go_wp2
      go_ret
      exact HF.out

theorem faceEdges_any (A : Option Addr) (c : Nat) (f : List Int) (w : World) (hR : Row I64 w w.heap.size A f) (hl : f.length ≤ 1048576) :
    Calls Tryz.prog 67 #[.slice A f.length c] w (EdgesOut w (stepsL f)) :=
  (faceEdges_own A c f w hR hl).mono fun _ _ ⟨A1, c1, he, ho, hb⟩ => ⟨A1, c1, he, RowC.of_own eg_len ho rfl, fun a ha => own_block ho a.block (by rw [ha]; rfl), hb⟩


theorem okMesh_iff (vs : List V3) (fs : List (List Int)) : okMesh vs fs = true ↔ vs.length ≤ 80 ∧ fs.length ≤ 64 ∧ (∀ v ∈ vs, okV3 v = true) ∧ (∀ f ∈ fs, okFace vs.length f = true) ∧ (fs.flatMap stepsL).Nodup := by
  simp only [okMesh, Bool.and_eq_true, decide_eq_true_eq, List.all_eq_true, and_assoc]
theorem okMesh_no {vs : List V3} {fs : List (List Int)} (h : ¬ (vs.length ≤ 80 ∧ fs.length ≤ 64 ∧ (∀ v ∈ vs, okV3 v = true) ∧ (∀ f ∈ fs, okFace vs.length f = true) ∧ (fs.flatMap stepsL).Nodup)) : okMesh vs fs = false := by
  cases h1 : okMesh vs fs
  · rfl
  · exact absurd ((okMesh_iff vs fs).1 h1) h
/-- the edges of the first k faces -/
def stepsTo (fs : List (List Int)) (k : Nat) : List E2 := (fs.take k).flatMap stepsL
theorem stepsTo_succ (fs : List (List Int)) (k : Nat) (h : k < fs.length) : stepsTo fs (k + 1) = stepsTo fs k ++ stepsL fs[k] := by
  unfold stepsTo
  rw [List.take_succ_eq_append_getElem h, List.flatMap_append]
  simp
theorem stepsTo_all (fs : List (List Int)) : stepsTo fs fs.length = fs.flatMap stepsL := by simp [stepsTo]
theorem stepsTo_pre (fs : List (List Int)) (k : Nat) : ∃ r, fs.flatMap stepsL = stepsTo fs k ++ r := ⟨(fs.drop k).flatMap stepsL, by rw [stepsTo, ← List.flatMap_append, List.take_append_drop]⟩
/-- an edge that stands among those ahead of it -/
theorem not_nodup_of_mem {α : Type} {l1 l2 l : List α} {x : α} (h : l = l1 ++ x :: l2) (hx : x ∈ l1) : ¬ l.Nodup := by
  intro hn
  rw [h, List.nodup_append] at hn
  exact hn.2.2 x hx x (by simp) rfl
theorem pr_inj {a b : E2} : pr a = pr b ↔ a = b := by
  constructor
  · intro h; simp [pr] at h; exact Prod.ext h.1 h.2
  · rintro rfl; rfl
end Go.Proofs.YtdefhepagpgnaaaGreat
