/- What subdivision makes: values; a map from edges to integers. -/
import Derived.Test.YtdefhepagpgnaaaGreatProg
import Derived.Test.YtdefhepagpgnaaaGreatInts
import Derived.Test.YtdefhepagpgnaaaGreatVbox
import Derived.Test.YtdefhepagpgnaaaGreatVec
import Derived.Test.YtdefhepagpgnaaaGreatHeld
import Derived.Test.YtdefhepagpgnaaaGreatMem
import Derived.Test.YtdefhepagpgnaaaGreatRowC
import Derived.Test.YtdefhepagpgnaaaGreatIntS
import Derived.Test.YtdefhepagpgnaaaGreatVecS
import Derived.Test.YtdefhepagpgnaaaGreatSS
import Derived.Test.YtdefhepagpgnaaaGreatMkA
import Derived.Test.YtdefhepagpgnaaaGreatMkB
import Derived.Test.YtdefhepagpgnaaaGreatMkC
import Derived.Test.YtdefhepagpgnaaaGreatMkD
import Derived.Test.YtdefhepagpgnaaaGreatMF
import Derived.Test.YtdefhepagpgnaaaGreatMG
import Derived.Test.YtdefhepagpgnaaaGreatMH
import Derived.Test.YtdefhepagpgnaaaGreatMM
import Derived.Test.YtdefhepagpgnaaaGreatMV
import Derived.Test.YtdefhepagpgnaaaGreatMVF
import Derived.Test.YtdefhepagpgnaaaGreatMT
import Derived.Test.YtdefhepagpgnaaaGreatME
import Derived.Test.YtdefhepagpgnaaaGreatMEF
import Derived.Test.YtdefhepagpgnaaaGreatMEd
import Derived.Test.YtdefhepagpgnaaaGreatMNb
import Derived.Test.YtdefhepagpgnaaaGreatMB
import Derived.Test.YtdefhepagpgnaaaGreatMBd
import Derived.Test.YtdefhepagpgnaaaGreatKp
import Derived.Test.YtdefhepagpgnaaaGreatKa
import Derived.WalkKit
import Derived.WalkSpells
import Derived.WalkLawsBesides
import Derived.Lib.Hide
import Derived.Deep.RegionHeld3
import Derived.Deep.QuietTactic
import Derived.BigQuiet
import Derived.Handy
import Derived.Deep.DeepCutAuto
import Derived.OwnWalk
import Derived.Maps.RangeWalk
import Derived.Maps.Ext
import Derived.Maps.OwnOps
import Derived.Maps.Views
import Derived.Maps.AppendAt
import Derived.WideKeyEntry
import Derived.DeepKeys5
import Derived.ChangeKeysEq
import Derived.WalkArith
import Derived.OpenShut
namespace Go.Proofs.YtdefhepagpgnaaaGreat
open Go.RowKit Go.Maps

/-- corner i of face k, cut off: the corner, the next edge's point, the face's point, the last edge's point -/
def qd (n : Nat) (es : List E2) (f : List Int) (k i : Nat) : List Int := [f.getD i 0, ((n + es.idxOf (und (stepAt f i)) : Nat) : Int), ((n + es.length + k : Nat) : Int), ((n + es.idxOf (und (stepAt f ((i + 3) % 4))) : Nat) : Int)]
def qdF (n : Nat) (es : List E2) (f : List Int) (k i : Nat) : List (List Int) := (List.range i).map (qd n es f k)
def qdTo (n : Nat) (es : List E2) (fs : List (List Int)) (k : Nat) : List (List Int) := (List.range k).flatMap fun j => qdF n es (fs.getD j []) j 4
theorem qdF_succ (n : Nat) (es : List E2) (f : List Int) (k i : Nat) : qdF n es f k (i + 1) = qdF n es f k i ++ [qd n es f k i] := range_take_map _ _
theorem qdTo_succ (n : Nat) (es : List E2) (fs : List (List Int)) (k : Nat) (h : k < fs.length) : qdTo n es fs (k + 1) = qdTo n es fs k ++ qdF n es fs[k] k 4 := by
  unfold qdTo
  rw [List.range_succ, List.flatMap_append]
  simp only [List.flatMap_cons, List.flatMap_nil, List.append_nil, gd fs k [] h]
theorem qdF_len (n : Nat) (es : List E2) (f : List Int) (k i : Nat) : (qdF n es f k i).length = i := by simp [qdF]
theorem qdTo_len (n : Nat) (es : List E2) (fs : List (List Int)) : ∀ k, k ≤ fs.length → (qdTo n es fs k).length = 4 * k
  | 0, _ => by simp [qdTo]
  | k + 1, h => by rw [qdTo_succ n es fs k h, List.length_append, qdTo_len n es fs k (by omega), qdF_len]; omega
/-- the faces of the mesh that subdivision makes -/
def subF (vs : List V3) (fs : List (List Int)) : List (List Int) := qdTo vs.length (edL vs fs) fs fs.length
/-- its vertices -/
def vpS (vs : List V3) (fs : List (List Int)) (k : Nat) : List V3 := (List.range k).map fun i => vpL vs fs ((i : Nat) : Int)
def epS (vs : List V3) (fs : List (List Int)) (l : List E2) : List V3 := l.map fun e => epL vs fs e.1 e.2
def fpS (vs : List V3) (fs : List (List Int)) (k : Nat) : List V3 := (List.range k).map fun i => fpI vs fs ((i : Nat) : Int)
def subP (vs : List V3) (fs : List (List Int)) : List V3 := vpS vs fs vs.length ++ epS vs fs (edL vs fs) ++ fpS vs fs fs.length
def subOk (vs : List V3) (fs : List (List Int)) : Bool := okMesh vs fs && decide (fs.length ≤ 16) && decide (vs.length + (edL vs fs).length + fs.length ≤ 80)
theorem vpS_succ (vs : List V3) (fs : List (List Int)) (k : Nat) : vpS vs fs (k + 1) = vpS vs fs k ++ [vpL vs fs ((k : Nat) : Int)] := range_take_map _ _
theorem fpS_succ (vs : List V3) (fs : List (List Int)) (k : Nat) : fpS vs fs (k + 1) = fpS vs fs k ++ [fpI vs fs ((k : Nat) : Int)] := range_take_map _ _
theorem epS_take (vs : List V3) (fs : List (List Int)) (l : List E2) (k : Nat) (h : k < l.length) : epS vs fs (l.take (k + 1)) = epS vs fs (l.take k) ++ [epL vs fs l[k].1 l[k].2] := by
  unfold epS
  rw [List.take_succ_eq_append_getElem h, List.map_append]
  rfl
theorem vpS_len (vs : List V3) (fs : List (List Int)) (k : Nat) : (vpS vs fs k).length = k := by simp [vpS]
theorem fpS_len (vs : List V3) (fs : List (List Int)) (k : Nat) : (fpS vs fs k).length = k := by simp [fpS]
theorem epS_len (vs : List V3) (fs : List (List Int)) (l : List E2) : (epS vs fs l).length = l.length := by simp [epS]
theorem subP_len (vs : List V3) (fs : List (List Int)) : (subP vs fs).length = vs.length + (edL vs fs).length + fs.length := by simp [subP, vpS_len, epS_len, fpS_len]; omega
theorem subF_len (vs : List V3) (fs : List (List Int)) : (subF vs fs).length = 4 * fs.length := qdTo_len _ _ _ _ (Nat.le_refl _)
theorem subOk_iff (vs : List V3) (fs : List (List Int)) : subOk vs fs = true ↔ okMesh vs fs = true ∧ fs.length ≤ 16 ∧ vs.length + (edL vs fs).length + fs.length ≤ 80 := by
  simp only [subOk, Bool.and_eq_true, decide_eq_true_eq, and_assoc]
theorem subOk_no {vs : List V3} {fs : List (List Int)} (h : ¬ (okMesh vs fs = true ∧ fs.length ≤ 16 ∧ vs.length + (edL vs fs).length + fs.length ≤ 80)) : subOk vs fs = false := by
  cases h1 : subOk vs fs
  · rfl
  · exact absurd ((subOk_iff vs fs).1 h1) h
theorem step_ed {vs : List V3} {fs : List (List Int)} (hok : okMesh vs fs = true) {k i : Nat} (hk : k < fs.length) (hi : i < 4) : und (stepAt fs[k] i) ∈ edL vs fs := by
  unfold edL
  refine (edgesL_mem _ _).2 ?_
  unfold tabL
  rw [if_pos hok]
  refine List.mem_map.2 ⟨(und (stepAt fs[k] i), (k : Int)), ?_, rfl⟩
  unfold tabTo
  refine List.mem_flatMap.2 ⟨k, List.mem_range.2 hk, ?_⟩
  rw [gd fs k [] hk]
  unfold faceS
  have h4 := (face_in4 ((ok_all hok).2.2 _ (List.getElem_mem hk))).1
  exact List.mem_map.2 ⟨stepAt fs[k] i, List.mem_map.2 ⟨i, List.mem_range.2 (by omega), rfl⟩, rfl⟩

/-- a map from edges to integers: block b reads e as g e -/
def PlcAt (w : World) (b n : Nat) (g : E2 → Int) : Prop :=
  ∃ D : DataW Value, w.ownsMap Tryz.prog 81 rawR b n D ∧ IsMap D ∧ ∀ e, wfE e → D.atKey (ek e) (.held (.int .i64 0)) = .held (.int .i64 (g e))
theorem PlcAt.made (w : World) : PlcAt (w.alloc (.map #[] 0)) w.heap.size 0 (fun _ => 0) :=
  ⟨.map [], World.ownsMap_made _ _ _ _, isMap_empty, fun _ _ => rfl⟩
theorem PlcAt.kept {w w' : World} {row : Option Nat} {b n : Nat} {g : E2 → Int} (h : PlcAt w b n g) (hg : w.grownBy w' row) (hne : some b ≠ row) : PlcAt w' b n g := by
  obtain ⟨D, h1, h2⟩ := h
  exact ⟨D, h1.kept hg hne, h2⟩
theorem PlcAt.later {w w' : World} {b n : Nat} {g : E2 → Int} (h : PlcAt w b n g) (hb : Below w.heap.size w w') : PlcAt w' b n g := h.kept (gb_of_below hb (row := none)) (by simp)
theorem PlcAt.alloc {w : World} {b n : Nat} {g : E2 → Int} (h : PlcAt w b n g) (o : Obj) : PlcAt (w.alloc o) b n g := h.kept (World.grownBy_alloc w o none) (by simp)
theorem PlcAt.lt {w : World} {b n : Nat} {g : E2 → Int} (h : PlcAt w b n g) : b < w.heap.size := by
  obtain ⟨D, h1, _⟩ := h
  exact h1.lt
theorem PlcAt.look {w : World} {b n : Nat} {g : E2 → Int} (h : PlcAt w b n g) (e : E2) (he : wfE e) :
    (Instr.lookup 79 (.map (some b)) (.agg #[.int .i64 e.1, .int .i64 e.2]) false).run Tryz.prog w = .ok (.int .i64 (g e)) w := by
  obtain ⟨D, h1, _, h3⟩ := h
  obtain ⟨v, ps, hr, hv⟩ := h1.lookup mKeyed Tryz.underlying79 (z := .int .i64 0) (by kernel_rfl) (zd := .held (.int .i64 0)) rfl (keyOf_edge e.1 e.2 he.1 he.2)
  rw [h3 e he] at hv
  have := rawR_inv hv
  simp only [Prod.mk.injEq, DataW.held.injEq] at this
  rw [hr, ← this.1]
theorem PlcAt.put {w : World} {b n : Nat} {g : E2 → Int} (h : PlcAt w b n g) (hn : n < maxLen) (e : E2) (he : wfE e) (x : Int) {g' : E2 → Int} (hg' : ∀ e', g' e' = if e' = e then x else g e') :
    ∃ w', (Instr.mapUpdate 79 (.map (some b)) (.agg #[.int .i64 e.1, .int .i64 e.2]) (.int .i64 x)).run Tryz.prog w = .ok () w' ∧ PlcAt w' b (n + 1) g' ∧ w.grownBy w' (some b) := by
  obtain ⟨D, h1, h2, h3⟩ := h
  obtain ⟨w', hr, ho, hg⟩ := h1.update mKeyed Tryz.underlying79 hn (val := .int .i64 x) (keyOf_edge e.1 e.2 he.1 he.2) (d := .held (.int .i64 x)) (ps := []) rfl
  refine ⟨w', hr, ⟨_, ho, h2.put _ _, fun e' he' => ?_⟩, hg⟩
  by_cases c : e' = e
  · subst c
    rw [atKey_put_same h2 (ek_key _), hg', if_pos rfl]
  · rw [atKey_put_other (fun h => c (ek_inj he' he h)), h3 e' he', hg', if_neg c]
/-- the first k edges have their places in the map -/
def plTo (n : Nat) (es : List E2) (k : Nat) (e : E2) : Int := if es.idxOf e < k then ((n + es.idxOf e : Nat) : Int) else 0
theorem plTo_zero (n : Nat) (es : List E2) : plTo n es 0 = fun _ => 0 := by funext e; simp [plTo]
theorem plTo_succ (n : Nat) {es : List E2} (hn : es.Nodup) {k : Nat} (hk : k < es.length) (e' : E2) : plTo n es (k + 1) e' = if e' = es[k] then ((n + k : Nat) : Int) else plTo n es k e' := by
  unfold plTo
  by_cases c : e' = es[k]
  · rw [if_pos c, c, hn.idxOf_getElem k hk, if_pos (Nat.lt_succ_self k)]
  · rw [if_neg c]
    have hne : es.idxOf e' ≠ k := fun h => c (by
      have h1 := List.getElem_idxOf (x := e') (xs := es) (by omega)
      rw [← h1]
      congr 1)
    by_cases h : es.idxOf e' < k
    · rw [if_pos h, if_pos (by omega)]
    · rw [if_neg h, if_neg (by omega)]
theorem plTo_mem (n : Nat) {es : List E2} {e : E2} (h : e ∈ es) : plTo n es es.length e = ((n + es.idxOf e : Nat) : Int) := by
  unfold plTo
  rw [if_pos (List.idxOf_lt_length_of_mem h)]

/-- a call's answer: a mesh of its own, and whether it is one -/
def MeshRes (w : World) (P : List V3) (F : List (List Int)) (ok : Bool) (e : Ending) (w' : World) : Prop :=
  ∃ A1 c1 A2 c2 ps, e = .returned (.tuple #[mv A1 A2 P.length c1 F.length c2, .bool ok]) ∧ w'.ownsRow w.heap.size 43 3 (.slice A1 P.length c1) P.length (P.flatMap vg) ∧
    w'.ownsRow w.heap.size 45 1 (.slice A2 F.length c2) F.length (ps.map hdr) ∧ ps.map Prod.snd = F ∧ LotT w' ps ∧ (∀ p ∈ ps, w.heap.size ≤ p.1) ∧ Below w.heap.size w w'

end Go.Proofs.YtdefhepagpgnaaaGreat
