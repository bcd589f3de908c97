/- The table of the edges of a mesh: a map to slices of integers, each in a block of its own. -/
import Derived.Test.YtdefhepagpgnaaaGreatProg
import Derived.Test.YtdefhepagpgnaaaGreatInts
import Derived.Test.YtdefhepagpgnaaaGreatVbox
import Derived.Test.YtdefhepagpgnaaaGreatVec
import Derived.Test.YtdefhepagpgnaaaGreatHeld
import Derived.Test.YtdefhepagpgnaaaGreatMem
import Derived.Test.YtdefhepagpgnaaaGreatRowC
import Derived.Test.YtdefhepagpgnaaaGreatIntS
import Derived.Test.YtdefhepagpgnaaaGreatVecS
import Derived.Test.YtdefhepagpgnaaaGreatSS
import Derived.Test.YtdefhepagpgnaaaGreatMkA
import Derived.Test.YtdefhepagpgnaaaGreatMkB
import Derived.Test.YtdefhepagpgnaaaGreatMkC
import Derived.Test.YtdefhepagpgnaaaGreatMkD
import Derived.Test.YtdefhepagpgnaaaGreatMF
import Derived.Test.YtdefhepagpgnaaaGreatMG
import Derived.Test.YtdefhepagpgnaaaGreatMH
import Derived.Test.YtdefhepagpgnaaaGreatMM
import Derived.Test.YtdefhepagpgnaaaGreatMN
import Derived.WalkKit
import Derived.WalkSpells
import Derived.WalkLawsBesides
import Derived.Lib.Hide
import Derived.Deep.RegionHeld3
import Derived.Deep.QuietTactic
import Derived.BigQuiet
import Derived.Handy
import Derived.Deep.DeepCutAuto
import Derived.OwnWalk
import Derived.Maps.RangeWalk
import Derived.Maps.Ext
import Derived.Maps.OwnOps
import Derived.Maps.Views
import Derived.Maps.AppendAt
import Derived.WideKeyEntry
import Derived.DeepKeys5
import Derived.ChangeKeysEq
import Derived.WalkArith
import Derived.OpenShut
namespace Go.Proofs.YtdefhepagpgnaaaGreat
open Go.RowKit Go.Maps Go.ChangeMaps


/-- an edge without its direction -/
def und (e : E2) : E2 := (mnP e.1 e.2, mxP e.1 e.2)
theorem wf_und {e : E2} (h : wfE e) : wfE (und e) := by
  unfold und mnP mxP
  constructor <;> dsimp only <;> split <;> first | exact h.1 | exact h.2
/-- the faces at an edge -/
def atE (S : List (E2 × Int)) (e : E2) : List Int := (S.filter fun p => decide (p.1 = e)).map Prod.snd
theorem atE_same (S : List (E2 × Int)) (e : E2) (k : Int) : atE (S ++ [(e, k)]) e = atE S e ++ [k] := by simp [atE]
theorem atE_other (S : List (E2 × Int)) {e e' : E2} (k : Int) (h : e' ≠ e) : atE (S ++ [(e, k)]) e' = atE S e' := by
  have : ¬ e = e' := fun c => h c.symm
  simp [atE, this]
theorem atE_len (S : List (E2 × Int)) (e : E2) : (atE S e).length ≤ S.length := by
  unfold atE
  rw [List.length_map]
  exact List.length_filter_le _ _
abbrev keyV (e : E2) : Value := .agg #[.int .i64 e.1, .int .i64 e.2]
/-- block b is a map to the faces at the edges, as S lists them; the slices lie in blocks of their own, from 'base' on -/
def TabOf (w : World) (base b n : Nat) (S : List (E2 × Int)) : Prop :=
  ∃ (D : DataW Value) (V : E2 → Value), w.ownsMap Tryz.prog 81 rawR b n D ∧ IsMap D ∧ (∀ e, wfE e → D.atKey (ek e) (.held nilS) = .held (V e)) ∧
    (∀ e, wfE e → has D (ek e) = decide (e ∈ S.map Prod.fst)) ∧ (∀ e, w.ownsRow base 3 1 (V e) (atE S e).length ((atE S e).map I64)) ∧
    (∀ e e' g, e ≠ e' → (V e).ownBlock = some g → (V e').ownBlock ≠ some g)
theorem TabOf.made (w : World) (base : Nat) : TabOf (w.alloc (.map #[] 0)) base w.heap.size 0 [] :=
  ⟨.map [], fun _ => nilS, World.ownsMap_made _ _ _ _, isMap_empty, fun _ _ => rfl, fun _ _ => by simp [has], fun _ => World.ownsRow_nil _ _ _ _, fun _ _ g _ h => by simp [Value.ownBlock] at h⟩
theorem TabOf.kept {w w' : World} {row : Option Nat} {base b n : Nat} {S : List (E2 × Int)} (h : TabOf w base b n S) (hg : w.grownBy w' row) (hb : some b ≠ row) (hr : ∀ k, row = some k → k < base) : TabOf w' base b n S := by
  obtain ⟨D, V, h1, h2, h3, h4, h5, h6⟩ := h
  refine ⟨D, V, h1.kept hg hb, h2, h3, h4, fun e => (h5 e).kept hg ?_, h6⟩
  rcases hv : (V e).ownBlock with _ | g
  · exact .inl rfl
  · refine .inr fun c => ?_
    have := own_block (h5 e) g hv
    have := hr g c.symm
    omega
theorem TabOf.later {w w' : World} {base b n : Nat} {S : List (E2 × Int)} (h : TabOf w base b n S) (hb : Below w.heap.size w w') : TabOf w' base b n S := h.kept (gb_of_below hb (row := none)) (by simp) (fun k hk => by cases hk)
theorem TabOf.alloc {w : World} {base b n : Nat} {S : List (E2 × Int)} (h : TabOf w base b n S) (o : Obj) : TabOf (w.alloc o) base b n S := h.kept (World.grownBy_alloc w o none) (by simp) (fun k hk => by cases hk)
theorem TabOf.lt {w : World} {base b n : Nat} {S : List (E2 × Int)} (h : TabOf w base b n S) : b < w.heap.size := by
  obtain ⟨D, V, h1, _⟩ := h
  exact h1.lt
theorem zeroSlice (u : World) : (zeroValue 45).run Tryz.prog u = .ok nilS u := by kernel_rfl
/-- 'm[e] = append(m[e], k)': the way through the entry -/
theorem TabOf.entry {w : World} {base b n : Nat} {S : List (E2 × Int)} (h : TabOf w base b n S) (hn : n < maxLen) (hbb : b < base) (e : E2) (he : wfE e) :
    ∃ (v0 : Value) (st : Nat) (w2 : World), (Instr.mapEntry 72 (.map (some b)) (keyV e)).run Tryz.prog w = .ok (.tuple #[v0, .int .i64 st]) w2 ∧ w.grownBy w2 (some b) ∧ w2.heap.size = w.heap.size ∧
      w2.ownsRow base 3 1 v0 (atE S e).length ((atE S e).map I64) ∧
      ∀ (w3 : World) (v' : Value) (k : Int), w3.ownsRow base 3 1 v' ((atE S e).length + 1) ((atE S e).map I64 ++ [I64 k]) → w2.grownBy w3 v0.ownBlock → (v'.ownBlock = v0.ownBlock ∨ v'.ownBlock = some w2.heap.size) →
        ∃ w4, (Instr.entryStore 72 (.map (some b)) (.int .i64 st) v').run Tryz.prog w3 = .ok () w4 ∧ TabOf w4 base b (n + 1) (S ++ [(e, k)]) ∧ w3.grownBy w4 (some b) ∧ w4.heap.size = w3.heap.size := by
  obtain ⟨D, V, hown, hmap, hat, hhas, hrow, hap⟩ := h
  have hkey : keyOf Tryz.prog 81 (keyV e) = some (ek e) := keyOf_edge e.1 e.2 he.1 he.2
  obtain ⟨es, clock, hb, F, hsz, hD⟩ := id hown
  obtain ⟨v0, st, es1, clock1, hrun, hv0, hst⟩ := WideElems.entry_then_store mLaw Tryz.underlying72 zeroSlice hb F hkey
  have hV : v0 = V e := by
    rcases fit_look false mKeyed Tryz.underlying72 (zeroSlice w) hb F hkey with ⟨_, hno, hz⟩ | ⟨e0, y, hm, hk, _, hr, hy, _⟩
    · have h1 := hat e he
      have h1 := ((congrArg (fun d => DataW.atKey d (ek e) (.held nilS)) hD).trans (hz _)).symm.trans h1
      rcases hv0 with ⟨e1, hm1, hk1, _⟩ | ⟨_, hz1⟩
      · exact absurd hk1 (hno e1 hm1)
      · exact hz1.trans (DataW.held.inj h1)
    · have h1 := hat e he
      have h2 := rawR_inv hr
      have h1 := ((congrArg (fun d => DataW.atKey d (ek e) (.held nilS)) hD).trans (hy _)).symm.trans h1
      rw [h2] at h1
      have h1 := DataW.held.inj h1
      rcases hv0 with ⟨e1, hm1, hk1, h3⟩ | ⟨hno, _⟩
      · have := entry_eq_of_key ((MapKept.stamped_iff es clock).1 F.stamped).2.2 hm hm1 (hk.trans hk1.symm)
        rw [h3, ← this, h1]
      · exact absurd hk (hno e0 hm)
  have hg2 : w.grownBy (setBlock w b (.map es1 clock1)) (some b) := World.mapTurned.grown ⟨es, clock, es1, clock1, hb, rfl⟩
  have hs2 : (setBlock w b (.map es1 clock1)).heap.size = w.heap.size := by simp [setBlock]
  have hb2 := heap_setBlock_same hb (.map es1 clock1)
  have hne : ∀ (W : World) (v : Value) (m : Nat) (xs : List Value), W.ownsRow base 3 1 v m xs → v.ownBlock = none ∨ v.ownBlock ≠ some b := fun W v m xs ho => by
    rcases hv : v.ownBlock with _ | g
    · exact .inl rfl
    · refine .inr fun c => ?_
      have := own_block ho g hv
      injection c with c
      omega
  refine ⟨v0, st, setBlock w b (.map es1 clock1), hrun, hg2, hs2, by rw [hV]; exact (hrow e).kept hg2 (hne _ _ _ _ (hrow e)), fun w3 v' k ho3 hg3 hat3 => ?_⟩
  have hb3 : w3.heap[b]? = some (.map es1 clock1) := by
    rw [hg3.block b (by rw [hs2]; exact hown.lt) (fun c => by
      have h1 := own_block (hrow e) b (by rw [← hV]; exact c.symm)
      omega)]
    exact hb2
  obtain ⟨es', clock', hr3, hup⟩ := hst w3 v' hb3
  obtain ⟨w', hup', hown', hg'⟩ := hown.update mKeyed Tryz.underlying72 hn (val := v') hkey (d := .held v') (ps := []) rfl
  rw [hup] at hup'
  injection hup' with _ hw'
  rw [← hw'] at hown'
  have hg4 : w3.grownBy (setBlock w3 b (.map es' clock')) (some b) := World.mapTurned.grown ⟨es1, clock1, es', clock', hb3, rfl⟩
  have hs4 : (setBlock w3 b (.map es' clock')).heap.size = w3.heap.size := by simp [setBlock]
  have hown4 : (setBlock w3 b (.map es' clock')).ownsMap Tryz.prog 81 rawR b (n + 1) (D.put (ek e) (.held v')) := by
    obtain ⟨es2, clock2, hb4, F2, hz2, hD2⟩ := hown'
    rw [heap_setBlock_same hb] at hb4
    exact ⟨es2, clock2, (heap_setBlock_same hb3 _).trans hb4, F2, hz2, hD2⟩
  refine ⟨_, hr3, ⟨D.put (ek e) (.held v'), fun e' => if e' = e then v' else V e', hown4, hmap.put _ _, fun e' he' => ?_, fun e' he' => ?_, fun e' => ?_, fun e1 e2 g hne12 h1 => ?_⟩, hg4, hs4⟩
  · by_cases c : e' = e
    · subst c
      dsimp only
      rw [atKey_put_same hmap (ek_key _), if_pos rfl]
    · dsimp only
      rw [atKey_put_other (fun h => c (ek_inj he' he h)), hat e' he', if_neg c]
  · by_cases c : e' = e
    · subst c
      rw [has_put_same hmap (ek_key _)]
      simp
    · rw [has_put_other (fun h => c (ek_inj he' he h)), hhas e' he']
      simp [c]
  · by_cases c : e' = e
    · subst c
      dsimp only
      rw [if_pos rfl, atE_same]
      have := ho3.kept hg4 (hne _ _ _ _ ho3)
      simpa using this
    · dsimp only
      rw [if_neg c, atE_other S k c]
      have h1 := (hrow e').kept hg2 (hne _ _ _ _ (hrow e'))
      have h2 := h1.kept hg3 (by
        rcases hv : (V e').ownBlock with _ | g
        · exact .inl rfl
        · refine .inr fun cc => ?_
          rw [hV] at cc
          exact hap e e' g (fun q => c q.symm) cc.symm hv)
      exact h2.kept hg4 (hne _ _ _ _ h2)
  · have hlt : ∀ x g', (V x).ownBlock = some g' → g' < w.heap.size := fun x g' hx => ((hrow x).lt g' hx).2
    by_cases ca : e1 = e
    · have cb : e2 ≠ e := fun q => hne12 (ca.trans q.symm)
      simp only [if_pos ca, if_neg cb] at h1 ⊢
      rcases hat3 with q | q
      · rw [q, hV] at h1
        exact hap e e2 g (fun q => cb q.symm) h1
      · intro h2
        have := hlt e2 g h2
        rw [q, hs2] at h1
        injection h1 with h1
        omega
    · simp only [if_neg ca] at h1
      by_cases cb : e2 = e
      · simp only [if_pos cb]
        rcases hat3 with q | q
        · rw [q, hV]
          exact hap e1 e g ca h1
        · intro h2
          have := hlt e1 g h1
          rw [q, hs2] at h2
          injection h2 with h2
          omega
      · simp only [if_neg cb]
        exact hap e1 e2 g hne12 h1
/-- append of one element that lies in a block of its own; where the answer lies -/
theorem wpList_app1_at {P : Program} {ops : Array Oper} {rest : List Oper} {o : Oper} {a : Act} {Q : Exit → Act → World → Prop} (w : World) (hgd : o.guard = none) (s x : Operand) (t : TypeId)
    (ho : o.op = .call { callee := .builtin .append, args := #[s, x], argTypes := #[t, t] }) (base : Nat) (e : TypeId) (z : Value) (bytes : Nat)
    (ht : P.underlying t = some (.slice e)) (hinfo : (P.info? e).map (fun i => (i.zero, i.size, i.bytes)) = some (some z, 1, bytes)) (hzs : z.cells.size = 1)
    (v : Value) (n : Nat) (xs : List Value) (hs : a.eval s = v) (hown : w.ownsRow base e 1 v n xs) (g : Nat) (u : Value) (hx : a.eval x = .slice (some ⟨g, 0, none⟩) 1 1) (hc : w.cell? ⟨g, 0, none⟩ = some u) (hu : u.oneCell' = true)
    (h63 : n + 1 ≤ maxLen) (hbytes : (n + 1) * bytes ≤ 140737488355328) (hbase : base ≤ w.heap.size)
    (h : ∀ v' w', w'.ownsRow base e 1 v' (n + 1) (xs ++ [u]) → w.grownBy w' v.ownBlock → (v'.ownBlock = v.ownBlock ∨ v'.ownBlock = some w.heap.size) → wpList P ops Q rest (a.put o.dst v') w') : wpList P ops Q (o :: rest) a w := by
  obtain ⟨i0, hi, hz0, hz1, hz2⟩ := info_parts hinfo
  refine wpList_append_own_at _ hgd s x t ho base e i0 z 1 bytes ht hi hz0 hz1 hz2 hzs (by omega) v n xs hs hown ⟨g, 0, none⟩ 1 1 [u] hx rfl ?_ ?_ h63 hbytes hbase ?_
  · intro j y hj
    match j, hj with
    | 0, hj => simp at hj; subst hj; simpa [Addr.add] using hc
  · intro y hy; simp at hy; subst hy; exact hu
  · intro v' w' h1 h2 _ h4
    exact h v' w' h1 h2 h4
set_option maxHeartbeats 1000000 in
theorem undirected_any (a b : Int) (w : World) :
    Calls Tryz.prog 68 #[keyV (a, b)] w fun e w' => e = .returned (keyV (und (a, b))) ∧ Below w.heap.size w w' := by
  have e0 : (if b < a then b else a) = mnP a b := rfl
  have e1 : (if a < b then b else a) = mxP a b := rfl
  go_enter Tryz.func68, Tryz.ntmps68
  go_wp2_with fail
  exact bodyPost_ret (v := keyV (und (a, b))) (by simp [results, Tryz.results68, go_sem, und]) rfl ⟨rfl, by go_grown⟩


end Go.Proofs.YtdefhepagpgnaaaGreat
