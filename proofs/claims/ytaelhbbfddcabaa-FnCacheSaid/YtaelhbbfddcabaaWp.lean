/- The keys of a map of tiles: ranged over, collected, sorted. -/
import Derived.Test.YtaelhbbfddcabaaProg
import Derived.Test.YtaelhbbfddcabaaInts
import Derived.Test.YtaelhbbfddcabaaVbox
import Derived.Test.YtaelhbbfddcabaaHeld
import Derived.Test.YtaelhbbfddcabaaMem
import Derived.Test.YtaelhbbfddcabaaFlat
import Derived.Test.YtaelhbbfddcabaaRowC
import Derived.Test.YtaelhbbfddcabaaSS
import Derived.Test.YtaelhbbfddcabaaWa
import Derived.Test.YtaelhbbfddcabaaWm
import Derived.Test.YtaelhbbfddcabaaWo
import Derived.WalkKit
import Derived.WalkSpells
import Derived.WalkLawsBesides
import Derived.Lib.Hide
import Derived.Deep.RegionHeld3
import Derived.Deep.QuietTactic
import Derived.BigQuiet
import Derived.Handy
import Derived.Deep.DeepCutAuto
import Derived.RangeFuncBox
import Derived.RangeFuncLeaves
import Derived.RangeFuncNested
import Derived.RangeFuncBound
import Derived.RangeFuncCalls
import Derived.RangeFuncWrites
import Derived.Shelf.Abstract
import Derived.OwnWalkIn
import Derived.TacticsInMore
import Derived.LoopNIn
import Derived.LoopIn
import Derived.Maps.AppendAt
import Derived.Maps.OwnIn
import Derived.Sort.MapsRangeIn
import Derived.OwnWalk
import Derived.Maps.OwnSet
namespace Go.Proofs.Ytaelhbbfddcabaa
open Go.RowKit Go.Shelf Go.Maps
attribute [local go_sem] Oper.semAt_some

/-- a tile whose integers fit -/
abbrev Tw := { e : V3 // wf3 e }
def encT (x : Tw) : Value := tv x.1
/-- all keys have come, each once -/
def AllKeys (f : V3 → Option Int) (ss : List Tw) : Prop := (ss.map (·.1)).Nodup ∧ ∀ e, wf3 e → (e ∈ ss.map (·.1) ↔ (f e).isSome = true)
/-- what has come of the keys -/
def CameT (f : V3 → Option Int) (left : Lit → Bool) (ss : List Tw) : Prop :=
  (ss.map (·.1)).Nodup ∧ (∀ e ∈ ss.map (·.1), (f e).isSome = true) ∧ ∀ e, wf3 e → left (tk e) = ((f e).isSome && !decide (e ∈ ss.map (·.1)))
theorem CameT.start {f : V3 → Option Int} {l : Lit → Bool} (h : ∀ e, wf3 e → l (tk e) = (f e).isSome) : CameT f l [] := ⟨List.nodup_nil, fun e he => (by cases he), fun e he => by rw [h e he]; simp⟩
theorem CameT.all {f : V3 → Option Int} {l : Lit → Bool} {ss : List Tw} (h : CameT f l ss) (h0 : ∀ k, l k = false) : AllKeys f ss := ⟨h.1, fun e he => ⟨h.2.1 e, fun hs => by
  have := h.2.2 e he
  rw [h0, hs] at this
  simpa using this⟩⟩

theorem CameT.step {f : V3 → Option Int} {l : Lit → Bool} {ss : List Tw} (h : CameT f l ss) (e : V3) (he : wf3 e) (hl : l (tk e) = true) : CameT f (fun z => l z && !z.sameKey (tk e)) (ss ++ [⟨e, he⟩]) := by
  obtain ⟨h1, h2, h3⟩ := h
  have h4 := h3 e he
  rw [hl] at h4
  simp only [Bool.true_eq, Bool.and_eq_true, Bool.not_eq_true', decide_eq_false_iff_not] at h4
  refine ⟨?_, fun a ha => ?_, fun a ha => ?_⟩
  · rw [List.map_append, List.nodup_append]
    refine ⟨h1, by simp, fun a ha c hc ec => ?_⟩
    simp only [List.map_cons, List.map_nil, List.mem_singleton] at hc
    exact h4.2 (by rw [← hc, ← ec]; exact ha)
  · rw [List.map_append] at ha
    rcases List.mem_append.1 ha with h | h
    · exact h2 a h
    · simp only [List.map_cons, List.map_nil, List.mem_singleton] at h
      rw [h]; exact h4.1
  · dsimp only
    rw [h3 a ha, sameKey_tk ha he, List.map_append]
    by_cases c : a = e
    · subst c
      simp
    · have e1 : decide (a ∈ ss.map (·.1) ++ [(⟨e, he⟩ : Tw)].map (·.1)) = decide (a ∈ ss.map (·.1)) := decide_eq_decide.2 (by
        rw [List.mem_append]
        exact ⟨fun h => h.resolve_right (fun h => c (by simpa using h)), .inl⟩)
      rw [e1]
      simp only [c, decide_false, Bool.not_false, Bool.and_true]
theorem mapsKeys_in (n : Nat) (v : Option Nat) (w : World) :
    CallsIn Fence.wide n Try.prog 91 #[.map v] w fun e w' => e = .returned (.func (.func 98) #[] #[.pointer (some ⟨w.heap.size, 0, none⟩)]) ∧ w' = w.alloc (.cells #[.map v] 82) := by
  refine callsIn_of_wp Try.func91 rfl trivial ?_ rfl
  simp only [Try.ntmps91, List.size_toArray, List.length_cons, List.length_nil, Nat.reduceAdd, Nat.reduceSub, Array.replicate_succ, Array.replicate_zero, List.push_toArray, List.append_toArray, List.nil_append, List.cons_append]
  gi_wp2
  go_ret
  exact ⟨rfl, rfl⟩

set_option maxRecDepth 100000 in
set_option maxHeartbeats 4000000 in
theorem keysT_stops (n : Nat) (hn : 1 ≤ n) (Bm b nn m : Nat) (f : V3 → Option Int) (w : World) (hB : w.cell? ⟨Bm, 0, none⟩ = some (.map (some b))) (hT : TmAt w b nn f m) :
    SeqStops Fence.wide n Try.prog 98 #[.pointer (some ⟨Bm, 0, none⟩)] encT (AllKeys f) (fun _ => True) m w := fun l J Jx W hW hJ _ hY h0 => by
  have hT := hT.later hW
  have hB : W.cell? ⟨Bm, 0, none⟩ = some (.map (some b)) := (hW.cell (p := ⟨Bm, 0, none⟩) (World.block_lt_of_cell? w _ hB)).trans hB
  obtain ⟨D, hown, _, hhas, _, hsz⟩ := hT
  have HY := Lib.hid hY
  have HJ := Lib.hid hJ
  have HSZ := Lib.hid hsz
  have HHAS := Lib.hid hhas
  clear hhas hsz hY hJ hW
  refine callsIn_of_wp Try.func98 rfl trivial ?_ rfl
  simp only [Try.ntmps98, List.size_toArray, List.length_cons, List.length_nil, Nat.reduceAdd, Nat.reduceSub, Array.replicate_succ, Array.replicate_zero, List.push_toArray, List.append_toArray, List.nil_append, List.cons_append]
  gi_wp2_with (first
    | (gi_at_range; refine wpListIn_range_own _ rfl _ 82 rfl 50 3 tKeyed Try.underlying82 rawT b nn _ rfl hown ?_; intro w0 hrg0 hg0 hs0)
    | gi_in)
  go_frame
  gi_loopw [3] (fun _ wr => ∃ (left : Lit → Bool) (cnt : Nat) (ss : List Tw), wr.ranges Try.prog 50 rawT b W.heap.size nn D left cnt ∧ ss.length + cnt ≤ m ∧ CameT f left ss ∧ J ss wr)
    (fun _ wr => wr.rangeLeft b W.heap.size)
  case atStart => exact ⟨_, _, [], hrg0, by rw [HSZ.out]; simp, CameT.start HHAS.out, HJ.out [] W w0 none h0 hg0 (fun r e => by cases e)⟩
  case round =>
    clear hrg0 hg0 hs0 h0 hB
    obtain ⟨left, cnt, ss, hrg, hcs, hC, hJs⟩ := hrel
    gi_wp2_with (first
      | (gi_at_next; refine wpListIn_next_ranges _ rfl _ rfl 50 tKeyed rawT id id (fun key _ _ => ⟨key, rfl⟩) (fun v _ _ => ⟨v, rfl⟩) b W.heap.size nn _ _ _ rfl hrg ?_ ?_)
      | gi_in)
    · intro _ hl0
      gi_wp2
      go_end0
      exact ⟨⟨_, rfl⟩, .inl ⟨ss, hC.all hl0, hJs⟩⟩
    · intro x c kl yd yp w2 cnt2 hkey hlk hv hat hrg2 hlt hg2 hs2 hen
      obtain ⟨e, he, hx, hkl⟩ := keyOf_tile_inv hkey
      try simp only [id] at hx hen
      subst hx
      subst hkl
      have HC2 := Lib.hid (hC.step e he hlk)
      have hJ2 : J ss w2 := HJ.out ss wr w2 (some W.heap.size) hJs hg2 (fun r e => by cases e; exact ⟨Nat.le_refl _, hrg.iter_walk⟩)
      have HLEQ : Hid (wr.rangeLeft b W.heap.size = cnt) := Lib.hid hrg.left_eq
      have HLT := Lib.hid hlt
      have HCS := Lib.hid hcs
      clear hs2 hkey hlk hv hat hC hg2 hrg hJs
      obtain ⟨p, q, r⟩ := e
      have hJ3 : J ss (w2.alloc (.cells #[.int .i64 p, .int .i64 q, .int .i64 r] 50)) := HJ.out ss w2 _ none hJ2 (World.grownBy_alloc w2 _ none) (fun r e => by cases e)
      have hrg3 := hrg2.alloc (.cells #[.int .i64 p, .int .i64 q, .int .i64 r] 50)
      have MB := Mbox.new w2 #[.int .i64 p, .int .i64 q, .int .i64 r] 50
      have b0 := MB.c 0
      have b1 := MB.c 1
      have b2 := MB.c 2
      obtain ⟨fn, tmps, assign, body, hy, hR⟩ := HY.out ss ⟨(p, q, r), he⟩ _ hJ3 (by have := HCS.out; have := HLT.out; omega)
      simp only [encT] at hy
      clear hlt hcs hJ2 hJ3 MB hrg2
      gi_wp2
      refine hR.mono ?_
      rintro e W3 (⟨rfl, hJ4, hk4⟩ | ⟨rfl, hJx4⟩)
      · have hrg4 := hrg3.of_walks hk4
        clear b0 b1 b2 hrg3
        gi_wp2
        go_roundw
        case rel => exact ⟨_, cnt2, ss ++ [⟨(p, q, r), he⟩], hrg4, by have := HCS.out; have := HLT.out; simp; omega, HC2.out, hJ4⟩
        case measure => rw [hrg4.left_eq, HLEQ.out]; exact HLT.out
      · clear b0 b1 b2 hrg3
        gi_wp2
        refine bodyPost_ret (results_none rfl _ _ _) rfl ?_
        exact ⟨⟨_, rfl⟩, .inr ⟨_, trivial, hJx4⟩⟩


theorem cellsT_new (W : World) (a b c : Value) (t : TypeId) : ∀ j y, [a, b, c][j]? = some y → (W.alloc (.cells #[a, b, c] t)).cell? ((⟨W.heap.size, 0, none⟩ : Addr).add j) = some y := fun j y hj => by
  rw [Addr.add_mid, Nat.zero_add]
  exact (Mbox.new W #[a, b, c] t).c j hj
theorem mapT_snoc (pre : List Tw) (x : Tw) : ((pre ++ [x]).map (·.1)).flatMap vg = (pre.map (·.1)).flatMap vg ++ vg x.1 := by simp
set_option maxRecDepth 100000 in
set_option maxHeartbeats 4000000 in
theorem appendSeqT_in (n : Nat) (hn : 2 ≤ n) (Bm b nn m : Nat) (f : V3 → Option Int) (w : World) (hm : m ≤ 1048576) (hB : w.cell? ⟨Bm, 0, none⟩ = some (.map (some b))) (hT : TmAt w b nn f m) :
    CallsIn Fence.wide n Try.prog 100 #[.slice none 0 0, .func (.func 98) #[] #[.pointer (some ⟨Bm, 0, none⟩)]] w fun e w' => ∃ (A : Option Addr) (c : Nat) (ss : List Tw), e = .returned (.slice A ss.length c) ∧ AllKeys f ss ∧ w'.ownsRow w.heap.size 50 3 (.slice A ss.length c) ss.length ((ss.map (·.1)).flatMap vg) ∧ Below w.heap.size w w' := by
  obtain ⟨i0, hi, hz0, hz1, hz2⟩ := info_parts infoTile
  refine callsIn_of_wp_marks Try.func100 rfl trivial ?_ rfl
  simp only [Try.ntmps100, List.size_toArray, List.length_cons, List.length_nil, Nat.reduceAdd, Nat.reduceSub, Array.replicate_succ, Array.replicate_zero, List.push_toArray, List.append_toArray, List.nil_append, List.cons_append]
  gi_wp2
  have bQ : Boxed (w.alloc (.cells #[.slice none 0 0] 27)) w.heap.size 27 (.slice none 0 0) := Boxed.new w 27 _
  have hbQ : Below w.heap.size w (w.alloc (.cells #[.slice none 0 0] 27)) := (Below.refl _ w).alloc (Nat.le_refl _) _
  refine wpIn_rangeFunc_ownH rfl (by omega) (gf := 98) (lb := #[.pointer (some ⟨Bm, 0, none⟩)]) rfl trivial (enters_of Try.func98 (by kernel_rfl) rfl) (encs := fun x : Tw => #[encT x]) (Kp := KeepsWalks) (w0 := w)
    (keysT_stops (n - 1) (by omega) Bm b nn m f w hB hT) walksK_t walksK_b hbQ (fun _ => rfl)
    (fun (pre : List Tw) W => (∃ s, Boxed W w.heap.size 27 s ∧ W.ownsRow w.heap.size 50 3 s pre.length ((pre.map (·.1)).flatMap vg) ∧ True) ∧ Below w.heap.size w W)
    (fun _ _ _ => False)
    (OwnFrom.and (Own.from (holdsRow_own w.heap.size w.heap.size 27 50 3 (fun (pre : List Tw) => pre.length) (fun (pre : List Tw) => (pre.map (·.1)).flatMap vg) (fun _ _ => True)) _) (ownFrom_below (Nat.le_refl _) (by simp)))
    (fun _ _ _ _ _ hs _ _ => hs)
    ⟨⟨_, bQ, World.ownsRow_nil _ _ _ _, trivial⟩, hbQ⟩
    (fun x a' W => ∃ Bx, w.heap.size < Bx ∧ (W.cell? ⟨Bx, 0, none⟩ = some (.int .i64 x.1.1) ∧ W.cell? ⟨Bx, 1, none⟩ = some (.int .i64 x.1.2.1) ∧ W.cell? ⟨Bx, 2, none⟩ = some (.int .i64 x.1.2.2)) ∧ a' = { tmps := #[.slice none 0 0, .func (.func 98) #[] #[.pointer (some ⟨Bm, 0, none⟩)], .pointer (some ⟨w.heap.size, 0, none⟩), undef, .slice none 0 0, .pointer (some ⟨Bx, 0, none⟩), .func (.func 98) #[] #[.pointer (some ⟨Bm, 0, none⟩)], encT x, undef, undef, undef, undef, undef], defers := [] })
    (fun x a' _ A B row hs hg hr => by
      obtain ⟨Bx, h1, ⟨c0, c1, c2⟩, h3⟩ := hs
      exact ⟨Bx, h1, ⟨cell_kept c0 hg (fun r e => (hr r e).2), cell_kept c1 hg (fun r e => (hr r e).2), cell_kept c2 hg (fun r e => (hr r e).2)⟩, h3⟩) ?assign ?body ?done ?stop
  case assign =>
    rintro l pre ⟨⟨x, y, z⟩, hx⟩ W K ⟨⟨s, hv1, hrow, _⟩, hB1⟩ hK
    have MB := Mbox.new W #[.int .i64 x, .int .i64 y, .int .i64 z] 50
    have b0 := MB.c 0
    have b1 := MB.c 1
    have b2 := MB.c 2
    have hlt := hv1.lt
    dsimp only [encT]
    gi_wp2
    exact hK _ _ ((KeepsOthers.alloc W _).from _) (KeepsWalks.alloc W _) ⟨⟨s, hv1.alloc _, hrow.alloc _, trivial⟩, hB1.alloc hB1.size _⟩ ⟨W.heap.size, hlt, ⟨b0, b1, b2⟩, rfl⟩
  case body =>
    rintro l pre ⟨⟨x, y, z⟩, hx⟩ a' W hl ⟨r, hr⟩ ⟨⟨s, hv1, hrow, _⟩, hB1⟩ ⟨Bx, hbx, ⟨c0, c1, c2⟩, rfl⟩ hlt
    have hc := hv1.cell
    have hvl := hv1.lt
    dsimp only at c0 c1 c2
    gi_wp2_with (gi_at_builtin; refine wpListIn_append_own _ rfl _ _ 27 rfl w.heap.size 50 i0 (tlv 0 0 0) 3 24 Try.underlying27 hi hz0 hz1 hz2 rfl (by decide) _ _ _ rfl (hrow.alloc _) ⟨W.heap.size, 0, none⟩ 1 1 [.int .i64 x, .int .i64 y, .int .i64 z] rfl rfl (cellsT_new _ _ _ _ _) (by simp [Value.oneCell']) (by unfold maxLen; omega) (by omega) (by simp; omega) ?_; intro v' w3 hown' hgrow _; obtain ⟨g', cap', rfl⟩ := ownsRow_succ hown'; obtain ⟨hw1, hw2, hr2, hk2, hb2⟩ := hv1.appended (by decide) hrow (Nat.le_of_lt hvl) (Nat.le_refl _) hown' hgrow; have hc1 := hw1.cell; have hf1 := hw1.frozen)
    refine ⟨hk2.from _, hk2.walks, ⟨⟨_, hw2, ?_, trivial⟩, hB1.trans hb2⟩⟩
    rw [List.length_append, mapT_snoc]
    exact hr2
  case done =>
    rintro D ys W hD hall ⟨⟨s, hv1, hrow, _⟩, hB1⟩ hK
    obtain ⟨A, c, rfl⟩ := own_shape hrow
    have hc := hv1.cell
    gi_wp2
    refine ⟨by simp, .inl ⟨_, _, rfl, run_takeDeferred hK, ?_⟩⟩
    exact ⟨_, results_tmp rfl _ _ _, A, c, ys, rfl, hall, ownsRow_putObj hrow (.deferred none) hK rfl, hB1.trans (belowK_b (w := w) (Nat.le_refl _) W D _ _ (by simp at hD; omega) hK rfl rfl)⟩
  case stop =>
    rintro D c pre W _ _ h _
    exact h.elim

set_option maxHeartbeats 2000000 in
theorem collectT_any (Bm b nn m : Nat) (f : V3 → Option Int) (w : World) (hm : m ≤ 1048576) (hB : w.cell? ⟨Bm, 0, none⟩ = some (.map (some b))) (hT : TmAt w b nn f m) :
    Calls Try.prog 96 #[.func (.func 98) #[] #[.pointer (some ⟨Bm, 0, none⟩)]] w fun e w' => ∃ (A : Option Addr) (c : Nat) (ss : List Tw), e = .returned (.slice A ss.length c) ∧ AllKeys f ss ∧ w'.ownsRow w.heap.size 50 3 (.slice A ss.length c) ss.length ((ss.map (·.1)).flatMap vg) ∧ Below w.heap.size w w' := by
  have HA := (callsIn_wide (n := 3)).1 (appendSeqT_in 3 (by omega) Bm b nn m f w hm hB hT)
  clear hB hT
  go_enter Try.func96, Try.ntmps96
  go_wp2_with fail
  refine HA.mono ?_
  rintro e w1 ⟨A, c, ss, rfl, h1, h2, h3⟩
  clear HA
  have HF := Lib.hid (And.intro h1 (And.intro h2 h3))
  clear h1 h2 h3
  go_wp2_with fail
  go_ret
  exact ⟨A, c, ss, rfl, HF.out.1, HF.out.2.1, HF.out.2.2⟩

set_option maxHeartbeats 4000000 in
theorem sortedFuncT_any (Bm Bt b nn m : Nat) (f : V3 → Option Int) (zs : List V3) (w : World) (hm : m ≤ 1048576) (hzm : zs.length ≤ 1048576) (hz3 : ∀ e ∈ zs, wf3 e) (hz : ∀ e, wf3 e → (e ∈ zs ↔ (f e).isSome = true)) (hup : zs.Pairwise fun a c => (f a).getD 0 < (f c).getD 0)
    (hB : w.cell? ⟨Bm, 0, none⟩ = some (.map (some b))) (hC : w.cell? ⟨Bt, 0, none⟩ = some (.map (some b))) (hT : TmAt w b nn f m) :
    Calls Try.prog 90 #[.func (.func 98) #[] #[.pointer (some ⟨Bm, 0, none⟩)], .func (.func 92) #[] #[.pointer (some ⟨Bt, 0, none⟩)]] w fun e w' => ∃ (A : Option Addr) (c : Nat), e = .returned (.slice A zs.length c) ∧ w'.ownsRow w.heap.size 50 3 (.slice A zs.length c) zs.length (zs.flatMap vg) ∧ Below w.heap.size w w' := by
  have HC := collectT_any Bm b nn m f w hm hB hT
  have HT := Lib.hid hT
  have HCC := Lib.hid hC
  have HZ := Lib.hid (And.intro hz3 (And.intro hz hup))
  have hbl := hT.lt
  have hcl : Bt < w.heap.size := World.block_lt_of_cell? w _ hC
  have HBL := Lib.hid (And.intro hbl hcl)
  clear hT hB hC hz3 hz hup hbl hcl
  go_enter Try.func90, Try.ntmps90
  go_wp2_with fail
  refine HC.mono ?_
  rintro e w1 ⟨A, c, ss, rfl, hall, ho, hb⟩
  clear HC
  obtain ⟨xs, hxs⟩ : ∃ xs, xs = ss.map (·.1) := ⟨_, rfl⟩
  have hxl : ss.length = xs.length := by rw [hxs, List.length_map]
  have hx3 : ∀ e ∈ xs, wf3 e := fun e he => by
    rw [hxs] at he
    obtain ⟨a, _, rfl⟩ := List.mem_map.1 he
    exact a.2
  have hmem : ∀ e, e ∈ xs ↔ e ∈ zs := fun e => ⟨fun h => (HZ.out.2.1 e (hx3 e h)).2 ((hall.2 e (hx3 e h)).1 (by rw [← hxs]; exact h)), fun h => by
    rw [hxs]
    exact (hall.2 e (HZ.out.1 e h)).2 ((HZ.out.2.1 e (HZ.out.1 e h)).1 h)⟩
  have hxn : xs.Nodup := by rw [hxs]; exact hall.1
  have hzn : zs.Nodup := HZ.out.2.2.imp fun h e => by rw [e] at h; omega
  have hinj : ∀ a ∈ xs, ∀ c ∈ xs, (f a).getD 0 = (f c).getD 0 → a = c := fun a ha c hc e => by
    obtain ⟨i, hi, rfl⟩ := List.getElem_of_mem ((hmem a).1 ha)
    obtain ⟨j, hj, rfl⟩ := List.getElem_of_mem ((hmem c).1 hc)
    have hp := List.pairwise_iff_getElem.1 HZ.out.2.2
    rcases Nat.lt_trichotomy i j with h | h | h
    · have := hp i j hi hj h; omega
    · subst h; rfl
    · have := hp j i hj hi h; omega
  have hperm : xs.Perm zs := (List.perm_ext_iff_of_nodup hxn hzn).2 hmem
  rw [← hxs, hxl] at ho
  rw [hxl]
  have HB := Lib.hid hb
  have HI := Lib.hid (And.intro hx3 (And.intro hinj (And.intro hmem (And.intro hxn hperm))))
  by_cases h0 : 0 < xs.length
  · obtain ⟨g, rfl⟩ : ∃ g, A = some ⟨g, 0, none⟩ := by
      rcases ho.2 with ⟨h, h1⟩ | ⟨g, cap, cur, h, _⟩
      · omega
      · injection h with h; exact ⟨g, h⟩
    have hge := own_block ho g rfl
    have hxm : xs.length ≤ 1048576 := by rw [hperm.length_eq]; exact hzm
    have HS := sortTiles_any w.heap.size g c Bt b nn m f xs w1 hx3 hinj (HT.out.later hb) ((hb.cell (p := ⟨Bt, 0, none⟩) HBL.out.2).trans HCC.out) ho h0 hxm (by have := HBL.out.1; omega) (by have := HBL.out.2; omega)
    clear hall hxs hxl hx3 hmem hxn hzn hinj hperm ho hb
    go_wp2_with fail
    refine HS.mono ?_
    rintro e w2 ⟨rfl, ys, hyp, hyw, hyo, hyg⟩
    have hyz : ys = zs := by
      have hyn : ys.Nodup := hyp.nodup_iff.2 HI.out.2.2.2.1
      refine rise_eq (v := fun e => (f e).getD 0) ?_ HZ.out.2.2 fun e => (hyp.mem_iff).trans (HI.out.2.2.1 e)
      refine (hyw.and hyn).imp_of_mem fun {a c} ha hc h => ?_
      have := HI.out.2.1 a (hyp.mem_iff.1 ha) c (hyp.mem_iff.1 hc)
      rcases Int.lt_or_eq_of_le h.1 with h1 | h1
      · exact h1
      · exact absurd (this h1) h.2
    rw [hyz] at hyo
    have hlz : xs.length = zs.length := HI.out.2.2.2.2.length_eq
    rw [hlz] at hyo
    have HF := Lib.hid (And.intro hlz (And.intro hyo (HB.out.trans (gb_below hyg HB.out.size hge))))
    clear HS hyp hyw hyo hyg hyz hlz
    go_wp2_with fail
    go_ret
    exact ⟨_, c, by rw [HF.out.1]; rfl, HF.out.2.1, HF.out.2.2⟩
  · have hx0 : xs = [] := List.eq_nil_of_length_eq_zero (by omega)
    have hz0 : zs = [] := by
      have := hperm.length_eq
      rw [hx0] at this
      exact List.eq_nil_of_length_eq_zero this.symm
    rw [hx0] at ho ⊢
    have HS := Try.slices_SortFunc_cells_none A c (.func (.func 92) #[] #[.pointer (some ⟨Bt, 0, none⟩)]) w1
    have HO := Lib.hid ho
    have HZ0 := Lib.hid hz0
    clear hall hxs hxl hx3 hmem hxn hzn hinj hperm ho hb hx0 hz0
    go_wp2_with fail
    refine HS.mono ?_
    rintro e w2 ⟨rfl, rfl⟩
    clear HS
    go_wp2_with fail
    go_ret
    exact ⟨A, c, by rw [HZ0.out]; rfl, by rw [HZ0.out]; exact HO.out, HB.out⟩

set_option maxHeartbeats 4000000 in
theorem ordered_any (b nn m : Nat) (f : V3 → Option Int) (zs : List V3) (w : World) (hm : m ≤ 1048576) (hzm : zs.length ≤ 1048576) (hz3 : ∀ e ∈ zs, wf3 e) (hz : ∀ e, wf3 e → (e ∈ zs ↔ (f e).isSome = true)) (hup : zs.Pairwise fun a c => (f a).getD 0 < (f c).getD 0) (hT : TmAt w b nn f m) :
    Calls Try.prog 74 #[.map (some b)] w fun e w' => ∃ (A : Option Addr) (c : Nat), e = .returned (.slice A zs.length c) ∧ w'.ownsRow w.heap.size 50 3 (.slice A zs.length c) zs.length (zs.flatMap vg) ∧ Below w.heap.size w w' := by
  have HK := Lib.hid (fun W : World => (callsIn_wide (n := 3)).1 (mapsKeys_in 3 (some b) W))
  have M1 := Mbox.new w #[.map (some b)] 82
  have M2 := Mbox.new (w.alloc (.cells #[.map (some b)] 82)) #[.map (some b)] 82
  have N1 := M1.alloc (.cells #[.map (some b)] 82)
  have T2 := (hT.alloc (.cells #[.map (some b)] 82)).alloc (.cells #[.map (some b)] 82)
  have hb2 : Below w.heap.size w ((w.alloc (.cells #[.map (some b)] 82)).alloc (.cells #[.map (some b)] 82)) := ((Below.refl _ w).alloc (Nat.le_refl _) _).alloc (by simp) _
  simp only [World.size_alloc] at M2
  obtain ⟨W1, hW1⟩ : ∃ W, W = w.alloc (.cells #[.map (some b)] 82) := ⟨_, rfl⟩
  rw [← hW1] at N1 M2 T2 hb2 M1
  have hs1 : W1.heap.size = w.heap.size + 1 := by rw [hW1]; simp
  obtain ⟨W2, hW2⟩ : ∃ W, W = W1.alloc (.cells #[.map (some b)] 82) := ⟨_, rfl⟩
  rw [← hW2] at N1 M2 T2 hb2
  have HS := Lib.hid (sortedFuncT_any (w.heap.size + 1) w.heap.size b nn m f zs W2 hm hzm hz3 hz hup (M2.c 0) (N1.c 0) T2)
  have HB := Lib.hid hb2
  have HW2 := Lib.hid hW2
  have HS1 := Lib.hid hs1
  have m0 := M1.c 0
  clear hT hz3 hz hup M1 M2 N1 T2 hb2 hs1 hW2
  have hmf : ∀ fn first cap w, (Instr.makeFunc fn first cap).run Try.prog w = .ok (.func fn first cap) w := fun _ _ _ _ => rfl
  go_enter Try.func74, Try.ntmps74
  go_upto_region 1 with fail
  rw [← hW1]
  clear hW1
  go_wp2_with fail
  refine (HK.out _).mono ?_
  rintro e w2 ⟨rfl, rfl⟩
  rw [← HW2.out, HS1.out]
  clear m0
  go_wp2_with fail
  refine HS.out.mono ?_
  rintro e w3 ⟨A, c, rfl, ho, hb⟩
  have HF := Lib.hid (And.intro (own_base ho HB.out.size) (HB.out.trans (hb.mono HB.out.size)))
  clear ho hb
  go_wp2_with fail
  go_ret
  exact ⟨A, c, rfl, HF.out.1, HF.out.2⟩

end Go.Proofs.Ytaelhbbfddcabaa
