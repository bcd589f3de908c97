/- (Behind no chapter.) Two laws of our own: a region that draws its order inside a round of a range over a function, and a range over the points of a grid whose body knows how many rounds are done. -/
import Derived.Test.YtaelhbbfddcabaaProg
import Derived.Test.YtaelhbbfddcabaaInts
import Derived.Test.YtaelhbbfddcabaaVbox
import Derived.Test.YtaelhbbfddcabaaHeld
import Derived.Test.YtaelhbbfddcabaaMem
import Derived.Test.YtaelhbbfddcabaaFlat
import Derived.Test.YtaelhbbfddcabaaRowC
import Derived.WalkKit
import Derived.WalkSpells
import Derived.WalkLawsBesides
import Derived.Lib.Hide
import Derived.Deep.RegionHeld3
import Derived.Handy
import Derived.RangeFuncNested
import Derived.RangeFuncBound
import Derived.RangeFuncCalls
import Derived.RangeFuncLeaves
import Derived.RangeFuncWrites
import Derived.OwnWalkIn
import Derived.TacticsInMore
import Derived.LoopNIn
import Derived.LoopIn
import Derived.Deep.QuietTactic
import Derived.BigQuiet
import Derived.Deep.DeepCutAuto
import Derived.RangeFuncBox
import Derived.Shelf.Abstract
import Derived.Maps.AppendAt
namespace Go.Proofs.Ytaelhbbfddcabaa
open Go.RowKit Go.Shelf
attribute [local go_sem] Oper.semAt_some

/-- no operation is a defer statement -/
def noDefer (ops : Array Oper) : Bool := ops.toList.all fun o => match o.op with | .defer _ => false | _ => true
theorem noDefer_at {ops : Array Oper} (h : noDefer ops = true) {i : Nat} {o : Oper} (ho : ops[i]? = some o) : ∀ c, o.op ≠ .defer c := by
  intro c hc
  have hm : o ∈ ops.toList := by rw [← Array.getElem?_toList] at ho; exact List.mem_of_getElem? ho
  have := List.all_eq_true.1 h o hm
  rw [hc] at this
  cases this
theorem ops_round {P : Program} {ops : Array Oper} {Q : Exit → Act → World → Prop} {l n : Nat} (hnd : noDefer ops = true) (hLO : LetsOut Q → False) :
    ∀ (is : List Nat) (a : Act) (w : World), wpOps P ops Q is a w → wpOpsIn (Fence.wide.inRound l) n P ops Q is a w := by
  intro is
  induction is with
  | nil => exact fun _ _ h => h
  | cons i rest ih =>
    intro a w h
    unfold wpOps at h
    unfold wpOpsIn
    cases ho : ops[i]? with
    | none => rw [ho] at h; exact ih _ _ h
    | some o =>
      rw [ho] at h
      simp only at h ⊢
      by_cases hw : Region.wanted o (yielded ops a.tmps) = true
      · rw [if_pos hw] at h ⊢
        rcases h with h | ⟨_, h⟩
        · refine ⟨fun _ _ => trivial, ?_⟩
          rw [Oper.semAt_eq _ _ _ (noDefer_at hnd ho)]
          unfold Oper.wp at h
          generalize (execOp a.eval o).run P w = r at h ⊢
          cases r with
          | ok x w' =>
            cases x <;> simp only [Oper.upon, Oper.uponIn] at h ⊢
            case value v => exact ih _ _ h
            case skip => exact ih _ _ h
            case defer d => exact ih _ _ h
            case enter f args =>
              refine ⟨fun e => (by cases e), CallsIn.inRound l (callsIn_wide.2 (h.mono ?_))⟩
              intro e w'' he
              cases e with
              | returned v => exact ih _ _ he
              | panicked c => exact he
              | outgrown => exact he
            case row row args =>
              refine ⟨fun e => (by cases e), fun c cs _ => ?_⟩
              obtain ⟨v, w'', hR, hs⟩ := h c cs
              exact ⟨v, w'', ih _ _ hR, stepsIn_wide.2 hs⟩
          | halt x w' => cases x <;> simp only [Oper.upon, Oper.uponIn] at h ⊢ <;> exact h
        · exact (hLO h).elim
      · rw [if_neg hw] at h ⊢
        exact ⟨fun _ _ => trivial, ih _ _ h⟩
/-- a region that draws its order, in a round: one condition S on the world for the whole region -/
theorem region_round {P : Program} {ops : Array Oper} {Q : Exit → Act → World → Prop} {S : World → Prop} {id l n : Nat} {a : Act} {w : World} (hnd : noDefer ops = true) (hLO : LetsOut Q → False) (hm : P.follows .mixedOrders = true) (hS : S w.drew)
    (h : S w.drew → wpAnyH P .any ops Q S ops.size (Array.replicate ops.size false) a w.drew) : (Code.region id ops true).wpIn (Fence.wide.inRound l) n P Q a w :=
  wpIn_region_draw fun t => ops_round hnd hLO _ _ _ (by
    simp only [Region.schedule, hm, Bool.true_or, if_true]
    exact wpAny_sound _ _ _ _ _ (wpAny_of_held _ _ _ _ (h hS)))

/-- how a round's body may be left, k rounds being done before it -/
def gridPost (B : Nat) (I : Nat → World → Prop) (Ix : Code → World → Prop) (k : Nat) (W : World) : Exit → Act → World → Prop
  | .normal, _, W' => KeepsFrom B W W' ∧ I (k + 1) W'
  | .ret, _, W' => KeepsFrom B W W' ∧ Ix .ret W'
  | .exit id, _, W' => KeepsFrom B W W' ∧ Ix (.exit id) W'
  | .goto t, _, W' => KeepsFrom B W W' ∧ Ix (.goto t) W'
  | .panic _, _, _ => False
  | .outgrown, _, _ => False
/-- blocks that a call has made outlive the loop's own book-keeping -/
theorem Held.turned {w0 W W' : World} {bs : List (Nat × List Value)} {B : Nat} {row : Option Nat} (h : Held w0 W bs) (hg : W.grownBy W' row) (hB : w0.heap.size ≤ B) (hr : ∀ r, row = some r → B ≤ r ∧ ∃ o : Obj, W.heap[r]? = some o ∧ o.isCells = false) : Held w0 W' bs :=
  ⟨below_own h.1 hg h.size (fun k e => Nat.le_trans hB (hr k e).1), fun i k vs e j v hj => by
    obtain ⟨hc, hf⟩ := h.2 i k vs e j v hj
    have hr' : ∀ r, row = some r → ∃ o : Obj, W.heap[r]? = some o ∧ o.isCells = false := fun r er => (hr r er).2
    exact ⟨cell_kept hc hg hr', (frozen_kept hc hg hr').trans hf⟩⟩
/-- what a round of such a loop holds, from its beginning W0 on: the call's blocks, and that no block of another make has turned -/
structure RH (B : Nat) (w W0 W : World) (bs : List (Nat × List Value)) : Prop where
  held : Held w W bs
  keep : KeepsFrom B W0 W
theorem keepsLater {B : Nat} {W0 W W' : World} (h : KeepsFrom B W0 W) (hb : Below W.heap.size W W') : KeepsFrom B W0 W' :=
  h.trans ⟨hb.size, fun k o _ hk _ => by
    have hlt := (Array.getElem?_eq_some_iff.1 hk).1
    rw [hb.block k hlt]; exact hk⟩
section
variable {B : Nat} {w W0 W W' : World} {bs : List (Nat × List Value)}
theorem RH.start (h : Held w W bs) : RH B w W W bs := ⟨h, KeepsFrom.refl _ _⟩
theorem RH.box {k : Nat} {vs : List Value} (h : RH B w W0 W bs) (i : Nat) (e : bs[i]? = some (k, vs) := by rfl) : Mbox W k vs := h.held.box i e
theorem RH.later (h : RH B w W0 W bs) (hb : Below W.heap.size W W') : RH B w W0 W' bs := ⟨h.held.later hb, keepsLater h.keep hb⟩
theorem RH.drew (h : RH B w W0 W bs) : RH B w W0 W.drew bs := ⟨h.held.drew, h.keep.trans ((KeepsOthers.drew W).from B)⟩
theorem RH.alloc (h : RH B w W0 W bs) (o : Obj) : RH B w W0 (W.alloc o) bs := ⟨h.held.alloc o, h.keep.trans ((KeepsOthers.alloc W o).from B)⟩
theorem RH.new (h : RH B w W0 W bs) (cs : Array Value) (t : TypeId) : RH B w W0 (W.alloc (.cells cs t)) ((W.heap.size, cs.toList) :: bs) := ⟨h.held.new cs t, h.keep.trans ((KeepsOthers.alloc W _).from B)⟩
theorem RH.pick {cs : List (Nat × List Value)} (h : RH B w W0 W bs) (e : ∀ p ∈ cs, p ∈ bs) : RH B w W0 W cs := ⟨h.held.pick e, h.keep⟩
theorem RH.put {k : Nat} {vs : List Value} (h : RH B w W0 W ((k, vs) :: bs)) (hg : w.heap.size ≤ k) (hne : ∀ p ∈ bs, p.1 ≠ k) (i : Nat) (v : Value) : RH B w W0 (W.setCell ⟨k, i, none⟩ v) ((k, vs.set i v) :: bs) :=
  ⟨h.held.put hg hne i v, h.keep.trans ((KeepsOthers.setCell W _ _).from B)⟩
/-- a new block of three cells, filled -/
theorem RH.put3 {k : Nat} {p q r : Value} (h : RH B w W0 W ((k, [p, q, r]) :: bs)) (hg : w.heap.size ≤ k) (hne : ∀ p ∈ bs, p.1 ≠ k) (x y z : Value) : RH B w W0 (((W.setCell ⟨k, 0, none⟩ x).setCell ⟨k, 1, none⟩ y).setCell ⟨k, 2, none⟩ z) ((k, [x, y, z]) :: bs) :=
  ((h.put hg hne 0 x).put hg hne 1 y).put hg hne 2 z
end

theorem gridPts_in (n : Nat) (k : Int) (w : World) :
    CallsIn Fence.wide n Try.prog 71 #[.int .i64 k] w fun e w' => e = .returned (.func (.func 88) #[] #[.pointer (some ⟨w.heap.size, 0, none⟩)]) ∧ w' = w.alloc (.cells #[.int .i64 k] 3) := by
  refine callsIn_of_wp Try.func71 rfl trivial ?_ rfl
  simp only [Try.ntmps71, List.size_toArray, List.length_cons, List.length_nil, Nat.reduceAdd, Nat.reduceSub, Array.replicate_succ, Array.replicate_zero, List.push_toArray, List.append_toArray, List.nil_append, List.cons_append]
  gi_wp2
  go_ret
  exact ⟨rfl, rfl⟩

set_option maxRecDepth 100000 in
set_option maxHeartbeats 4000000 in
theorem grid_rounds (n s l Bn : Nat) (hn : 1 ≤ n) (hs : s ≤ 9) (J : Nat → World → Prop) (Jx : World → Prop) (W : World)
    (hc : ∀ k W, J k W → W.cell? ⟨Bn, 0, none⟩ = some (.int .i64 s))
    (hY : ∀ c r, c < s → r < s → ∀ W, J (s * r + c) W → YieldAt Fence.wide (n - 1) Try.prog l #[.int .i64 (c : Int), .int .i64 (r : Int)] W fun e W' =>
      (e = .returned (.bool true) ∧ J (s * r + c + 1) W') ∨ (e = .returned (.bool false) ∧ Jx W'))
    (h0 : J 0 W) :
    CallsIn Fence.wide n Try.prog 88 #[.func (.yield l) #[] #[], .pointer (some ⟨Bn, 0, none⟩)] W fun e W' => (∃ v, e = .returned v) ∧ (J (s * s) W' ∨ Jx W') := by
  have hc0 := hc 0 W h0
  refine callsIn_of_wp Try.func88 rfl trivial ?_ rfl
  simp only [Try.ntmps88, List.size_toArray, List.length_cons, List.length_nil, Nat.reduceAdd, Nat.reduceSub, Array.replicate_succ, Array.replicate_zero, List.push_toArray, List.append_toArray, List.nil_append, List.cons_append]
  gi_wp2
  gi_loopw [6] (fun p wr => ∃ r : Nat, r ≤ s ∧ p = .int .i64 r ∧ J (s * r) wr) (fun p _ => s - (intOf p).toNat)
  case atStart => exact ⟨0, Nat.zero_le _, rfl, h0⟩
  case round =>
    obtain ⟨r, hr, rfl, hJs⟩ := hrel
    have hcr := hc _ _ hJs
    by_cases hlt : r < s
    · have hlt' : (r : Int) < (s : Int) := by omega
      gi_wp2
      gi_loopw [10] (fun p wr => ∃ c : Nat, c ≤ s ∧ p = .int .i64 c ∧ J (s * r + c) wr) (fun p _ => s - (intOf p).toNat)
      case atStart => exact ⟨0, Nat.zero_le _, rfl, hJs⟩
      case round =>
        clear hJs hcr
        obtain ⟨c, hcc, rfl, hJs⟩ := hrel
        have hcr := hc _ _ hJs
        by_cases hct : c < s
        · have hct' : (c : Int) < (s : Int) := by omega
          obtain ⟨fn, tmps, assign, body, hy, hR⟩ := hY c r hct hlt _ hJs
          gi_wp2
          refine hR.mono ?_
          rintro e W3 (⟨rfl, hJ3⟩ | ⟨rfl, hJx3⟩)
          · have hc3 := hc _ _ hJ3
            gi_wp2
            go_roundw
            case rel => exact ⟨c + 1, by omega, by go_num, hJ3⟩
            case measure => simp [intOf]; omega
          · gi_wp2
            refine bodyPost_ret (results_none rfl _ _ _) rfl ?_
            exact ⟨⟨_, rfl⟩, .inr hJx3⟩
        · have e : c = s := by omega
          subst e
          have hnx : J (c * (r + 1)) wr := by rw [Nat.mul_succ]; exact hJs
          have hni : ¬ ((c : Int) < (c : Int)) := by omega
          gi_wp2
          go_roundw
          case rel => exact ⟨r + 1, by omega, by go_num, hnx⟩
          case measure => simp [intOf]; omega
    · have e : r = s := by omega
      subst e
      have hni : ¬ ((r : Int) < (r : Int)) := by omega
      gi_wp2
      go_end0
      exact ⟨⟨_, rfl⟩, .inl hJs⟩

/-- the points of a grid of s columns and s rows, ranged over: I k: k rounds are done; Ix c: a round has left by the jump c -/
theorem wpIn_grid {g : Operand} {ps : Array Tmp} {assign body : Code} {Q : Exit → Act → World → Prop} {a : Act} {w : World} {n s Bn : Nat} (hn : 2 ≤ n) (hs : s ≤ 9)
    (hg : a.eval g = .func (.func 88) #[] #[.pointer (some ⟨Bn, 0, none⟩)]) (hps : ps.size = 2)
    (I : Nat → World → Prop) (Ix : Code → World → Prop) (hI : OwnFrom w.heap.size I) (hIx : OwnFrom w.heap.size Ix) (hN : ∀ k W, I k W → W.cell? ⟨Bn, 0, none⟩ = some (.int .i64 s)) (h0 : I 0 w) (a₁ : Nat → Nat → Act)
    (hassign : ∀ (l c r : Nat) (W : World) (K : Act → World → Prop), K (a₁ c r) W →
      assign.wpIn (Fence.wide.inRound l) (n - 1 - 1) Try.prog (Exit.then K (fun _ _ _ => False)) { tmps := (ps.zip #[Value.int .i64 (c : Int), Value.int .i64 (r : Int)]).foldl (fun t (p, v) => t.setIfInBounds p v) a.tmps, defers := [] } W)
    (hbody : ∀ (l c r : Nat) (W : World), c < s → r < s → I (s * r + c) W → body.wpIn (Fence.wide.inRound l) (n - 1 - 1) Try.prog (gridPost w.heap.size I Ix (s * r + c) W) (a₁ c r) W)
    (hdone : ∀ (D : Nat) (W : World), w.heap.size ≤ D → I (s * s) W → W.heap[D]? = some (.deferred (some [])) → Q .normal { a with defers := { target := .collected D, args := #[] } :: a.defers } W)
    (hstop : ∀ (D : Nat) (c : Code) (W : World), w.heap.size ≤ D → Ix c W → W.heap[D]? = some (.deferred (some [])) → c.wpIn Fence.wide n Try.prog Q { a with defers := { target := .collected D, args := #[] } :: a.defers } W) :
    (Code.rangeFunc g ps assign body).wpIn Fence.wide n Try.prog Q a w := by
  refine wpIn_rangeFunc fun fn hfn => ?_
  let rec_ : LoopState → Option Code → Loop := fun st pe => { state := st, pending := pe, fn, tmps := a.tmps, params := ps, assign, body, defers := w.heap.size }
  have hp2 : ∀ x y : Value, (#[x, y] : Array Value).size = ps.size := fun _ _ => by rw [hps]; rfl
  have w1s : ((w.alloc (.deferred (some []))).alloc (.loop (rec_ .ready none))).heap.size = w.heap.size + 1 + 1 := by rw [World.size_alloc, World.size_alloc]
  have hL1 : ((w.alloc (.deferred (some []))).alloc (.loop (rec_ .ready none))).heap[w.heap.size + 1]? = some (.loop (rec_ .ready none)) := by
    have := World.alloc_heap_new (w.alloc (.deferred (some []))) (.loop (rec_ .ready none))
    rwa [World.size_alloc] at this
  have hD1 : ((w.alloc (.deferred (some []))).alloc (.loop (rec_ .ready none))).heap[w.heap.size]? = some (.deferred (some [])) :=
    (Below.heap_alloc _ _ _ (by rw [World.size_alloc]; omega)).trans (World.alloc_heap_new w _)
  refine ⟨w.heap.size + 1, [{ target := .collected w.heap.size, args := #[] }], (w.alloc (.deferred (some []))).alloc (.loop (rec_ .ready none)), { target := .fn (.func 88) #[.pointer (some ⟨Bn, 0, none⟩)], args := #[.func (.yield (w.heap.size + 1)) #[] #[]] }, (w.alloc (.deferred (some []))).alloc (.loop (rec_ .ready none)), 88,
    #[.func (.yield (w.heap.size + 1)) #[] #[], .pointer (some ⟨Bn, 0, none⟩)], (w.alloc (.deferred (some []))).alloc (.loop (rec_ .ready none)), run_enterLoop_outer fn a.tmps ps assign body, ?_, fun _ _ => trivial, ?_, fun e => (by cases e), ?_⟩
  · simp only [resolve, hg]
    simp [go_sem]
  · simp [invoke, go_sem]
  refine (grid_rounds (n - 1) s (w.heap.size + 1) Bn (by omega) hs (fun k W => I k W ∧ W.heap[w.heap.size + 1]? = some (.loop (rec_ .ready none)) ∧ W.heap[w.heap.size]? = some (.deferred (some [])))
    (fun W => ∃ c, Ix c W ∧ W.heap[w.heap.size + 1]? = some (.loop (rec_ .done (some c))) ∧ W.heap[w.heap.size]? = some (.deferred (some []))) _ (fun k W h => hN k W h.1) ?_ ⟨hI.alloc _ (hI.alloc _ h0), hL1, hD1⟩).mono ?_
  · rintro c r hc hr W ⟨hi, hl, hd⟩
    have hlt : w.heap.size + 1 < W.heap.size := (Array.getElem?_eq_some_iff.1 hl).1
    refine ⟨fn, _, assign, body, run_yield hl (hp2 _ _), roundIn_of_wpIn hfn (hassign _ c r W _ ⟨_, run_beginRound hl rfl, ?_⟩)⟩
    have hi2 := hI.putObj (.loop { rec_ .ready none with state := .busy }) hi (by omega) hl rfl
    have hl2 : (W.putObj (w.heap.size + 1) (.loop { rec_ .ready none with state := .busy })).heap[w.heap.size + 1]? = some (.loop { rec_ .ready none with state := .busy }) := World.putObj_heap_same hlt
    have hd2 : (W.putObj (w.heap.size + 1) (.loop { rec_ .ready none with state := .busy })).heap[w.heap.size]? = some (.deferred (some [])) := (World.putObj_heap_other (by omega)).trans hd
    have leave : ∀ (jump : Option Code) (W3 : World), KeepsFrom w.heap.size (W.putObj (w.heap.size + 1) (.loop { rec_ .ready none with state := .busy })) W3 →
        W3.heap[w.heap.size + 1]? = some (.loop { rec_ .ready none with state := .busy }) ∧
        (W3.putObj (w.heap.size + 1) (.loop (rec_ (if jump.isNone then .ready else .done) jump))).heap[w.heap.size + 1]? = some (.loop (rec_ (if jump.isNone then .ready else .done) jump)) ∧
        (W3.putObj (w.heap.size + 1) (.loop (rec_ (if jump.isNone then .ready else .done) jump))).heap[w.heap.size]? = some (.deferred (some [])) := fun jump W3 hk => by
      have h3 := hk.same _ _ (by omega) hl2 rfl
      exact ⟨h3, World.putObj_heap_same (Array.getElem?_eq_some_iff.1 h3).1, (World.putObj_heap_other (by omega)).trans (hk.same _ _ (Nat.le_refl _) hd2 rfl)⟩
    refine wpIn_mono (hbody _ c r _ hc hr hi2) fun e a3 W3 hp => ?_
    cases e with
    | normal =>
      obtain ⟨h3, h4, h5⟩ := leave none W3 hp.1
      exact ⟨_, _, run_endRound none h3, .inl ⟨rfl, hI.putObj _ hp.2 (by omega) h3 rfl, h4, h5⟩⟩
    | ret =>
      obtain ⟨h3, h4, h5⟩ := leave (some .ret) W3 hp.1
      exact ⟨_, _, run_endRound _ h3, .inr ⟨rfl, .ret, hIx.putObj _ hp.2 (by omega) h3 rfl, h4, h5⟩⟩
    | exit id =>
      obtain ⟨h3, h4, h5⟩ := leave (some (.exit id)) W3 hp.1
      exact ⟨_, _, run_endRound _ h3, .inr ⟨rfl, .exit id, hIx.putObj _ hp.2 (by omega) h3 rfl, h4, h5⟩⟩
    | goto t =>
      obtain ⟨h3, h4, h5⟩ := leave (some (.goto t)) W3 hp.1
      exact ⟨_, _, run_endRound _ h3, .inr ⟨rfl, .goto t, hIx.putObj _ hp.2 (by omega) h3 rfl, h4, h5⟩⟩
    | panic ch => exact hp.elim
    | outgrown => exact hp.elim
  · rintro e W2 ⟨⟨v, rfl⟩, (⟨hi, hl, hd⟩ | ⟨c, hi, hl, hd⟩)⟩
    · exact ⟨none, _, run_endLoop hl (by simp [rec_]), hdone _ _ (Nat.le_refl _) (hI.putObj _ hi (by omega) hl rfl) ((World.putObj_heap_other (by omega)).trans hd)⟩
    · exact ⟨some c, _, run_endLoop hl (by simp [rec_]), hstop _ c _ (Nat.le_refl _) (hIx.putObj _ hi (by omega) hl rfl) ((World.putObj_heap_other (by omega)).trans hd)⟩
end Go.Proofs.Ytaelhbbfddcabaa
