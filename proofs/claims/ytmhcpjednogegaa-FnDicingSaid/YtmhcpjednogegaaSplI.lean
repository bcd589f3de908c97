/- Contract of SplitSubPatch: the program. -/
import Derived.Test.YtmhcpjednogegaaProg
import Derived.Test.YtmhcpjednogegaaInts
import Derived.Test.YtmhcpjednogegaaVbox
import Derived.Test.YtmhcpjednogegaaVec
import Derived.Test.YtmhcpjednogegaaHeld
import Derived.Test.YtmhcpjednogegaaMem
import Derived.Test.YtmhcpjednogegaaFlat
import Derived.Test.YtmhcpjednogegaaRowC
import Derived.Test.YtmhcpjednogegaaArr
import Derived.Test.YtmhcpjednogegaaTr
import Derived.Test.YtmhcpjednogegaaSub
import Derived.Test.YtmhcpjednogegaaSplW
import Derived.WalkKit
import Derived.WalkSpells
import Derived.WalkLawsBesides
import Derived.Lib.Hide
import Derived.Deep.RegionHeld3
import Derived.Deep.QuietTactic
import Derived.BigQuiet
import Derived.Handy
import Derived.Deep.DeepCutAuto
import Derived.RangeFuncBox
import Derived.RangeFuncLeaves
import Derived.RangeFuncNested
import Derived.Shelf.Abstract
import Derived.OwnWalkIn
import Derived.TacticsInMore
import Derived.LoopNIn
import Derived.LoopIn
import Derived.Maps.AppendAt
namespace Go.Proofs.Ytmhcpjednogegaa
open Go.RowKit Go.Shelf
attribute [local go_sem] Oper.semAt_some

/-- a grid point's column and row -/
abbrev GPt := { x : Int × Int // (0 ≤ x.1 ∧ x.1 ≤ 1) ∧ 0 ≤ x.2 ∧ x.2 ≤ 1 }
def encG (x : GPt) : Array Value := #[.int .i64 x.1.1, .int .i64 x.1.2]
def gpt (c r : Nat) (hc : c < 2) (hr : r < 2) : GPt := ⟨((c : Int), (r : Int)), by constructor <;> omega⟩
def gridL : List GPt := [⟨(0, 0), by decide⟩, ⟨(1, 0), by decide⟩, ⟨(0, 1), by decide⟩, ⟨(1, 1), by decide⟩]
theorem grid_step (c r : Nat) (hc : c < 2) (hr : r < 2) : gridL.take (2 * r + c + 1) = gridL.take (2 * r + c) ++ [gpt c r hc hr] := by
  have hc' : c = 0 ∨ c = 1 := by omega
  have hr' : r = 0 ∨ r = 1 := by omega
  rcases hc' with rfl | rfl <;> rcases hr' with rfl | rfl <;> rfl
def KpB (Bn : Nat) (A B : World) : Prop := B.cell? ⟨Bn, 0, none⟩ = A.cell? ⟨Bn, 0, none⟩
def fq (u v n : Int) (x : GPt) : V3 := (2 * u + x.1.1, 2 * v + x.1.2, 2 * n)
theorem gridL_map (u v n : Int) : gridL.map (fq u v n) = quar u v n := by simp [gridL, fq, quar]
theorem cells_three_new (W : World) (a b c : Value) (t : TypeId) : ∀ j y, [a, b, c][j]? = some y → (W.alloc (.cells #[a, b, c] t)).cell? ((⟨W.heap.size, 0, none⟩ : Addr).add j) = some y := fun j y hj => by
  rw [Addr.add_mid, Nat.zero_add]
  exact (Mbox.new W #[a, b, c] t).c j hj
theorem grid_in (F : Fence) (n : Nat) (h : F.fn 37) (hro : F.round = none) (k : Int) (w : World) :
    CallsIn F n Try.prog 37 #[.int .i64 k] w fun e w' => e = .returned (.func (.func 59) #[] #[.pointer (some ⟨w.heap.size, 0, none⟩)]) ∧ w' = w.alloc (.cells #[.int .i64 k] 3) := by
  refine callsIn_of_wp Try.func37 rfl h ?_ hro
  simp only [Try.ntmps37, List.size_toArray, List.length_cons, List.length_nil, Nat.reduceAdd, Nat.reduceSub, Array.replicate_succ, Array.replicate_zero, List.push_toArray, List.append_toArray, List.nil_append, List.cons_append]
  gi_wp2
  go_ret
  exact ⟨rfl, rfl⟩
set_option maxRecDepth 100000 in
set_option maxHeartbeats 2000000 in
theorem grid_stops (F : Fence) (n : Nat) (h : F.fn 59) (hro : F.round = none) (hn : 1 ≤ n) (Bn : Nat) (w : World) (hBn : Bn < w.heap.size) (hc : w.cell? ⟨Bn, 0, none⟩ = some (.int .i64 2)) :
    SeqStopsK F n Try.prog 59 #[.pointer (some ⟨Bn, 0, none⟩)] encG (KpB Bn) (fun ys => ys = gridL) (fun pre => pre <+: gridL) 4 w := fun l J Jx W hW _ _ hY h0 => by
  have hc0 : W.cell? ⟨Bn, 0, none⟩ = some (.int .i64 2) := (hW.cell (p := ⟨Bn, 0, none⟩) hBn).trans hc
  refine callsIn_of_wp Try.func59 rfl h ?_ hro
  simp only [Try.ntmps59, List.size_toArray, List.length_cons, List.length_nil, Nat.reduceAdd, Nat.reduceSub, Array.replicate_succ, Array.replicate_zero, List.push_toArray, List.append_toArray, List.nil_append, List.cons_append]
  gi_wp2
  gi_loopw [6] (fun p wr => ∃ r : Nat, r ≤ 2 ∧ p = .int .i64 r ∧ J (gridL.take (2 * r)) wr ∧ wr.cell? ⟨Bn, 0, none⟩ = some (.int .i64 2)) (fun p _ => 2 - (intOf p).toNat)
  case atStart => exact ⟨0, Nat.zero_le _, rfl, h0, hc0⟩
  case round =>
    obtain ⟨r, hr, rfl, hJs, hcr⟩ := hrel
    by_cases hlt : r < 2
    · have hlt' : (r : Int) < 2 := by omega
      gi_wp2
      gi_loopw [10] (fun p wr => ∃ c : Nat, c ≤ 2 ∧ p = .int .i64 c ∧ J (gridL.take (2 * r + c)) wr ∧ wr.cell? ⟨Bn, 0, none⟩ = some (.int .i64 2)) (fun p _ => 2 - (intOf p).toNat)
      case atStart => exact ⟨0, Nat.zero_le _, rfl, hJs, hcr⟩
      case round =>
        clear hJs hcr
        obtain ⟨c, hcc, rfl, hJs, hcr⟩ := hrel
        by_cases hct : c < 2
        · have hct' : (c : Int) < 2 := by omega
          obtain ⟨fn, tmps, assign, body, hy, hR⟩ := hY (gridL.take (2 * r + c)) (gpt c r hct hlt) _ hJs (by simp [gridL]; omega)
          dsimp only [encG, gpt] at hy
          rw [← grid_step] at hR
          gi_wp2
          refine hR.mono ?_
          rintro e W3 (⟨rfl, hJ3, hk3⟩ | ⟨rfl, hJx3⟩)
          · have hc3 : W3.cell? ⟨Bn, 0, none⟩ = some (.int .i64 2) := hk3.trans hcr
            gi_wp2
            go_roundw
            case rel => exact ⟨c + 1, by omega, by go_num, hJ3, hc3⟩
            case measure => simp [intOf]; omega
          · gi_wp2
            refine bodyPost_ret (results_none rfl _ _ _) rfl ?_
            exact ⟨⟨_, rfl⟩, .inr ⟨_, List.take_prefix _ _, hJx3⟩⟩
        · have e : c = 2 := by omega
          subst e
          gi_wp2
          go_roundw
          case rel => exact ⟨r + 1, by omega, by go_num, by rw [show 2 * (r + 1) = 2 * r + 2 by omega]; exact hJs, hcr⟩
          case measure => simp [intOf]; omega
    · have e : r = 2 := by omega
      subst e
      gi_wp2
      go_end0
      exact ⟨⟨_, rfl⟩, .inl ⟨_, rfl, hJs⟩⟩

set_option maxRecDepth 100000 in
set_option maxHeartbeats 4000000 in
theorem split_go (u v n : Int) (w : World) (hk : okS u v n = true) (h64 : n ≠ 64) :
    CallsIn Fence.wide 3 Try.prog 13 #[vec u v n] w (SubsOut (quar u v n) w) := by
  have HT : Held w (w.alloc (.cells #[.int .i64 u, .int .i64 v, .int .i64 n] 39)) [(w.heap.size, [.int .i64 u, .int .i64 v, .int .i64 n])] := by
    have h := (Held.nil w).new #[.int .i64 u, .int .i64 v, .int .i64 n] 39
    simpa only [World.size_alloc] using h
  have hb := (okS_iff u v n).1 hk
  have hu : 0 ≤ u ∧ u ≤ 64 := by omega
  have hv : 0 ≤ v ∧ v ≤ 64 := by omega
  have hn : 1 ≤ n ∧ n ≤ 64 := by omega
  have hd : (n == 64) = false := by simpa using h64
  have HK := Lib.hid hk
  clear hb hk h64
  obtain ⟨i0, hi, hz0, hz1, hz2⟩ := info_parts infoSub
  have hf1 : Fence.wide.fn 36 := trivial
  have hf2 : Fence.wide.fn 37 := trivial
  refine callsIn_of_wp_marks Try.func13 rfl trivial ?_ rfl
  simp only [Try.ntmps13, List.size_toArray, List.length_cons, List.length_nil, Nat.reduceAdd, Nat.reduceSub, Array.replicate_succ, Array.replicate_zero, List.push_toArray, List.append_toArray, List.nil_append, List.cons_append]
  gi_wp2_with (first | (gi_at_call 36; refine (callsIn_wide.2 (isValidSub_any _ _ _ _)).mono ?_; rintro e w1 ⟨rfl, hb1⟩; have HT := HT.later hb1; rw [HK.out]; have c0 := (HT.box 0).c 0; have c1 := (HT.box 0).c 1; have c2 := (HT.box 0).c 2) | (gi_at_call 37; refine (grid_in Fence.wide _ trivial rfl _ _).mono ?_; rintro e w' ⟨rfl, rfl⟩))
  have hs1 := hb1.size
  simp only [World.size_alloc] at hs1
  have bQ : Boxed ((w1.alloc (.cells #[.slice none 0 0] 36)).alloc (.cells #[.int .i64 2] 3)) w1.heap.size 36 (.slice none 0 0) := (Boxed.new w1 36 _).alloc _
  have bN : Boxed ((w1.alloc (.cells #[.slice none 0 0] 36)).alloc (.cells #[.int .i64 2] 3)) (w1.heap.size + 1) 3 (.int .i64 2) := by
    have h := Boxed.new (w1.alloc (.cells #[.slice none 0 0] 36)) 3 (.int .i64 2)
    rw [World.size_alloc] at h
    exact h
  have HTW := (HT.alloc (.cells #[.slice none 0 0] 36)).alloc (.cells #[.int .i64 2] 3)
  have k0 := (HTW.box 0).c 0
  have k1 := (HTW.box 0).c 1
  have k2 := (HTW.box 0).c 2
  have hsz0 : ((w1.alloc (.cells #[.slice none 0 0] 36)).alloc (.cells #[.int .i64 2] 3)).heap.size = w1.heap.size + 2 := by simp
  refine wpIn_rangeFunc_ownG rfl (by omega) (gf := 59) (lb := #[.pointer (some ⟨w1.heap.size + 1, 0, none⟩)]) rfl trivial (enters_of Try.func59 (by kernel_rfl) rfl)
    (grid_stops Fence.wide (3 - 1) trivial rfl (by omega) (w1.heap.size + 1) _ (by simp) bN.cell) (fun h k => k.trans h)
    (fun W l o o' hl h _ _ => World.cell?_of_block (a := ⟨w1.heap.size + 1, 0, none⟩) ((grownBy_putObj' W l o').block _ (by have := (Array.getElem?_eq_some_iff.1 h).1; show w1.heap.size + 1 < _; omega) (by intro e; injection e with e; simp only at e; omega)))
    (Below.refl _ _) (fun _ => rfl)
    (fun (pre : List GPt) W => ((∃ s, Boxed W w1.heap.size 36 s ∧ W.ownsRow w1.heap.size 39 3 s pre.length ((pre.map (fq u v n)).flatMap vg) ∧ True) ∧ Boxed W (w1.heap.size + 1) 3 (.int .i64 2)) ∧ (Below w.heap.size w W ∧ (W.cell? ⟨w.heap.size, 0, none⟩ = some (.int .i64 u) ∧ W.cell? ⟨w.heap.size, 1, none⟩ = some (.int .i64 v) ∧ W.cell? ⟨w.heap.size, 2, none⟩ = some (.int .i64 n))))
    (fun _ _ _ => False)
    (OwnFrom.and (OwnFrom.and (Own.from (holdsRow_own w1.heap.size w1.heap.size 36 39 3 (fun (pre : List GPt) => pre.length) (fun (pre : List GPt) => (pre.map (fq u v n)).flatMap vg) (fun _ _ => True)) _) (Own.from (boxed_own (w1.heap.size + 1) 3 (fun _ => .int .i64 2)) _))
      (OwnFrom.and (ownFrom_below (Nat.le_refl _) (by omega)) (Own.from (fun s A B row hs hg hr => ⟨cell_kept hs.1 hg hr, cell_kept hs.2.1 hg hr, cell_kept hs.2.2 hg hr⟩) _)))
    (fun _ _ _ _ _ hs _ _ => hs)
    ⟨⟨⟨_, bQ, World.ownsRow_nil _ _ _ _, trivial⟩, bN⟩, HTW.below, k0, k1, k2⟩
    (fun x => { tmps := #[vec u v n, .pointer (some ⟨w.heap.size, 0, none⟩), .slice none 0 0, .pointer (some ⟨w1.heap.size, 0, none⟩), .int .i64 x.1.1, .int .i64 x.1.2, .agg #[.int .i64 u, .int .i64 v, .int .i64 n], .bool true, .bool false, .bool false, .pointer (some ⟨w.heap.size, 2, none⟩), .int .i64 n, .bool false, .bool false, .func (.func 59) #[] #[.pointer (some ⟨w1.heap.size + 1, 0, none⟩)], .int .i64 x.1.1, .int .i64 x.1.2, undef, undef, undef, undef, undef, undef, undef, undef, undef, undef, undef, undef, undef, undef, undef, undef, undef, undef], defers := [] }) ?assign ?body ?done ?stop
  case assign =>
    intro l x W K hK
    dsimp only [encG]
    gi_wp2
    exact hK
  case body =>
    rintro l pre x W ⟨⟨⟨s, hv1, hrow, _⟩, hN⟩, hB, g0, g1, g2⟩ hlt
    have hc := hv1.cell
    have hvl := hv1.lt
    obtain ⟨⟨x0, x1⟩, y0, y1⟩ := x.2
    gi_wp2_with (gi_at_builtin; refine wpListIn_append_own _ rfl _ _ 36 rfl w1.heap.size 39 i0 (vec 0 0 0) 3 24 Try.underlying36 hi hz0 hz1 hz2 rfl (by decide) _ _ _ rfl (hrow.alloc _) ⟨W.heap.size, 0, none⟩ 1 1 [.int .i64 (2 * u + x.1.1), .int .i64 (2 * v + x.1.2), .int .i64 (2 * n)] rfl rfl (cells_three_new _ _ _ _ _) (by simp [Value.oneCell']) (by unfold maxLen; omega) (by omega) (by simp; omega) ?_; intro v' w3 hown' hgrow _; obtain ⟨g', cap', rfl⟩ := ownsRow_succ hown'; obtain ⟨hw1, hw2, hr2, hk2, hb2⟩ := hv1.appended (by decide) hrow (Nat.le_of_lt hvl) (Nat.le_refl _) hown' hgrow; have hc1 := hw1.cell; have hf1 := hw1.frozen)
    have hN' := ((hN.alloc (.cells #[.int .i64 (2 * u + x.1.1), .int .i64 (2 * v + x.1.2), .int .i64 (2 * n)] 39)).kept hgrow (hN.not_row (by decide) hrow)).other (show w1.heap.size + 1 ≠ w1.heap.size by omega) (.slice (some ⟨g', 0, none⟩) (pre.length + 1) cap')
    refine ⟨hk2.from _, hN'.cell.trans hN.cell.symm, ⟨⟨⟨_, hw2, ?_, trivial⟩, hN'⟩, hB.trans (hb2.mono (by omega)), (hb2.cell (p := ⟨w.heap.size, 0, none⟩) (by show w.heap.size < w1.heap.size; omega)).trans g0, (hb2.cell (p := ⟨w.heap.size, 1, none⟩) (by show w.heap.size < w1.heap.size; omega)).trans g1, (hb2.cell (p := ⟨w.heap.size, 2, none⟩) (by show w.heap.size < w1.heap.size; omega)).trans g2⟩⟩
    rw [List.length_append, List.map_append, List.flatMap_append]
    exact hr2
  case done =>
    rintro D ys W hD rfl ⟨⟨⟨s, hv1, hrow, _⟩, hN⟩, hB, _⟩ hK
    obtain ⟨A, c, rfl⟩ := own_shape hrow
    have hc := hv1.cell
    gi_wp2
    refine ⟨by simp, .inl ⟨_, _, rfl, run_takeDeferred hK, ?_⟩⟩
    refine ⟨_, results_tmp rfl _ _ _, A, c, rfl, ?_, hB.trans (belowK_b (w := w) (Nat.le_refl _) W D _ _ (by simp at hD; omega) hK rfl rfl)⟩
    have h := own_base (ownsRow_putObj hrow (.deferred none) hK rfl) (base' := w.heap.size) (by omega)
    rw [gridL_map] at h
    exact h
  case stop =>
    rintro D c pre W _ _ h _
    exact h.elim
set_option maxHeartbeats 4000000 in
theorem split_any (u v n : Int) (w : World) :
    Calls Try.prog 13 #[vec u v n] w (SubsOut (splS u v n) w) := by
  have HT : Held w (w.alloc (.cells #[.int .i64 u, .int .i64 v, .int .i64 n] 39)) [(w.heap.size, [.int .i64 u, .int .i64 v, .int .i64 n])] := by
    have h := (Held.nil w).new #[.int .i64 u, .int .i64 v, .int .i64 n] 39
    simpa only [World.size_alloc] using h
  rcases hk : okS u v n with _ | _
  · have HE : Hid (splS u v n = []) := Lib.hid (by unfold splS; rw [if_neg (by rw [hk]; simp)])
    go_enter Try.func13, Try.ntmps13
    go_wp2_with fail
    refine (isValidSub_any _ _ _ _).mono ?_
    rintro e w1 ⟨rfl, hb1⟩
    have HT := HT.later hb1
    rw [hk]
    clear hb1 hk
    go_wp2_with fail
    go_ret
    exact ⟨none, 0, by rw [HE.out]; rfl, by rw [HE.out]; exact World.ownsRow_nil _ _ _ _, HT.below⟩
  · by_cases h64 : n = 64
    · have HE : Hid (splS u v n = []) := Lib.hid (by unfold splS; rw [if_neg (fun h => h.2 h64)])
      subst h64
      go_enter Try.func13, Try.ntmps13
      go_wp2_with fail
      refine (isValidSub_any _ _ _ _).mono ?_
      rintro e w1 ⟨rfl, hb1⟩
      have HT := HT.later hb1
      rw [hk]
      have c0 := (HT.box 0).c 0
      have c1 := (HT.box 0).c 1
      have c2 := (HT.box 0).c 2
      clear hb1 hk
      go_wp2_with fail
      go_ret
      exact ⟨none, 0, by rw [HE.out]; rfl, by rw [HE.out]; exact World.ownsRow_nil _ _ _ _, HT.below⟩
    · have HE : splS u v n = quar u v n := by unfold splS; rw [if_pos ⟨hk, h64⟩]
      rw [HE]
      exact (callsIn_wide (n := 3)).1 (split_go u v n w hk h64)
end Go.Proofs.Ytmhcpjednogegaa
