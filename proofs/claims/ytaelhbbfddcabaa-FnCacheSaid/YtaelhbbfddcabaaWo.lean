/- slices.SortFunc at tiles, by what a map holds at them. -/
import Derived.Test.YtaelhbbfddcabaaProg
import Derived.Test.YtaelhbbfddcabaaInts
import Derived.Test.YtaelhbbfddcabaaVbox
import Derived.Test.YtaelhbbfddcabaaHeld
import Derived.Test.YtaelhbbfddcabaaMem
import Derived.Test.YtaelhbbfddcabaaFlat
import Derived.Test.YtaelhbbfddcabaaRowC
import Derived.Test.YtaelhbbfddcabaaSS
import Derived.Test.YtaelhbbfddcabaaWa
import Derived.Test.YtaelhbbfddcabaaWm
import Derived.Test.YtaelhbbfddcabaaShelfK
import Derived.WalkKit
import Derived.WalkSpells
import Derived.WalkLawsBesides
import Derived.Lib.Hide
import Derived.Deep.RegionHeld3
import Derived.Deep.QuietTactic
import Derived.BigQuiet
import Derived.Handy
import Derived.Deep.DeepCutAuto
import Derived.OwnWalk
import Derived.Lib.OwnBridge
import Derived.Shelf.SlSortCmp.NoneTotal
import Derived.Maps.OwnSet
namespace Go.Proofs.Ytaelhbbfddcabaa
open Go.RowKit Go.Sort

def cmpZ (x y : Int) : Int := if x < y then -1 else if y < x then 1 else 0
theorem cmpZ_lt (x y : Int) : decide (cmpZ x y < 0) = decide (x < y) := by
  unfold cmpZ
  rw [decide_eq_decide]
  split
  · omega
  · split <;> omega
/-- two lists that rise by one measure and have the same members are one -/
theorem rise_eq {α : Type} {v : α → Int} : ∀ {l m : List α}, l.Pairwise (fun a c => v a < v c) → m.Pairwise (fun a c => v a < v c) → (∀ e, e ∈ l ↔ e ∈ m) → l = m
  | [], [], _, _, _ => rfl
  | [], b :: m, _, _, h => absurd ((h b).2 List.mem_cons_self) (by simp)
  | a :: l, [], _, _, h => absurd ((h a).1 List.mem_cons_self) (by simp)
  | a :: l, b :: m, h1, h2, h => by
    have h1' := List.pairwise_cons.1 h1
    have h2' := List.pairwise_cons.1 h2
    have e : a = b := by
      rcases List.mem_cons.1 ((h a).1 List.mem_cons_self) with q | q
      · exact q
      · rcases List.mem_cons.1 ((h b).2 List.mem_cons_self) with r | r
        · exact r.symm
        · have x1 := h2'.1 a q
          have x2 := h1'.1 b r
          omega
    subst e
    rw [rise_eq h1'.2 h2'.2 fun x => ⟨fun hx => by
      rcases List.mem_cons.1 ((h x).1 (List.mem_cons_of_mem _ hx)) with q | q
      · have := h1'.1 x hx; rw [q] at this; omega
      · exact q, fun hx => by
      rcases List.mem_cons.1 ((h x).2 (List.mem_cons_of_mem _ hx)) with q | q
      · have := h2'.1 x hx; rw [q] at this; omega
      · exact q⟩]
section
variable {α : Type} [Inhabited α] {enc : α → List Value} {w : World} {base : Nat} {e : TypeId} {g n cap : Nat} {zs : List α}
theorem holdsT_of_own (hk : ∀ x, (enc x).length = 3) (h : w.ownsRow base e 3 (.slice (some ⟨g, 0, none⟩) n cap) n (zs.flatMap enc)) (hn : zs.length = n) : HoldsK enc 3 w g 0 zs.toArray := fun j hj => by
  have hj : j < zs.length * 3 := by simpa using hj
  have hlt : j / 3 < zs.length := by omega
  refine ⟨?_, by rw [Nat.zero_add]; exact h.frozenAt j⟩
  rw [Nat.zero_add, h.cellAt j (by omega)]
  have hf := flat_get hk zs (j / 3) (j % 3) hlt (by omega)
  rw [show j / 3 * 3 + j % 3 = j by omega] at hf
  rw [hf, get_flatK _ _ _ _ (by simpa using hj)]
  have e1 : zs.toArray[j / 3]! = zs[j / 3] := by simp [getElem!_pos, hlt]
  have h3 : j % 3 < (enc zs[j / 3]).length := by rw [hk]; omega
  rw [e1, List.getElem?_eq_getElem h3]
  simp [getElem!_pos, h3]
theorem own_putRowT {q : Nat} {ys : List α} (hk : ∀ x, (enc x).length = 3) (h : w.ownsRow base e 3 (.slice (some ⟨g, 0, none⟩) n cap) n (zs.flatMap enc)) (hy : ys.length = n) :
    (putRowK enc 3 (Sort.ahead w q) g 0 ys.toArray).ownsRow base e 3 (.slice (some ⟨g, 0, none⟩) n cap) n (ys.flatMap enc) := by
  rcases h.2 with ⟨e0, _⟩ | ⟨g', cap', cur, e0, hb, hg, hn, hm, hs, ht⟩
  · cases e0
  · injection e0 with e1 _ e3
    injection e1 with e1
    injection e1 with e1
    subst e1; subst e3
    refine ⟨by rw [flat_len hk, hy], .inr ⟨g, cap, putCells id 0 (flatK enc 3 ys.toArray) cur, rfl, hb, ?_, hn, hm, by simpa [putCells] using hs, ?_⟩⟩
    · simp [putRowK, putRow, mapBlock, Sort.ahead, Array.getElem?_modify, hg, onCells]
    · apply List.ext_getElem?
      intro j
      rw [List.getElem?_take, Array.getElem?_toList]
      by_cases hj : j < n * 3
      · have hjc : j < cur.size := by omega
        have hlt : j / 3 < ys.length := by omega
        simp only [if_pos hj, putCells, Array.getElem?_mapIdx, Array.getElem?_eq_getElem hjc, Option.map_some]
        rw [if_pos (by simp; omega)]
        have hf := flat_get hk ys (j / 3) (j % 3) hlt (by omega)
        rw [show j / 3 * 3 + j % 3 = j by omega] at hf
        have e1 : ys.toArray[j / 3]! = ys[j / 3] := by simp [getElem!_pos, hlt]
        have h3 : j % 3 < (enc ys[j / 3]).length := by rw [hk]; omega
        rw [hf, Nat.sub_zero, get_flatK _ _ _ _ (by simp; omega), e1, List.getElem?_eq_getElem h3]
        simp [getElem!_pos, h3]
      · rw [if_neg hj, List.getElem?_eq_none (by rw [flat_len hk]; omega)]
end
set_option maxHeartbeats 1000000 in
theorem compareZ_any (x y : Int) (w : World) : Calls Try.prog 93 #[.int .i64 x, .int .i64 y] w fun e w' => e = .returned (.int .i64 (cmpZ x y)) ∧ w = w' := by
  by_cases h1 : x < y
  · have HE : Hid (cmpZ x y = -1) := Lib.hid (by simp [cmpZ, h1])
    go_enter Try.func93, Try.ntmps93
    go_wp2
    go_ret
    exact ⟨ret_int HE.out.symm, rfl⟩
  · by_cases h2 : y < x
    · have HE : Hid (cmpZ x y = 1) := Lib.hid (by simp [cmpZ, h1, h2])
      go_enter Try.func93, Try.ntmps93
      go_wp2
      go_ret
      exact ⟨ret_int HE.out.symm, rfl⟩
    · have HE : Hid (cmpZ x y = 0) := Lib.hid (by simp [cmpZ, h1, h2])
      go_enter Try.func93, Try.ntmps93
      go_wp2
      go_ret
      exact ⟨ret_int HE.out.symm, rfl⟩

theorem TmAt.drewN {w : World} {b n m : Nat} {f : V3 → Option Int} (h : TmAt w b n f m) (k : Nat) : TmAt (w.drewN k) b n f m := h.kept (gb_drewN (gb_refl w none) k) (by simp)
set_option maxHeartbeats 4000000 in
theorem cmpTile_any (a c : V3) (ha : wf3 a) (hc : wf3 c) (f : V3 → Option Int) (Bt b nn m : Nat) (W : World) (hT : TmAt W b nn f m) (hB : W.cell? ⟨Bt, 0, none⟩ = some (.map (some b))) :
    Calls Try.prog 92 #[tv a, tv c, .pointer (some ⟨Bt, 0, none⟩)] W fun e w' => e = .returned (.int .i64 (cmpZ ((f a).getD 0) ((f c).getD 0))) ∧ ∃ q os', w' = grow (W.drewN q) os' := by
  obtain ⟨x, y, z⟩ := a
  obtain ⟨p, q, r⟩ := c
  have HT := ((Held.nil W).new #[.int .i64 x, .int .i64 y, .int .i64 z] 50).new #[.int .i64 p, .int .i64 q, .int .i64 r] 50
  have hL1 := fun nq : Nat => TmAt.look (((hT.alloc (.cells #[.int .i64 x, .int .i64 y, .int .i64 z] 50)).alloc (.cells #[.int .i64 p, .int .i64 q, .int .i64 r] 50)).drewN nq) (x, y, z) ha
  have hL2 := fun nq : Nat => TmAt.look (((hT.alloc (.cells #[.int .i64 x, .int .i64 y, .int .i64 z] 50)).alloc (.cells #[.int .i64 p, .int .i64 q, .int .i64 r] 50)).drewN nq) (p, q, r) hc
  have hB1 := (HT.below.cell (p := ⟨Bt, 0, none⟩) (World.block_lt_of_cell? W _ hB)).trans hB
  have hE : ∃ os', (W.alloc (.cells #[.int .i64 x, .int .i64 y, .int .i64 z] 50)).alloc (.cells #[.int .i64 p, .int .i64 q, .int .i64 r] 50) = grow W os' := ⟨_, by rw [alloc_eq_grow, alloc_eq_grow, grow_grow]⟩
  obtain ⟨W1, hW1⟩ : ∃ W1, W1 = (W.alloc (.cells #[.int .i64 x, .int .i64 y, .int .i64 z] 50)).alloc (.cells #[.int .i64 p, .int .i64 q, .int .i64 r] 50) := ⟨_, rfl⟩
  simp only [World.size_alloc] at HT
  rw [← hW1] at HT hL1 hL2 hB1 hE
  have m0 := (HT.box 1).c 0
  have m1 := (HT.box 1).c 1
  have m2 := (HT.box 1).c 2
  have n0 := (HT.box 0).c 0
  have n1 := (HT.box 0).c 1
  have n2 := (HT.box 0).c 2
  obtain ⟨u, hu⟩ : ∃ u, u = (f (x, y, z)).getD 0 := ⟨_, rfl⟩
  obtain ⟨v, hv⟩ : ∃ v, v = (f (p, q, r)).getD 0 := ⟨_, rfl⟩
  simp only [← hu] at hL1 ⊢
  simp only [← hv] at hL2 ⊢
  have HC := Lib.hid (fun W' => compareZ_any u v W')
  have HE := Lib.hid hE
  obtain ⟨s, hs⟩ : ∃ s, s = cmpZ u v := ⟨_, rfl⟩
  rw [← hs] at HC ⊢
  clear hT hB hE ha hc hu hv hs HT
  go_enter Try.func92, Try.ntmps92
  go_upto_region 1 with fail
  rw [← hW1]
  clear hW1
  go_quiet ((go_at_call 93; exact Calls.quiet_of_same ((HC.out _).mono fun _ _ h => ⟨h.1, h.2.symm⟩)))
  go_wp2_with fail
  go_ret
  obtain ⟨os', ho⟩ := HE.out
  exact ⟨rfl, _, os', by rw [ho]; rfl⟩

set_option maxHeartbeats 4000000 in
/-- slices.SortFunc of a slice of tiles that a call has made, by what a map holds at them -/
theorem sortTiles_any (base g cap Bt b nn m : Nat) (f : V3 → Option Int) (xs : List V3) (w : World) (hw3 : ∀ e ∈ xs, wf3 e) (hfi : ∀ a ∈ xs, ∀ c ∈ xs, (f a).getD 0 = (f c).getD 0 → a = c) (hT : TmAt w b nn f m) (hB : w.cell? ⟨Bt, 0, none⟩ = some (.map (some b)))
    (ho : w.ownsRow base 50 3 (.slice (some ⟨g, 0, none⟩) xs.length cap) xs.length (xs.flatMap vg)) (h0 : 0 < xs.length) (hmax : xs.length ≤ 1048576) (hbg : b ≠ g) (hBg : Bt ≠ g) :
    Calls Try.prog 97 #[.slice (some ⟨g, 0, none⟩) xs.length cap, .func (.func 92) #[] #[.pointer (some ⟨Bt, 0, none⟩)]] w fun e w' => e = .returned (.tuple #[]) ∧
      ∃ ys : List V3, ys.Perm xs ∧ ys.Pairwise (fun a c => (f a).getD 0 ≤ (f c).getD 0) ∧ w'.ownsRow base 50 3 (.slice (some ⟨g, 0, none⟩) xs.length cap) xs.length (ys.flatMap vg) ∧ w.grownBy w' (some g) := by
  haveI : Inhabited {e // e ∈ xs} := ⟨⟨xs[0], List.getElem_mem h0⟩⟩
  have eg : ∀ args w, (callFunc 92 args).run Try.prog w = .ok (.enter 92 args) w := enters_of Try.func92 (by kernel_rfl) rfl
  have hatt : xs.attach.flatMap (fun x : {e // e ∈ xs} => vg x.1) = xs.flatMap vg := by
    conv => rhs; rw [← List.attach_map_subtype_val xs, List.flatMap_map]
  have hsz : xs.attach.toArray.size = xs.length := by simp
  have hlt := (ho.lt g rfl).2
  have hgr : ∀ (k : Nat) (d : Array {e // e ∈ xs}) (os : Array Obj), w.grownBy (sortWorldK (fun x : {e // e ∈ xs} => vg x.1) 3 w g 0 k d os) (some g) := fun k d os => by
    refine ⟨rfl, rfl, rfl, by simp [sortWorldK, putRowK, Sort.ahead, putRow, mapBlock, grow], fun q hq hne => ?_⟩
    unfold sortWorldK
    rw [heap_grow_old _ _ (by simpa [putRowK, Sort.ahead, putRow, mapBlock] using hq)]
    have : g ≠ q := fun e => hne (by rw [e])
    simp [putRowK, putRow, mapBlock, Sort.ahead, Array.getElem?_modify, this]
  have hcmp : CmpLays Try.prog 92 #[.pointer (some ⟨Bt, 0, none⟩)] (fun x : {e // e ∈ xs} => vg x.1) 3 (fun x y => cmpZ ((f x.1).getD 0) ((f y.1).getD 0)) g 0 xs.attach.toArray.size w := fun k os dk hs x y => by
    have hg := hgr k dk os
    exact cmpTile_any x.1 y.1 (hw3 _ x.2) (hw3 _ y.2) f Bt b nn m _ (hT.kept hg (fun e => hbg (by injection e))) (by
      rw [World.cell?_of_block (a := ⟨Bt, 0, none⟩) (hg.block Bt (World.block_lt_of_cell? w _ hB) (fun e => hBg (by injection e)))]; exact hB)
  have hlf : ∀ x y : {e // e ∈ xs}, ltOf (fun x y : {e // e ∈ xs} => cmpZ ((f x.1).getD 0) ((f y.1).getD 0)) x y = decide ((f x.1).getD 0 < (f y.1).getD 0) := fun x y => by unfold ltOf; rw [cmpZ_lt]
  have hO : SWO (ltOf fun x y : {e // e ∈ xs} => cmpZ ((f x.1).getD 0) ((f y.1).getD 0)) :=
    ⟨fun x => by rw [hlf]; simp, fun x y z h1 h2 => by rw [hlf, decide_eq_true_eq] at *; omega, fun x y z h1 h2 => by rw [hlf, decide_eq_false_iff_not] at *; omega⟩
  have hT' : ∀ x y : {e // e ∈ xs}, ltOf (fun x y : {e // e ∈ xs} => cmpZ ((f x.1).getD 0) ((f y.1).getD 0)) x y = false → ltOf (fun x y : {e // e ∈ xs} => cmpZ ((f x.1).getD 0) ((f y.1).getD 0)) y x = false → x = y := fun x y h1 h2 => by
    rw [hlf, decide_eq_false_iff_not] at *
    exact Subtype.ext (hfi _ x.2 _ y.2 (by omega))
  have hoA : w.ownsRow base 50 3 (.slice (some ⟨g, 0, none⟩) xs.length cap) xs.length (xs.attach.flatMap (fun x : {e // e ∈ xs} => vg x.1)) := by rw [hatt]; exact ho
  have hH := holdsT_of_own (enc := fun x : {e // e ∈ xs} => vg x.1) (fun _ => rfl) hoA (by simp)
  have hS := Try.slices_SortFunc_cells (fun x : {e // e ∈ xs} => vg x.1) (fun _ => rfl) (fun x v hv => by simp only [vg, List.mem_cons, List.not_mem_nil, or_false] at hv; rcases hv with rfl | rfl | rfl <;> rfl) (fun x y => cmpZ ((f x.1).getD 0) ((f y.1).getD 0)) hO 92 #[.pointer (some ⟨Bt, 0, none⟩)] g 0 cap xs.attach.toArray w eg hcmp hH hlt (by rw [hsz]; omega) hT'
  rw [hsz] at hS
  refine hS.mono fun e w' ⟨he, n, os, hw⟩ => ⟨he, ?_⟩
  obtain ⟨zs, hzs⟩ : ∃ zs, zs = xs.attach.toArray.toList.mergeSort fun x y => !(ltOf fun x y : {e // e ∈ xs} => cmpZ ((f x.1).getD 0) ((f y.1).getD 0)) y x := ⟨_, rfl⟩
  rw [← hzs] at hw
  have hperm : zs.Perm xs.attach := by rw [hzs]; simpa using List.mergeSort_perm xs.attach _
  have hpw : zs.Pairwise fun x y => (!(ltOf fun x y : {e // e ∈ xs} => cmpZ ((f x.1).getD 0) ((f y.1).getD 0)) y x) = true := by
    rw [hzs]
    refine List.pairwise_mergeSort (fun a b c h1 h2 => ?_) (fun a b => ?_) _
    · simp only [Bool.not_eq_true'] at *
      exact hO.ntrans _ _ _ h2 h1
    · rw [hlf, hlf]
      by_cases h : (f b.1).getD 0 < (f a.1).getD 0
      · have h' : ¬ (f a.1).getD 0 < (f b.1).getD 0 := by omega
        simp [h']
      · simp [h]
  have hq : (zs.map (·.1)).Perm xs := by
    have := hperm.map (fun x : {e // e ∈ xs} => x.1)
    rwa [List.attach_map_subtype_val] at this
  refine ⟨zs.map (·.1), hq, ?_, ?_, by rw [hw]; exact hgr _ _ _⟩
  · refine List.pairwise_map.2 (hpw.imp fun {a c} h => ?_)
    rw [hlf] at h
    simp only [Bool.not_eq_true', decide_eq_false_iff_not] at h
    omega
  · have h := own_putRowT (q := n) (enc := fun x : {e // e ∈ xs} => vg x.1) (ys := zs) (fun _ => rfl) hoA (by rw [hperm.length_eq]; simp)
    rw [List.flatMap_map, hw]
    refine h.kept (row := none) ⟨rfl, rfl, rfl, by simp [sortWorldK, grow], fun k hk _ => ?_⟩ (.inr (by simp [Value.ownBlock]))
    unfold sortWorldK
    exact heap_grow_old _ _ hk

end Go.Proofs.Ytaelhbbfddcabaa
