/- The model's parser: a node is appended. -/
import Derived.Test.YtkbdnjhgcoihhaaGreatDoorProg
import Derived.Test.YtkbdnjhgcoihhaaGreatDoorInts
import Derived.Test.YtkbdnjhgcoihhaaGreatDoorVbox
import Derived.Test.YtkbdnjhgcoihhaaGreatDoorHeld
import Derived.Test.YtkbdnjhgcoihhaaGreatDoorMem
import Derived.Test.YtkbdnjhgcoihhaaGreatDoorFlat
import Derived.Test.YtkbdnjhgcoihhaaGreatDoorRowC
import Derived.Test.YtkbdnjhgcoihhaaGreatDoorKS
import Derived.Test.YtkbdnjhgcoihhaaGreatDoorStrS
import Derived.Test.YtkbdnjhgcoihhaaGreatDoorIntS
import Derived.Test.YtkbdnjhgcoihhaaGreatDoorSS
import Derived.Test.YtkbdnjhgcoihhaaGreatDoorTok
import Derived.Test.YtkbdnjhgcoihhaaGreatDoorPg
import Derived.Test.YtkbdnjhgcoihhaaGreatDoorPh
import Derived.Test.YtkbdnjhgcoihhaaGreatDoorPi
import Derived.Test.YtkbdnjhgcoihhaaGreatDoorPk
import Derived.Test.YtkbdnjhgcoihhaaGreatDoorPl
import Derived.Test.YtkbdnjhgcoihhaaGreatDoorPp
import Derived.Test.YtkbdnjhgcoihhaaGreatDoorPq
import Derived.WalkKit
import Derived.WalkSpells
import Derived.WalkLawsBesides
import Derived.Lib.Hide
import Derived.Deep.RegionHeld3
import Derived.Deep.QuietTactic
import Derived.BigQuiet
import Derived.Handy
import Derived.Deep.DeepCutAuto
import Derived.Deep.AppendLies
import Derived.Deep.RegionLaw
namespace Go.Proofs.YtkbdnjhgcoihhaaGreatDoor
open Go.RowKit

theorem turn_app {S n c : Nat} {NA : Option Addr} {w w' : World} (h : w.grownBy w' (Value.slice NA n c).ownBlock) : Turn (fun k => k = S ∨ blk NA = some k) w w' :=
  ⟨h.os, h.tape, h.output, h.size, fun k hk hn => h.block k hk (fun e => hn (.inr (blk_of e.symm)))⟩

set_option maxHeartbeats 4000000 in
theorem sEmit_ok (S base c a nc : Nat) (A NA : Option Addr) (ts : List Tk) (ps : List PN) (x3 : Value) (q : PN) (w : World) (hM : Mbox w S [.slice A ts.length c, .int .i64 a, .slice NA ps.length nc, x3, .int .i64 (-1)]) (hS : base ≤ w.heap.size ∧ S < w.heap.size) (ho : w.ownsRow base 71 4 (.slice NA ps.length nc) ps.length (ps.flatMap ng)) (hap : blk NA ≠ some S) (hn : ps.length ≤ 60) (hn2 : ps.length ≠ 60) :
    Calls Tryz.prog 42 #[.pointer (some ⟨S, 0, none⟩), .agg #[.int .i64 q.2.1, .string q.2.2.1, .int .i64 q.2.2.2.1, .slice q.1.1 q.2.2.2.2.length q.1.2]] w fun e w' => e = .returned (.int .i64 (ps.length : Nat)) ∧ ∃ (NA' : Option Addr) (nc' : Nat), Turn (fun k => k = S ∨ blk NA = some k) w w' ∧ Mbox w' S [.slice A ts.length c, .int .i64 a, .slice NA' (ps.length + 1 : Nat) nc', x3, .int .i64 (-1)] ∧ w'.ownsRow base 71 4 (.slice NA' (ps.length + 1) nc') (ps.length + 1) ((ps ++ [q]).flatMap ng) ∧ (blk NA' = blk NA ∨ ∃ k, blk NA' = some k ∧ w.heap.size ≤ k) := by
  obtain ⟨i9, hi9, hz90, hz91, hz92⟩ := info_parts infoNode
  have hne : ((ps.length : Int) == 60) = false := by simp; omega
  obtain ⟨W1, hW1⟩ : ∃ W, W = w.alloc (.cells #[.int .i64 q.2.1, .string q.2.2.1, .int .i64 q.2.2.2.1, .slice q.1.1 q.2.2.2.2.length q.1.2] 71) := ⟨_, rfl⟩
  have hB : Mbox W1 w.heap.size [.int .i64 q.2.1, .string q.2.2.1, .int .i64 q.2.2.2.1, .slice q.1.1 q.2.2.2.2.length q.1.2] := by rw [hW1]; exact Mbox.new w #[.int .i64 q.2.1, .string q.2.2.1, .int .i64 q.2.2.2.1, .slice q.1.1 q.2.2.2.2.length q.1.2] 71
  have hM1 : Mbox W1 S [.slice A ts.length c, .int .i64 a, .slice NA ps.length nc, x3, .int .i64 (-1)] := by rw [hW1]; exact hM.alloc _
  have hO1 : W1.ownsRow base 71 4 (.slice NA ps.length nc) ps.length (ps.flatMap ng) := by rw [hW1]; exact ho.alloc _
  have hsz : W1.heap.size = w.heap.size + 1 := by rw [hW1]; simp
  have hT : Turn (fun k => k = S ∨ blk NA = some k) w W1 := by rw [hW1]; exact Turn.of_later (by go_grown)
  have HT := Lib.hid hT
  have HSZ := Lib.hid hsz
  clear hM ho hT hsz
  go_enter Tryz.func42, Tryz.ntmps42
  go_upto_region 1 with fail
  rw [← hW1]
  clear hW1
  have k2 := hM1.c 2
  go_wp2_with fail
  go_upto_region 4 with fail
  have k2' := hM1.drew.c 2
  have k2o : ∀ o, (W1.alloc o).cell? ⟨S, 2, none⟩ = some (.slice NA ps.length nc) := fun o => (hM1.alloc o).c 2
  have b0 := hB.c 0
  have b1 := hB.c 1
  have b2 := hB.c 2
  have b3 := hB.c 3
  have b0' := hB.drew.c 0
  have b1' := hB.drew.c 1
  have b2' := hB.drew.c 2
  have b3' := hB.drew.c 3
  go_region_law (refine step_append_lies _ (by rfl) _ _ _ (by rfl) base 71 i9 _ 4 56 Tryz.underlying22 hi9 hz90 hz91 hz92 rfl (by omega) (.slice NA ps.length nc) ps.length _ (by rfl) (by first | with_reducible exact hO1.alloc _ | with_reducible exact (hO1.alloc _).drew) ⟨_, 0, none⟩ 1 1 [_, _, _, _] (by rfl) (by rfl) (World.news_of_block (cs := #[_, _, _, _]) (t := 71) (fr := (0, 0)) (heap_alloc_new _ _)) (by simp [Value.oneCell']) (by omega) (by unfold maxLen; omega) (by omega) (by have h1 := HSZ.out; simp; omega) _ rfl ?_; intro gg cap w5 hown5 hgrow hat hlt5; have hM5 : Mbox w5 S [.slice A ts.length c, .int .i64 a, .slice NA ps.length nc, x3, .int .i64 (-1)] := (hM1.alloc _).keep (fun hl => hgrow.block _ hl (fun c => hap (blk_of c.symm))); have k5 := hM5.c 2; have f5 := hM5.f 2)
  all_goals
    have hgS : gg ≠ S := by
      rcases hat with h | h
      · intro e
        exact hap (by rw [← e]; exact blk_of h)
      · intro e
        have h1 := HSZ.out
        simp at h
        omega
    have hnew : blk (some (⟨gg, 0, none⟩ : Addr)) = blk NA ∨ ∃ k, blk (some (⟨gg, 0, none⟩ : Addr)) = some k ∧ w.heap.size ≤ k := by
      rcases hat with h | h
      · exact .inl (blk_of h).symm
      · refine .inr ⟨gg, rfl, ?_⟩
        have h1 := HSZ.out
        simp at h
        omega
    have hT5 : Turn (fun k => k = S ∨ blk NA = some k) W1 w5 := Turn.trans (Turn.of_later (by go_grown)) (turn_app hgrow)
    have HF := Lib.hid ((HT.out.trans hT5).setCell (g := S) (i := 2) (.inl rfl) (.slice (some ⟨gg, 0, none⟩) (ps.length + 1) cap))
    have HM6 := Lib.hid (hM5.put 2 (.slice (some ⟨gg, 0, none⟩) (ps.length + 1) cap))
    have HO6 := Lib.hid (own_far1 hown5 (b := S) (i := 2) (by simp [Value.ownBlock]; exact hgS) (.slice (some ⟨gg, 0, none⟩) (ps.length + 1) cap))
    have HNW := Lib.hid hnew
    clear hgS hnew hT5 hown5 hgrow hat hlt5 hM5 k2 k2' k2o b0 b1 b2 b3 b0' b1' b2' b3' hB hM1 hO1 HT
    go_wp2_with fail
    go_ret
    exact ⟨retIP (by omega), some ⟨gg, 0, none⟩, cap, HF.out, HM6.out, by rw [List.flatMap_append]; simpa [ng] using HO6.out, HNW.out⟩

set_option maxHeartbeats 4000000 in
theorem sEmit_bad (S c a n nc : Nat) (A NA : Option Addr) (ts : List Tk) (x3 : Value) (q : PN) (w : World) (hM : Mbox w S [.slice A ts.length c, .int .i64 ((a + 1 : Nat) : Int), .slice NA n nc, x3, .int .i64 (-1)]) (hS : S < w.heap.size) (hR : RowC 4 tkg w S A ts) (ha : a < ts.length) (hl : ts.length ≤ 1099511627776) (hn : n = 60) :
    Calls Tryz.prog 42 #[.pointer (some ⟨S, 0, none⟩), .agg #[.int .i64 q.2.1, .string q.2.2.1, .int .i64 q.2.2.2.1, .slice q.1.1 q.2.2.2.2.length q.1.2]] w fun e w' => e = .returned (.int .i64 0) ∧ Turn (fun k => k = S) w w' ∧ Mbox w' S [.slice A ts.length c, .int .i64 a, .slice NA n nc, x3, .int .i64 (offA ts a)] := by
  subst hn
  obtain ⟨W1, hW1⟩ : ∃ W, W = w.alloc (.cells #[.int .i64 q.2.1, .string q.2.2.1, .int .i64 q.2.2.2.1, .slice q.1.1 q.2.2.2.2.length q.1.2] 71) := ⟨_, rfl⟩
  have hM1 : Mbox W1 S [.slice A ts.length c, .int .i64 ((a + 1 : Nat) : Int), .slice NA 60 nc, x3, .int .i64 (-1)] := by rw [hW1]; exact hM.alloc _
  have hR1 : RowC 4 tkg W1 S A ts := by rw [hW1]; exact hR.below (show Below S w _ by exact (Below.refl _ _).alloc (Nat.le_of_lt hS) _)
  have hT : Turn (fun k => k = S) w W1 := by rw [hW1]; exact Turn.of_later (by go_grown)
  have HT := Lib.hid hT
  have e1 : ((a + 1 : Nat) : Int) = (a : Int) + 1 := by omega
  rw [e1] at hM1
  have ha1 : (a : Int) + 1 ≤ 1099511627776 := by omega
  have ha0 : (0 : Int) ≤ (a : Int) := by omega
  clear hM hR hT e1
  go_enter Tryz.func42, Tryz.ntmps42
  go_upto_region 1 with fail
  rw [← hW1]
  clear hW1
  have k1 := hM1.c 1
  have k2 := hM1.c 2
  have f1 := hM1.f 1
  have hm2 := hM1.put 1 (.int .i64 a)
  have hr2 : RowC 4 tkg (W1.setCell ⟨S, 1, none⟩ (.int .i64 a)) S A ts := hR1.below ((Below.refl _ _).setCell (p := ⟨S, 1, none⟩) (Nat.le_refl _) _)
  have HF := Lib.hid (sFail_any S c a A ts (.slice NA 60 nc) x3 _ hm2 hr2 ha)
  have HT2 := Lib.hid (HT.out.setCell (g := S) (i := 1) rfl (.int .i64 a))
  clear hM1 hR1 hm2 hr2
  go_wp2_with fail
  refine HF.out.mono ?_
  rintro e w3 ⟨rfl, ht3, hm3⟩
  have HT3 := Lib.hid (HT2.out.trans ht3)
  have HM3 := Lib.hid hm3
  clear ht3 hm3 k1 k2 f1
  go_wp2_with fail
  go_ret
  exact ⟨rfl, HT3.out, HM3.out⟩
end Go.Proofs.YtkbdnjhgcoihhaaGreatDoor
