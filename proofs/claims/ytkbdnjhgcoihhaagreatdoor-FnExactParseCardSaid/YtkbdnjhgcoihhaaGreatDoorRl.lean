/- The deferred closure of the program's Parse. -/
import Derived.Test.YtkbdnjhgcoihhaaGreatDoorProg
import Derived.Test.YtkbdnjhgcoihhaaGreatDoorInts
import Derived.Test.YtkbdnjhgcoihhaaGreatDoorVbox
import Derived.Test.YtkbdnjhgcoihhaaGreatDoorHeld
import Derived.Test.YtkbdnjhgcoihhaaGreatDoorMem
import Derived.Test.YtkbdnjhgcoihhaaGreatDoorFlat
import Derived.Test.YtkbdnjhgcoihhaaGreatDoorRowC
import Derived.Test.YtkbdnjhgcoihhaaGreatDoorKS
import Derived.Test.YtkbdnjhgcoihhaaGreatDoorStrS
import Derived.Test.YtkbdnjhgcoihhaaGreatDoorIntS
import Derived.Test.YtkbdnjhgcoihhaaGreatDoorSS
import Derived.Test.YtkbdnjhgcoihhaaGreatDoorTok
import Derived.Test.YtkbdnjhgcoihhaaGreatDoorPg
import Derived.Test.YtkbdnjhgcoihhaaGreatDoorPh
import Derived.Test.YtkbdnjhgcoihhaaGreatDoorPk
import Derived.Test.YtkbdnjhgcoihhaaGreatDoorPl
import Derived.Test.YtkbdnjhgcoihhaaGreatDoorPp
import Derived.Test.YtkbdnjhgcoihhaaGreatDoorPq
import Derived.Test.YtkbdnjhgcoihhaaGreatDoorTp
import Derived.Test.YtkbdnjhgcoihhaaGreatDoorShelf
import Derived.Test.YtkbdnjhgcoihhaaGreatDoorRa
import Derived.WalkKit
import Derived.WalkSpells
import Derived.WalkLawsBesides
import Derived.Lib.Hide
import Derived.Deep.RegionHeld3
import Derived.Deep.QuietTactic
import Derived.BigQuiet
import Derived.Handy
import Derived.Deep.DeepCutAuto
import Derived.Defers
import Derived.Recover
namespace Go.Proofs.YtkbdnjhgcoihhaaGreatDoor
open Go.RowKit

set_option maxRecDepth 100000 in
set_option maxHeartbeats 4000000 in
theorem catch_panic (p0 p1 : Nat) (x0 x1 y : Value) (o : Int) (older : List PanicEntry) (w : World) (h0 : Mbox w p0 [x0, x1]) (h1 : Mbox w p1 [y]) (hne : p0 ≠ p1) (hp0 : p0 < w.heap.size) (hp1 : p1 < w.heap.size) :
    CallsD Tryz.prog 14 #[.pointer (some ⟨p0, 0, none⟩), .pointer (some ⟨p1, 0, none⟩)] (.panicking ({ v := .iface 45 (.agg #[.int .i64 o]), recovered := false } :: older)) w fun e u' w' =>
      e = .returned (.tuple #[]) ∧ u' = .panicking ({ v := .iface 45 (.agg #[.int .i64 o]), recovered := true } :: older) ∧ Mbox w' p0 [.slice none 0 0, .slice none 0 0] ∧ Mbox w' p1 [.int .i64 o] ∧ Turn (fun k => k = p0 ∨ k = p1) w w' := by
  refine callsD_of_wpS Tryz.func14 rfl fun c₀ cs hu => ?_
  have hta : ∀ w, (Instr.typeAssert (.iface 45 (.agg #[.int .i64 o])) 20 45 true).run Tryz.prog w = .ok (.tuple #[.agg #[.int .i64 o], .bool true]) w := fun w => by kernel_rfl
  have hz : (Tryz.f14).ntmps = 13 := by kernel_rfl
  rw [hz, show (#[.pointer (some ⟨p0, 0, none⟩), .pointer (some ⟨p1, 0, none⟩)] : Array Value) ++ Array.replicate (13 - (#[.pointer (some ⟨p0, 0, none⟩), .pointer (some ⟨p1, 0, none⟩)] : Array Value).size) undef = #[.pointer (some ⟨p0, 0, none⟩), .pointer (some ⟨p1, 0, none⟩), undef, undef, undef, undef, undef, undef, undef, undef, undef, undef, undef] from rfl]
  apply wpS_seq
  apply wpS_region
  simp [wpOpsS, go_sem, recoverD, hu, hta, Exit.thenS]
  refine wpS_of_wp ?_
  change Code.wp _ _ _ { tmps := #[.pointer (some ⟨p0, 0, none⟩), .pointer (some ⟨p1, 0, none⟩), .pointer (some ⟨w.heap.size, 0, none⟩), .bool true, .tuple #[.agg #[.int .i64 o], .bool true], (.iface 45 (.agg #[.int .i64 o])), .tuple #[.agg #[.int .i64 o], .bool true], .agg #[.int .i64 o], .bool true, undef, undef, undef, undef], defers := [] } _
  have hb : Below w.heap.size w (w.alloc (.cells #[.int .i64 o] 45)) := by go_grown
  have M0 := h0.later hb
  have M1 := h1.later hb
  have MS := Mbox.new w #[.int .i64 o] 45
  have hT : Turn (fun k => k = p0 ∨ k = p1) w (w.alloc (.cells #[.int .i64 o] 45)) := Turn.of_later hb
  obtain ⟨W1, hW1⟩ : ∃ W, W = w.alloc (.cells #[.int .i64 o] 45) := ⟨_, rfl⟩
  obtain ⟨X, hX⟩ : ∃ X, X = w.heap.size := ⟨_, rfl⟩
  have hX0 : p0 ≠ X := by omega
  have hX1 : p1 ≠ X := by omega
  rw [← hW1] at M0 M1 MS hT ⊢
  rw [← hX] at MS ⊢
  have HT := Lib.hid hT
  have HM0 := Lib.hid M0
  have HM1 := Lib.hid M1
  clear hW1 hX hb h0 h1 hT
  have a0 := M0.c 0
  have a1 := M0.c 1
  have f0 := M0.f 0
  have f1 := M0.f 1
  have b0 := M1.c 0
  have g0 := M1.f 0
  have s0 := MS.c 0
  go_upto_region 2 with fail
  go_region
  all_goals (first | exact ⟨rfl, _, rfl, _, by simp [results, Tryz.results14], rfl, rfl, (((HM0.out.put 0 (.slice none 0 0)).put 1 (.slice none 0 0)).far hne (.int .i64 o)), ((HM1.out.far hne.symm (.slice none 0 0)).far hne.symm (.slice none 0 0)).put 0 (.int .i64 o), (((HT.out.setCell (g := p0) (i := 0) (.inl rfl) (.slice none 0 0)).setCell (g := p0) (i := 1) (.inl rfl) (.slice none 0 0)).setCell (g := p1) (i := 0) (.inr rfl) (.int .i64 o))⟩ | exact ⟨rfl, _, rfl, _, by simp [results, Tryz.results14], rfl, rfl, (((HM0.out.drew.put 0 (.slice none 0 0)).put 1 (.slice none 0 0)).far hne (.int .i64 o)), ((HM1.out.drew.far hne.symm (.slice none 0 0)).far hne.symm (.slice none 0 0)).put 0 (.int .i64 o), (((HT.out.trans (Turn.of_later (Below.refl _ _).drew).setCell (g := p0) (i := 0) (.inl rfl) (.slice none 0 0)).setCell (g := p0) (i := 1) (.inl rfl) (.slice none 0 0)).setCell (g := p1) (i := 0) (.inr rfl) (.int .i64 o))⟩)

set_option maxRecDepth 100000 in
set_option maxHeartbeats 4000000 in
theorem catch_idle (p0 p1 : Nat) (w : World) :
    CallsD Tryz.prog 14 #[.pointer (some ⟨p0, 0, none⟩), .pointer (some ⟨p1, 0, none⟩)] .returning w fun e u' w' =>
      e = .returned (.tuple #[]) ∧ u' = .returning ∧ Below w.heap.size w w' := by
  refine callsD_of_wpS Tryz.func14 rfl fun c₀ cs hu => ?_
  have hta : ∀ w, (Instr.typeAssert .nilIface 20 45 true).run Tryz.prog w = .ok (.tuple #[.agg #[.int .i64 0], .bool false]) w := fun w => by kernel_rfl
  have hz : (Tryz.f14).ntmps = 13 := by kernel_rfl
  rw [hz, show (#[.pointer (some ⟨p0, 0, none⟩), .pointer (some ⟨p1, 0, none⟩)] : Array Value) ++ Array.replicate (13 - (#[.pointer (some ⟨p0, 0, none⟩), .pointer (some ⟨p1, 0, none⟩)] : Array Value).size) undef = #[.pointer (some ⟨p0, 0, none⟩), .pointer (some ⟨p1, 0, none⟩), undef, undef, undef, undef, undef, undef, undef, undef, undef, undef, undef] from rfl]
  apply wpS_seq
  apply wpS_region
  simp [wpOpsS, go_sem, recoverD, hu, hta, Exit.thenS]
  refine wpS_of_wp ?_
  change Code.wp _ _ _ { tmps := #[.pointer (some ⟨p0, 0, none⟩), .pointer (some ⟨p1, 0, none⟩), .pointer (some ⟨w.heap.size, 0, none⟩), .bool false, .tuple #[.agg #[.int .i64 0], .bool false], .nilIface, .tuple #[.agg #[.int .i64 0], .bool false], .agg #[.int .i64 0], .bool false, undef, undef, undef, undef], defers := [] } _
  obtain ⟨W1, hW1⟩ : ∃ W, W = w.alloc (.cells #[.int .i64 0] 45) := ⟨_, rfl⟩
  have hb : Below w.heap.size w W1 := by rw [hW1]; go_grown
  rw [← hW1]
  clear hW1
  go_wp2_with fail
  cases c₀
  simp at hu
  subst hu
  exact ⟨rfl, _, rfl, _, by simp [results, Tryz.results14], rfl, rfl, hb⟩
end Go.Proofs.YtkbdnjhgcoihhaaGreatDoor
