/- Expressions of the program. -/
import Derived.Test.YtpcdlehicdepaaaProg
import Derived.Test.YtpcdlehicdepaaaInts
import Derived.Test.YtpcdlehicdepaaaVbox
import Derived.Test.YtpcdlehicdepaaaHeld
import Derived.Test.YtpcdlehicdepaaaMem
import Derived.Test.YtpcdlehicdepaaaFlat
import Derived.Test.YtpcdlehicdepaaaRowC
import Derived.Test.YtpcdlehicdepaaaKS
import Derived.Test.YtpcdlehicdepaaaStrS
import Derived.Test.YtpcdlehicdepaaaIntS
import Derived.Test.YtpcdlehicdepaaaSS
import Derived.Test.YtpcdlehicdepaaaPg
import Derived.Test.YtpcdlehicdepaaaPh
import Derived.Test.YtpcdlehicdepaaaPi
import Derived.Test.YtpcdlehicdepaaaIdent
import Derived.Test.YtpcdlehicdepaaaPn
import Derived.Test.YtpcdlehicdepaaaQa
import Derived.Test.YtpcdlehicdepaaaQb
import Derived.Test.YtpcdlehicdepaaaQd
import Derived.Test.YtpcdlehicdepaaaQe
import Derived.Test.YtpcdlehicdepaaaSa
import Derived.Test.YtpcdlehicdepaaaSb
import Derived.Test.YtpcdlehicdepaaaSc
import Derived.Test.YtpcdlehicdepaaaSh
import Derived.WalkKit
import Derived.WalkSpells
import Derived.WalkLawsBesides
import Derived.Lib.Hide
import Derived.Deep.RegionHeld3
import Derived.Deep.QuietTactic
import Derived.BigQuiet
import Derived.Handy
import Derived.Deep.DeepCutAuto
import Derived.OwnWalk
import Derived.Shelf.Abstract
namespace Go.Proofs.Ytpcdlehicdepaaa
open Go.RowKit Go.Shelf

/-- a node as an expression -/
def exV (v0 : Int) (v1 : ByteArray) (s : Value) : Value :=
  if v0 = 1 then .iface 93 (.agg #[]) else if v0 = 2 then .iface 95 (.agg #[.string v1]) else if v0 = 8 then .iface 99 (.agg #[s, .string v1]) else .iface 97 (.agg #[s])

set_option maxRecDepth 100000 in
set_option maxHeartbeats 4000000 in
theorem expr_any (v0 : Int) (v1 : ByteArray) (v2 : Int) (a : Option Addr) (n c : Nat) (w : World) :
    Calls Try.prog 62 #[.agg #[.int .i64 v0, .string v1, .int .i64 v2, .slice a n c]] w fun e w' => e = .returned (exV v0 v1 (.slice a n c)) ∧ Below w.heap.size w w' := by
  by_cases h1 : v0 = 1
  · subst h1
    have HE : Hid (exV 1 v1 (.slice a n c) = .iface 93 (.agg #[])) := Lib.hid (by simp [exV, *])
    have M := Mbox.new w #[.int .i64 1, .string v1, .int .i64 v2, .slice a n c] 56
    obtain ⟨W1, hW1⟩ : ∃ W, W = w.alloc (.cells #[.int .i64 1, .string v1, .int .i64 v2, .slice a n c] 56) := ⟨_, rfl⟩
    have hb : Below w.heap.size w (w.alloc (.cells #[.int .i64 1, .string v1, .int .i64 v2, .slice a n c] 56)) := by go_grown
    rw [← hW1] at M hb
    have HB := Lib.hid hb
    have m0 := M.c 0
    have m1 := M.c 1
    have m3 := M.c 3
    clear hb M
    go_enter Try.func62, Try.ntmps62
    go_upto_region 1 with fail
    rw [← hW1]
    clear hW1
    go_wp2_with fail
    go_ret
    exact ⟨by rw [HE.out]; rfl, HB.out⟩
  by_cases h2 : v0 = 2
  · subst h2
    have HE : Hid (exV 2 v1 (.slice a n c) = .iface 95 (.agg #[.string v1])) := Lib.hid (by simp [exV, *])
    have M := Mbox.new w #[.int .i64 2, .string v1, .int .i64 v2, .slice a n c] 56
    obtain ⟨W1, hW1⟩ : ∃ W, W = w.alloc (.cells #[.int .i64 2, .string v1, .int .i64 v2, .slice a n c] 56) := ⟨_, rfl⟩
    have hb : Below w.heap.size w (w.alloc (.cells #[.int .i64 2, .string v1, .int .i64 v2, .slice a n c] 56)) := by go_grown
    rw [← hW1] at M hb
    have HB := Lib.hid hb
    have m0 := M.c 0
    have m1 := M.c 1
    have m3 := M.c 3
    clear hb M
    go_enter Try.func62, Try.ntmps62
    go_upto_region 1 with fail
    rw [← hW1]
    clear hW1
    go_wp2_with fail
    go_ret
    exact ⟨by rw [HE.out]; rfl, HB.out⟩
  by_cases h8 : v0 = 8
  · subst h8
    have HE : Hid (exV 8 v1 (.slice a n c) = .iface 99 (.agg #[.slice a n c, .string v1])) := Lib.hid (by simp [exV, *])
    have M := Mbox.new w #[.int .i64 8, .string v1, .int .i64 v2, .slice a n c] 56
    obtain ⟨W1, hW1⟩ : ∃ W, W = w.alloc (.cells #[.int .i64 8, .string v1, .int .i64 v2, .slice a n c] 56) := ⟨_, rfl⟩
    have hb : Below w.heap.size w (w.alloc (.cells #[.int .i64 8, .string v1, .int .i64 v2, .slice a n c] 56)) := by go_grown
    rw [← hW1] at M hb
    have HB := Lib.hid hb
    have m0 := M.c 0
    have m1 := M.c 1
    have m3 := M.c 3
    clear hb M
    go_enter Try.func62, Try.ntmps62
    go_upto_region 1 with fail
    rw [← hW1]
    clear hW1
    go_wp2_with fail
    go_ret
    exact ⟨by rw [HE.out]; rfl, HB.out⟩
  · skip
    have HE : Hid (exV v0 v1 (.slice a n c) = .iface 97 (.agg #[.slice a n c])) := Lib.hid (by simp [exV, *])
    have q1 : (v0 == 1) = false := by simp [h1]
    have q2 : (v0 == 2) = false := by simp [h2]
    have q8 : (v0 == 8) = false := by simp [h8]
    clear h1 h2 h8
    have M := Mbox.new w #[.int .i64 v0, .string v1, .int .i64 v2, .slice a n c] 56
    obtain ⟨W1, hW1⟩ : ∃ W, W = w.alloc (.cells #[.int .i64 v0, .string v1, .int .i64 v2, .slice a n c] 56) := ⟨_, rfl⟩
    have hb : Below w.heap.size w (w.alloc (.cells #[.int .i64 v0, .string v1, .int .i64 v2, .slice a n c] 56)) := by go_grown
    rw [← hW1] at M hb
    have HB := Lib.hid hb
    have m0 := M.c 0
    have m1 := M.c 1
    have m3 := M.c 3
    clear hb M
    go_enter Try.func62, Try.ntmps62
    go_upto_region 1 with fail
    rw [← hW1]
    clear hW1
    go_wp2_with fail
    go_ret
    exact ⟨by rw [HE.out]; rfl, HB.out⟩

set_option maxRecDepth 100000 in
set_option maxHeartbeats 4000000 in
theorem cops_any (w : World) :
    Calls Try.prog 110 #[.agg #[]] w fun e w' => e = .returned (.slice none 0 0) ∧ Below w.heap.size w w' := by
  have M := Mbox.new w #[] 93
  obtain ⟨W1, hW1⟩ : ∃ W, W = w.alloc (.cells #[] 93) := ⟨_, rfl⟩
  have hb : Below w.heap.size w (w.alloc (.cells #[] 93)) := by go_grown
  rw [← hW1] at M hb
  have HB := Lib.hid hb
  skip
  clear hb M
  go_enter Try.func110, Try.ntmps110
  go_upto_region 1 with fail
  rw [← hW1]
  clear hW1
  go_wp2_with fail
  go_ret
  exact ⟨rfl, HB.out⟩


set_option maxRecDepth 100000 in
set_option maxHeartbeats 4000000 in
theorem vops_any (s : ByteArray) (w : World) :
    Calls Try.prog 111 #[.agg #[.string s]] w fun e w' => e = .returned (.slice none 0 0) ∧ Below w.heap.size w w' := by
  have M := Mbox.new w #[.string s] 95
  obtain ⟨W1, hW1⟩ : ∃ W, W = w.alloc (.cells #[.string s] 95) := ⟨_, rfl⟩
  have hb : Below w.heap.size w (w.alloc (.cells #[.string s] 95)) := by go_grown
  rw [← hW1] at M hb
  have HB := Lib.hid hb
  skip
  clear hb M
  go_enter Try.func111, Try.ntmps111
  go_upto_region 1 with fail
  rw [← hW1]
  clear hW1
  go_wp2_with fail
  go_ret
  exact ⟨rfl, HB.out⟩


set_option maxRecDepth 100000 in
set_option maxHeartbeats 4000000 in
theorem oops_any (a : Option Addr) (n c : Nat) (w : World) :
    Calls Try.prog 112 #[.agg #[.slice a n c]] w fun e w' => e = .returned (.slice a n c) ∧ Below w.heap.size w w' := by
  have M := Mbox.new w #[.slice a n c] 97
  obtain ⟨W1, hW1⟩ : ∃ W, W = w.alloc (.cells #[.slice a n c] 97) := ⟨_, rfl⟩
  have hb : Below w.heap.size w (w.alloc (.cells #[.slice a n c] 97)) := by go_grown
  rw [← hW1] at M hb
  have HB := Lib.hid hb
  have m0 := M.c 0
  clear hb M
  go_enter Try.func112, Try.ntmps112
  go_upto_region 1 with fail
  rw [← hW1]
  clear hW1
  go_wp2_with fail
  go_ret
  exact ⟨rfl, HB.out⟩


/-- what the operands of a node are -/
def opV (v0 : Int) (s : Value) : Value := if v0 = 1 ∨ v0 = 2 then .slice none 0 0 else s
theorem ops_of (v0 : Int) (v1 : ByteArray) (a : Option Addr) (n c : Nat) : ∃ (T : TypeId) (V rv : Value) (f : FuncId), exV v0 v1 (.slice a n c) = .iface T V ∧
    (∀ w, (method 240 T V "loop.example/g00809/impl.operands").run Try.prog w = .ok (f, rv) w) ∧ (∀ args w, (callFunc f args).run Try.prog w = .ok (.enter f args) w) ∧
    ∀ w, Calls Try.prog f #[rv] w fun e w' => e = .returned (opV v0 (.slice a n c)) ∧ Below w.heap.size w w' := by
  by_cases h1 : v0 = 1
  · refine ⟨93, .agg #[], .agg #[], 110, by simp [exV, h1], fun w => by kernel_rfl, enters_of Try.func110 (by kernel_rfl) rfl, fun w => ?_⟩
    have e : opV v0 (.slice a n c) = .slice none 0 0 := by simp [opV, h1]
    rw [e]
    exact cops_any w
  by_cases h2 : v0 = 2
  · refine ⟨95, .agg #[.string v1], .agg #[.string v1], 111, by simp [exV, h2], fun w => by kernel_rfl, enters_of Try.func111 (by kernel_rfl) rfl, fun w => ?_⟩
    have e : opV v0 (.slice a n c) = .slice none 0 0 := by simp [opV, h2]
    rw [e]
    exact vops_any v1 w
  have e : opV v0 (.slice a n c) = .slice a n c := by simp [opV, h1, h2]
  by_cases h8 : v0 = 8
  · refine ⟨99, .agg #[.slice a n c, .string v1], .agg #[.slice a n c], 112, by simp [exV, h8], fun w => by kernel_rfl, enters_of Try.func112 (by kernel_rfl) rfl, fun w => ?_⟩
    rw [e]
    exact oops_any a n c w
  · refine ⟨97, .agg #[.slice a n c], .agg #[.slice a n c], 112, by simp [exV, h1, h2, h8], fun w => by kernel_rfl, enters_of Try.func112 (by kernel_rfl) rfl, fun w => ?_⟩
    rw [e]
    exact oops_any a n c w
/-- the operands of a node of a valid program, in memory -/
theorem opV_row {xs : List Nd} {ys : List As} (h : okPr xs ys) {j : Nat} (hj : j < xs.length) {w : World} {B : Nat} {a : Option Addr} {c : Nat} (hr : Row I64 w B a (xs[j]).2.2.2) :
    ∃ a' c', opV (xs[j]).1 (.slice a (xs[j]).2.2.2.length c) = .slice a' (xs[j]).2.2.2.length c' ∧ Row I64 w B a' (xs[j]).2.2.2 := by
  by_cases h12 : (xs[j]).1 = 1 ∨ (xs[j]).1 = 2
  · have h0 : (xs[j]).2.2.2.length = 0 := by
      have := (h.2.1 j hj).1
      unfold shapeN at this
      omega
    exact ⟨none, 0, by rw [h0]; simp [opV, h12], fun hn => by omega⟩
  · exact ⟨a, c, by simp [opV, h12], hr⟩
end Go.Proofs.Ytpcdlehicdepaaa
