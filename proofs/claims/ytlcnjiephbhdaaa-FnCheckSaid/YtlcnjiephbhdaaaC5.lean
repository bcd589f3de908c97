/- Merged texts: Sh Si Sj Sk Sl Sm Sn. -/
import Derived.Test.YtlcnjiephbhdaaaProg
import Derived.Test.YtlcnjiephbhdaaaC0
import Derived.Test.YtlcnjiephbhdaaaC1
import Derived.Test.YtlcnjiephbhdaaaC2
import Derived.Test.YtlcnjiephbhdaaaC3
import Derived.WalkKit
import Derived.WalkSpells
import Derived.WalkLawsBesides
import Derived.Lib.Hide
import Derived.Deep.RegionHeld3
import Derived.Deep.QuietTactic
import Derived.BigQuiet
import Derived.Handy
import Derived.Deep.DeepCutAuto
import Derived.OwnWalk
import Derived.Shelf.Abstract
import Derived.RangeFuncNested
import Derived.RangeFuncBound
import Derived.RangeFuncCalls
import Derived.RangeFuncLeaves
import Derived.RangeFuncWrites
import Derived.OwnWalkIn
import Derived.TacticsInMore
import Derived.LoopNIn
import Derived.LoopIn
import Derived.RangeFuncBox
import Derived.Maps.AppendAt
namespace Go.Proofs.Ytlcnjiephbhdaaa
section
open Go.RowKit

set_option maxRecDepth 100000 in
set_option maxHeartbeats 4000000 in
theorem var_any (s : ByteArray) (w : World) :
    Calls Try.prog 32 #[.string s] w fun e w' => e = .returned (.bool (varB s)) ∧ w' = w := by
  by_cases h0 : s = ⟨#[117]⟩
  · subst h0
    go_enter Try.func32, Try.ntmps32
    go_wp2
    go_ret
    exact ⟨by rfl, rfl⟩
  by_cases h1 : s = ⟨#[118]⟩
  · subst h1
    go_enter Try.func32, Try.ntmps32
    go_wp2
    go_ret
    exact ⟨by rfl, rfl⟩
  by_cases h2 : s = ⟨#[120]⟩
  · subst h2
    go_enter Try.func32, Try.ntmps32
    go_wp2
    go_ret
    exact ⟨by rfl, rfl⟩
  by_cases h3 : s = ⟨#[121]⟩
  · subst h3
    go_enter Try.func32, Try.ntmps32
    go_wp2
    go_ret
    exact ⟨by rfl, rfl⟩
  by_cases h4 : s = ⟨#[122]⟩
  · subst h4
    go_enter Try.func32, Try.ntmps32
    go_wp2
    go_ret
    exact ⟨by rfl, rfl⟩
  by_cases h5 : s = ⟨#[116]⟩
  · subst h5
    go_enter Try.func32, Try.ntmps32
    go_wp2
    go_ret
    exact ⟨by rfl, rfl⟩
  have HN : Hid (varB s = false) := Lib.hid (by
    unfold varB inL varsL
    simp [Ne.symm h0, Ne.symm h1, Ne.symm h2, Ne.symm h3, Ne.symm h4, Ne.symm h5])
  have q0 : (s.toList == [117]) = false := str_nots h0
  have q1 : (s.toList == [118]) = false := str_nots h1
  have q2 : (s.toList == [120]) = false := str_nots h2
  have q3 : (s.toList == [121]) = false := str_nots h3
  have q4 : (s.toList == [122]) = false := str_nots h4
  have q5 : (s.toList == [116]) = false := str_nots h5
  clear h0 h1 h2 h3 h4 h5
  go_enter Try.func32, Try.ntmps32
  go_wp2
  go_ret
  exact ⟨by rw [HN.out]; rfl, rfl⟩

set_option maxRecDepth 100000 in
set_option maxHeartbeats 4000000 in
theorem arity_any (s : ByteArray) (w : World) :
    Calls Try.prog 31 #[.string s] w fun e w' => e = .returned (.int .i64 (arN s)) ∧ w' = w := by
  by_cases h0 : s = ⟨#[97, 98, 115]⟩
  · subst h0
    go_enter Try.func31, Try.ntmps31
    go_wp2
    go_ret
    exact ⟨by rfl, rfl⟩
  by_cases h1 : s = ⟨#[102, 108, 111, 111, 114]⟩
  · subst h1
    go_enter Try.func31, Try.ntmps31
    go_wp2
    go_ret
    exact ⟨by rfl, rfl⟩
  by_cases h2 : s = ⟨#[100, 117]⟩
  · subst h2
    go_enter Try.func31, Try.ntmps31
    go_wp2
    go_ret
    exact ⟨by rfl, rfl⟩
  by_cases h3 : s = ⟨#[100, 118]⟩
  · subst h3
    go_enter Try.func31, Try.ntmps31
    go_wp2
    go_ret
    exact ⟨by rfl, rfl⟩
  by_cases h4 : s = ⟨#[109, 105, 110]⟩
  · subst h4
    go_enter Try.func31, Try.ntmps31
    go_wp2
    go_ret
    exact ⟨by rfl, rfl⟩
  by_cases h5 : s = ⟨#[109, 97, 120]⟩
  · subst h5
    go_enter Try.func31, Try.ntmps31
    go_wp2
    go_ret
    exact ⟨by rfl, rfl⟩
  by_cases h6 : s = ⟨#[115, 116, 101, 112]⟩
  · subst h6
    go_enter Try.func31, Try.ntmps31
    go_wp2
    go_ret
    exact ⟨by rfl, rfl⟩
  by_cases h7 : s = ⟨#[110, 111, 105, 115, 101]⟩
  · subst h7
    go_enter Try.func31, Try.ntmps31
    go_wp2
    go_ret
    exact ⟨by rfl, rfl⟩
  by_cases h8 : s = ⟨#[116, 101, 120]⟩
  · subst h8
    go_enter Try.func31, Try.ntmps31
    go_wp2
    go_ret
    exact ⟨by rfl, rfl⟩
  by_cases h9 : s = ⟨#[99, 108, 97, 109, 112]⟩
  · subst h9
    go_enter Try.func31, Try.ntmps31
    go_wp2
    go_ret
    exact ⟨by rfl, rfl⟩
  by_cases h10 : s = ⟨#[109, 105, 120]⟩
  · subst h10
    go_enter Try.func31, Try.ntmps31
    go_wp2
    go_ret
    exact ⟨by rfl, rfl⟩
  have HN : Hid (arN s = -1) := Lib.hid (by
    unfold arN inL ar1L ar2L ar3L
    simp [Ne.symm h0, Ne.symm h1, Ne.symm h2, Ne.symm h3, Ne.symm h4, Ne.symm h5, Ne.symm h6, Ne.symm h7, Ne.symm h8, Ne.symm h9, Ne.symm h10])
  have q0 : (s.toList == [97, 98, 115]) = false := str_nots h0
  have q1 : (s.toList == [102, 108, 111, 111, 114]) = false := str_nots h1
  have q2 : (s.toList == [100, 117]) = false := str_nots h2
  have q3 : (s.toList == [100, 118]) = false := str_nots h3
  have q4 : (s.toList == [109, 105, 110]) = false := str_nots h4
  have q5 : (s.toList == [109, 97, 120]) = false := str_nots h5
  have q6 : (s.toList == [115, 116, 101, 112]) = false := str_nots h6
  have q7 : (s.toList == [110, 111, 105, 115, 101]) = false := str_nots h7
  have q8 : (s.toList == [116, 101, 120]) = false := str_nots h8
  have q9 : (s.toList == [99, 108, 97, 109, 112]) = false := str_nots h9
  have q10 : (s.toList == [109, 105, 120]) = false := str_nots h10
  clear h0 h1 h2 h3 h4 h5 h6 h7 h8 h9 h10
  go_enter Try.func31, Try.ntmps31
  go_wp2
  go_ret
  exact ⟨by rw [HN.out]; rfl, rfl⟩

set_option maxRecDepth 100000 in
set_option maxHeartbeats 4000000 in
theorem text_any (n : Int) (w : World) :
    Calls Try.prog 9 #[.int .i64 n] w fun e w' => e = .returned (.string (txtC n)) ∧ w' = w := by
  by_cases h0 : n = 0
  · subst h0
    go_enter Try.func9, Try.ntmps9
    go_wp2
    go_ret
    exact ⟨by rfl, rfl⟩
  by_cases h1 : n = 1
  · subst h1
    go_enter Try.func9, Try.ntmps9
    go_wp2
    go_ret
    exact ⟨by rfl, rfl⟩
  by_cases h2 : n = 2
  · subst h2
    go_enter Try.func9, Try.ntmps9
    go_wp2
    go_ret
    exact ⟨by rfl, rfl⟩
  by_cases h3 : n = 3
  · subst h3
    go_enter Try.func9, Try.ntmps9
    go_wp2
    go_ret
    exact ⟨by rfl, rfl⟩
  by_cases h4 : n = 4
  · subst h4
    go_enter Try.func9, Try.ntmps9
    go_wp2
    go_ret
    exact ⟨by rfl, rfl⟩
  by_cases h5 : n = 5
  · subst h5
    go_enter Try.func9, Try.ntmps9
    go_wp2
    go_ret
    exact ⟨by rfl, rfl⟩
  have HT : Hid (txtC n = ⟨#[]⟩) := Lib.hid (by simp [txtC, h0, h1, h2, h3, h4, h5])
  have q0 : (n == 0) = false := by simp [h0]
  have q1 : (n == 1) = false := by simp [h1]
  have q2 : (n == 2) = false := by simp [h2]
  have q3 : (n == 3) = false := by simp [h3]
  have q4 : (n == 4) = false := by simp [h4]
  have q5 : (n == 5) = false := by simp [h5]
  clear h0 h1 h2 h3 h4 h5
  go_enter Try.func9, Try.ntmps9
  go_wp2
  go_ret
  exact ⟨by rw [HT.out]; rfl, rfl⟩
end

section
open Go.RowKit Go.Shelf

/-- a node as an expression -/
def exV (v0 : Int) (v1 : ByteArray) (s : Value) : Value :=
  if v0 = 1 then .iface 95 (.agg #[]) else if v0 = 2 then .iface 89 (.agg #[.string v1]) else if v0 = 8 then .iface 93 (.agg #[s, .string v1]) else .iface 91 (.agg #[s])

set_option maxRecDepth 100000 in
set_option maxHeartbeats 4000000 in
theorem expr_any (v0 : Int) (v1 : ByteArray) (v2 : Int) (a : Option Addr) (n c : Nat) (w : World) :
    Calls Try.prog 30 #[.agg #[.int .i64 v0, .string v1, .int .i64 v2, .slice a n c]] w fun e w' => e = .returned (exV v0 v1 (.slice a n c)) ∧ Below w.heap.size w w' := by
  by_cases h1 : v0 = 1
  · subst h1
    have HE : Hid (exV 1 v1 (.slice a n c) = .iface 95 (.agg #[])) := Lib.hid (by simp [exV, *])
    have M := Mbox.new w #[.int .i64 1, .string v1, .int .i64 v2, .slice a n c] 44
    obtain ⟨W1, hW1⟩ : ∃ W, W = w.alloc (.cells #[.int .i64 1, .string v1, .int .i64 v2, .slice a n c] 44) := ⟨_, rfl⟩
    have hb : Below w.heap.size w (w.alloc (.cells #[.int .i64 1, .string v1, .int .i64 v2, .slice a n c] 44)) := by go_grown
    rw [← hW1] at M hb
    have HB := Lib.hid hb
    have m0 := M.c 0
    have m1 := M.c 1
    have m3 := M.c 3
    clear hb M
    go_enter Try.func30, Try.ntmps30
    go_upto_region 1 with fail
    rw [← hW1]
    clear hW1
    go_wp2_with fail
    go_ret
    exact ⟨by rw [HE.out]; rfl, HB.out⟩
  by_cases h2 : v0 = 2
  · subst h2
    have HE : Hid (exV 2 v1 (.slice a n c) = .iface 89 (.agg #[.string v1])) := Lib.hid (by simp [exV, *])
    have M := Mbox.new w #[.int .i64 2, .string v1, .int .i64 v2, .slice a n c] 44
    obtain ⟨W1, hW1⟩ : ∃ W, W = w.alloc (.cells #[.int .i64 2, .string v1, .int .i64 v2, .slice a n c] 44) := ⟨_, rfl⟩
    have hb : Below w.heap.size w (w.alloc (.cells #[.int .i64 2, .string v1, .int .i64 v2, .slice a n c] 44)) := by go_grown
    rw [← hW1] at M hb
    have HB := Lib.hid hb
    have m0 := M.c 0
    have m1 := M.c 1
    have m3 := M.c 3
    clear hb M
    go_enter Try.func30, Try.ntmps30
    go_upto_region 1 with fail
    rw [← hW1]
    clear hW1
    go_wp2_with fail
    go_ret
    exact ⟨by rw [HE.out]; rfl, HB.out⟩
  by_cases h8 : v0 = 8
  · subst h8
    have HE : Hid (exV 8 v1 (.slice a n c) = .iface 93 (.agg #[.slice a n c, .string v1])) := Lib.hid (by simp [exV, *])
    have M := Mbox.new w #[.int .i64 8, .string v1, .int .i64 v2, .slice a n c] 44
    obtain ⟨W1, hW1⟩ : ∃ W, W = w.alloc (.cells #[.int .i64 8, .string v1, .int .i64 v2, .slice a n c] 44) := ⟨_, rfl⟩
    have hb : Below w.heap.size w (w.alloc (.cells #[.int .i64 8, .string v1, .int .i64 v2, .slice a n c] 44)) := by go_grown
    rw [← hW1] at M hb
    have HB := Lib.hid hb
    have m0 := M.c 0
    have m1 := M.c 1
    have m3 := M.c 3
    clear hb M
    go_enter Try.func30, Try.ntmps30
    go_upto_region 1 with fail
    rw [← hW1]
    clear hW1
    go_wp2_with fail
    go_ret
    exact ⟨by rw [HE.out]; rfl, HB.out⟩
  · skip
    have HE : Hid (exV v0 v1 (.slice a n c) = .iface 91 (.agg #[.slice a n c])) := Lib.hid (by simp [exV, *])
    have q1 : (v0 == 1) = false := by simp [h1]
    have q2 : (v0 == 2) = false := by simp [h2]
    have q8 : (v0 == 8) = false := by simp [h8]
    clear h1 h2 h8
    have M := Mbox.new w #[.int .i64 v0, .string v1, .int .i64 v2, .slice a n c] 44
    obtain ⟨W1, hW1⟩ : ∃ W, W = w.alloc (.cells #[.int .i64 v0, .string v1, .int .i64 v2, .slice a n c] 44) := ⟨_, rfl⟩
    have hb : Below w.heap.size w (w.alloc (.cells #[.int .i64 v0, .string v1, .int .i64 v2, .slice a n c] 44)) := by go_grown
    rw [← hW1] at M hb
    have HB := Lib.hid hb
    have m0 := M.c 0
    have m1 := M.c 1
    have m3 := M.c 3
    clear hb M
    go_enter Try.func30, Try.ntmps30
    go_upto_region 1 with fail
    rw [← hW1]
    clear hW1
    go_wp2_with fail
    go_ret
    exact ⟨by rw [HE.out]; rfl, HB.out⟩

set_option maxRecDepth 100000 in
set_option maxHeartbeats 4000000 in
theorem cops_any (w : World) :
    Calls Try.prog 108 #[.agg #[]] w fun e w' => e = .returned (.slice none 0 0) ∧ Below w.heap.size w w' := by
  have M := Mbox.new w #[] 95
  obtain ⟨W1, hW1⟩ : ∃ W, W = w.alloc (.cells #[] 95) := ⟨_, rfl⟩
  have hb : Below w.heap.size w (w.alloc (.cells #[] 95)) := by go_grown
  rw [← hW1] at M hb
  have HB := Lib.hid hb
  skip
  clear hb M
  go_enter Try.func108, Try.ntmps108
  go_upto_region 1 with fail
  rw [← hW1]
  clear hW1
  go_wp2_with fail
  go_ret
  exact ⟨rfl, HB.out⟩


set_option maxRecDepth 100000 in
set_option maxHeartbeats 4000000 in
theorem vops_any (s : ByteArray) (w : World) :
    Calls Try.prog 106 #[.agg #[.string s]] w fun e w' => e = .returned (.slice none 0 0) ∧ Below w.heap.size w w' := by
  have M := Mbox.new w #[.string s] 89
  obtain ⟨W1, hW1⟩ : ∃ W, W = w.alloc (.cells #[.string s] 89) := ⟨_, rfl⟩
  have hb : Below w.heap.size w (w.alloc (.cells #[.string s] 89)) := by go_grown
  rw [← hW1] at M hb
  have HB := Lib.hid hb
  skip
  clear hb M
  go_enter Try.func106, Try.ntmps106
  go_upto_region 1 with fail
  rw [← hW1]
  clear hW1
  go_wp2_with fail
  go_ret
  exact ⟨rfl, HB.out⟩


set_option maxRecDepth 100000 in
set_option maxHeartbeats 4000000 in
theorem oops_any (a : Option Addr) (n c : Nat) (w : World) :
    Calls Try.prog 107 #[.agg #[.slice a n c]] w fun e w' => e = .returned (.slice a n c) ∧ Below w.heap.size w w' := by
  have M := Mbox.new w #[.slice a n c] 91
  obtain ⟨W1, hW1⟩ : ∃ W, W = w.alloc (.cells #[.slice a n c] 91) := ⟨_, rfl⟩
  have hb : Below w.heap.size w (w.alloc (.cells #[.slice a n c] 91)) := by go_grown
  rw [← hW1] at M hb
  have HB := Lib.hid hb
  have m0 := M.c 0
  clear hb M
  go_enter Try.func107, Try.ntmps107
  go_upto_region 1 with fail
  rw [← hW1]
  clear hW1
  go_wp2_with fail
  go_ret
  exact ⟨rfl, HB.out⟩


/-- what the operands of a node are -/
def opV (v0 : Int) (s : Value) : Value := if v0 = 1 ∨ v0 = 2 then .slice none 0 0 else s
theorem ops_of (v0 : Int) (v1 : ByteArray) (a : Option Addr) (n c : Nat) : ∃ (T : TypeId) (V rv : Value) (f : FuncId), exV v0 v1 (.slice a n c) = .iface T V ∧
    (∀ w, (method 251 T V "loop.example/g00809/impl.operands").run Try.prog w = .ok (f, rv) w) ∧ (∀ args w, (callFunc f args).run Try.prog w = .ok (.enter f args) w) ∧
    ∀ w, Calls Try.prog f #[rv] w fun e w' => e = .returned (opV v0 (.slice a n c)) ∧ Below w.heap.size w w' := by
  by_cases h1 : v0 = 1
  · refine ⟨95, .agg #[], .agg #[], 108, by simp [exV, h1], fun w => by kernel_rfl, enters_of Try.func108 (by kernel_rfl) rfl, fun w => ?_⟩
    have e : opV v0 (.slice a n c) = .slice none 0 0 := by simp [opV, h1]
    rw [e]
    exact cops_any w
  by_cases h2 : v0 = 2
  · refine ⟨89, .agg #[.string v1], .agg #[.string v1], 106, by simp [exV, h2], fun w => by kernel_rfl, enters_of Try.func106 (by kernel_rfl) rfl, fun w => ?_⟩
    have e : opV v0 (.slice a n c) = .slice none 0 0 := by simp [opV, h2]
    rw [e]
    exact vops_any v1 w
  have e : opV v0 (.slice a n c) = .slice a n c := by simp [opV, h1, h2]
  by_cases h8 : v0 = 8
  · refine ⟨93, .agg #[.slice a n c, .string v1], .agg #[.slice a n c], 107, by simp [exV, h8], fun w => by kernel_rfl, enters_of Try.func107 (by kernel_rfl) rfl, fun w => ?_⟩
    rw [e]
    exact oops_any a n c w
  · refine ⟨91, .agg #[.slice a n c], .agg #[.slice a n c], 107, by simp [exV, h1, h2, h8], fun w => by kernel_rfl, enters_of Try.func107 (by kernel_rfl) rfl, fun w => ?_⟩
    rw [e]
    exact oops_any a n c w
/-- the operands of a node of a valid program, in memory -/
theorem opV_row {xs : List Nd} {ys : List As} (h : okPr xs ys) {j : Nat} (hj : j < xs.length) {w : World} {B : Nat} {a : Option Addr} {c : Nat} (hr : Row I64 w B a (xs[j]).2.2.2) :
    ∃ a' c', opV (xs[j]).1 (.slice a (xs[j]).2.2.2.length c) = .slice a' (xs[j]).2.2.2.length c' ∧ Row I64 w B a' (xs[j]).2.2.2 := by
  by_cases h12 : (xs[j]).1 = 1 ∨ (xs[j]).1 = 2
  · have h0 : (xs[j]).2.2.2.length = 0 := by
      have := (h.2.1 j hj).1
      unfold shapeN at this
      omega
    exact ⟨none, 0, by rw [h0]; simp [opV, h12], fun hn => by omega⟩
  · exact ⟨a, c, by simp [opV, h12], hr⟩
end

section
open Go.RowKit Go.Shelf
attribute [local go_sem] Oper.semAt_some

/-- no operation is a defer statement -/
def noDefer (ops : Array Oper) : Bool := ops.toList.all fun o => match o.op with | .defer _ => false | _ => true
theorem noDefer_at {ops : Array Oper} (h : noDefer ops = true) {i : Nat} {o : Oper} (ho : ops[i]? = some o) : ∀ c, o.op ≠ .defer c := by
  intro c hc
  have hm : o ∈ ops.toList := by rw [← Array.getElem?_toList] at ho; exact List.mem_of_getElem? ho
  have := List.all_eq_true.1 h o hm
  rw [hc] at this
  cases this
theorem ops_round {P : Program} {ops : Array Oper} {Q : Exit → Act → World → Prop} {l n : Nat} (hnd : noDefer ops = true) (hLO : LetsOut Q → False) :
    ∀ (is : List Nat) (a : Act) (w : World), wpOps P ops Q is a w → wpOpsIn (Fence.wide.inRound l) n P ops Q is a w := by
  intro is
  induction is with
  | nil => exact fun _ _ h => h
  | cons i rest ih =>
    intro a w h
    unfold wpOps at h
    unfold wpOpsIn
    cases ho : ops[i]? with
    | none => rw [ho] at h; exact ih _ _ h
    | some o =>
      rw [ho] at h
      simp only at h ⊢
      by_cases hw : Region.wanted o (yielded ops a.tmps) = true
      · rw [if_pos hw] at h ⊢
        rcases h with h | ⟨_, h⟩
        · refine ⟨fun _ _ => trivial, ?_⟩
          rw [Oper.semAt_eq _ _ _ (noDefer_at hnd ho)]
          unfold Oper.wp at h
          generalize (execOp a.eval o).run P w = r at h ⊢
          cases r with
          | ok x w' =>
            cases x <;> simp only [Oper.upon, Oper.uponIn] at h ⊢
            case value v => exact ih _ _ h
            case skip => exact ih _ _ h
            case defer d => exact ih _ _ h
            case enter f args =>
              refine ⟨fun e => (by cases e), CallsIn.inRound l (callsIn_wide.2 (h.mono ?_))⟩
              intro e w'' he
              cases e with
              | returned v => exact ih _ _ he
              | panicked c => exact he
              | outgrown => exact he
            case row row args =>
              refine ⟨fun e => (by cases e), fun c cs _ => ?_⟩
              obtain ⟨v, w'', hR, hs⟩ := h c cs
              exact ⟨v, w'', ih _ _ hR, stepsIn_wide.2 hs⟩
          | halt x w' => cases x <;> simp only [Oper.upon, Oper.uponIn] at h ⊢ <;> exact h
        · exact (hLO h).elim
      · rw [if_neg hw] at h ⊢
        exact ⟨fun _ _ => trivial, ih _ _ h⟩
/-- a region that draws its order, in a round: one condition S on the world for the whole region -/
theorem region_round {P : Program} {ops : Array Oper} {Q : Exit → Act → World → Prop} {S : World → Prop} {id l n : Nat} {a : Act} {w : World} (hnd : noDefer ops = true) (hLO : LetsOut Q → False) (hm : P.follows .mixedOrders = true) (hS : S w.drew)
    (h : S w.drew → wpAnyH P .any ops Q S ops.size (Array.replicate ops.size false) a w.drew) : (Code.region id ops true).wpIn (Fence.wide.inRound l) n P Q a w :=
  wpIn_region_draw fun t => ops_round hnd hLO _ _ _ (by
    simp only [Region.schedule, hm, Bool.true_or, if_true]
    exact wpAny_sound _ _ _ _ _ (wpAny_of_held _ _ _ _ (h hS)))

/-- how a round's body may be left, k rounds being done before it -/
def gridPost (B : Nat) (I : Nat → World → Prop) (Ix : Code → World → Prop) (k : Nat) (W : World) : Exit → Act → World → Prop
  | .normal, _, W' => KeepsFrom B W W' ∧ I (k + 1) W'
  | .ret, _, W' => KeepsFrom B W W' ∧ Ix .ret W'
  | .exit id, _, W' => KeepsFrom B W W' ∧ Ix (.exit id) W'
  | .goto t, _, W' => KeepsFrom B W W' ∧ Ix (.goto t) W'
  | .panic _, _, _ => False
  | .outgrown, _, _ => False
/-- blocks that a call has made outlive the loop's own book-keeping -/
theorem Held.turned {w0 W W' : World} {bs : List (Nat × List Value)} {B : Nat} {row : Option Nat} (h : Held w0 W bs) (hg : W.grownBy W' row) (hB : w0.heap.size ≤ B) (hr : ∀ r, row = some r → B ≤ r ∧ ∃ o : Obj, W.heap[r]? = some o ∧ o.isCells = false) : Held w0 W' bs :=
  ⟨below_own h.1 hg h.size (fun k e => Nat.le_trans hB (hr k e).1), fun i k vs e j v hj => by
    obtain ⟨hc, hf⟩ := h.2 i k vs e j v hj
    have hr' : ∀ r, row = some r → ∃ o : Obj, W.heap[r]? = some o ∧ o.isCells = false := fun r er => (hr r er).2
    exact ⟨cell_kept hc hg hr', (frozen_kept hc hg hr').trans hf⟩⟩
/-- what a round of such a loop holds, from its beginning W0 on: the call's blocks, and that no block of another make has turned -/
structure RH (B : Nat) (w W0 W : World) (bs : List (Nat × List Value)) : Prop where
  held : Held w W bs
  keep : KeepsFrom B W0 W
theorem keepsLater {B : Nat} {W0 W W' : World} (h : KeepsFrom B W0 W) (hb : Below W.heap.size W W') : KeepsFrom B W0 W' :=
  h.trans ⟨hb.size, fun k o _ hk _ => by
    have hlt := (Array.getElem?_eq_some_iff.1 hk).1
    rw [hb.block k hlt]; exact hk⟩
section
variable {B : Nat} {w W0 W W' : World} {bs : List (Nat × List Value)}
theorem RH.start (h : Held w W bs) : RH B w W W bs := ⟨h, KeepsFrom.refl _ _⟩
theorem RH.box {k : Nat} {vs : List Value} (h : RH B w W0 W bs) (i : Nat) (e : bs[i]? = some (k, vs) := by rfl) : Mbox W k vs := h.held.box i e
theorem RH.later (h : RH B w W0 W bs) (hb : Below W.heap.size W W') : RH B w W0 W' bs := ⟨h.held.later hb, keepsLater h.keep hb⟩
theorem RH.drew (h : RH B w W0 W bs) : RH B w W0 W.drew bs := ⟨h.held.drew, h.keep.trans ((KeepsOthers.drew W).from B)⟩
theorem RH.alloc (h : RH B w W0 W bs) (o : Obj) : RH B w W0 (W.alloc o) bs := ⟨h.held.alloc o, h.keep.trans ((KeepsOthers.alloc W o).from B)⟩
theorem RH.new (h : RH B w W0 W bs) (cs : Array Value) (t : TypeId) : RH B w W0 (W.alloc (.cells cs t)) ((W.heap.size, cs.toList) :: bs) := ⟨h.held.new cs t, h.keep.trans ((KeepsOthers.alloc W _).from B)⟩
theorem RH.pick {cs : List (Nat × List Value)} (h : RH B w W0 W bs) (e : ∀ p ∈ cs, p ∈ bs) : RH B w W0 W cs := ⟨h.held.pick e, h.keep⟩
theorem RH.put {k : Nat} {vs : List Value} (h : RH B w W0 W ((k, vs) :: bs)) (hg : w.heap.size ≤ k) (hne : ∀ p ∈ bs, p.1 ≠ k) (i : Nat) (v : Value) : RH B w W0 (W.setCell ⟨k, i, none⟩ v) ((k, vs.set i v) :: bs) :=
  ⟨h.held.put hg hne i v, h.keep.trans ((KeepsOthers.setCell W _ _).from B)⟩
end
theorem own_turned {W W' : World} {base : Nat} {e : TypeId} {size n : Nat} {v : Value} {xs : List Value} {row : Option Nat} (h : W.ownsRow base e size v n xs) (hg : W.grownBy W' row) (hr : ∀ r, row = some r → ∃ o : Obj, W.heap[r]? = some o ∧ o.isCells = false) : W'.ownsRow base e size v n xs := by
  refine h.kept hg ?_
  rcases h.2 with ⟨rfl, _⟩ | ⟨b, cap, cur, rfl, _, hh, _⟩
  · exact .inl rfl
  · refine .inr (fun e => ?_)
    obtain ⟨o, ho, hc⟩ := hr b e.symm
    rw [hh] at ho
    cases ho
    cases hc

theorem wrap_in {a : Int} (h : -4611686018427387904 ≤ a ∧ a ≤ 4611686018427387903) : IntKind.i64.wrap a = a := IntWalk.i64_in _ (by omega)
/-- a node's cells as values: Op, Name, Number, Args -/
abbrev Nc := Int × ByteArray × Int × Value
def ncL (v : Nc) : List Value := [.int .i64 v.1, .string v.2.1, .int .i64 v.2.2.1, v.2.2.2]
def NcAt (W : World) (A : Option Addr) (j : Nat) (v : Nc) : Prop := ∃ b o, A = some ⟨b, o, none⟩ ∧ W.cell? ⟨b, o + j * 4, none⟩ = some (.int .i64 v.1) ∧ W.cell? ⟨b, o + j * 4 + 1, none⟩ = some (.string v.2.1) ∧ W.cell? ⟨b, o + j * 4 + 2, none⟩ = some (.int .i64 v.2.2.1) ∧ W.cell? ⟨b, o + j * 4 + 3, none⟩ = some v.2.2.2
theorem back_any (A : Option Addr) (N c : Nat) (w : World) :
    Calls Try.prog 35 #[.slice A N c] w fun e w' => e = .returned (.func (.func 51) #[] #[.pointer (some ⟨w.heap.size, 0, none⟩)]) ∧ w' = w.alloc (.cells #[.slice A N c] 23) := by
  go_enter Try.func35, Try.ntmps35
  go_wp2
  go_ret
  exact ⟨rfl, rfl⟩

set_option maxRecDepth 100000 in
set_option maxHeartbeats 4000000 in
theorem back_rounds (n l Bn N c : Nat) (hn : 1 ≤ n) (hN : N ≤ 1048576) (A : Option Addr) (cell : Nat → Nc) (J : Nat → World → Prop) (Jx : World → Prop) (W : World)
    (hc : ∀ k W, J k W → W.cell? ⟨Bn, 0, none⟩ = some (.slice A N c) ∧ ∀ j, j < N → NcAt W A j (cell j))
    (hY : ∀ k, k < N → ∀ W, J k W → YieldAt Fence.wide (n - 1) Try.prog l #[.int .i64 ((N - 1 - k : Nat) : Int), .agg #[.int .i64 (cell (N - 1 - k)).1, .string (cell (N - 1 - k)).2.1, .int .i64 (cell (N - 1 - k)).2.2.1, (cell (N - 1 - k)).2.2.2]] W fun e W' =>
      (e = .returned (.bool true) ∧ J (k + 1) W') ∨ (e = .returned (.bool false) ∧ Jx W'))
    (h0 : J 0 W) :
    CallsIn Fence.wide n Try.prog 51 #[.func (.yield l) #[] #[], .pointer (some ⟨Bn, 0, none⟩)] W fun e W' => (∃ v, e = .returned v) ∧ (J N W' ∨ Jx W') := by
  have hc0 := (hc 0 W h0).1
  have ew : IntKind.i64.wrap ((N : Int) - 1) = (N : Int) - 1 := wrap_in (by omega)
  refine callsIn_of_wp Try.func51 rfl trivial ?_ rfl
  simp only [Try.ntmps51, List.size_toArray, List.length_cons, List.length_nil, Nat.reduceAdd, Nat.reduceSub, Array.replicate_succ, Array.replicate_zero, List.push_toArray, List.append_toArray, List.nil_append, List.cons_append]
  gi_wp2
  gi_loopw [3] (fun p wr => ∃ (k : Nat) (q : Int), k ≤ N ∧ p = .int .i64 q ∧ q = (N : Int) - 1 - (k : Int) ∧ J k wr) (fun p _ => (intOf p + 1).toNat)
  case atStart => exact ⟨0, _, Nat.zero_le _, rfl, by omega, h0⟩
  case round =>
    clear hc0 ew
    obtain ⟨k, q, hk, rfl, hq, hJs⟩ := hrel
    by_cases hlt : k < N
    · obtain ⟨j, hj⟩ : ∃ j : Nat, j = N - 1 - k := ⟨_, rfl⟩
      have hqj : q = (j : Int) := by omega
      subst hqj
      obtain ⟨hcr, hcn⟩ := hc _ _ hJs
      obtain ⟨b, o, hA, g0, g1, g2, g3⟩ := hcn j (by omega)
      subst hA
      have hY1 := hY k hlt _ hJs
      rw [← hj] at hY1
      obtain ⟨v, hv⟩ : ∃ v, v = cell j := ⟨_, rfl⟩
      rw [← hv] at hY1 g0 g1 g2 g3
      obtain ⟨v0, v1, v2, v3⟩ := v
      dsimp only at hY1 g0 g1 g2 g3
      obtain ⟨fn, tmps, assign, body, hy, hR⟩ := hY1
      have hge : (0 : Int) ≤ (j : Int) := by omega
      have hjn : (j : Int) < (N : Int) := by omega
      have ew : IntKind.i64.wrap ((j : Int) - 1) = (j : Int) - 1 := wrap_in (by omega)
      have HQ := Lib.hid hq
      clear hq hv hcn hj
      gi_wp2
      refine hR.mono ?_
      rintro e W3 (⟨rfl, hJ3⟩ | ⟨rfl, hJx3⟩)
      · gi_wp2
        go_roundw
        case rel => exact ⟨k + 1, _, by omega, rfl, by have := HQ.out; omega, hJ3⟩
        case measure => simp [intOf]
      · gi_wp2
        refine bodyPost_ret (results_none rfl _ _ _) rfl ?_
        exact ⟨⟨_, rfl⟩, .inr hJx3⟩
    · have e : k = N := by omega
      subst e
      have hq1 : q = -1 := by omega
      subst hq1
      gi_wp2
      go_end0
      exact ⟨⟨_, rfl⟩, .inl hJs⟩

/-- the nodes of a slice, ranged over from the last one: I k: k rounds are done; Ix c: a round has left by the jump c; the loop variable for the node lies in a block of its own -/
theorem wpIn_back {g : Operand} {ps : Array Tmp} {assign body : Code} {Q : Exit → Act → World → Prop} {a : Act} {w : World} {n s Bn c : Nat} {A : Option Addr} (cell : Nat → Nc) (hn : 2 ≤ n) (hs : s ≤ 1048576)
    (hg : a.eval g = .func (.func 51) #[] #[.pointer (some ⟨Bn, 0, none⟩)]) (hps : ps.size = 2)
    (I : Nat → World → Prop) (Ix : Code → World → Prop) (hI : OwnFrom w.heap.size I) (hIx : OwnFrom w.heap.size Ix) (hN : ∀ k W, I k W → W.cell? ⟨Bn, 0, none⟩ = some (.slice A s c) ∧ ∀ j, j < s → NcAt W A j (cell j)) (h0 : I 0 w) (a₁ : Nat → Nat → Act)
    (hassign : ∀ (l k : Nat) (W : World) (K : Act → World → Prop), K (a₁ k W.heap.size) (W.alloc (.cells #[.int .i64 (cell (s - 1 - k)).1, .string (cell (s - 1 - k)).2.1, .int .i64 (cell (s - 1 - k)).2.2.1, (cell (s - 1 - k)).2.2.2] 44)) →
      assign.wpIn (Fence.wide.inRound l) (n - 1 - 1) Try.prog (Exit.then K (fun _ _ _ => False)) { tmps := (ps.zip #[Value.int .i64 ((s - 1 - k : Nat) : Int), .agg #[.int .i64 (cell (s - 1 - k)).1, .string (cell (s - 1 - k)).2.1, .int .i64 (cell (s - 1 - k)).2.2.1, (cell (s - 1 - k)).2.2.2]]).foldl (fun t (p, v) => t.setIfInBounds p v) a.tmps, defers := [] } W)
    (hbody : ∀ (l k g : Nat) (W : World), k < s → I k W → Mbox W g (ncL (cell (s - 1 - k))) → w.heap.size ≤ g → body.wpIn (Fence.wide.inRound l) (n - 1 - 1) Try.prog (gridPost w.heap.size I Ix k W) (a₁ k g) W)
    (hdone : ∀ (D : Nat) (W : World), w.heap.size ≤ D → I s W → W.heap[D]? = some (.deferred (some [])) → Q .normal { a with defers := { target := .collected D, args := #[] } :: a.defers } W)
    (hstop : ∀ (D : Nat) (c : Code) (W : World), w.heap.size ≤ D → Ix c W → W.heap[D]? = some (.deferred (some [])) → c.wpIn Fence.wide n Try.prog Q { a with defers := { target := .collected D, args := #[] } :: a.defers } W) :
    (Code.rangeFunc g ps assign body).wpIn Fence.wide n Try.prog Q a w := by
  refine wpIn_rangeFunc fun fn hfn => ?_
  let rec_ : LoopState → Option Code → Loop := fun st pe => { state := st, pending := pe, fn, tmps := a.tmps, params := ps, assign, body, defers := w.heap.size }
  have hp2 : ∀ x y : Value, (#[x, y] : Array Value).size = ps.size := fun _ _ => by rw [hps]; rfl
  have w1s : ((w.alloc (.deferred (some []))).alloc (.loop (rec_ .ready none))).heap.size = w.heap.size + 1 + 1 := by rw [World.size_alloc, World.size_alloc]
  have hL1 : ((w.alloc (.deferred (some []))).alloc (.loop (rec_ .ready none))).heap[w.heap.size + 1]? = some (.loop (rec_ .ready none)) := by
    have := World.alloc_heap_new (w.alloc (.deferred (some []))) (.loop (rec_ .ready none))
    rwa [World.size_alloc] at this
  have hD1 : ((w.alloc (.deferred (some []))).alloc (.loop (rec_ .ready none))).heap[w.heap.size]? = some (.deferred (some [])) :=
    (Below.heap_alloc _ _ _ (by rw [World.size_alloc]; omega)).trans (World.alloc_heap_new w _)
  refine ⟨w.heap.size + 1, [{ target := .collected w.heap.size, args := #[] }], (w.alloc (.deferred (some []))).alloc (.loop (rec_ .ready none)), { target := .fn (.func 51) #[.pointer (some ⟨Bn, 0, none⟩)], args := #[.func (.yield (w.heap.size + 1)) #[] #[]] }, (w.alloc (.deferred (some []))).alloc (.loop (rec_ .ready none)), 51,
    #[.func (.yield (w.heap.size + 1)) #[] #[], .pointer (some ⟨Bn, 0, none⟩)], (w.alloc (.deferred (some []))).alloc (.loop (rec_ .ready none)), run_enterLoop_outer fn a.tmps ps assign body, ?_, fun _ _ => trivial, ?_, fun e => (by cases e), ?_⟩
  · simp only [resolve, hg]
    simp [go_sem]
  · simp [invoke, go_sem]
  refine (back_rounds (n - 1) (w.heap.size + 1) Bn s c (by omega) hs A cell (fun k W => I k W ∧ W.heap[w.heap.size + 1]? = some (.loop (rec_ .ready none)) ∧ W.heap[w.heap.size]? = some (.deferred (some [])))
    (fun W => ∃ c, Ix c W ∧ W.heap[w.heap.size + 1]? = some (.loop (rec_ .done (some c))) ∧ W.heap[w.heap.size]? = some (.deferred (some []))) _ (fun k W h => hN k W h.1) ?_ ⟨hI.alloc _ (hI.alloc _ h0), hL1, hD1⟩).mono ?_
  · rintro k hk W0 ⟨hi0, hl0, hd0⟩
    have hlt0 : w.heap.size + 1 < W0.heap.size := (Array.getElem?_eq_some_iff.1 hl0).1
    obtain ⟨W, hW⟩ : ∃ W, W = W0.alloc (.cells #[.int .i64 (cell (s - 1 - k)).1, .string (cell (s - 1 - k)).2.1, .int .i64 (cell (s - 1 - k)).2.2.1, (cell (s - 1 - k)).2.2.2] 44) := ⟨_, rfl⟩
    have hi : I k W := by rw [hW]; exact hI.alloc _ hi0
    have hl : W.heap[w.heap.size + 1]? = some (.loop (rec_ .ready none)) := by rw [hW]; exact (Below.heap_alloc _ _ _ hlt0).trans hl0
    have hd : W.heap[w.heap.size]? = some (.deferred (some [])) := by rw [hW]; exact (Below.heap_alloc _ _ _ (by omega)).trans hd0
    have hM : Mbox W W0.heap.size (ncL (cell (s - 1 - k))) := by rw [hW]; exact Mbox.new W0 _ _
    have hlt : w.heap.size + 1 < W.heap.size := (Array.getElem?_eq_some_iff.1 hl).1
    refine ⟨fn, _, assign, body, run_yield hl0 (hp2 _ _), roundIn_of_wpIn hfn (hassign _ k W0 _ ?_)⟩
    rw [← hW]
    refine ⟨_, run_beginRound hl rfl, ?_⟩
    have hM2 : Mbox (W.putObj (w.heap.size + 1) (.loop { rec_ .ready none with state := .busy })) W0.heap.size (ncL (cell (s - 1 - k))) := hM.keep (fun _ => World.putObj_heap_other (by omega))
    have hi2 := hI.putObj (.loop { rec_ .ready none with state := .busy }) hi (by omega) hl rfl
    have hl2 : (W.putObj (w.heap.size + 1) (.loop { rec_ .ready none with state := .busy })).heap[w.heap.size + 1]? = some (.loop { rec_ .ready none with state := .busy }) := World.putObj_heap_same hlt
    have hd2 : (W.putObj (w.heap.size + 1) (.loop { rec_ .ready none with state := .busy })).heap[w.heap.size]? = some (.deferred (some [])) := (World.putObj_heap_other (by omega)).trans hd
    have leave : ∀ (jump : Option Code) (W3 : World), KeepsFrom w.heap.size (W.putObj (w.heap.size + 1) (.loop { rec_ .ready none with state := .busy })) W3 →
        W3.heap[w.heap.size + 1]? = some (.loop { rec_ .ready none with state := .busy }) ∧
        (W3.putObj (w.heap.size + 1) (.loop (rec_ (if jump.isNone then .ready else .done) jump))).heap[w.heap.size + 1]? = some (.loop (rec_ (if jump.isNone then .ready else .done) jump)) ∧
        (W3.putObj (w.heap.size + 1) (.loop (rec_ (if jump.isNone then .ready else .done) jump))).heap[w.heap.size]? = some (.deferred (some [])) := fun jump W3 hk => by
      have h3 := hk.same _ _ (by omega) hl2 rfl
      exact ⟨h3, World.putObj_heap_same (Array.getElem?_eq_some_iff.1 h3).1, (World.putObj_heap_other (by omega)).trans (hk.same _ _ (Nat.le_refl _) hd2 rfl)⟩
    refine wpIn_mono (hbody _ k W0.heap.size _ hk hi2 hM2 (by omega)) fun e a3 W3 hp => ?_
    cases e with
    | normal =>
      obtain ⟨h3, h4, h5⟩ := leave none W3 hp.1
      exact ⟨_, _, run_endRound none h3, .inl ⟨rfl, hI.putObj _ hp.2 (by omega) h3 rfl, h4, h5⟩⟩
    | ret =>
      obtain ⟨h3, h4, h5⟩ := leave (some .ret) W3 hp.1
      exact ⟨_, _, run_endRound _ h3, .inr ⟨rfl, .ret, hIx.putObj _ hp.2 (by omega) h3 rfl, h4, h5⟩⟩
    | exit id =>
      obtain ⟨h3, h4, h5⟩ := leave (some (.exit id)) W3 hp.1
      exact ⟨_, _, run_endRound _ h3, .inr ⟨rfl, .exit id, hIx.putObj _ hp.2 (by omega) h3 rfl, h4, h5⟩⟩
    | goto t =>
      obtain ⟨h3, h4, h5⟩ := leave (some (.goto t)) W3 hp.1
      exact ⟨_, _, run_endRound _ h3, .inr ⟨rfl, .goto t, hIx.putObj _ hp.2 (by omega) h3 rfl, h4, h5⟩⟩
    | panic ch => exact hp.elim
    | outgrown => exact hp.elim
  · rintro e W2 ⟨⟨v, rfl⟩, (⟨hi, hl, hd⟩ | ⟨c, hi, hl, hd⟩)⟩
    · exact ⟨none, _, run_endLoop hl (by simp [rec_]), hdone _ _ (Nat.le_refl _) (hI.putObj _ hi (by omega) hl rfl) ((World.putObj_heap_other (by omega)).trans hd)⟩
    · exact ⟨some c, _, run_endLoop hl (by simp [rec_]), hstop _ c _ (Nat.le_refl _) (hIx.putObj _ hi (by omega) hl rfl) ((World.putObj_heap_other (by omega)).trans hd)⟩
end

section
open Go.RowKit Go.Shelf
attribute [local go_sem] Oper.semAt_some

theorem Row.far {α : Type} {f : α → Value} {w : World} {B g i : Nat} {A : Option Addr} {xs : List α} (h : Row f w B A xs) (hne : ∀ b o, A = some ⟨b, o, none⟩ → b ≠ g) (v : Value) : Row f (w.setCell ⟨g, i, none⟩ v) B A xs := fun hn => by
  obtain ⟨b, o, e, hb, hc⟩ := h hn
  exact ⟨b, o, e, hb, fun k hk => (World.cell?_setCell_other w _ _ _ (by intro e2; injection e2 with e2; exact hne b o e e2.symm)).trans (hc k hk)⟩
theorem RH.far {B : Nat} {w W0 W : World} {bs : List (Nat × List Value)} {g i : Nat} (h : RH B w W0 W bs) (hg : w.heap.size ≤ g) (hne : ∀ p ∈ bs, p.1 ≠ g) (v : Value) : RH B w W0 (W.setCell ⟨g, i, none⟩ v) bs :=
  ⟨h.held.far hg hne v, h.keep.trans ((KeepsOthers.setCell W _ _).from B)⟩
/-- the places of the arguments of all nodes -/
theorem nodes_fix {w : World} {B : Nat} {A : Option Addr} {xs : List Nd} (h : NdRow w B A xs) : ∃ av : Nat → Option Addr × Nat, ∀ j (hj : j < xs.length), ∃ b o, A = some ⟨b, o, none⟩ ∧ b < B ∧
    w.cell? ⟨b, o + j * 4, none⟩ = some (.int .i64 (xs[j]).1) ∧ w.cell? ⟨b, o + j * 4 + 1, none⟩ = some (.string (xs[j]).2.1) ∧ w.cell? ⟨b, o + j * 4 + 2, none⟩ = some (.int .i64 (xs[j]).2.2.1) ∧ w.cell? ⟨b, o + j * 4 + 3, none⟩ = some (.slice (av j).1 (xs[j]).2.2.2.length (av j).2) ∧ Row I64 w B (av j).1 (xs[j]).2.2.2 := by
  have h1 : ∀ j, ∃ p : Option Addr × Nat, ∀ (hj : j < xs.length), ∃ b o, A = some ⟨b, o, none⟩ ∧ b < B ∧
      w.cell? ⟨b, o + j * 4, none⟩ = some (.int .i64 (xs[j]).1) ∧ w.cell? ⟨b, o + j * 4 + 1, none⟩ = some (.string (xs[j]).2.1) ∧ w.cell? ⟨b, o + j * 4 + 2, none⟩ = some (.int .i64 (xs[j]).2.2.1) ∧ w.cell? ⟨b, o + j * 4 + 3, none⟩ = some (.slice p.1 (xs[j]).2.2.2.length p.2) ∧ Row I64 w B p.1 (xs[j]).2.2.2 := fun j => by
    by_cases hj : j < xs.length
    · obtain ⟨b, o, e, hb, a, c, h0, h1, h2, h3, _, _, h6⟩ := h.at hj
      exact ⟨(a, c), fun _ => ⟨b, o, e, hb, h0, h1, h2, h3, h6⟩⟩
    · exact ⟨(none, 0), fun h => absurd h hj⟩
  exact ⟨fun j => Classical.choose (h1 j), fun j hj => Classical.choose_spec (h1 j) hj⟩
/-- the owners of all nodes, in a row that the call made -/
def OwnOutQ (xs : List Nd) (ys : List As) (w : World) (e : Ending) (w' : World) : Prop :=
  ∃ (A : Option Addr), e = .returned (.slice A xs.length xs.length) ∧ w'.ownsRow w.heap.size 3 1 (.slice A xs.length xs.length) xs.length (((List.range xs.length).map (ownV xs ys)).map I64) ∧ Below w.heap.size w w'
/-- a node's cells, by its number -/
def cellF (xs : List Nd) (av : Nat → Option Addr × Nat) (j : Nat) : Int × ByteArray × Int × Value := ((ndA xs j).1, (ndA xs j).2.1, (ndA xs j).2.2.1, .slice (av j).1 (ndA xs j).2.2.2.length (av j).2)

set_option maxRecDepth 100000 in
set_option maxHeartbeats 16000000 in
theorem owners_go (A A' : Option Addr) (c c' : Nat) (xs : List Nd) (ys : List As) (w : World) (hR : ProgIn w w.heap.size A A' xs ys) (hok : okPr xs ys) :
    CallsIn Fence.wide 3 Try.prog 20 #[pgv A A' xs.length c ys.length c'] w (OwnOutQ xs ys w) := by
  obtain ⟨i0, hi, hz0, hz1, hz2⟩ := info_parts infoInt
  have hlen := okPr_len hok
  have h60 : xs.length ≤ 60 := hok.1
  have hy60 : ys.length ≤ 60 := by omega
  have HOK := Lib.hid hok
  have HLEN := Lib.hid hlen
  obtain ⟨av, hnd⟩ := nodes_fix hR.1
  have HND := Lib.hid hnd
  have HRP := Lib.hid hR
  clear hok hlen hnd hR
  have HT : Held w (w.alloc (.cells #[.slice A xs.length c, .slice A' ys.length c'] 26)) [(w.heap.size, [.slice A xs.length c, .slice A' ys.length c'])] := by
    have h := (Held.nil w).new #[.slice A xs.length c, .slice A' ys.length c'] 26
    simpa only [World.size_alloc] using h
  obtain ⟨W1, hW1⟩ : ∃ W, W = w.alloc (.cells #[.slice A xs.length c, .slice A' ys.length c'] 26) := ⟨_, rfl⟩
  rw [← hW1] at HT
  refine callsIn_of_wp_marks Try.func20 rfl trivial ?_ rfl
  simp only [Try.ntmps20, List.size_toArray, List.length_cons, List.length_nil, Nat.reduceAdd, Nat.reduceSub, Array.replicate_succ, Array.replicate_zero, List.push_toArray, List.append_toArray, List.nil_append, List.cons_append]
  refine wpIn_wide.2 ?_
  go_upto_region 1 with fail
  rw [← hW1]
  have hs1 : W1.heap.size = w.heap.size + 1 := by rw [hW1]; simp
  clear hW1
  have m0 := (HT.box 0).c 0
  have m1 := (HT.box 0).c 1
  obtain ⟨p0, hp0⟩ : ∃ p, p = w.heap.size := ⟨_, rfl⟩
  rw [← hp0] at HT m0 m1 ⊢
  obtain ⟨D, hD⟩ : ∃ p, p = W1.heap.size := ⟨_, rfl⟩
  have HDD := Lib.hid (show D = p0 + 1 ∧ p0 = w.heap.size by omega)
  have HDq := Lib.hid hD
  clear hp0 hD hs1
  go_wp2_with (at_make; refine wpList_make_full _ rfl _ _ 42 rfl W1.heap.size 3 i0 (.int .i64 0) 1 Try.underlying42 hi hz0 hz1 .i64 .i64 _ _ xs.length rfl rfl rfl rfl (by rw [hz2]; omega) (by unfold maxLen; omega) (by omega) ?_)
  intro w2 hown hgrow
  have hb0 : Below W1.heap.size W1 w2 := (Below.refl _ _).grown hgrow (Nat.le_refl _) (fun k h => by cases h)
  have HT := HT.later hb0
  rw [← HDq.out] at hown ⊢
  have hown : w2.ownsRow D 3 1 (.slice (some ⟨D, 0, none⟩) xs.length xs.length) xs.length ((List.replicate xs.length (0 : Int)).map I64) := by
    rw [List.map_replicate, ← made_one]
    exact hown
  have hd2 : D < w2.heap.size := (hown.lt D (by rfl)).2
  have HT := HT.new #[(.slice (some ⟨D, 0, none⟩) xs.length xs.length)] 42
  have hown := hown.alloc (.cells #[(.slice (some ⟨D, 0, none⟩) xs.length xs.length)] 42)
  clear hb0 hgrow HDq m0 m1
  go_upto_region 2 with fail
  obtain ⟨W2, hW2⟩ : ∃ W, W = w2.alloc (.cells #[(.slice (some ⟨D, 0, none⟩) xs.length xs.length)] 42) := ⟨_, rfl⟩
  obtain ⟨kO, hkO⟩ : ∃ k, k = w2.heap.size := ⟨_, rfl⟩
  have hs2 : W2.heap.size = kO + 1 := by rw [hW2, hkO]; simp
  rw [← hW2] at HT hown ⊢
  rw [← hkO] at HT hd2 ⊢
  clear hW2 hkO
  have HKD := Lib.hid (show D < kO ∧ kO < W2.heap.size ∧ W2.heap.size = kO + 1 by omega)
  have m0 := (HT.box 1).c 0
  have m1 := (HT.box 1).c 1
  have HT0 := Lib.hid HT
  have HO0 := Lib.hid hown
  have HR2 : Hid (ProgIn W2 W2.heap.size A A' xs ys) := Lib.hid (HRP.out.later HT.below)
  clear HT hown hs2 hd2
  go_wp2_with fail
  refine (roots_any A A' c c' xs ys W2 HR2.out (by omega)).mono ?_
  rintro e w4 ⟨A4, c4, rfl, hrt, hb4⟩
  have HT := HT0.out.later hb4
  have hown := own_keep' HO0.out hb4
  have hne4 : ∀ b o, A4 = some ⟨b, o, none⟩ → b ≠ D := fun b o e => by
    have h1 := own_block hrt b (by rw [e]; rfl)
    have h2 := HKD.out
    omega
  have hrt := Row.of_own (f := I64) hrt
  have HNE4 := Lib.hid hne4
  have HT0 := Lib.hid HT
  have HO0 := Lib.hid hown
  have HRT := Lib.hid hrt
  have HSZ4 := Lib.hid hb4.size
  have hrl : (rtsL ys).length = ys.length := by simp [rtsL]
  rw [hrl]
  clear HT hown hrt hne4 hb4 m0 m1 hrl
  go_wp2_with fail
  go_loopw [17] (fun i wr => ∃ (k : Nat) (l : List Int), k ≤ ys.length ∧ i = .int .i64 k ∧ Held w wr [(kO, [(.slice (some ⟨D, 0, none⟩) xs.length xs.length)]), (p0, [.slice A xs.length c, .slice A' ys.length c'])] ∧ wr.ownsRow D 3 1 (.slice (some ⟨D, 0, none⟩) xs.length xs.length) xs.length (l.map I64) ∧ l.length = xs.length ∧ Row I64 wr w4.heap.size A4 (rtsL ys) ∧ w4.heap.size ≤ wr.heap.size ∧ ∀ j (h : j < ys.length), j < k → GoodO xs ys l (ys[j]).2.toNat) (fun i _ => ys.length - (intOf i).toNat)
  case atStart => exact ⟨0, List.replicate xs.length 0, Nat.zero_le _, rfl, HT0.out, HO0.out, by simp, HRT.out, Nat.le_refl _, fun j _ h => by omega⟩
  case round =>
    clear HO0 HRT HT0
    obtain ⟨k, l, hk, rfl, HT, hown, hll, hrt, hsz, hgd⟩ := hrel
    by_cases hlt : k < ys.length
    · obtain ⟨b, o, rfl, hbl, hc0⟩ := hrt.at (k := k) (by simp [rtsL]; omega)
      have hc : wr.cell? ⟨b, o + k, none⟩ = some (.int .i64 (ys[k]).2) := by rw [hc0]; simp [rtsL, I64]
      clear hc0
      have hin := okPr_root HOK.out hlt
      have hrq := ownV_root HOK.out hlt
      obtain ⟨m, hm⟩ : ∃ m : Nat, (ys[k]).2 = (m : Int) := ⟨((ys[k]).2).toNat, by omega⟩
      have HGD : Hid (∀ (j : Nat) (h : j < ys.length), j < k + 1 → GoodO xs ys (l.set m (k : Int)) (ys[j]).2.toNat) := Lib.hid (fun j h hj => by
        have e2 : ((m : Int)).toNat = m := by omega
        have e3 : (k : Int) = ownV xs ys m := by rw [← hrq, hm, e2]
        rw [e3]
        by_cases e : j = k
        · subst e
          rw [hm, e2]
          exact goodO_new (by omega)
        · exact goodO_set (hgd j h (by omega)))
      rw [hm] at hc hin
      have hmlt : (m : Int) < (xs.length : Int) := by omega
      have hmge : (0 : Int) ≤ (m : Int) := by omega
      have hlt2' : (k : Int) < (ys.length : Int) := by omega
      have hge2' : (0 : Int) ≤ (k : Int) := by omega
      have hlh : m < l.length := by omega
      have hd := hown.cellAt m (by omega)
      have hf := hown.frozenAt m
      rw [List.getElem?_map, List.getElem?_eq_getElem hlh, Option.map_some] at hd
      obtain ⟨zo, hzo⟩ : ∃ z, z = l[m] := ⟨_, rfl⟩
      rw [← hzo] at hd
      clear hzo
      have hs := (hown.stored m (I64 (k : Int))).1
      rw [← List.map_set] at hs
      have hq0 := (HT.box 0).c 0
      have HTS := Lib.hid (HT.far (g := D) (i := m) (by have := HDD.out; omega) (fun p hp => by
        have h1 := HDD.out
        have h2 := HKD.out
        simp only [List.mem_cons, List.not_mem_nil, or_false] at hp
        rcases hp with rfl | rfl <;> (show _ ≠ _) <;> omega) (I64 (k : Int)))
      have HRS := Lib.hid (hrt.far (i := m) HNE4.out (I64 (k : Int)))
      have hll2 : (l.set m (k : Int)).length = xs.length := by rw [List.length_set]; exact hll
      have HS := Lib.hid hs
      have HL2 := Lib.hid hll2
      have HSZ := Lib.hid (show w4.heap.size ≤ (wr.setCell ⟨D, m, none⟩ (I64 (k : Int))).heap.size by simpa using hsz)
      clear hs hown hrt hlh hll hll2 hm hin hrq hgd HT hsz hbl
      go_wp2_with fail
      go_roundw
      case rel => exact ⟨k + 1, _, by omega, by go_num, HTS.out, HS.out, HL2.out, HRS.out, HSZ.out, HGD.out⟩
      case measure => simp [intOf]; omega
    · obtain rfl : k = ys.length := by omega
      have m0 := (HT.box 1).c 0
      have hge' : ¬ ((ys.length : Nat) : Int) < ((ys.length : Nat) : Int) := by omega
      have HT := HT.new #[.slice A xs.length c] 23
      have hown := hown.alloc (.cells #[.slice A xs.length c] 23)
      have HG1 : Hid (∀ q (h : q < ys.length), GoodO xs ys l (ys[q]).2.toNat) := Lib.hid (fun q h => hgd q h h)
      have HL1 := Lib.hid hll
      have HTN := Lib.hid HT
      have HOW := Lib.hid hown
      have hszr := hsz
      clear hgd hll hk hlt hrt HT hown hsz
      go_wp2_with (go_at_call 35; refine (back_any A xs.length c _).mono ?_; rintro e w' ⟨rfl, rfl⟩)
      clear m0 hge'
      have HT := HTN.out
      have hown := HOW.out
      obtain ⟨W0, hW0⟩ : ∃ X, X = wr.alloc (.cells #[.slice A xs.length c] 23) := ⟨_, rfl⟩
      obtain ⟨kB, hkB⟩ : ∃ k, k = wr.heap.size := ⟨_, rfl⟩
      have hs0 : W0.heap.size = kB + 1 := by rw [hW0, hkB]; simp
      rw [← hW0] at HT hown ⊢
      rw [← hkB] at HT hszr ⊢
      clear hW0 hkB HTN HOW
      have HWB : Hid (w.heap.size ≤ W0.heap.size) := Lib.hid HT.below.size
      have HKB : Hid (D < kO ∧ kO < kB ∧ kB < W0.heap.size ∧ D = p0 + 1 ∧ p0 = w.heap.size) := Lib.hid (by have h1 := HKD.out; have h2 := HDD.out; have h3 := HSZ4.out; omega)
      have HNE0 : ∀ p ∈ ([(kB, [.slice A xs.length c]), (kO, [(.slice (some ⟨D, 0, none⟩) xs.length xs.length)]), (p0, [.slice A xs.length c, .slice A' ys.length c'])] : List (Nat × List Value)), p.1 ≠ D := fun p hp => by
        have h1 := HKB.out
        simp only [List.mem_cons, List.not_mem_nil, or_false] at hp
        rcases hp with rfl | rfl | rfl <;> (show _ ≠ _) <;> omega
      have HNE := Lib.hid HNE0
      have HINF := Lib.hid (And.intro hi (And.intro hz0 (And.intro hz1 hz2)))
      clear hi hz0 hz1 hz2 HNE0 hs0 hszr HKD HDD HSZ4 HNE4
      have h0 : ∃ l, Held w W0 [(kB, [.slice A xs.length c]), (kO, [(.slice (some ⟨D, 0, none⟩) xs.length xs.length)]), (p0, [.slice A xs.length c, .slice A' ys.length c'])] ∧ W0.ownsRow D 3 1 (.slice (some ⟨D, 0, none⟩) xs.length xs.length) xs.length (l.map I64) ∧ l.length = xs.length ∧ (∀ q (h : q < ys.length), GoodO xs ys l (ys[q]).2.toNat) ∧ (∀ j (h : j < xs.length), xs.length - 0 ≤ j → ∀ a ∈ (xs[j]).2.2.2, GoodO xs ys l a.toNat) ∧ W0.heap.size ≤ W0.heap.size := ⟨l, HT, hown, HL1.out, HG1.out, fun j h hj => by omega, Nat.le_refl _⟩
      have H0 := Lib.hid h0
      refine (wpIn_wide (n := 3)).1 ?_
      refine' wpIn_back (s := xs.length) (Bn := kB) (c := c) (A := A) (cellF xs av) (by omega) (by omega) rfl rfl
        (fun k W => ∃ l, Held w W [(kB, [.slice A xs.length c]), (kO, [(.slice (some ⟨D, 0, none⟩) xs.length xs.length)]), (p0, [.slice A xs.length c, .slice A' ys.length c'])] ∧ W.ownsRow D 3 1 (.slice (some ⟨D, 0, none⟩) xs.length xs.length) xs.length (l.map I64) ∧ l.length = xs.length ∧ (∀ q (h : q < ys.length), GoodO xs ys l (ys[q]).2.toNat) ∧ (∀ j (h : j < xs.length), xs.length - k ≤ j → ∀ a ∈ (xs[j]).2.2.2, GoodO xs ys l a.toNat) ∧ W0.heap.size ≤ W.heap.size)
        (fun _ _ => False)
        (fun k A B row h hg hr => by obtain ⟨l, h1, h2, h3, h4, h5, h6⟩ := h; exact ⟨l, h1.turned hg HWB.out hr, own_turned h2 hg (fun r e => (hr r e).2), h3, h4, h5, Nat.le_trans h6 hg.size⟩)
        (fun _ _ _ _ h _ _ => h)
        (fun k W h => by
          obtain ⟨l, h1, _⟩ := h
          refine ⟨(h1.box 0).c 0, fun j hj => ?_⟩
          obtain ⟨b, o, e, hb, g0, g1, g2, g3, _⟩ := HND.out j hj
          have hv : ndA xs j = xs[j] := by unfold ndA; rw [getD_at hj]
          refine ⟨b, o, e, ?_⟩
          unfold cellF
          rw [hv]
          exact ⟨(h1.below.cell (p := ⟨b, o + j * 4, none⟩) hb).trans g0, (h1.below.cell (p := ⟨b, o + j * 4 + 1, none⟩) hb).trans g1, (h1.below.cell (p := ⟨b, o + j * 4 + 2, none⟩) hb).trans g2, (h1.below.cell (p := ⟨b, o + j * 4 + 3, none⟩) hb).trans g3⟩)
        ?h0 (fun k g => { tmps := #[pgv A A' xs.length c ys.length c', .pointer (some ⟨p0, 0, none⟩), .slice none 0 0, .pointer (some ⟨kO, 0, none⟩), u4, u5, .int .i64 ((xs.length - 1 - k : Nat) : Int), .pointer (some ⟨g, 0, none⟩), undef, undef, .pointer (some ⟨p0, 0, none⟩), .slice A xs.length c, .int .i64 xs.length, (.slice (some ⟨D, 0, none⟩) xs.length xs.length), .agg #[.slice A xs.length c, .slice A' ys.length c'], .slice A4 ys.length c4, .int .i64 ys.length, .int .i64 ys.length, .bool false, u19, u20, u21, u22, u23, u24, u25, u26, .pointer (some ⟨p0, 0, none⟩), .slice A xs.length c, .func (.func 51) #[] #[.pointer (some ⟨kB, 0, none⟩)], .int .i64 ((xs.length - 1 - k : Nat) : Int), .agg #[.int .i64 (cellF xs av (xs.length - 1 - k)).1, .string (cellF xs av (xs.length - 1 - k)).2.1, .int .i64 (cellF xs av (xs.length - 1 - k)).2.2.1, (cellF xs av (xs.length - 1 - k)).2.2.2], undef, undef, undef, undef, undef, undef, undef, undef, undef, undef, undef, undef, undef, undef, undef, undef, undef], defers := [] }) ?assign ?body ?done ?stop
      case h0 => exact h0
      case assign =>
        intro l k W K hK
        unfold cellF
        dsimp only
        gi_wp2
        exact hK
      case body =>
        clear h0
        rintro lp k g W hk ⟨l, HT, hown, hll, hgr, hga, hsz⟩ hM hgs
        obtain ⟨j, hj⟩ : ∃ j, j = xs.length - 1 - k := ⟨_, rfl⟩
        dsimp only
        rw [← hj] at hM ⊢
        have hjn : j < xs.length := by omega
        have hgj : GoodO xs ys l j := by
          rcases node_ref HOK.out hjn with ⟨q, hq, e⟩ | ⟨q, hq, hjq, ha⟩
          · have := hgr q hq
            rw [e] at this
            simpa using this
          · have := hga q hq (by omega) _ ha
            simpa using this
        have hga : ∀ q (h : q < xs.length), j < q → ∀ a ∈ (xs[q]).2.2.2, GoodO xs ys l a.toNat := fun q h hq => hga q h (by omega)
        have hrow : Row I64 w w.heap.size (av j).1 (xs[j]).2.2.2 := by
          obtain ⟨_, _, _, _, _, _, _, _, hrow⟩ := HND.out j hjn
          exact hrow
        have hrow := hrow.below HT.below
        have HAI := Lib.hid (fun a (ha : a ∈ (xs[j]).2.2.2) => And.intro (arg_in HOK.out hjn ha) (ownV_arg HOK.out hjn ha))
        obtain ⟨a', ca, hop, hrow⟩ := opV_row HOK.out hjn (c := (av j).2) hrow
        obtain ⟨T, V, rv, f, hex, hmt, hen, hcl⟩ := ops_of (xs[j]).1 (xs[j]).2.1 (av j).1 (xs[j]).2.2.2.length (av j).2
        rw [hop] at hcl
        have hv : ndA xs j = xs[j] := by unfold ndA; rw [getD_at hjn]
        unfold cellF at hM
        rw [hv] at hM
        have hal := args_at_len hjn
        have hv60 : (xs[j]).2.2.2.length ≤ 60 := by have := HLEN.out; omega
        have HV3 : Hid (∀ l' : List Int, (∀ x (h : x < (xs[j]).2.2.2.length), GoodO xs ys l' ((xs[j]).2.2.2[x]).toNat) → ∀ a ∈ (xs[j]).2.2.2, GoodO xs ys l' a.toNat) := Lib.hid (fun l' h a ha => by
          obtain ⟨x, hx, rfl⟩ := List.getElem_of_mem ha
          exact h x hx)
        have HJK := Lib.hid (show j = xs.length - 1 - k ∧ k < xs.length by omega)
        obtain ⟨v, hv'⟩ : ∃ v, v = xs[j] := ⟨_, rfl⟩
        rw [← hv'] at hM hcl hex hrow HAI hv60
        have HVV := Lib.hid hv'
        rw [← hv'] at HV3
        clear hv hop hal hj hk hv'
        obtain ⟨v0, v1, v2, v3⟩ := v
        dsimp only at hM hcl hex hrow HAI hv60 HV3
        have n0 := hM.c 0
        have n1 := hM.c 1
        have n2 := hM.c 2
        have n3 := hM.c 3
        have HT := RH.start (B := W0.heap.size) HT
        have HCL := Lib.hid hcl
        have HEX := Lib.hid hex
        have HI0 : Hid (RH W0.heap.size w W W [(kB, [.slice A xs.length c]), (kO, [(.slice (some ⟨D, 0, none⟩) xs.length xs.length)]), (p0, [.slice A xs.length c, .slice A' ys.length c'])] ∧ W.ownsRow D 3 1 (.slice (some ⟨D, 0, none⟩) xs.length xs.length) xs.length (l.map I64) ∧ l.length = xs.length ∧ (∀ q (h : q < ys.length), GoodO xs ys l (ys[q]).2.toNat) ∧ (∀ q (h : q < xs.length), j < q → ∀ a ∈ (xs[q]).2.2.2, GoodO xs ys l a.toNat) ∧ GoodO xs ys l j ∧ Row I64 W w.heap.size a' v3 ∧ W0.heap.size ≤ W.heap.size) := Lib.hid ⟨HT, hown, hll, hgr, hga, hgj, hrow, hsz⟩
        clear hcl hex hM HT hown hll hgr hga hgj hrow hsz
        gi_wp2
        refine ⟨trivial, ?_⟩
        refine (CallsIn.inRound lp (callsIn_wide.2 (expr_any _ _ _ _ _ _ _))).mono ?_
        rintro e w1 ⟨rfl, hb1⟩
        rw [HEX.out]
        clear n0 n1 n2 n3 HEX
        gi_wp2
        refine ⟨trivial, ?_⟩
        refine (CallsIn.inRound lp (callsIn_wide.2 (HCL.out _))).mono ?_
        rintro e w2 ⟨rfl, hb2⟩
        have hb12 := hb1.trans (hb2.mono hb1.size)
        have HI1 : Hid (RH W0.heap.size w W w2 [(kB, [.slice A xs.length c]), (kO, [(.slice (some ⟨D, 0, none⟩) xs.length xs.length)]), (p0, [.slice A xs.length c, .slice A' ys.length c'])] ∧ w2.ownsRow D 3 1 (.slice (some ⟨D, 0, none⟩) xs.length xs.length) xs.length (l.map I64) ∧ l.length = xs.length ∧ (∀ q (h : q < ys.length), GoodO xs ys l (ys[q]).2.toNat) ∧ (∀ q (h : q < xs.length), j < q → ∀ a ∈ (xs[q]).2.2.2, GoodO xs ys l a.toNat) ∧ GoodO xs ys l j ∧ Row I64 w2 w.heap.size a' v3 ∧ W0.heap.size ≤ w2.heap.size) := Lib.hid ⟨HI0.out.1.later hb12, own_keep' HI0.out.2.1 hb12, HI0.out.2.2.1, HI0.out.2.2.2.1, HI0.out.2.2.2.2.1, HI0.out.2.2.2.2.2.1, HI0.out.2.2.2.2.2.2.1.below (hb12.mono HI0.out.1.held.size), Nat.le_trans HI0.out.2.2.2.2.2.2.2 hb12.size⟩
        clear hb1 hb2 hb12 HI0 hmt hen HCL
        gi_wp2
        gi_loopw [36] (fun iv wr => ∃ (p : Nat) (l : List Int), p ≤ v3.length ∧ iv = .int .i64 p ∧ (RH W0.heap.size w W wr [(kB, [.slice A xs.length c]), (kO, [(.slice (some ⟨D, 0, none⟩) xs.length xs.length)]), (p0, [.slice A xs.length c, .slice A' ys.length c'])] ∧ wr.ownsRow D 3 1 (.slice (some ⟨D, 0, none⟩) xs.length xs.length) xs.length (l.map I64) ∧ l.length = xs.length ∧ (∀ q (h : q < ys.length), GoodO xs ys l (ys[q]).2.toNat) ∧ (∀ q (h : q < xs.length), j < q → ∀ a ∈ (xs[q]).2.2.2, GoodO xs ys l a.toNat) ∧ GoodO xs ys l j ∧ Row I64 wr w.heap.size a' v3 ∧ W0.heap.size ≤ wr.heap.size) ∧ ∀ x (h : x < v3.length), x < p → GoodO xs ys l (v3[x]).toNat) (fun iv _ => v3.length - (intOf iv).toNat)
        case atStart => exact ⟨0, l, Nat.zero_le _, rfl, HI1.out, fun x _ h => by omega⟩
        case round =>
          clear HI1
          obtain ⟨p, l, hp, rfl, ⟨HT, hown, hll, hgr, hga, hgj, hr, hsz⟩, hgx⟩ := hrel
          by_cases hlt2 : p < v3.length
          · obtain ⟨b3, o3, rfl, hbl3, hc⟩ := hr.at hlt2
            obtain ⟨⟨hin0, hin1⟩, hov⟩ := HAI.out _ (List.getElem_mem hlt2)
            obtain ⟨m, hm⟩ : ∃ m : Nat, v3[p] = (m : Int) := ⟨(v3[p]).toNat, by omega⟩
            have e2 : ((m : Int)).toNat = m := by omega
            rw [hm, e2] at hin1 hov
            rw [hm] at hc
            have hmx : m < xs.length := by omega
            have hlm : m < l.length := by omega
            have hlj : j < l.length := by omega
            have hvj : l[j] = ownV xs ys m := by
              have := hgj
              unfold GoodO at this
              rw [List.getElem?_eq_getElem hlj] at this
              rw [hov]
              exact Option.some.inj this
            obtain ⟨z, hz⟩ : ∃ z, z = ownV xs ys m := ⟨_, rfl⟩
            rw [← hz] at hvj
            have hown := World.ownsRow.drew hown
            have hd := hown.cellAt m (by omega)
            have hf := hown.frozenAt m
            have hdj := hown.cellAt j (by omega)
            rw [List.getElem?_map, List.getElem?_eq_getElem hlm, Option.map_some] at hd
            obtain ⟨zo, hzo⟩ : ∃ z, z = l[m] := ⟨_, rfl⟩
            rw [← hzo] at hd
            rw [List.getElem?_map, List.getElem?_eq_getElem hlj, Option.map_some, hvj] at hdj
            have HD7 := Lib.hid (And.intro hd hf)
            have hC : wr.drew.cell? ⟨kO, 0, none⟩ = some (.slice (some ⟨D, 0, none⟩) xs.length xs.length) := (HT.drew.box 1).c 0
            have hDj : wr.drew.cell? ⟨D, j, none⟩ = some (.int .i64 z) := hdj
            have HAF : Hid ((wr.drew.setCell ⟨D, m, none⟩ (.int .i64 z)).cell? ⟨kO, 0, none⟩ = some (.slice (some ⟨D, 0, none⟩) xs.length xs.length) ∧ (wr.drew.setCell ⟨D, m, none⟩ (.int .i64 z)).cell? ⟨D, j, none⟩ = some (.int .i64 z)) := Lib.hid ⟨(World.cell?_setCell_other _ _ _ _ (by intro e; injection e with e; have := HKB.out; omega)).trans hC, (World.cell?_setCell_other _ _ _ _ (by intro e; injection e with e1 e2; omega)).trans hDj⟩
            have hs := (hown.stored m (I64 z)).1
            rw [← List.map_set] at hs
            have hrr := hr.below ((Below.refl w.heap.size wr).drew.setCell (p := ⟨D, m, none⟩) (by have := HKB.out; show w.heap.size ≤ D; omega) (.int .i64 z))
            have HS : Hid ((RH W0.heap.size w W (wr.drew.setCell ⟨D, m, none⟩ (.int .i64 z)) [(kB, [.slice A xs.length c]), (kO, [(.slice (some ⟨D, 0, none⟩) xs.length xs.length)]), (p0, [.slice A xs.length c, .slice A' ys.length c'])] ∧ (wr.drew.setCell ⟨D, m, none⟩ (.int .i64 z)).ownsRow D 3 1 (.slice (some ⟨D, 0, none⟩) xs.length xs.length) xs.length ((l.set m z).map I64) ∧ (l.set m z).length = xs.length ∧ (∀ q (h : q < ys.length), GoodO xs ys (l.set m z) (ys[q]).2.toNat) ∧ (∀ q (h : q < xs.length), j < q → ∀ a ∈ (xs[q]).2.2.2, GoodO xs ys (l.set m z) a.toNat) ∧ GoodO xs ys (l.set m z) j ∧ Row I64 (wr.drew.setCell ⟨D, m, none⟩ (.int .i64 z)) w.heap.size (some ⟨b3, o3, none⟩) v3 ∧ W0.heap.size ≤ (wr.drew.setCell ⟨D, m, none⟩ (.int .i64 z)).heap.size) ∧ ∀ x (h : x < v3.length), x < p + 1 → GoodO xs ys (l.set m z) (v3[x]).toNat) := Lib.hid ⟨⟨HT.drew.far (by have := HKB.out; omega) HNE.out _, hs, by rw [List.length_set]; exact hll, by rw [hz]; exact fun q h => goodO_set (hgr q h), by rw [hz]; exact fun q h hq a ha => goodO_set (hga q h hq a ha), by rw [hz]; exact goodO_set hgj, hrr, by simpa using hsz⟩, fun x h hx => by
              rw [hz]
              by_cases e : x = p
              · subst e
                rw [hm, e2]
                exact goodO_new hlm
              · exact goodO_set (hgx x h (by omega))⟩
            have hmlt : (m : Int) < (xs.length : Int) := by omega
            have hmge : (0 : Int) ≤ (m : Int) := by omega
            have hjlt : (j : Int) < (xs.length : Int) := by omega
            have hjge : (0 : Int) ≤ (j : Int) := by omega
            have hlt2' : (p : Int) < (v3.length : Int) := by omega
            have hge2' : (0 : Int) ≤ (p : Int) := by omega
            clear hs hrr hown hr hll hgr hga hgj hgx hm hin0 hin1 hov hz hvj e2 hzo hd hf hdj HT hsz
            gi_wp2
            refine region_round (S := fun w' => w'.cell? ⟨kO, 0, none⟩ = some (.slice (some ⟨D, 0, none⟩) xs.length xs.length) ∧ w'.cell? ⟨D, j, none⟩ = some (.int .i64 z)) (by kernel_rfl) (by rintro ⟨a, w, h⟩; exact h) (by kernel_rfl) ⟨hC, hDj⟩ (fun hHeld => ?_)
            refine wpAnyH_take (i := 0) (oi := { dst := some 40, op := Op.load 42 (Operand.tmp 3), type := 42, pos := "l14_checker.go:111", after := #[], guard := none }) (v := ?_) rfl (by kernel_rfl) (by kernel_rfl) (by kernel_rfl) (fun _ _ _ h => h) (Or.inl ⟨by rfl, ?_⟩) (by assumption) ?_
            rotate_left 1
            · (intro w hSw; (try dsimp only at hSw); go_simp <;> with_reducible rfl)
            (try simp only [Act.put, List.setIfInBounds_toArray, List.set_cons_zero, List.set_cons_succ])
            refine wpAnyH_take (i := 1) (oi := { dst := some 41, op := Op.move (Operand.tmp 9), type := 3, pos := "l14_checker.go:111", after := #[], guard := none }) (v := ?_) rfl (by kernel_rfl) (by kernel_rfl) (by kernel_rfl) (fun _ _ _ h => h) (Or.inl ⟨by rfl, ?_⟩) (by assumption) ?_
            rotate_left 1
            · (intro w hSw; (try dsimp only at hSw); go_simp <;> with_reducible rfl)
            (try simp only [Act.put, List.setIfInBounds_toArray, List.set_cons_zero, List.set_cons_succ])
            refine wpAnyH_take (i := 2) (oi := { dst := some 42, op := Op.load 42 (Operand.tmp 3), type := 42, pos := "l14_checker.go:111", after := #[], guard := none }) (v := ?_) rfl (by kernel_rfl) (by kernel_rfl) (by kernel_rfl) (fun _ _ _ h => h) (Or.inl ⟨by rfl, ?_⟩) (by assumption) ?_
            rotate_left 1
            · (intro w hSw; (try dsimp only at hSw); go_simp <;> with_reducible rfl)
            (try simp only [Act.put, List.setIfInBounds_toArray, List.set_cons_zero, List.set_cons_succ])
            refine wpAnyH_take (i := 3) (oi := { dst := some 43, op := Op.move (Operand.tmp 6), type := 3, pos := "l14_checker.go:111", after := #[], guard := none }) (v := ?_) rfl (by kernel_rfl) (by kernel_rfl) (by kernel_rfl) (fun _ _ _ h => h) (Or.inl ⟨by rfl, ?_⟩) (by assumption) ?_
            rotate_left 1
            · (intro w hSw; (try dsimp only at hSw); go_simp <;> with_reducible rfl)
            (try simp only [Act.put, List.setIfInBounds_toArray, List.set_cons_zero, List.set_cons_succ])
            refine wpAnyH_take (i := 4) (oi := { dst := some 44, op := Op.indexAddr 42 (Operand.tmp 42) (Operand.tmp 43), type := 0, pos := "l14_checker.go:111", after := #[{ on := 2, ground := Ground.data }, { on := 3, ground := Ground.data }], guard := none }) (v := ?_) rfl (by kernel_rfl) (by kernel_rfl) (by kernel_rfl) (fun _ _ _ h => h) (Or.inl ⟨by rfl, ?_⟩) (by assumption) ?_
            rotate_left 1
            · (intro w hSw; (try dsimp only at hSw); go_simp <;> with_reducible rfl)
            (try simp only [Act.put, List.setIfInBounds_toArray, List.set_cons_zero, List.set_cons_succ])
            refine wpAnyH_take (i := 5) (oi := { dst := some 45, op := Op.load 3 (Operand.tmp 44), type := 3, pos := "l14_checker.go:111", after := #[{ on := 4, ground := Ground.data }], guard := none }) (v := ?_) rfl (by kernel_rfl) (by kernel_rfl) (by kernel_rfl) (fun _ _ _ h => h) (Or.inl ⟨by rfl, ?_⟩) (by assumption) ?_
            rotate_left 1
            · (intro w hSw; (try dsimp only at hSw); go_simp <;> with_reducible rfl)
            (try simp only [Act.put, List.setIfInBounds_toArray, List.set_cons_zero, List.set_cons_succ])
            refine wpAnyH_take (i := 6) (oi := { dst := some 46, op := Op.indexAddr 42 (Operand.tmp 40) (Operand.tmp 41), type := 0, pos := "l14_checker.go:111", after := #[{ on := 0, ground := Ground.data }, { on := 1, ground := Ground.data }, { on := 0, ground := Ground.phase }, { on := 1, ground := Ground.phase }, { on := 2, ground := Ground.phase }, { on := 3, ground := Ground.phase }, { on := 4, ground := Ground.phase }, { on := 5, ground := Ground.phase }], guard := none }) (v := ?_) rfl (by kernel_rfl) (by kernel_rfl) (by kernel_rfl) (fun _ _ _ h => h) (Or.inl ⟨by rfl, ?_⟩) (by assumption) ?_
            rotate_left 1
            · (intro w hSw; (try dsimp only at hSw); go_simp <;> with_reducible rfl)
            (try simp only [Act.put, List.setIfInBounds_toArray, List.set_cons_zero, List.set_cons_succ])
            refine wpAnyH_ready (rs := [7]) (by kernel_rfl) (by simp) ?_
            refine AllReadyH.cons (o := { dst := none, op := Op.store 3 (Operand.tmp 46) (Operand.tmp 45), type := 0, pos := "l14_checker.go:111", after := #[{ on := 6, ground := Ground.data }, { on := 5, ground := Ground.data }, { on := 0, ground := Ground.phase }, { on := 1, ground := Ground.phase }, { on := 2, ground := Ground.phase }, { on := 3, ground := Ground.phase }, { on := 4, ground := Ground.phase }, { on := 5, ground := Ground.phase }], guard := none }) rfl (fun K hK => ?_) ?_
            · have d7 := HD7.out.1
              have f7 := HD7.out.2
              go_simp
              refine hK.out _ _ (by (try dsimp only); exact HAF.out) (fun hHeld => ?_)
              clear d7 f7
              clear hK K
              (try simp only [Act.put, List.setIfInBounds_toArray, List.set_cons_zero, List.set_cons_succ])
              refine wpAnyH_done (by kernel_rfl) ?_ _
              clear hHeld
              gi_wp2
              go_roundw
              case rel => exact ⟨p + 1, _, by omega, by go_num, HS.out⟩
              case measure => simp [intOf]; omega
            exact AllReadyH.nil
          · obtain rfl : p = v3.length := by omega
            have HQ : Hid (RH W0.heap.size w W wr [(kB, [.slice A xs.length c]), (kO, [(.slice (some ⟨D, 0, none⟩) xs.length xs.length)]), (p0, [.slice A xs.length c, .slice A' ys.length c'])] ∧ wr.ownsRow D 3 1 (.slice (some ⟨D, 0, none⟩) xs.length xs.length) xs.length (l.map I64) ∧ l.length = xs.length ∧ (∀ q (h : q < ys.length), GoodO xs ys l (ys[q]).2.toNat) ∧ (∀ q (h : q < xs.length), xs.length - (k + 1) ≤ q → ∀ a ∈ (xs[q]).2.2.2, GoodO xs ys l a.toNat) ∧ W0.heap.size ≤ wr.heap.size) := Lib.hid ⟨HT, hown, hll, hgr, fun q h hq a ha => by
              by_cases e : q = j
              · subst e
                exact HV3.out l (fun x hx => hgx x hx hx) a (by rw [← HVV.out] at ha; exact ha)
              · exact hga q h (by have := HJK.out; omega) a ha, hsz⟩
            have hge2 : ¬ ((v3.length : Nat) : Int) < ((v3.length : Nat) : Int) := by omega
            clear hown hll hgr hga hgj hr hgx HT hsz
            gi_wp2
            exact ⟨HQ.out.1.keep, HQ.out.1.held, l, HQ.out.2.1, HQ.out.2.2.1, HQ.out.2.2.2.1, fun q h hq => HQ.out.2.2.2.2.1 q h (by omega), HQ.out.2.2.2.2.2⟩
      case done =>
        rintro D' W' hD ⟨l, HT, hown, hll, hgr, hga, hsz⟩ hK
        have hgall : ∀ i, i < xs.length → GoodO xs ys l i := fun i hi => by
          rcases node_ref HOK.out hi with ⟨q, hq, e⟩ | ⟨q, hq, hjq, ha⟩
          · have := hgr q hq
            rw [e] at this
            simpa using this
          · have := hga q hq (by omega) _ ha
            simpa using this
        have hll' := goodO_all hll hgall
        have c7 := (HT.box 1).c 0
        have HB := Lib.hid HT.below
        have HOW := Lib.hid hown
        have HLL := Lib.hid hll'
        have HKH := Lib.hid hK
        have HWD : Hid (w.heap.size ≤ D) := Lib.hid (by have := HKB.out; omega)
        clear hown hll hgr hga hgall hll' HT hsz hK h0 H0
        go_wp2_with fail
        refine ⟨by simp, .inl ⟨_, _, rfl, run_takeDeferred HKH.out, ?_⟩⟩
        refine ⟨_, results_tmp rfl _ _ _, _, rfl, ?_, HB.out.trans (belowK_b (w := w) (Nat.le_refl _) W' D' _ _ (by have := HWB.out; omega) HKH.out rfl rfl)⟩
        have h2 := ownsRow_putObj HOW.out (.deferred none) HKH.out rfl
        rw [← HLL.out]
        exact own_base h2 HWD.out
      case stop =>
        rintro D' c' W' _ h _
        exact h.elim
end

section
open Go.RowKit Go.Shelf
attribute [local go_sem] Oper.semAt_some

theorem ownersQ_any (A A' : Option Addr) (c c' : Nat) (xs : List Nd) (ys : List As) (w : World) (hR : ProgIn w w.heap.size A A' xs ys) (hok : okPr xs ys) :
    Calls Try.prog 20 #[pgv A A' xs.length c ys.length c'] w (OwnOutQ xs ys w) := (callsIn_wide (n := 3)).1 (owners_go A A' c c' xs ys w hR hok)
theorem owners_any (A A' : Option Addr) (c c' : Nat) (xs : List Nd) (ys : List As) (w : World) (hR : ProgIn w w.heap.size A A' xs ys) (hok : okPr xs ys) :
    Calls Try.prog 20 #[pgv A A' xs.length c ys.length c'] w (OwnOut xs ys w) := (ownersQ_any A A' c c' xs ys w hR hok).mono fun e w' h => by
  obtain ⟨A2, h1, h2, h3⟩ := h
  exact ⟨A2, h1, Row.of_own (f := I64) (xs := (List.range xs.length).map (ownV xs ys)) h2, h3⟩

set_option maxRecDepth 100000 in
set_option maxHeartbeats 4000000 in
theorem ownerOf_any (A A' : Option Addr) (c c' : Nat) (xs : List Nd) (ys : List As) (i : Int) (w : World) (hR : ProgIn w w.heap.size A A' xs ys) (hl : xs.length ≤ 1048576) (hl2 : ys.length ≤ 1048576) (hz : ys.length + (argsL xs).length ≤ 1099511627776) (hx : ∀ x ∈ xs, x.2.1.size ≤ 1048576 ∧ x.2.2.2.length ≤ 1048576) (hy : ∀ y ∈ ys, y.1.size ≤ 1048576) :
    Calls Try.prog 6 #[pgv A A' xs.length c ys.length c', .int .i64 i] w fun e w' => e = .returned (.int .i64 (ownP xs ys i)) ∧ Below w.heap.size w w' := by
  have HVC := Lib.hid (fun W (h : ProgIn W W.heap.size A A' xs ys) => isValidProg_any A A' c c' xs ys W h hl hl2 hz hx hy)
  clear hz hx hy
  obtain ⟨W1, hW1⟩ : ∃ W, W = w.alloc (.cells #[.slice A xs.length c, .slice A' ys.length c'] 26) := ⟨_, rfl⟩
  have M := Mbox.new w #[.slice A xs.length c, .slice A' ys.length c'] 26
  have hB : Below w.heap.size w (w.alloc (.cells #[.slice A xs.length c, .slice A' ys.length c'] 26)) := by go_grown
  have hR1 := (hR.alloc (Nat.le_refl _) (.cells #[.slice A xs.length c, .slice A' ys.length c'] 26)).more (B' := (w.alloc (.cells #[.slice A xs.length c, .slice A' ys.length c'] 26)).heap.size) (by simp)
  rw [← hW1] at M hB hR1
  have HM := Lib.hid M
  have HB := Lib.hid hB
  have HR := Lib.hid hR1
  clear M hB hR hR1
  go_enter Try.func6, Try.ntmps6
  go_upto_region 1 with fail
  rw [← hW1]
  clear hW1
  have m0 := HM.out.c 0
  have m1 := HM.out.c 1
  go_wp2_with fail
  refine (HVC.out _ HR.out).mono ?_
  rintro e w2 hq
  obtain ⟨v, rfl, hv, hb2⟩ := hq
  have m0 := (HM.out.later hb2).c 0
  have m1 := (HM.out.later hb2).c 1
  have HB2 := Lib.hid (HB.out.trans (hb2.mono HB.out.size))
  have HR2 := Lib.hid (HR.out.later hb2)
  cases v with
  | false =>
    have hno : ¬ okPr xs ys := fun k => by have := hv.2 k; cases this
    have HP : Hid (ownP xs ys i = -1) := Lib.hid (by unfold ownP; rw [if_neg (fun k => hno k.1)])
    clear hv hno hb2
    go_wp2_with fail
    go_ret
    exact ⟨by rw [HP.out]; rfl, HB2.out⟩
  | true =>
    have hok : okPr xs ys := hv.1 rfl
    have HOK := Lib.hid hok
    have HQ := Lib.hid (isWithinQ i 0 ((xs.length : Int) - 1) w2)
    clear hv hb2 hok
    by_cases hin : 0 ≤ i ∧ i < xs.length
    · have hq : inQ 0 ((xs.length : Int) - 1) i = true := (inQ_iff ..).2 (by omega)
      rw [hq] at HQ
      have HOW := Lib.hid (owners_any A A' c c' xs ys w2 HR2.out HOK.out)
      obtain ⟨n, rfl⟩ : ∃ n : Nat, i = (n : Int) := ⟨i.toNat, by omega⟩
      have HP : Hid (ownP xs ys (n : Int) = ownV xs ys n) := Lib.hid (by
        unfold ownP
        rw [if_pos ⟨HOK.out, hin⟩]
        rfl)
      have hn : n < xs.length := by omega
      clear hq
      go_wp2_with fail
      refine HQ.out.mono ?_
      rintro e w3 ⟨rfl, rfl⟩
      go_wp2_with fail
      refine HOW.out.mono ?_
      rintro e w3 ⟨A2, rfl, hrow, hb3⟩
      have HB3 := Lib.hid (HB2.out.trans (hb3.mono HB2.out.size))
      obtain ⟨b, o, rfl, hbl, hc0⟩ := hrow.at (k := n) (by simp; omega)
      have hc : w3.cell? ⟨b, o + n, none⟩ = some (I64 (ownV xs ys n)) := by simpa using hc0
      have hnlt : (n : Int) < (xs.length : Int) := by omega
      have hnge : (0 : Int) ≤ (n : Int) := by omega
      obtain ⟨z, hz⟩ : ∃ z, z = ownV xs ys n := ⟨_, rfl⟩
      rw [← hz] at hc HP
      clear hc0 hrow hb3 m0 m1 hz hin
      go_wp2_with fail
      go_ret
      exact ⟨by rw [HP.out]; rfl, HB3.out⟩
    · have hq : inQ 0 ((xs.length : Int) - 1) i = false := by
        apply Bool.eq_false_iff.2
        intro e
        have := (inQ_iff ..).1 e
        omega
      rw [hq] at HQ
      have HP : Hid (ownP xs ys i = -1) := Lib.hid (by unfold ownP; rw [if_neg (fun k => hin k.2)])
      clear hq hin
      go_wp2_with fail
      refine HQ.out.mono ?_
      rintro e w3 ⟨rfl, rfl⟩
      go_wp2_with fail
      go_ret
      exact ⟨by rw [HP.out]; rfl, HB2.out⟩
end

section
open Go.RowKit Go.Shelf

theorem infoStrS : (Try.prog.info? 9).map (fun i => (i.zero, i.size, i.bytes)) = some (some (.string ⟨#[]⟩), 1, 16) := by kernel_rfl
theorem Row.take {α : Type} {f : α → Value} {w : World} {B : Nat} {A : Option Addr} {xs : List α} (h : Row f w B A xs) (k : Nat) : Row f w B A (xs.take k) := fun hn => by
  rw [List.length_take] at hn
  obtain ⟨b, o, e, hb, hc⟩ := h (by omega)
  refine ⟨b, o, e, hb, fun j hj => ?_⟩
  rw [List.getElem_take]
  exact hc j (by rw [List.length_take] at hj; omega)
theorem inL_no {l : List ByteArray} {s : ByteArray} (h : ∀ j (hj : j < l.length), l[j] ≠ s) : inL l s = false := by
  unfold inL
  rw [List.any_eq_false]
  intro x hx
  obtain ⟨j, hj, rfl⟩ := List.getElem_of_mem hx
  simpa using h j hj
theorem inL_yes {l : List ByteArray} {s : ByteArray} {j : Nat} (hj : j < l.length) (h : l[j] = s) : inL l s = true := by
  unfold inL
  rw [List.any_eq_true]
  exact ⟨l[j], List.getElem_mem hj, decide_eq_true h⟩
def nmsL (ys : List As) : List ByteArray := ys.map (·.1)
theorem nms_len (ys : List As) : (nmsL ys).length = ys.length := by simp [nmsL]
theorem nms_step (ys : List As) (k : Nat) (h : k < ys.length) : nmsL (ys.take (k + 1)) = nmsL (ys.take k) ++ [(ys[k]).1] := by
  unfold nmsL
  rw [List.take_succ_eq_append_getElem h, List.map_append]
  rfl
/-- the names of all assignments -/
def NamesOut (ys : List As) (w : World) (e : Ending) (w' : World) : Prop :=
  ∃ (A : Option Addr) (c : Nat), e = .returned (.slice A ys.length c) ∧ Row Str w' w'.heap.size A (nmsL ys) ∧ ys.length ≤ c ∧ c ≤ maxLen ∧ Below w.heap.size w w'
theorem own_cap {w : World} {base : Nat} {e : TypeId} {n c : Nat} {A : Option Addr} {xs : List Value} (h : w.ownsRow base e 1 (.slice A n c) n xs) : n ≤ c ∧ c ≤ maxLen := by
  rcases h.2 with ⟨e1, e2⟩ | ⟨g, cap, cur, e1, _, _, _, hm, hs, _⟩
  · injection e1 with _ _ e3
    omega
  · injection e1 with _ _ e3
    omega
theorem asgd_in (ys : List As) (nm : ByteArray) : ∀ (n k : Nat), n ≤ ys.length → (0 ≤ asgF ys nm (k : Int) n ↔ inL (nmsL (ys.take (min n k))) nm = true) := by
  intro n
  induction n with
  | zero => intro k _; simp [asgF, inL, nmsL]
  | succ n ih =>
    intro k hn
    unfold asgF
    by_cases hk : n < k
    · have e1 : min (n + 1) k = n + 1 := by omega
      have e2 : min n k = n := by omega
      have h2 := ih k (by omega)
      rw [e2] at h2
      rw [e1, nms_step ys n (by omega)]
      unfold inL at h2 ⊢
      rw [List.any_append, Bool.or_eq_true, ← h2]
      rw [getD_at (show n < ys.length by omega)]
      by_cases he : (ys[n]).1 = nm
      · rw [if_pos ⟨by omega, he⟩]
        simp [he]
      · rw [if_neg (fun h => he h.2)]
        simp [he]
    · have e1 : min (n + 1) k = k := by omega
      have e2 : min n k = k := by omega
      have h2 := ih k (by omega)
      rw [e2] at h2
      rw [e1, if_neg (fun h => hk (by omega)), h2]
theorem asgd_iff (ys : List As) (nm : ByteArray) (k : Nat) (hk : k ≤ ys.length) : 0 ≤ asgd ys nm (k : Int) ↔ inL (nmsL (ys.take k)) nm = true := by
  have h := asgd_in ys nm ys.length k (Nat.le_refl _)
  rw [show min ys.length k = k by omega] at h
  exact h
theorem nms_take (ys : List As) (k : Nat) : nmsL (ys.take k) = (nmsL ys).take k := by simp [nmsL]
/-- a known node -/
def knB (v0 : Int) (v1 : ByteArray) (zs : List ByteArray) : Bool := if v0 = 2 then varB v1 || inL zs v1 else if v0 = 8 then arN v1 != -1 else true
theorem arN_ge (s : ByteArray) : -1 ≤ arN s ∧ arN s ≤ 3 := by
  unfold arN
  split
  · omega
  split
  · omega
  split <;> omega
theorem badN_kn (xs : List Nd) (ys : List As) (i : Nat) {z : Nat} (hz : ownV xs ys i = (z : Int)) (hzl : z ≤ ys.length) : badN xs ys i = !knB (ndA xs i).1 (ndA xs i).2.1 (nmsL (ys.take z)) := by
  unfold badN knB
  rw [hz]
  have h1 := asgd_iff ys (ndA xs i).2.1 z hzl
  by_cases h2 : (ndA xs i).1 = 2
  · have h8 : ¬ (ndA xs i).1 = 8 := by omega
    rw [decide_eq_true h2, decide_eq_false h8, if_pos h2]
    by_cases ha : 0 ≤ asgd ys (ndA xs i).2.1 (z : Int)
    · rw [h1.1 ha, decide_eq_false (by omega)]
      simp
    · have : inL (nmsL (ys.take z)) (ndA xs i).2.1 = false := by
        apply Bool.eq_false_iff.2
        intro e
        exact ha (h1.2 e)
      rw [this, decide_eq_true (by omega)]
      simp
  · rw [decide_eq_false h2, if_neg h2]
    by_cases h8 : (ndA xs i).1 = 8
    · rw [decide_eq_true h8, if_pos h8]
      have := arN_ge (ndA xs i).2.1
      by_cases ha : arN (ndA xs i).2.1 = -1
      · rw [ha]
        rfl
      · have e : (arN (ndA xs i).2.1 != -1) = true := by rw [bne_iff_ne]; exact ha
        rw [e, decide_eq_false (show ¬ arN (ndA xs i).2.1 < 0 by omega)]
        simp
    · rw [decide_eq_false h8, if_neg h8]
      rfl
/-- where the first one is, or -1 -/
def fstI (o : Option Nat) : Int := match o with
  | some i => (i : Int)
  | none => -1

set_option maxRecDepth 100000 in
set_option maxHeartbeats 4000000 in
theorem index_any (A : Option Addr) (c B : Nat) (zs : List ByteArray) (s : ByteArray) (w : World) (hR : Row Str w B A zs) (hz : zs.length ≤ 1048576) :
    Calls Try.prog 33 #[.slice A zs.length c, .string s] w fun e w' => (∃ r : Int, e = .returned (.int .i64 r) ∧ (0 ≤ r ↔ inL zs s = true)) ∧ w' = w := by
  go_enter Try.func33, Try.ntmps33
  go_wp2_with fail
  go_loop [8] (fun i => ∃ k : Nat, k ≤ zs.length ∧ i = .int .i64 k ∧ ∀ j (h : j < zs.length), j < k → zs[j] ≠ s) (fun i => zs.length - (intOf i).toNat)
  case atStart => exact ⟨0, Nat.zero_le _, rfl, fun j _ h => by omega⟩
  case round =>
    obtain ⟨k, hk, rfl, hno⟩ := hrel
    have HNO := Lib.hid hno
    clear hno
    by_cases hlt : k < zs.length
    · obtain ⟨b, o, rfl, _, hc⟩ := hR.at hlt
      have hlt' : (k : Int) < (zs.length : Int) := by omega
      have hge' : (0 : Int) ≤ (k : Int) := by omega
      have hge'' : (0 : Int) ≤ (k : Int) := hge'
      obtain ⟨v, hv⟩ : ∃ v, v = zs[k] := ⟨_, rfl⟩
      have HV := Lib.hid hv
      rw [← hv] at hc
      clear hv
      by_cases he : s = v
      · have hq : (s.toList == v.toList) = true := by rw [he]; simp
        have HY : Hid (inL zs s = true) := Lib.hid (inL_yes hlt (by rw [← HV.out]; exact he.symm))
        clear he
        go_wp2_with fail
        go_ret
        exact ⟨⟨_, rfl, fun _ => HY.out, fun _ => by omega⟩, rfl⟩
      · have hq : (s.toList == v.toList) = false := str_ne he
        have HN2 : Hid (∀ j (h : j < zs.length), j < k + 1 → zs[j] ≠ s) := Lib.hid (fun j h hj => by
          by_cases e : j = k
          · subst e
            rw [← HV.out]
            exact fun e => he e.symm
          · exact HNO.out j h (by omega))
        clear he
        go_wp2_with fail
        go_round
        case rel => exact ⟨k + 1, by omega, by go_num, HN2.out⟩
        case measure => simp [intOf]; omega
    · obtain rfl : k = zs.length := by omega
      have HF : Hid (inL zs s = false) := Lib.hid (inL_no (fun j h => HNO.out j h h))
      have hge2 : ¬ ((zs.length : Nat) : Int) < ((zs.length : Nat) : Int) := by omega
      go_wp2_with fail
      go_ret
      exact ⟨⟨-1, rfl, fun h => by omega, fun h => by rw [HF.out] at h; cases h⟩, rfl⟩
theorem contains_any (A : Option Addr) (c B : Nat) (zs : List ByteArray) (s : ByteArray) (w : World) (hR : Row Str w B A zs) (hz : zs.length ≤ 1048576) :
    Calls Try.prog 17 #[.slice A zs.length c, .string s] w fun e w' => e = .returned (.bool (inL zs s)) ∧ w' = w := by
  go_enter Try.func17, Try.ntmps17
  go_wp2_with fail
  refine (index_any A c B zs s w hR hz).mono ?_
  rintro e w1 ⟨⟨r, rfl, hr⟩, rfl⟩
  have HR := Lib.hid hr
  clear hr hR
  have HE : Hid (decide (0 ≤ r) = inL zs s) := Lib.hid (by rw [Bool.eq_iff_iff, decide_eq_true_eq]; exact HR.out)
  go_wp2_with fail
  go_ret
  exact ⟨by rw [← HE.out]; rfl, rfl⟩


set_option maxRecDepth 100000 in
set_option maxHeartbeats 4000000 in
theorem names_any (A A' : Option Addr) (c c' : Nat) (xs : List Nd) (ys : List As) (w : World) (hR : ProgIn w w.heap.size A A' xs ys) (hl2 : ys.length ≤ 1048576) :
    Calls Try.prog 18 #[pgv A A' xs.length c ys.length c'] w (NamesOut ys w) := by
  obtain ⟨W1, hW1⟩ : ∃ W, W = w.alloc (.cells #[.slice A xs.length c, .slice A' ys.length c'] 26) := ⟨_, rfl⟩
  have M := Mbox.new w #[.slice A xs.length c, .slice A' ys.length c'] 26
  have hB : Below w.heap.size w (w.alloc (.cells #[.slice A xs.length c, .slice A' ys.length c'] 26)) := by go_grown
  have hR1 := (hR.alloc (Nat.le_refl _) (.cells #[.slice A xs.length c, .slice A' ys.length c'] 26)).more (B' := (w.alloc (.cells #[.slice A xs.length c, .slice A' ys.length c'] 26)).heap.size) (by simp)
  rw [← hW1] at M hB hR1
  have HM := Lib.hid M
  have HB := Lib.hid hB
  have HR := Lib.hid hR1
  clear M hB hR hR1
  go_enter Try.func18, Try.ntmps18
  go_upto_region 1 with fail
  rw [← hW1]
  clear hW1
  have m0 := HM.out.c 0
  have m1 := HM.out.c 1
  go_wp2_with fail
  go_loopw [3, 9] (fun v i wr => ∃ k : Nat, k ≤ ys.length ∧ i = .int .i64 k ∧ wr.ownsRow W1.heap.size 9 1 v (nmsL (ys.take k)).length ((nmsL (ys.take k)).map Str) ∧ Below W1.heap.size W1 wr) (fun _ i _ => ys.length - (intOf i).toNat)
  case atStart => exact ⟨0, Nat.zero_le _, rfl, World.ownsRow_nil _ _ _ _, Below.refl _ _⟩
  case round =>
    clear m0 m1
    obtain ⟨k, hk, rfl, hown, hb⟩ := hrel
    by_cases hlt : k < ys.length
    · obtain ⟨b, o, rfl, hbl, hc⟩ := HR.out.2.at hlt
      obtain ⟨c0, c1⟩ := asg_at hc
      have c0 := (hb.cell (p := ⟨b, o + k * 2, none⟩) hbl).trans c0
      have c1 := (hb.cell (p := ⟨b, o + k * 2 + 1, none⟩) hbl).trans c1
      have hst := nms_step ys k hlt
      have hle : (nmsL (ys.take k)).length ≤ k := by rw [nms_len]; simp; omega
      obtain ⟨v, hv⟩ : ∃ v, v = ys[k] := ⟨_, rfl⟩
      rw [← hv] at c0 c1 hst
      obtain ⟨ps, hps⟩ : ∃ ps, ps = nmsL (ys.take k) := ⟨_, rfl⟩
      rw [← hps] at hown hst hle
      obtain ⟨v0, v1⟩ := v
      have HO := Lib.hid hown
      have HB2 := Lib.hid hb
      have HST := Lib.hid hst
      have hlt' : (k : Int) < (ys.length : Int) := by omega
      have hge' : (0 : Int) ≤ (k : Int) := by omega
      clear hown hb hst hps hc hv
      go_upto_region 5 with fail
      obtain ⟨W2, hW2⟩ : ∃ W, W = wr.alloc (.cells #[.string v0, .int .i64 v1] 33) := ⟨_, rfl⟩
      have M := Mbox.new wr #[.string v0, .int .i64 v1] 33
      have HO1 := Lib.hid (HO.out.alloc (.cells #[.string v0, .int .i64 v1] 33))
      have HB1 := Lib.hid (HB2.out.alloc HB2.out.size (.cells #[.string v0, .int .i64 v1] 33))
      rw [← hW2] at M HO1 HB1 ⊢
      have n0 := M.c 0
      clear hW2 M c0 c1
      have hs1 : W1.heap.size ≤ W2.heap.size := HB1.out.size
      go_wp2_with (at_builtin; refine wpList_app1 W2 rfl _ _ 47 rfl W1.heap.size 9 (.string ⟨#[]⟩) 16 Try.underlying47 infoStrS rfl _ _ _ (by rfl) HO1.out _ (by rfl) (by rfl) (by unfold maxLen; omega) (by omega) hs1 ?_)
      intro v' w4 ho4 hg4
      have HO4 := Lib.hid ho4
      have HB4 := Lib.hid (HB1.out.grown hg4 hs1 (own_block HO1.out))
      clear ho4 hg4
      go_wp2_with fail
      go_roundw
      case rel => exact ⟨k + 1, by omega, by go_num, by rw [HST.out]; simpa using HO4.out, HB4.out⟩
      case measure => simp [intOf]; omega
    · obtain rfl : k = ys.length := by omega
      rw [List.take_length, nms_len] at hown
      obtain ⟨A4, c4, rfl⟩ := own_shape hown
      have hcap := own_cap hown
      have HRW := Lib.hid (Row.of_own (f := Str) (xs := nmsL ys) (c := c4) hown)
      have HBF := Lib.hid (HB.out.trans (hb.mono HB.out.size))
      have HCP := Lib.hid hcap
      have hge2 : ¬ ((ys.length : Nat) : Int) < ((ys.length : Nat) : Int) := by omega
      clear hown hb hcap
      go_wp2
      go_ret
      exact ⟨A4, c4, rfl, HRW.out, HCP.out.1, HCP.out.2, HBF.out⟩

set_option maxRecDepth 100000 in
set_option maxHeartbeats 4000000 in
theorem wrong_any (v0 : Int) (v1 : ByteArray) (v2 : Int) (a : Option Addr) (n c : Nat) (w : World) :
    Calls Try.prog 15 #[.agg #[.int .i64 v0, .string v1, .int .i64 v2, .slice a n c]] w fun e w' => e = .returned (.bool (decide (v0 = 8) && decide (arN v1 ≠ (n : Int)))) ∧ Below w.heap.size w w' := by
  have hb : Below w.heap.size w (w.alloc (.cells #[.int .i64 v0, .string v1, .int .i64 v2, .slice a n c] 44)) := by go_grown
  have M := Mbox.new w #[.int .i64 v0, .string v1, .int .i64 v2, .slice a n c] 44
  obtain ⟨W1, hW1⟩ : ∃ W, W = w.alloc (.cells #[.int .i64 v0, .string v1, .int .i64 v2, .slice a n c] 44) := ⟨_, rfl⟩
  rw [← hW1] at M hb
  have HB := Lib.hid hb
  have m0 := M.c 0
  have m1 := M.c 1
  have m3 := M.c 3
  clear hb M
  go_enter Try.func15, Try.ntmps15
  go_upto_region 1 with fail
  rw [← hW1]
  clear hW1
  by_cases h8 : v0 = 8
  · have q8 : (v0 == 8) = true := by simp [h8]
    have HR := Lib.hid (fun W => arity_any v1 W)
    obtain ⟨r, hr⟩ : ∃ r, r = arN v1 := ⟨_, rfl⟩
    by_cases he : r = (n : Int)
    · have q1 : ((n : Int) != r) = false := by simp [he]
      have HV : Hid ((decide (v0 = 8) && decide (arN v1 ≠ (n : Int))) = false) := Lib.hid (by rw [← hr]; simp [he])
      rw [← hr] at HR
      clear he hr h8
      go_quiet ((go_at_call 31; exact Calls.quiet_of_same ((HR.out _).mono fun _ _ h => h)))
      go_wp2
      go_ret
      exact ⟨by rw [HV.out]; rfl, below_drewN HB.out nq⟩
    · have q1 : ((n : Int) != r) = true := by simp [Ne.symm he]
      have HV : Hid ((decide (v0 = 8) && decide (arN v1 ≠ (n : Int))) = true) := Lib.hid (by rw [← hr]; simp [he, h8])
      rw [← hr] at HR
      clear he hr h8
      go_quiet ((go_at_call 31; exact Calls.quiet_of_same ((HR.out _).mono fun _ _ h => h)))
      go_wp2
      go_ret
      exact ⟨by rw [HV.out]; rfl, below_drewN HB.out nq⟩
  · have q8 : (v0 == 8) = false := by simp [h8]
    have HV : Hid ((decide (v0 = 8) && decide (arN v1 ≠ (n : Int))) = false) := Lib.hid (by simp [h8])
    clear h8
    go_quiet (fail)
    go_wp2
    go_ret
    exact ⟨by rw [HV.out]; rfl, below_drewN HB.out nq⟩

set_option maxRecDepth 100000 in
set_option maxHeartbeats 4000000 in
theorem indexF_any (A : Option Addr) (c : Nat) (xs : List Nd) (w : World) (hR : NdRow w w.heap.size A xs) (hl : xs.length ≤ 1048576) (hx : ∀ x ∈ xs, x.2.2.2.length ≤ 1048576) :
    Calls Try.prog 14 #[.slice A xs.length c, .func (.func 15) #[] #[]] w fun e w' => e = .returned (.int .i64 (fstI (firstB xs.length (badR xs)))) ∧ Below w.heap.size w w' := by
  have HXS := Lib.hid hx
  have HR := Lib.hid hR
  clear hx hR
  go_enter Try.func14, Try.ntmps14
  go_wp2_with fail
  go_loopw [8] (fun i wr => ∃ k : Nat, k ≤ xs.length ∧ i = .int .i64 k ∧ Below w.heap.size w wr ∧ ∀ j, j < k → badR xs j = false) (fun i _ => xs.length - (intOf i).toNat)
  case atStart => exact ⟨0, Nat.zero_le _, rfl, Below.refl _ _, fun j h => by omega⟩
  case round =>
    obtain ⟨k, hk, rfl, hb, hno⟩ := hrel
    have HNO := Lib.hid hno
    clear hno
    by_cases hlt : k < xs.length
    · obtain ⟨bb, o, rfl, hbl, a, ca, c0, c1, c2, c3, hca1, hca2, hrow⟩ := HR.out.at hlt
      have c0 := (hb.cell (p := ⟨bb, o + k * 4, none⟩) hbl).trans c0
      have c1 := (hb.cell (p := ⟨bb, o + k * 4 + 1, none⟩) hbl).trans c1
      have c2 := (hb.cell (p := ⟨bb, o + k * 4 + 2, none⟩) hbl).trans c2
      have c3 := (hb.cell (p := ⟨bb, o + k * 4 + 3, none⟩) hbl).trans c3
      have hl3 := HXS.out _ (List.getElem_mem hlt)
      obtain ⟨v, hv⟩ : ∃ v, v = xs[k] := ⟨_, rfl⟩
      rw [← hv] at c0 c1 c2 c3 hl3
      have HV : Hid (badR xs k = (decide (v.1 = 8) && decide (arN v.2.1 ≠ (v.2.2.2.length : Int)))) := Lib.hid (by unfold badR ndA; rw [getD_at hlt, ← hv])
      obtain ⟨v0, v1, v2, v3⟩ := v
      dsimp only at c0 c1 c2 c3 hl3 HV
      have hlt' : (k : Int) < (xs.length : Int) := by omega
      have hge' : (0 : Int) ≤ (k : Int) := by omega
      have HBW := Lib.hid hb
      have HC := Lib.hid (fun W => wrong_any v0 v1 v2 a v3.length ca W)
      obtain ⟨q, hq⟩ : ∃ q, q = (decide (v0 = 8) && decide (arN v1 ≠ (v3.length : Int))) := ⟨_, rfl⟩
      rw [← hq] at HC HV
      clear hrow hv hca1 hca2 hbl hb hq
      go_wp2_with fail
      refine (HC.out _).mono ?_
      rintro e w1 ⟨rfl, hb1⟩
      have HB1 := Lib.hid (HBW.out.trans (hb1.mono HBW.out.size))
      clear hb1 c0 c1 c2 c3
      cases q with
      | true =>
        have HF : Hid (firstB xs.length (badR xs) = some k) := Lib.hid (first_some hlt HV.out HNO.out)
        go_wp2_with fail
        go_ret
        exact ⟨by rw [HF.out]; rfl, HB1.out⟩
      | false =>
        have HN2 : Hid (∀ j, j < k + 1 → badR xs j = false) := Lib.hid (fun j hj => by
          by_cases e : j = k
          · rw [e, HV.out]
          · exact HNO.out j (by omega))
        go_wp2_with fail
        go_roundw
        case rel => exact ⟨k + 1, by omega, by go_num, HB1.out, HN2.out⟩
        case measure => simp [intOf]; omega
    · obtain rfl : k = xs.length := by omega
      have HF : Hid (firstB xs.length (badR xs) = none) := Lib.hid (first_none HNO.out)
      have HBW := Lib.hid hb
      have hge2 : ¬ ((xs.length : Nat) : Int) < ((xs.length : Nat) : Int) := by omega
      clear hb
      go_wp2_with fail
      go_ret
      exact ⟨by rw [HF.out]; rfl, HBW.out⟩


theorem not_var (T : TypeId) (V : Value) (h : T ≠ 89) (w : World) : (Instr.typeAssert (.iface T V) 62 89 true).run Try.prog w = .ok (.tuple #[.agg #[.string ⟨#[]⟩], .bool false]) w := by
  have hu := Try.underlying89
  have hz : ∀ w, (zeroValue 89).run Try.prog w = .ok (.agg #[.string ⟨#[]⟩]) w := fun w => by kernel_rfl
  simp [Instr.typeAssert, run_underlying hu, h, hz]
theorem not_call (T : TypeId) (V : Value) (h : T ≠ 93) (w : World) : (Instr.typeAssert (.iface T V) 62 93 true).run Try.prog w = .ok (.tuple #[.agg #[.slice none 0 0, .string ⟨#[]⟩], .bool false]) w := by
  have hu := Try.underlying93
  have hz : ∀ w, (zeroValue 93).run Try.prog w = .ok (.agg #[.slice none 0 0, .string ⟨#[]⟩]) w := fun w => by kernel_rfl
  simp [Instr.typeAssert, run_underlying hu, h, hz]
theorem is_var (s : ByteArray) (w : World) : (Instr.typeAssert (.iface 89 (.agg #[.string s])) 62 89 true).run Try.prog w = .ok (.tuple #[.agg #[.string s], .bool true]) w := by kernel_rfl
theorem is_call (a : Option Addr) (n c : Nat) (s : ByteArray) (w : World) : (Instr.typeAssert (.iface 93 (.agg #[.slice a n c, .string s])) 62 93 true).run Try.prog w = .ok (.tuple #[.agg #[.slice a n c, .string s], .bool true]) w := by kernel_rfl
set_option maxRecDepth 100000 in
set_option maxHeartbeats 4000000 in
theorem known_any (v0 : Int) (v1 : ByteArray) (a : Option Addr) (n c : Nat) (A : Option Addr) (cc : Nat) (zs : List ByteArray) (w : World) (hR : Row Str w w.heap.size A zs) (hz : zs.length ≤ 1048576) :
    Calls Try.prog 29 #[exV v0 v1 (.slice a n c), .slice A zs.length cc] w fun e w' => e = .returned (.bool (knB v0 v1 zs)) ∧ Below w.heap.size w w' := by
  by_cases h2 : v0 = 2
  · subst h2
    have hX : exV 2 v1 (.slice a n c) = .iface 89 (.agg #[.string v1]) := by simp [exV]
    have HK : Hid (knB 2 v1 zs = (varB v1 || inL zs v1)) := Lib.hid (by simp [knB])
    rw [hX]
    have ta := is_var v1
    have hb : Below w.heap.size w (w.alloc (.cells #[.string v1] 89)) := by go_grown
    have M := Mbox.new w #[.string v1] 89
    have hR1 := hR.later hb
    obtain ⟨W1, hW1⟩ : ∃ W, W = w.alloc (.cells #[.string v1] 89) := ⟨_, rfl⟩
    rw [← hW1] at M hb hR1
    have HB := Lib.hid hb
    have HCT := Lib.hid (contains_any A cc _ zs v1 W1 hR1 hz)
    have HVR := Lib.hid (var_any v1 W1)
    obtain ⟨p, hp⟩ : ∃ p, p = varB v1 := ⟨_, rfl⟩
    obtain ⟨q, hq⟩ : ∃ q, q = inL zs v1 := ⟨_, rfl⟩
    rw [← hp] at HVR HK
    rw [← hq] at HCT HK
    have m0 := M.c 0
    clear hX hb M hR1 hR hp hq
    go_enter Try.func29, Try.ntmps29
    go_upto_region 4 with fail
    rw [← hW1]
    clear hW1
    cases p with
    | true =>
      go_wp2_with fail
      refine HVR.out.mono ?_
      rintro e w2 ⟨rfl, rfl⟩
      go_wp2_with fail
      go_ret
      exact ⟨by rw [HK.out]; rfl, HB.out⟩
    | false =>
      go_wp2_with fail
      refine HVR.out.mono ?_
      rintro e w2 ⟨rfl, rfl⟩
      go_wp2_with fail
      refine HCT.out.mono ?_
      rintro e w2 ⟨rfl, rfl⟩
      go_wp2_with fail
      go_ret
      exact ⟨by rw [HK.out]; rfl, HB.out⟩
  by_cases h8 : v0 = 8
  · subst h8
    have hX : exV 8 v1 (.slice a n c) = .iface 93 (.agg #[.slice a n c, .string v1]) := by simp [exV]
    have HK : Hid (knB 8 v1 zs = (arN v1 != -1)) := Lib.hid (by simp [knB])
    rw [hX]
    have ta := not_var 93 (.agg #[.slice a n c, .string v1]) (by decide)
    have tb := is_call a n c v1
    have hb : Below w.heap.size w (w.alloc (.cells #[.slice a n c, .string v1] 93)) := by go_grown
    have M := Mbox.new w #[.slice a n c, .string v1] 93
    obtain ⟨W1, hW1⟩ : ∃ W, W = w.alloc (.cells #[.slice a n c, .string v1] 93) := ⟨_, rfl⟩
    rw [← hW1] at M hb
    have HB := Lib.hid hb
    have HAR := Lib.hid (arity_any v1 W1)
    obtain ⟨r, hr⟩ : ∃ r, r = arN v1 := ⟨_, rfl⟩
    rw [← hr] at HAR HK
    have m1 := M.c 1
    clear hX hb M hR hr h2
    go_enter Try.func29, Try.ntmps29
    go_upto_region 7 with fail
    rw [← hW1]
    clear hW1
    go_wp2_with fail
    refine HAR.out.mono ?_
    rintro e w2 ⟨rfl, rfl⟩
    go_wp2_with fail
    go_ret
    exact ⟨by rw [HK.out]; rfl, HB.out⟩
  · have HK : Hid (knB v0 v1 zs = true) := Lib.hid (by simp [knB, h2, h8])
    have hX : ∃ T V, exV v0 v1 (.slice a n c) = .iface T V ∧ T ≠ 89 ∧ T ≠ 93 := by
      by_cases h1 : v0 = 1
      · exact ⟨_, _, by simp only [exV]; rw [if_pos h1], by decide, by decide⟩
      · exact ⟨_, _, by simp only [exV]; rw [if_neg h1, if_neg h2, if_neg h8], by decide, by decide⟩
    obtain ⟨T, V, hX, hT1, hT2⟩ := hX
    rw [hX]
    have ta := not_var T V hT1
    have tb := not_call T V hT2
    clear hX hT1 hT2 h2 h8 hR
    go_enter Try.func29, Try.ntmps29
    go_wp2_with fail
    go_ret
    exact ⟨by rw [HK.out]; rfl, Below.refl _ _⟩
end

section
open Go.RowKit Go.Shelf

set_option maxRecDepth 100000 in
set_option maxHeartbeats 8000000 in
theorem notAsg_any (A A' : Option Addr) (c c' : Nat) (xs : List Nd) (ys : List As) (w : World) (hR : ProgIn w w.heap.size A A' xs ys) (hl2 : ys.length ≤ 1048576) :
    Calls Try.prog 16 #[pgv A A' xs.length c ys.length c'] w fun e w' => e = .returned (.int .i64 (fstI (firstB ys.length (badS ys)))) ∧ Below w.heap.size w w' := by
  obtain ⟨W1, hW1⟩ : ∃ W, W = w.alloc (.cells #[.slice A xs.length c, .slice A' ys.length c'] 26) := ⟨_, rfl⟩
  have M := Mbox.new w #[.slice A xs.length c, .slice A' ys.length c'] 26
  have hB : Below w.heap.size w (w.alloc (.cells #[.slice A xs.length c, .slice A' ys.length c'] 26)) := by go_grown
  have hR1 := (hR.alloc (Nat.le_refl _) (.cells #[.slice A xs.length c, .slice A' ys.length c'] 26)).more (B' := (w.alloc (.cells #[.slice A xs.length c, .slice A' ys.length c'] 26)).heap.size) (by simp)
  rw [← hW1] at M hB hR1
  have HM := Lib.hid M
  have HB := Lib.hid hB
  have HR := Lib.hid hR1
  clear M hB hR hR1
  go_enter Try.func16, Try.ntmps16
  go_upto_region 1 with fail
  rw [← hW1]
  clear hW1
  have m0 := HM.out.c 0
  have m1 := HM.out.c 1
  go_wp2_with fail
  refine (names_any A A' c c' xs ys W1 HR.out hl2).mono ?_
  rintro e w3 ⟨A4, c4, rfl, hr4, hc4, hm4, hb3⟩
  have HR4 := Lib.hid hr4
  have HB3 := Lib.hid (HB.out.trans (hb3.mono HB.out.size))
  clear m0 m1 hb3 hr4
  go_wp2_with fail
  go_loop [10] (fun i => ∃ k : Nat, k ≤ ys.length ∧ i = .int .i64 k ∧ ∀ j, j < k → badS ys j = false) (fun i => ys.length - (intOf i).toNat)
  case atStart => exact ⟨0, Nat.zero_le _, rfl, fun j h => by omega⟩
  case round =>
    obtain ⟨k, hk, rfl, hno⟩ := hrel
    have HNO := Lib.hid hno
    clear hno
    by_cases hlt : k < ys.length
    · obtain ⟨b, o, rfl, _, hc0⟩ := HR4.out.at (k := k) (by rw [nms_len]; exact hlt)
      obtain ⟨v, hv⟩ : ∃ v, v = (ys[k]).1 := ⟨_, rfl⟩
      have hc : w3.cell? ⟨b, o + k, none⟩ = some (.string v) := by rw [hc0, hv]; simp [nmsL]
      have hlt' : (k : Int) < (ys.length : Int) := by omega
      have hge' : (0 : Int) ≤ (k : Int) := by omega
      have hkc : (k : Int) ≤ (c4 : Int) := by omega
      have htl : ((nmsL ys).take k).length = k := by rw [List.length_take, nms_len]; omega
      have hct := contains_any (some ⟨b, o, none⟩) c4 w3.heap.size ((nmsL ys).take k) v w3 (HR4.out.take k) (by omega)
      rw [htl] at hct
      have HVR := Lib.hid (var_any v w3)
      have HBD : Hid (badS ys k = (varB v || inL ((nmsL ys).take k) v)) := Lib.hid (by
        unfold badS
        rw [getD_at hlt, ← hv]
        congr 1
        have h1 := asgd_iff ys v k hk
        rw [nms_take] at h1
        rw [Bool.eq_iff_iff, decide_eq_true_eq]
        exact h1)
      obtain ⟨p, hp⟩ : ∃ p, p = varB v := ⟨_, rfl⟩
      obtain ⟨q, hq⟩ : ∃ q, q = inL ((nmsL ys).take k) v := ⟨_, rfl⟩
      rw [← hp] at HVR HBD
      rw [← hq] at hct HBD
      have HCT := Lib.hid hct
      clear hct hc0 hv hp hq htl
      have HYES : Hid (p = true ∨ q = true → fstI (firstB ys.length (badS ys)) = (k : Int)) := Lib.hid (fun h => by
        rw [first_some hlt (by rw [HBD.out]; rcases h with rfl | rfl <;> simp) HNO.out]
        rfl)
      cases p with
      | true =>
        have HY := Lib.hid (HYES.out (.inl rfl))
        go_wp2_with fail
        refine HVR.out.mono ?_
        rintro e w8 ⟨rfl, rfl⟩
        go_wp2_with fail
        go_ret
        exact ⟨by rw [HY.out]; rfl, HB3.out⟩
      | false =>
        go_wp2_with fail
        refine HVR.out.mono ?_
        rintro e w8 ⟨rfl, rfl⟩
        go_wp2_with fail
        refine HCT.out.mono ?_
        rintro e w8 ⟨rfl, rfl⟩
        cases q with
        | true =>
          have HY := Lib.hid (HYES.out (.inr rfl))
          go_wp2_with fail
          go_ret
          exact ⟨by rw [HY.out]; rfl, HB3.out⟩
        | false =>
          have HN2 : Hid (∀ j, j < k + 1 → badS ys j = false) := Lib.hid (fun j hj => by
            by_cases e : j = k
            · rw [e, HBD.out]
              rfl
            · exact HNO.out j (by omega))
          go_wp2_with fail
          go_round
          case rel => exact ⟨k + 1, by omega, by go_num, HN2.out⟩
          case measure => simp [intOf]; omega
    · obtain rfl : k = ys.length := by omega
      have HF : Hid (firstB ys.length (badS ys) = none) := Lib.hid (first_none HNO.out)
      have hge2 : ¬ ((ys.length : Nat) : Int) < ((ys.length : Nat) : Int) := by omega
      go_wp2_with fail
      go_ret
      exact ⟨by rw [HF.out]; rfl, HB3.out⟩

set_option maxRecDepth 100000 in
set_option maxHeartbeats 8000000 in
theorem unknown_any (A A' : Option Addr) (c c' : Nat) (xs : List Nd) (ys : List As) (w : World) (hR : ProgIn w w.heap.size A A' xs ys) (hok : okPr xs ys) :
    Calls Try.prog 13 #[pgv A A' xs.length c ys.length c'] w fun e w' => e = .returned (.int .i64 (fstI (firstB xs.length (badN xs ys)))) ∧ Below w.heap.size w w' := by
  have hlen := okPr_len hok
  have h60 : xs.length ≤ 60 := hok.1
  have hy60 : ys.length ≤ 60 := by omega
  have HOK := Lib.hid hok
  have HXS := Lib.hid (fun k (h : k < xs.length) => args_at_len h)
  have HLEN := Lib.hid hlen
  clear hok hlen
  obtain ⟨W1, hW1⟩ : ∃ W, W = w.alloc (.cells #[.slice A xs.length c, .slice A' ys.length c'] 26) := ⟨_, rfl⟩
  have M := Mbox.new w #[.slice A xs.length c, .slice A' ys.length c'] 26
  have hB : Below w.heap.size w (w.alloc (.cells #[.slice A xs.length c, .slice A' ys.length c'] 26)) := by go_grown
  have hR1 := (hR.alloc (Nat.le_refl _) (.cells #[.slice A xs.length c, .slice A' ys.length c'] 26)).more (B' := (w.alloc (.cells #[.slice A xs.length c, .slice A' ys.length c'] 26)).heap.size) (by simp)
  rw [← hW1] at M hB hR1
  have HM := Lib.hid M
  have HB := Lib.hid hB
  have HR := Lib.hid hR1
  clear M hB hR hR1
  go_enter Try.func13, Try.ntmps13
  go_upto_region 1 with fail
  rw [← hW1]
  clear hW1
  obtain ⟨p0, hp0⟩ : ∃ p, p = w.heap.size := ⟨_, rfl⟩
  have hm := HM.out
  rw [← hp0] at hm ⊢
  clear hp0
  have HT : Held W1 W1 [(p0, [.slice A xs.length c, .slice A' ys.length c'])] := (Held.nil W1).cons hm
  have HC : ∀ W', Held W1 W' [(p0, [.slice A xs.length c, .slice A' ys.length c'])] → W'.cell? ⟨p0, 0, none⟩ = some (.slice A xs.length c) ∧ W'.cell? ⟨p0, 1, none⟩ = some (.slice A' ys.length c') := fun W' h => ⟨(h.box 0).c 0, (h.box 0).c 1⟩
  have HRW := Lib.hid (fun W (h : Below W1.heap.size W1 W) => HR.out.later h)
  have HNA := Lib.hid (fun W (h : ProgIn W W.heap.size A A' xs ys) => names_any A A' c c' xs ys W h (by omega))
  have HOA := Lib.hid (fun W (h : ProgIn W W.heap.size A A' xs ys) => owners_any A A' c c' xs ys W h HOK.out)
  clear hm
  go_cut [3, 4] (fun y z wx => ∃ A4 c4 A5, y = .slice A4 ys.length c4 ∧ z = .slice A5 xs.length xs.length ∧ Row Str wx wx.heap.size A4 (nmsL ys) ∧ ys.length ≤ c4 ∧ c4 ≤ maxLen ∧ Row I64 wx wx.heap.size A5 ((List.range xs.length).map (ownV xs ys)) ∧ Held W1 wx [(p0, [.slice A xs.length c, .slice A' ys.length c'])])
  case first =>
    go_region_held3 (fun W' => W'.cell? ⟨p0, 0, none⟩ = some (.slice A xs.length c) ∧ W'.cell? ⟨p0, 1, none⟩ = some (.slice A' ys.length c'))
      (first | (with_reducible exact HC _ HT) | (with_reducible exact HC _ HT.drew))
      ((first | (go_at_call 18; (with_reducible refine (HNA.out _ (by first | with_reducible exact HRW.out _ HT.below | with_reducible exact HRW.out _ HT.drew.below)).mono ?_); rintro e w7 ⟨A4, c4, rfl, R4, hc4, hm4, hb7⟩; (first | (have HT := HT.later hb7) | (have HT := HT.drew.later hb7)); (try (have R5 := R5.later hb7))) | (go_at_call 20; (with_reducible refine (HOA.out _ (by first | with_reducible exact HRW.out _ HT.below | with_reducible exact HRW.out _ HT.drew.below)).mono ?_); rintro e w7 ⟨A5, rfl, R5, hb7⟩; (first | (have HT := HT.later hb7) | (have HT := HT.drew.later hb7)); (try (have R4 := R4.later hb7)))))
    all_goals (go_wp2_with fail; go_meet)
    all_goals (first | exact ⟨A4, c4, A5, rfl, rfl, R4, hc4, hm4, R5, HT⟩ | exact ⟨A4, c4, A5, rfl, rfl, R4, hc4, hm4, R5, HT.drew⟩)
  case rest =>
    clear HC HT HNA HOA
    obtain ⟨A4, c4, A5, rfl, rfl, hr4, hc4, hm4, hr5, HT⟩ := hcut
    have m0 := (HT.box 0).c 0
    have m1 := (HT.box 0).c 1
    obtain ⟨w3, hw3⟩ : ∃ x, x = wc := ⟨_, rfl⟩
    rw [← hw3] at hr4 hr5 HT m0 m1 ⊢
    clear hw3
    have HB3 := Lib.hid (HB.out.trans (HT.below.mono HB.out.size))
    have HR3 := Lib.hid (HRW.out _ HT.below)
    have HR4 := Lib.hid hr4
    have HR5 := Lib.hid hr5
    clear hr4 hr5 HT HRW HR HB HM
    go_wp2_with fail
    go_loopw [14] (fun i wr => ∃ k : Nat, k ≤ xs.length ∧ i = .int .i64 k ∧ Below w3.heap.size w3 wr ∧ ∀ j, j < k → badN xs ys j = false) (fun i _ => xs.length - (intOf i).toNat)
    case atStart => exact ⟨0, Nat.zero_le _, rfl, Below.refl _ _, fun j h => by omega⟩
    case round =>
      clear m0 m1
      obtain ⟨k, hk, rfl, hb, hno⟩ := hrel
      have HNO := Lib.hid hno
      clear hno
      by_cases hlt : k < xs.length
      · obtain ⟨bb, o, rfl, hbl, a, ca, c0, c1, c2, c3, hca1, hca2, hrow⟩ := HR3.out.1.at hlt
        obtain ⟨b3, o3, rfl, hbl3, hz0⟩ := HR5.out.at (k := k) (by simp; omega)
        have hbd := ownV_bd HOK.out hlt
        obtain ⟨z, hzz⟩ : ∃ z : Nat, ownV xs ys k = (z : Int) := ⟨(ownV xs ys k).toNat, by omega⟩
        have hz : w3.cell? ⟨b3, o3 + k, none⟩ = some (.int .i64 z) := by rw [← hzz]; simpa using hz0
        clear hz0
        have c0 := (hb.cell (p := ⟨bb, o + k * 4, none⟩) hbl).trans c0
        have c1 := (hb.cell (p := ⟨bb, o + k * 4 + 1, none⟩) hbl).trans c1
        have c2 := (hb.cell (p := ⟨bb, o + k * 4 + 2, none⟩) hbl).trans c2
        have c3 := (hb.cell (p := ⟨bb, o + k * 4 + 3, none⟩) hbl).trans c3
        have hz := (hb.cell (p := ⟨b3, o3 + k, none⟩) hbl3).trans hz
        have hl3 := HXS.out _ hlt
        have hzl : z ≤ ys.length := by omega
        have HBN := Lib.hid (badN_kn xs ys k hzz hzl)
        obtain ⟨v, hv⟩ : ∃ v, v = xs[k] := ⟨_, rfl⟩
        have hV : ndA xs k = v := by unfold ndA; rw [getD_at hlt]; exact hv.symm
        rw [hV] at HBN
        rw [← hv] at c0 c1 c2 c3 hl3
        obtain ⟨v0, v1, v2, v3⟩ := v
        dsimp only at c0 c1 c2 c3 hl3 HBN
        have hlt' : (k : Int) < (xs.length : Int) := by omega
        have hge' : (0 : Int) ≤ (k : Int) := by omega
        have hz0' : (0 : Int) ≤ (z : Int) := by omega
        have hzc : (z : Int) ≤ (c4 : Int) := by omega
        have hv60 : v3.length ≤ 60 := by have := HLEN.out; omega
        have hZB : b3 < wr.heap.size := Nat.lt_of_lt_of_le hbl3 hb.size
        have hb2 : Below wr.heap.size wr (wr.alloc (.cells #[.int .i64 v0, .string v1, .int .i64 v2, .slice a v3.length ca] 44)) := by go_grown
        have hz := (hb2.cell (p := ⟨b3, o3 + k, none⟩) hZB).trans hz
        have hb := hb.trans (hb2.mono hb.size)
        have hZB2 := Nat.lt_of_lt_of_le hZB hb2.size
        clear hrow hv hca1 hca2 hbl hbl3 hZB hb2 hV hl3 hzz hbd
        go_upto_region 5 with fail
        obtain ⟨W2, hW2⟩ : ∃ W, W = wr.alloc (.cells #[.int .i64 v0, .string v1, .int .i64 v2, .slice a v3.length ca] 44) := ⟨_, rfl⟩
        obtain ⟨g, hg⟩ : ∃ g, g = wr.heap.size := ⟨_, rfl⟩
        have M2 := Mbox.new wr #[.int .i64 v0, .string v1, .int .i64 v2, .slice a v3.length ca] 44
        rw [← hW2] at M2 hz hb hZB2 ⊢
        rw [← hg] at M2 ⊢
        clear hW2 hg c0 c1 c2 c3
        have HT : Held W2 W2 [(g, [.int .i64 v0, .string v1, .int .i64 v2, .slice a v3.length ca])] := (Held.nil W2).cons M2
        have HC : ∀ W', Held W2 W' [(g, [.int .i64 v0, .string v1, .int .i64 v2, .slice a v3.length ca])] → W'.cell? ⟨g, 0, none⟩ = some (.int .i64 v0) ∧ W'.cell? ⟨g, 1, none⟩ = some (.string v1) ∧ W'.cell? ⟨g, 2, none⟩ = some (.int .i64 v2) ∧ W'.cell? ⟨g, 3, none⟩ = some (.slice a v3.length ca) ∧ W'.cell? ⟨b3, o3 + k, none⟩ = some (.int .i64 z) := fun W' h => ⟨(h.box 0).c 0, (h.box 0).c 1, (h.box 0).c 2, (h.box 0).c 3, (h.below.cell (p := ⟨b3, o3 + k, none⟩) hZB2).trans hz⟩
        have HEX := Lib.hid (fun W => expr_any v0 v1 v2 a v3.length ca W)
        have htl : ((nmsL ys).take z).length = z := by rw [List.length_take, nms_len]; omega
        have hkn := fun W (h : Below W2.heap.size W2 W) => known_any v0 v1 a v3.length ca A4 c4 ((nmsL ys).take z) W (((HR4.out.later hb).later h).take z) (by omega)
        simp only [htl] at hkn
        rw [nms_take] at HBN
        obtain ⟨X, hX⟩ : ∃ X, X = exV v0 v1 (.slice a v3.length ca) := ⟨_, rfl⟩
        obtain ⟨B1, hB1⟩ : ∃ B, B = knB v0 v1 ((nmsL ys).take z) := ⟨_, rfl⟩
        rw [← hX] at HEX hkn
        rw [← hB1] at hkn HBN
        have HKN := Lib.hid hkn
        have HBW := Lib.hid hb
        clear M2 hz hb hZB2 hkn hX hB1 htl
        go_cut [28] (fun y wx => y = .bool (!B1) ∧ Held W2 wx [(g, [.int .i64 v0, .string v1, .int .i64 v2, .slice a v3.length ca])])
        case first =>
          go_region_held3 (fun W' => W'.cell? ⟨g, 0, none⟩ = some (.int .i64 v0) ∧ W'.cell? ⟨g, 1, none⟩ = some (.string v1) ∧ W'.cell? ⟨g, 2, none⟩ = some (.int .i64 v2) ∧ W'.cell? ⟨g, 3, none⟩ = some (.slice a v3.length ca) ∧ W'.cell? ⟨b3, o3 + k, none⟩ = some (.int .i64 z))
            (first | (with_reducible exact HC _ HT) | (with_reducible exact HC _ HT.drew))
            ((first | (go_at_call 30; (with_reducible refine (HEX.out _).mono ?_); rintro e w7 ⟨rfl, hb7⟩; (first | (have HT := HT.later hb7) | (have HT := HT.drew.later hb7))) | (go_at_call 29; (with_reducible refine (HKN.out _ (by first | with_reducible exact HT.below | with_reducible exact HT.drew.below)).mono ?_); rintro e w7 ⟨rfl, hb7⟩; (first | (have HT := HT.later hb7) | (have HT := HT.drew.later hb7)))))
          all_goals (go_wp2_with fail; go_meet)
          all_goals (first | exact ⟨rfl, HT⟩ | exact ⟨rfl, HT.drew⟩)
        case rest =>
          clear HC HT HEX HKN
          obtain ⟨rfl, HT⟩ := hcut
          have HBX := Lib.hid (HBW.out.trans (HT.below.mono HBW.out.size))
          clear HT
          cases B1 with
          | false =>
            have HF : Hid (firstB xs.length (badN xs ys) = some k) := Lib.hid (first_some hlt HBN.out HNO.out)
            have HF2 := Lib.hid (HB3.out.trans (HBX.out.mono HB3.out.size))
            go_wp2_with fail
            go_ret
            exact ⟨by rw [HF.out]; rfl, HF2.out⟩
          | true =>
            have HN2 : Hid (∀ j, j < k + 1 → badN xs ys j = false) := Lib.hid (fun j hj => by
              by_cases e : j = k
              · rw [e, HBN.out]
                rfl
              · exact HNO.out j (by omega))
            go_wp2_with fail
            go_roundw
            case rel => exact ⟨k + 1, by omega, by go_num, HBX.out, HN2.out⟩
            case measure => simp [intOf]; omega
      · obtain rfl : k = xs.length := by omega
        have HF : Hid (firstB xs.length (badN xs ys) = none) := Lib.hid (first_none HNO.out)
        have HF2 := Lib.hid (HB3.out.trans (hb.mono HB3.out.size))
        have hge2 : ¬ ((xs.length : Nat) : Int) < ((xs.length : Nat) : Int) := by omega
        clear hb
        go_wp2_with fail
        go_ret
        exact ⟨by rw [HF.out]; rfl, HF2.out⟩

set_option maxRecDepth 100000 in
set_option maxHeartbeats 8000000 in
theorem check_any (A A' : Option Addr) (c c' : Nat) (xs : List Nd) (ys : List As) (w : World) (hR : ProgIn w w.heap.size A A' xs ys) (hl : xs.length ≤ 1048576) (hl2 : ys.length ≤ 1048576) (hz : ys.length + (argsL xs).length ≤ 1099511627776) (hx : ∀ x ∈ xs, x.2.1.size ≤ 1048576 ∧ x.2.2.2.length ≤ 1048576) (hy : ∀ y ∈ ys, y.1.size ≤ 1048576) :
    Calls Try.prog 5 #[pgv A A' xs.length c ys.length c'] w fun e w' => e = .returned (.tuple #[.int .i64 (chkP xs ys).1, .int .i64 (chkP xs ys).2]) ∧ Below w.heap.size w w' := by
  have HVC := Lib.hid (fun W (h : ProgIn W W.heap.size A A' xs ys) => isValidProg_any A A' c c' xs ys W h hl hl2 hz hx hy)
  have HXS := Lib.hid (fun x (h : x ∈ xs) => (hx x h).2)
  clear hz hx hy
  obtain ⟨W1, hW1⟩ : ∃ W, W = w.alloc (.cells #[.slice A xs.length c, .slice A' ys.length c'] 26) := ⟨_, rfl⟩
  have M := Mbox.new w #[.slice A xs.length c, .slice A' ys.length c'] 26
  have hB : Below w.heap.size w (w.alloc (.cells #[.slice A xs.length c, .slice A' ys.length c'] 26)) := by go_grown
  have hR1 := (hR.alloc (Nat.le_refl _) (.cells #[.slice A xs.length c, .slice A' ys.length c'] 26)).more (B' := (w.alloc (.cells #[.slice A xs.length c, .slice A' ys.length c'] 26)).heap.size) (by simp)
  rw [← hW1] at M hB hR1
  have HM := Lib.hid M
  have HB := Lib.hid hB
  have HR := Lib.hid hR1
  clear M hB hR hR1
  go_enter Try.func5, Try.ntmps5
  go_upto_region 1 with fail
  rw [← hW1]
  clear hW1
  have m0 := HM.out.c 0
  have m1 := HM.out.c 1
  go_wp2_with fail
  refine (HVC.out _ HR.out).mono ?_
  rintro e w2 hq
  obtain ⟨v, rfl, hv, hb2⟩ := hq
  have HM2 := Lib.hid (HM.out.later hb2)
  have HB2 := Lib.hid (HB.out.trans (hb2.mono HB.out.size))
  have HR2 := Lib.hid (HR.out.later hb2)
  clear m0 m1 HB HR HM
  cases v with
  | false =>
    have HC1 := Lib.hid (chk_bad (fun k => by have := hv.2 k; cases this))
    clear hv hb2
    go_wp2_with fail
    exact bodyPost_ret (v := .tuple #[.int .i64 1, .int .i64 0]) (by simp [results, Try.results5, go_sem]) rfl ⟨by rw [HC1.out], HB2.out⟩
  | true =>
    have hok : okPr xs ys := hv.1 rfl
    have h60 : xs.length ≤ 60 := hok.1
    have hy60 : ys.length ≤ 60 := by have := okPr_len hok; omega
    have HOK := Lib.hid hok
    have m0 := HM2.out.c 0
    have m1 := HM2.out.c 1
    have HNC := Lib.hid (unknown_any A A' c c' xs ys w2 HR2.out hok)
    clear hv hb2 hok
    cases hf : firstB xs.length (badN xs ys) with
    | some i =>
      have HC1 := Lib.hid (chk_n HOK.out hf)
      rw [hf] at HNC
      unfold fstI at HNC
      dsimp only at HNC
      have hi : ((i : Int) != -1) = true := by rw [bne_iff_ne]; omega
      clear hf
      go_wp2_with fail
      refine HNC.out.mono ?_
      rintro e w3 ⟨rfl, hb3⟩
      have HB3 := Lib.hid (HB2.out.trans (hb3.mono HB2.out.size))
      clear hb3 m0 m1
      go_wp2_with fail
      exact bodyPost_ret (v := .tuple #[.int .i64 2, .int .i64 i]) (by simp [results, Try.results5, go_sem]) rfl ⟨by rw [HC1.out], HB3.out⟩
    | none =>
      have HN1 := Lib.hid hf
      rw [hf] at HNC
      unfold fstI at HNC
      dsimp only at HNC
      clear hf
      go_wp2_with fail
      refine HNC.out.mono ?_
      rintro e w3 ⟨rfl, hb3⟩
      have HB3 := Lib.hid (HB2.out.trans (hb3.mono HB2.out.size))
      have HM3 := Lib.hid (HM2.out.later hb3)
      have HR3 := Lib.hid (HR2.out.later hb3)
      have HNC := Lib.hid (indexF_any A c xs w3 HR3.out.1 hl (fun x h => HXS.out x h))
      clear hb3 m0 m1
      have m0 := HM3.out.c 0
      have m1 := HM3.out.c 1
      cases hf : firstB xs.length (badR xs) with
      | some i =>
        have HC1 := Lib.hid (chk_r HOK.out HN1.out hf)
        rw [hf] at HNC
        unfold fstI at HNC
        dsimp only at HNC
        have hi : ((i : Int) != -1) = true := by rw [bne_iff_ne]; omega
        clear hf
        go_wp2_with fail
        refine HNC.out.mono ?_
        rintro e w4 ⟨rfl, hb4⟩
        have HB4 := Lib.hid (HB3.out.trans (hb4.mono HB3.out.size))
        clear hb4 m0 m1
        go_wp2_with fail
        exact bodyPost_ret (v := .tuple #[.int .i64 3, .int .i64 i]) (by simp [results, Try.results5, go_sem]) rfl ⟨by rw [HC1.out], HB4.out⟩
      | none =>
        have HN2 := Lib.hid hf
        rw [hf] at HNC
        unfold fstI at HNC
        dsimp only at HNC
        clear hf
        go_wp2_with fail
        refine HNC.out.mono ?_
        rintro e w4 ⟨rfl, hb4⟩
        have HB4 := Lib.hid (HB3.out.trans (hb4.mono HB3.out.size))
        have HM4 := Lib.hid (HM3.out.later hb4)
        have HR4 := Lib.hid (HR3.out.later hb4)
        have HNC := Lib.hid (notAsg_any A A' c c' xs ys w4 HR4.out hl2)
        clear hb4 m0 m1
        have m0 := HM4.out.c 0
        have m1 := HM4.out.c 1
        cases hf : firstB ys.length (badS ys) with
        | some i =>
          have HC1 := Lib.hid (chk_s HOK.out HN1.out HN2.out hf)
          rw [hf] at HNC
          unfold fstI at HNC
          dsimp only at HNC
          have hi : ((i : Int) != -1) = true := by rw [bne_iff_ne]; omega
          clear hf
          go_wp2_with fail
          refine HNC.out.mono ?_
          rintro e w5 ⟨rfl, hb5⟩
          have HB5 := Lib.hid (HB4.out.trans (hb5.mono HB4.out.size))
          clear hb5 m0 m1
          go_wp2_with fail
          exact bodyPost_ret (v := .tuple #[.int .i64 4, .int .i64 i]) (by simp [results, Try.results5, go_sem]) rfl ⟨by rw [HC1.out], HB5.out⟩
        | none =>
          have HN3 := Lib.hid hf
          rw [hf] at HNC
          unfold fstI at HNC
          dsimp only at HNC
          clear hf
          go_wp2_with fail
          refine HNC.out.mono ?_
          rintro e w5 ⟨rfl, hb5⟩
          have HB5 := Lib.hid (HB4.out.trans (hb5.mono HB4.out.size))
          have HM5 := Lib.hid (HM4.out.later hb5)
          have HR5 := Lib.hid (HR4.out.later hb5)
          clear hb5 m0 m1
          have m0 := HM5.out.c 0
          have m1 := HM5.out.c 1
          go_wp2_with fail
          refine (names_any A A' c c' xs ys w5 HR5.out hl2).mono ?_
          rintro e w6 ⟨A4, c4, rfl, hr4, hc4, hm4, hb6⟩
          have HB6 := Lib.hid (HB5.out.trans (hb6.mono HB5.out.size))
          have hct := contains_any A4 c4 w6.heap.size (nmsL ys) ⟨#[99, 111, 108, 111, 114]⟩ w6 hr4 (by rw [nms_len]; exact hl2)
          rw [nms_len] at hct
          have HQ : Hid (0 ≤ asgd ys ⟨#[99, 111, 108, 111, 114]⟩ ys.length ↔ inL (nmsL ys) ⟨#[99, 111, 108, 111, 114]⟩ = true) := Lib.hid (by
            have h1 := asgd_iff ys ⟨#[99, 111, 108, 111, 114]⟩ ys.length (Nat.le_refl _)
            rw [List.take_length] at h1
            exact h1)
          obtain ⟨q, hq⟩ : ∃ q, q = inL (nmsL ys) ⟨#[99, 111, 108, 111, 114]⟩ := ⟨_, rfl⟩
          rw [← hq] at hct HQ
          have HCT := Lib.hid hct
          clear hct hr4 hc4 hm4 hb6 m0 m1 hq
          go_wp2_with fail
          refine HCT.out.mono ?_
          rintro e w7 ⟨rfl, rfl⟩
          cases q with
          | false =>
            have HC1 := Lib.hid (chk_c HOK.out HN1.out HN2.out HN3.out (by have h1 := HQ.out; have h2 : ¬ (0 ≤ asgd ys ⟨#[99, 111, 108, 111, 114]⟩ ys.length) := fun h => by (have := h1.1 h; cases this)
                                                                           omega))
            go_wp2_with fail
            exact bodyPost_ret (v := .tuple #[.int .i64 5, .int .i64 0]) (by simp [results, Try.results5, go_sem]) rfl ⟨by rw [HC1.out], HB6.out⟩
          | true =>
            have HC1 := Lib.hid (chk_0 HOK.out HN1.out HN2.out HN3.out (by have h1 := HQ.out.2 rfl; omega))
            go_wp2_with fail
            exact bodyPost_ret (v := .tuple #[.int .i64 0, .int .i64 0]) (by simp [results, Try.results5, go_sem]) rfl ⟨by rw [HC1.out], HB6.out⟩
end
end Go.Proofs.Ytlcnjiephbhdaaa
