/-
  Proved: the law FnFloor returns true for every input and its arguments read behind the call as they read before. Conditions: none of our own; those of the given row alone. The frame was written by the kit's program, the walk by hand.
-/
import Derived.Test.YtnjncihnhjaddaaRows
import Derived.WalkKit
import Derived.Test.YtnjncihnhjaddaaInts
import Derived.Test.YtnjncihnhjaddaaMem
import Derived.Test.YtnjncihnhjaddaaIntS
import Derived.Test.YtnjncihnhjaddaaCur
import Derived.Test.YtnjncihnhjaddaaNums
import Derived.ProofKit
import Derived.OpenShut
import Derived.ShutString
import Derived.ChangeOld
import Derived.Below
namespace Go.Proofs.Ytnjncihnhjaddaa.fnFloor
open Go.ChangeShapes Go.WideShapes Go.ChangeAt Go.RowKit
open Go.ChangeMaps (open_string shut_string)
set_option linter.unusedVariables false

theorem own : ownKnob Try.prog.godebug = none := by kernel_rfl
theorem laidOut : laidOutB Try.prog = true := by kernel_rfl

/-- WHAT THE WALK IS TOLD OF A SLICE OF INTEGERS THAT CAME IN: it is nil; or it leads to a row of 'cap' cells, the numbers 'zs' (the first 'len' are its elements, the rest its spare room), each fitting its kind. -/
def IsRow (k : IntKind) (w : World) (a : Option Addr) (len cap : Nat) (zs : List Int) : Prop :=
  (a = none ∧ len = 0 ∧ cap = 0 ∧ zs = []) ∨
  ∃ x, a = some x ∧ len ≤ cap ∧ cap ≤ maxLen ∧ zs.length = cap ∧ (∀ i, i < zs.length → w.cell? (x.add i) = some (.int k (zs.getD i 0))) ∧ ∀ n ∈ zs, (Lit.int k n).wf = true

theorem row_of {w : World} {a : Option Addr} {len cap : Nat} {zs : List Int} (h : IsRow .u8 w a len cap zs) : ∃ xs : List Int, len = xs.length ∧ Row U8 w w.heap.size a xs ∧ ∀ x ∈ xs, 0 ≤ x ∧ x ≤ 255 := by
  rcases h with ⟨rfl, rfl, rfl, rfl⟩ | ⟨x, rfl, hl, hm, hz, hcell, hwz⟩
  · exact ⟨[], rfl, Row.nil, by simp⟩
  · refine ⟨zs.take len, by simp; omega, fun hn => ?_, fun y hy => bounds_u8 (hwz y (List.mem_of_mem_take hy))⟩
    simp at hn
    have h0 := hcell 0 (by omega)
    obtain ⟨b, o, s⟩ := x
    have hs : s = none := by simpa [Addr.add] using World.cell?_spot h0
    subst hs
    have e : ∀ k, (⟨b, o, none⟩ : Addr).add k = ⟨b, o + k, none⟩ := fun k => by unfold Addr.add; split <;> simp_all
    refine ⟨b, o, rfl, ?_, fun k hk => ?_⟩
    · exact World.block_lt_of_cell? w _ h0
    · have := hcell k (by simp at hk; omega)
      rw [e] at this
      rw [this]
      simp at hk
      simp [List.getD, show k < zs.length by omega]

theorem walk (a0 : Option Addr) (len0 cap0 : Nat) (z0 : List Int) (w : World) (w0 : IsRow .u8 w a0 len0 cap0 z0) :
    Calls Try.prog 3 #[.slice a0 len0 cap0] w fun e w' => e = .returned (.bool true) ∧ Below w.heap.size w w' := by
  obtain ⟨xs, rfl, hR, h8⟩ := row_of w0
  clear w0
  have H8 := Lib.hid h8
  clear h8
  by_cases hbig : xs.length ≤ 1048576
  · go_enter Try.func3, Try.ntmps3
    go_wp2_with fail
    refine (makeNum_any _ _ xs _ _ hR H8.out hbig (by omega) (by omega)).mono ?_
    rintro e w1 ⟨x, x0, x1, rfl, hb1⟩
    have hR1 := hR.later hb1
    clear hR
    go_wp2_with fail
    refine (makeNum_any _ _ xs _ _ hR1 H8.out hbig (by omega) (by omega)).mono ?_
    rintro e w2 ⟨y, y0, y1, rfl, hb2⟩
    have hR2 := hR1.later hb2
    have hb12 := hb1.trans (hb2.mono hb1.size)
    clear hR1 hb1 hb2
    have m0 := Int.emod_nonneg y (b := 50) (by omega)
    have m1 := Int.emod_lt_of_pos y (b := 50) (by omega)
    go_wp2_with fail
    refine (floorDiv_any _ _ _ (by omega) (by omega)).mono ?_
    rintro e w' ⟨rfl, rfl⟩
    obtain ⟨g0, g1, _⟩ := fdivP_mul (x - 30000) (1 + y % 50) (by omega)
    rw [Int.mul_comm] at g0 g1
    go_wp2_with fail
    refine (makeInts_any _ _ xs _ hR2 H8.out hbig).mono ?_
    rintro e w3 ⟨A3, c3, zs, rfl, ho3, hl3, hz3, hb3⟩
    have HO3 := Lib.hid ho3
    have HZ3 := Lib.hid hz3
    have HB3 := Lib.hid (hb12.trans (hb3.mono hb12.size))
    have HS3 := hb3.size
    have HS2 := hb12.size
    clear ho3 hz3 hb3 hb12 hR2
    go_wp2_with (at_builtin; refine wpList_app1 w3 rfl _ _ 26 rfl _ 3 (.int .i64 0) 8 Try.underlying26 infoInt rfl _ _ _ (by rfl) HO3.out _ (by rfl) (by rfl) (by unfold maxLen; omega) (by omega) HS3 ?_)
    intro v4 w4 ho4 hg4
    obtain ⟨A4, c4, rfl⟩ := own_shape ho4
    have HB4 := Lib.hid (HB3.out.grown hg4 (by omega) (fun r h => by have := own_block HO3.out r h; omega))
    have e4 : zs.length + 1 = (zs ++ [x - 30000]).length := by simp
    have hR4 : Row I64 w4 w4.heap.size A4 (zs ++ [x - 30000]) := by
      rw [e4] at ho4
      exact Row.of_own (by simpa using ho4)
    rw [e4]
    have hl4 : (zs ++ [x - 30000]).length ≤ 1152921504606846976 := by simp; omega
    have hh := hashP_bd (zs ++ [x - 30000])
    generalize zs ++ [x - 30000] = us at hR4 hl4 hh ⊢
    have HR4 := Lib.hid hR4
    clear ho4 hg4 hR4 e4
    go_wp2_with fail
    refine (hashInts_any _ _ us _ _ HR4.out hl4).mono ?_
    rintro e w' ⟨rfl, rfl⟩
    have hcl := clampP_bd (x - 30000) 1 9 (by omega)
    go_wp2_with ((go_at_call 15; refine (clamp_any _ _ _ _).mono ?_; rintro e w' ⟨rfl, rfl⟩))
    go_ret
    exact ⟨rfl, HB4.out⟩
  · go_enter Try.func3, Try.ntmps3
    go_wp2_with fail
    go_ret
    exact ⟨rfl, Below.refl _ _⟩

set_option maxRecDepth 100000 in
theorem lifted (os : Os) (started : os.Started) (H : Type) (enc : TypeId × Value → H) :
    ReturnsInHanded {} Try.checked os 3 .any (Rows.fnFloorSpec.pre6 enc Try.prog Try.f3 Rows.fnFloorRow.domain false) (Rows.fnFloorSpec.post enc Try.prog Try.f3 false true false false) := by
  refine returnsInHanded_of_change (C := Try.checked) own started (by kernel_rfl) Try.func3
    (ChangeSpec.witness6 (enc := enc) (C := Try.checked) false ⟨#[], #[.slice none 0 0], []⟩ 8 (by kernel_rfl) (by kernel_rfl) (by kernel_rfl) (by kernel_rfl)) ?_
  intro W base args ds gs before hval0 hW hcnd _
  have hval : ∀ (j : Nat) t v, Try.f3.params[j]? = some t → args[j]? = some v → Value.okWide Try.prog W .any base t v := hval0
  have hW' := hW
  obtain ⟨p, q, hA0, hV, rfl, hfz, hnd⟩ := hW
  have hA : DataW.TrodAll enc Try.prog W 0 (fun _ => true) true Try.f3.params.toList args.toList ds p := hA0
  rw [Try.params3] at hA hval
  obtain ⟨v0, vs0, d0, ds0, p0, q0, hargs, rfl, rfl, h0, r0⟩ := trodAll_cons hA
  obtain ⟨rfl, rfl, rfl⟩ := trodAll_nil r0
  obtain rfl : args = #[v0] := by cases args; simp_all
  obtain ⟨rfl, rfl⟩ := trodVars_none hV
  obtain ⟨a0, len0, cap0, rfl⟩ := okWide_slice Try.underlying22 (hval 0 22 v0 rfl rfl)
  have k0 := h0
  have lt0 : ∀ x ∈ p0, x.block < W.heap.size := by obtain ⟨m, hm⟩ := k0; exact DataW.trod_lt m _ _ _ hm
  obtain ⟨z0, w0⟩ : ∃ zs, IsRow .u8 W a0 len0 cap0 zs := by
    obtain ⟨fuel, hf⟩ := h0
    rcases open_ints Try.underlying22 Try.underlying5 (by kernel_rfl) hf with ⟨hcs, _⟩ | ⟨x, l, c, zs, hcs, _, hl, hm, hz, _, hcell, hwz⟩
    · simp [Value.cells] at hcs
      obtain ⟨rfl, rfl, rfl⟩ := hcs
      exact ⟨[], .inl ⟨rfl, rfl, rfl, rfl⟩⟩
    · simp [Value.cells] at hcs
      obtain ⟨rfl, rfl, rfl⟩ := hcs
      exact ⟨zs, .inr ⟨_, rfl, hl, hm, by simpa using hz, hcell, hwz⟩⟩
  clear hA0 hval0
  refine (walk a0 len0 cap0 z0 W w0).mono fun e W' ⟨he, bel⟩ => ?_
  subst he
  exact ⟨_, rfl, _, _, _, [], _, [], hW', trodAll_mk1 (shut_bool Try.underlying4 _), (trodAll_cons_mk (Below.trod laidOut (by kernel_rfl) (of_decide_eq_true (by kernel_rfl)) k0 bel lt0) trodAll_mk0), rfl, bel.frame _, fun h => by cases h⟩

theorem over : Rows.fnFloorRow.holds Try.pinned (OpenSpec.ofChange Rows.fnFloorSpec) :=
  OpenClaim.holds_of_wide 3 Try.f3 rfl rfl rfl rfl rfl rfl rfl ⟨rfl, rfl, rfl, rfl, rfl⟩ rfl rfl rfl rfl rfl (by kernel_rfl) Try.func3 (by kernel_rfl)
    (of_decide_eq_true (by kernel_rfl)) (by unfold Func.isWrapper; first | (rw [if_pos (by decide +kernel)]; kernel_rfl) | (rw [if_neg (by decide +kernel)]; exact ⟨rfl, rfl⟩))
    (fun os started H enc _ => lifted os started H enc)

theorem proved : Rows.FnFloorSaid := over
#print axioms proved
end Go.Proofs.Ytnjncihnhjaddaa.fnFloor
