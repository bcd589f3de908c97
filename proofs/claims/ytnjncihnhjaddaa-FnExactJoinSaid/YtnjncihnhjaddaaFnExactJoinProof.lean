/-
  Proved: the law FnExactJoin returns true for every input and its arguments read behind the call as they read before. Conditions: none of our own; those of the given row alone.
-/
import Derived.Test.YtnjncihnhjaddaaRows
import Derived.WalkKit
import Derived.ProofKit
import Derived.OpenShut
import Derived.ShutString
import Derived.SliceStrings
import Derived.ChangeOld
import Derived.Below
import Derived.Test.YtnjncihnhjaddaaMem
import Derived.Test.YtnjncihnhjaddaaStrS
import Derived.Test.YtnjncihnhjaddaaBuilder
import Derived.Test.YtnjncihnhjaddaaToStrS
namespace Go.Proofs.Ytnjncihnhjaddaa.fnExactJoin
open Go.ChangeShapes Go.WideShapes Go.ChangeAt Go.RowKit
open Go.ChangeMaps (open_string shut_string)
set_option linter.unusedVariables false

theorem own : ownKnob Try.prog.godebug = none := by kernel_rfl
theorem laidOut : laidOutB Try.prog = true := by kernel_rfl

theorem walk (w : World) (a0 : Option Addr) (c0 : Nat) (x0 : List ByteArray) (r0 : Row Value.string w w.heap.size a0 x0) (m0 : x0.length ≤ maxLen) (w0 : ∀ x ∈ x0, x.size ≤ maxLen) (a1 : ByteArray) (w1 : a1.size ≤ maxLen) :
    Calls Try.prog 6 #[.slice a0 x0.length c0, .string a1] w fun e w' => e = .returned (.bool true) ∧ Below w.heap.size w w' := by
  unfold maxLen at m0 w1
  by_cases hsep : a1.size ≤ 1048576
  · go_enter Try.func6, Try.ntmps6
    go_wp2_with fail
    refine (szStringS_any a0 c0 1048576 x0 w w.heap.size r0 (fun x hx => w0 x hx) m0 (by omega)).mono ?_
    rintro e w' ⟨r, rfl, hr1, hr2, hr3, rfl⟩
    by_cases hr : r < 0
    · go_wp2_with fail
      go_ret
      exact ⟨rfl, Below.refl _ _⟩
    · have hsz := hr1 (by omega)
      clear hr1
      have hlen : x0.length ≤ 1048576 := by omega
      have hsz2 : sizeN x0 x0.length ≤ 1048576 := by omega
      have W0 := Lib.hid w0
      clear w0 hsz
      go_wp2_with fail
      refine (toStringS_any _ _ x0 _ r0 (by omega)).mono ?_
      rintro e w1 ⟨rfl, hb1, hR1⟩
      have hR' := Row.later r0 hb1
      go_wp2_with fail
      refine (sJoin_any _ _ x0 a1 _ _ hR1 hlen hsep hsz2).mono ?_
      rintro e w' ⟨rfl, rfl⟩
      obtain ⟨js, hjs⟩ : ∃ js, js = joinP x0 a1 := ⟨_, rfl⟩
      have hj := fun (A : Option Addr) (c : Nat) (W : World) (h : Row Str W W.heap.size A x0) => join_any A c x0 a1 W h hlen hsep hsz2
      rw [← hjs] at hj ⊢
      have HJ := Lib.hid hj
      have HS2 := Lib.hid hsz2
      clear hj hjs hsz2
      go_wp2_with fail
      refine (toStringS_any _ _ x0 _ hR' (by omega)).mono ?_
      rintro e w2 ⟨rfl, hb2, hR2⟩
      have hb12 := hb1.trans (hb2.mono hb1.size)
      have hR'' := Row.later hR' hb2
      clear hb1 hb2 hR' hR1
      go_wp2_with fail
      refine (HJ.out _ _ _ hR2).mono ?_
      rintro e w3 ⟨rfl, hb3⟩
      have hb123 := hb12.trans (hb3.mono hb12.size)
      have hR2' := Row.later hR2 hb3
      have hR3 := Row.later hR'' hb3
      clear hb12 hb3 hR2 hR''
      go_wp2_with fail
      refine (toStringS_any _ _ x0 _ hR3 (by omega)).mono ?_
      rintro e w4 ⟨rfl, hb4, hR4⟩
      have hb1234 := hb123.trans (hb4.mono hb123.size)
      have hR2'' := Row.later hR2' hb4
      clear hb123 hb4 hR2' hR3
      go_wp2_with fail
      refine (eqStringS_same _ _ _ _ x0 _ hR2'' hR4 (by omega)).mono ?_
      rintro e w5 ⟨rfl, hb5⟩
      have hbf := hb1234.trans (hb5.mono hb1234.size)
      clear hb1234 hb5 hR2'' hR4
      go_wp2_with fail
      go_ret
      exact ⟨rfl, hbf⟩
  · go_enter Try.func6, Try.ntmps6
    go_wp2_with fail
    go_ret
    exact ⟨rfl, Below.refl _ _⟩

set_option maxRecDepth 100000 in
theorem lifted (os : Os) (started : os.Started) (H : Type) (enc : TypeId × Value → H) :
    ReturnsInHanded {} Try.checked os 6 .any (Rows.fnExactJoinSpec.pre6 enc Try.prog Try.f6 Rows.fnExactJoinRow.domain false) (Rows.fnExactJoinSpec.post enc Try.prog Try.f6 false true false false) := by
  refine returnsInHanded_of_change (C := Try.checked) own started (by kernel_rfl) Try.func6
    (ChangeSpec.witness6 (enc := enc) (C := Try.checked) false ⟨#[], #[.slice none 0 0, .string ByteArray.empty], []⟩ 8 (by kernel_rfl) (by kernel_rfl) (by kernel_rfl) (by kernel_rfl)) ?_
  intro W base args ds gs before hval0 hW hcnd _
  have hval : ∀ (j : Nat) t v, Try.f6.params[j]? = some t → args[j]? = some v → Value.okWide Try.prog W .any base t v := hval0
  have hW' := hW
  obtain ⟨p, q, hA0, hV, rfl, hfz, hnd⟩ := hW
  have hA : DataW.TrodAll enc Try.prog W 0 (fun _ => true) true Try.f6.params.toList args.toList ds p := hA0
  rw [Try.params6] at hA hval
  obtain ⟨v0, vs0, d0, ds0, p0, q0, hargs, rfl, rfl, h0, r1000⟩ := trodAll_cons hA
  obtain ⟨v1, vs1, d1, ds1, p1, q1, rfl, rfl, rfl, h1, r1001⟩ := trodAll_cons r1000
  obtain ⟨rfl, rfl, rfl⟩ := trodAll_nil r1001
  obtain rfl : args = #[v0, v1] := by cases args; simp_all
  obtain ⟨rfl, rfl⟩ := trodVars_none hV
  obtain ⟨a0, len0, cap0, rfl⟩ := okWide_slice Try.underlying31 (hval 0 31 v0 rfl rfl)
  have k0 := h0
  have lt0 : ∀ x ∈ p0, x.block < W.heap.size := by obtain ⟨m, hm⟩ := k0; exact DataW.trod_lt m _ _ _ hm
  obtain ⟨x0, rfl, r0, m0, w0⟩ : ∃ xs : List ByteArray, len0 = xs.length ∧ Row Value.string W W.heap.size a0 xs ∧ xs.length ≤ maxLen ∧ ∀ x ∈ xs, x.size ≤ maxLen := by
    obtain ⟨fuel, hf⟩ := h0
    rcases open_strings Try.underlying31 Try.underlying9 (by kernel_rfl) hf with ⟨hcs, _⟩ | ⟨x, l, c, zs, hcs, _, hl, hm, hz, _, hcell, hwz⟩
    · simp [Value.cells] at hcs
      obtain ⟨rfl, rfl, rfl⟩ := hcs
      exact ⟨[], rfl, Row.nil, Nat.zero_le _, fun x hx => by cases hx⟩
    · simp [Value.cells] at hcs
      obtain ⟨rfl, rfl, rfl⟩ := hcs
      exact row_of_cells (d := ByteArray.empty) hl hm (by simpa using hz) hcell hwz
  obtain ⟨a1, rfl, rfl, rfl, w1⟩ := open_string Try.underlying9 (hval 1 9 v1 rfl rfl) h1
  clear hA0
  refine (walk W a0 cap0 x0 r0 m0 w0 a1 w1).mono fun e W' ⟨he, bel⟩ => ?_
  subst he
  exact ⟨_, rfl, _, _, _, [], _, [], hW', trodAll_mk1 (shut_bool Try.underlying4 _), (trodAll_cons_mk (Below.trod laidOut (by kernel_rfl) (of_decide_eq_true (by kernel_rfl)) k0 bel lt0) (trodAll_cons_mk (shut_string Try.underlying9 w1) trodAll_mk0)), rfl, bel.frame _, fun h => by cases h⟩

theorem proved : Rows.FnExactJoinSaid :=
  OpenClaim.holds_of_wide 6 Try.f6 rfl rfl rfl rfl rfl rfl rfl ⟨rfl, rfl, rfl, rfl, rfl⟩ rfl rfl rfl rfl rfl (by kernel_rfl) Try.func6 (by kernel_rfl)
    (of_decide_eq_true (by kernel_rfl)) (by unfold Func.isWrapper; first | (rw [if_pos (by decide +kernel)]; kernel_rfl) | (rw [if_neg (by decide +kernel)]; exact ⟨rfl, rfl⟩))
    (fun os started H enc _ => lifted os started H enc)
#print axioms proved
end Go.Proofs.Ytnjncihnhjaddaa.fnExactJoin
