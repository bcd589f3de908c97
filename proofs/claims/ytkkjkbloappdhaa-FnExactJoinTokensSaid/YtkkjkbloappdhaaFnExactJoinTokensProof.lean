/-
  Proved: the law FnExactJoinTokens returns true for every input and its arguments read behind the call as they read before. Conditions: none of our own; those of the given row alone.
-/
import Derived.Test.YtkkjkbloappdhaaRows
import Derived.WalkKit
import Derived.ProofKit
import Derived.OpenShut
import Derived.ShutString
import Derived.SliceStrings
import Derived.ChangeOld
import Derived.Below
import Derived.Test.YtkkjkbloappdhaaMem
import Derived.Test.YtkkjkbloappdhaaStrS
import Derived.Test.YtkkjkbloappdhaaRowC
import Derived.Test.YtkkjkbloappdhaaHeld
import Derived.Test.YtkkjkbloappdhaaKS
import Derived.Test.YtkkjkbloappdhaaTok
import Derived.Test.YtkkjkbloappdhaaBuilder
import Derived.Test.YtkkjkbloappdhaaTex
import Derived.Handy
import Derived.Test.YtkkjkbloappdhaaFlat
namespace Go.Proofs.Ytkkjkbloappdhaa.fnExactJoinTokens
open Go.ChangeShapes Go.WideShapes Go.ChangeAt Go.RowKit
open Go.ChangeMaps (open_string shut_string)
set_option linter.unusedVariables false

theorem own : ownKnob Try.prog.godebug = none := by kernel_rfl
theorem laidOut : laidOutB Try.prog = true := by kernel_rfl
theorem flatS36_ : FlatS Try.prog 36 [.int, .str, .int, .int] := flatSS (ks := [[.int], [.str], [.int], [.int]]) Try.underlying36 (n := 4) (by kernel_rfl) (by exact ⟨[.int], _, rfl, by kernel_rfl, by kernel_rfl, flatS_int Try.underlying3, ⟨[.str], _, rfl, by kernel_rfl, by kernel_rfl, flatS_str Try.underlying9, ⟨[.int], _, rfl, by kernel_rfl, by kernel_rfl, flatS_int Try.underlying3, ⟨[.int], _, rfl, by kernel_rfl, by kernel_rfl, flatS_int Try.underlying3, ⟨rfl, by kernel_rfl⟩⟩⟩⟩⟩)
set_option maxHeartbeats 4000000 in
theorem walk (w : World) (a0 : Option Addr) (c0 : Nat) (x0 : List Tk) (r0 : RowC 4 tkg w w.heap.size a0 x0) (m0 : x0.length ≤ maxLen) (w0 : ∀ v ∈ x0, TkOk v) :
    Calls Try.prog 4 #[.slice a0 x0.length c0] w fun e w' => e = .returned (.bool true) ∧ Below w.heap.size w w' := by
  unfold maxLen at m0
  go_enter Try.func4, Try.ntmps4
  go_wp2_with fail
  refine (szTokS_any a0 c0 1048576 x0 w r0 (fun x hx => by have := (w0 x hx).2.1; unfold maxLen at this; omega) (by omega) (by omega)).mono ?_
  rintro e w' ⟨r, rfl, hr1, hr2, hr3, hbz⟩
  by_cases hr : r < 0
  · go_wp2_with fail
    go_ret
    exact ⟨rfl, hbz⟩
  · have hsz := hr1 (by omega)
    clear hr1
    have hlen : x0.length ≤ 1048576 := by omega
    have hsz2 : szT x0 ≤ 1048576 := by omega
    have hm2 : ∀ x ∈ x0, x.2.1.size ≤ 281474976710656 := fun x hx => by have := szT_mem hx; omega
    have HA := Lib.hid (r0.later hbz)
    have HB := Lib.hid hbz
    clear w0 hsz hbz r0
    have hS := fun (A : Option Addr) (c : Nat) (W : World) (h : RowC 4 tkg W W.heap.size A x0) => sJoinTok_any A c x0 W h hm2 hlen hsz2
    have hI := fun (A : Option Addr) (c : Nat) (W : World) (h : RowC 4 tkg W W.heap.size A x0) => joinTok_any A c x0 W h hm2 hlen hsz2
    obtain ⟨js, hjs⟩ : ∃ js, js = joinP (txs x0) ⟨#[32]⟩ := ⟨_, rfl⟩
    rw [← hjs] at hS hI
    have HS := Lib.hid hS
    have HI := Lib.hid hI
    clear hS hI hjs hm2
    go_wp2_with fail
    refine (toTokS_any _ _ x0 _ HA.out (by omega)).mono ?_
    rintro e w1 ⟨rfl, hb, hR, hO⟩
    replace HA := Lib.hid (HA.out.later hb)
    replace HB := Lib.hid (HB.out.trans (hb.mono HB.out.size))
    have HT := Lib.hid (hR)
    clear hb
    clear hR hO
    go_wp2_with fail
    refine (HS.out _ _ _ HT.out).mono ?_
    rintro e w2 ⟨rfl, hb⟩
    clear HT
    replace HA := Lib.hid (HA.out.later hb)
    replace HB := Lib.hid (HB.out.trans (hb.mono HB.out.size))
    clear hb
    go_wp2_with fail
    refine (toTokS_any _ _ x0 _ HA.out (by omega)).mono ?_
    rintro e w3 ⟨rfl, hb, hR, hO⟩
    replace HA := Lib.hid (HA.out.later hb)
    replace HB := Lib.hid (HB.out.trans (hb.mono HB.out.size))
    have HT := Lib.hid (hR)
    clear hb
    clear hR hO
    go_wp2_with fail
    refine (HI.out _ _ _ HT.out).mono ?_
    rintro e w4 ⟨rfl, hb⟩
    replace HA := Lib.hid (HA.out.later hb)
    replace HB := Lib.hid (HB.out.trans (hb.mono HB.out.size))
    replace HT := Lib.hid (HT.out.later hb)
    clear hb
    go_wp2_with fail
    refine (toTokS_any _ _ x0 _ HA.out (by omega)).mono ?_
    rintro e w5 ⟨rfl, hb, hR, hO⟩
    replace HA := Lib.hid (HA.out.later hb)
    replace HB := Lib.hid (HB.out.trans (hb.mono HB.out.size))
    replace HT := Lib.hid (HT.out.later hb)
    have HU := Lib.hid (hR)
    clear hb
    clear hR hO
    go_wp2_with fail
    refine (eqTokS_same _ _ _ _ x0 _ HT.out HU.out (by omega)).mono ?_
    rintro e w6 ⟨rfl, hb⟩
    replace HA := Lib.hid (HA.out.later hb)
    replace HB := Lib.hid (HB.out.trans (hb.mono HB.out.size))
    replace HT := Lib.hid (HT.out.later hb)
    replace HU := Lib.hid (HU.out.later hb)
    clear hb
    go_wp2_with fail
    go_ret
    exact ⟨rfl, HB.out⟩

set_option maxRecDepth 100000 in
theorem lifted (os : Os) (started : os.Started) (H : Type) (enc : TypeId × Value → H) :
    ReturnsInHanded {} Try.checked os 4 .any (Rows.fnExactJoinTokensSpec.pre6 enc Try.prog Try.f4 Rows.fnExactJoinTokensRow.domain false) (Rows.fnExactJoinTokensSpec.post enc Try.prog Try.f4 false true false false) := by
  refine returnsInHanded_of_change (C := Try.checked) own started (by kernel_rfl) Try.func4
    (ChangeSpec.witness6 (enc := enc) (C := Try.checked) false ⟨#[], #[.slice none 0 0], []⟩ 8 (by kernel_rfl) (by kernel_rfl) (by kernel_rfl) (by kernel_rfl)) ?_
  intro W base args ds gs before hval0 hW hcnd _
  have hval : ∀ (j : Nat) t v, Try.f4.params[j]? = some t → args[j]? = some v → Value.okWide Try.prog W .any base t v := hval0
  have hW' := hW
  obtain ⟨p, q, hA0, hV, rfl, hfz, hnd⟩ := hW
  have hA : DataW.TrodAll enc Try.prog W 0 (fun _ => true) true Try.f4.params.toList args.toList ds p := hA0
  rw [Try.params4] at hA hval
  obtain ⟨v0, vs0, d0, ds0, p0, q0, hargs, rfl, rfl, h0, r1000⟩ := trodAll_cons hA
  obtain ⟨rfl, rfl, rfl⟩ := trodAll_nil r1000
  obtain rfl : args = #[v0] := by cases args; simp_all
  obtain ⟨rfl, rfl⟩ := trodVars_none hV
  obtain ⟨a0, len0, cap0, rfl⟩ := okWide_slice Try.underlying22 (hval 0 22 v0 rfl rfl)
  have k0 := h0
  have lt0 : ∀ x ∈ p0, x.block < W.heap.size := by obtain ⟨m, hm⟩ := k0; exact DataW.trod_lt m _ _ _ hm
  obtain ⟨x0, rfl, r0, m0, w0⟩ := rows_of_kinds tk4 tkg tkg_tk4 Try.underlying22 (by kernel_rfl) flatS36_ (by decide) h0
  clear hA0
  refine (walk W a0 cap0 x0 r0 m0 (fun v hv => tkOk_of (w0 v hv))).mono fun e W' ⟨he, bel⟩ => ?_
  subst he
  exact ⟨_, rfl, _, _, _, [], _, [], hW', trodAll_mk1 (shut_bool Try.underlying4 _), (trodAll_cons_mk (Below.trod laidOut (by kernel_rfl) (of_decide_eq_true (by kernel_rfl)) k0 bel lt0) trodAll_mk0), rfl, bel.frame _, fun h => by cases h⟩

theorem proved : Rows.FnExactJoinTokensSaid :=
  OpenClaim.holds_of_wide 4 Try.f4 rfl rfl rfl rfl rfl rfl rfl ⟨rfl, rfl, rfl, rfl, rfl⟩ rfl rfl rfl rfl rfl (by kernel_rfl) Try.func4 (by kernel_rfl)
    (of_decide_eq_true (by kernel_rfl)) (by unfold Func.isWrapper; first | (rw [if_pos (by decide +kernel)]; kernel_rfl) | (rw [if_neg (by decide +kernel)]; exact ⟨rfl, rfl⟩))
    (fun os started H enc _ => lifted os started H enc)
#print axioms proved
end Go.Proofs.Ytkkjkbloappdhaa.fnExactJoinTokens
