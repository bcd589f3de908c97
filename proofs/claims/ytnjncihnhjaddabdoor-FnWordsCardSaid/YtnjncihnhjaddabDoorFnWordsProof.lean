/-
  Proved: the law FnWords returns true for every input and its arguments read behind the call as they read before. Conditions: none of our own; those of the given row alone.
-/
import Derived.Test.YtnjncihnhjaddabDoorRows
import Derived.Test.YtnjncihnhjaddabDoorCards
import Derived.Test.YtnjncihnhjaddabDoorTie
import Derived.WalkKit
import Derived.ProofKit
import Derived.OpenShut
import Derived.ShutString
import Derived.SliceStrings
import Derived.ChangeOld
import Derived.Below
import Derived.Deep.DeepHandedRow
import Derived.Lib.LaidTab
import Derived.Test.YtnjncihnhjaddabDoorMem
import Derived.Test.YtnjncihnhjaddabDoorInts
import Derived.Test.YtnjncihnhjaddabDoorIntS
import Derived.Test.YtnjncihnhjaddabDoorCur
import Derived.Test.YtnjncihnhjaddabDoorNums
import Derived.Test.YtnjncihnhjaddabDoorStrS
import Derived.Test.YtnjncihnhjaddabDoorText
import Derived.Test.YtnjncihnhjaddabDoorIdent
import Derived.Test.YtnjncihnhjaddabDoorFmt
import Derived.Test.YtnjncihnhjaddabDoorBuilder
import Derived.Test.YtnjncihnhjaddabDoorSplit
import Derived.Test.YtnjncihnhjaddabDoorParse
import Derived.Test.YtnjncihnhjaddabDoorFmts
import Derived.Test.YtnjncihnhjaddabDoorParses
import Derived.Test.YtnjncihnhjaddabDoorRound
import Derived.Test.YtnjncihnhjaddabDoorNumsRound
import Derived.Test.YtnjncihnhjaddabDoorDoor
import Derived.Test.YtnjncihnhjaddabDoorDoorErr
namespace Go.Proofs.YtnjncihnhjaddabDoor.fnWords
open Go.ChangeShapes Go.WideShapes Go.ChangeAt Go.RowKit
open Go.ChangeMaps (open_string shut_string)
set_option linter.unusedVariables false

theorem own : ownKnob Tryd.prog.godebug = none := by kernel_rfl
theorem laidOut : laidOutB Tryd.prog = true := by kernel_rfl
theorem sizeN_le (xs : List ByteArray) (m : Nat) (h : ∀ x ∈ xs, x.size ≤ m) (k : Nat) : sizeN xs k ≤ k * m := by
  induction k with
  | zero => exact Nat.zero_le _
  | succ k ih =>
    rw [sizeN, Nat.succ_mul]
    have : (xs.getD k ByteArray.empty).size ≤ m := by
      by_cases hk : k < xs.length
      · have e : xs.getD k ByteArray.empty = xs[k] := by simp [List.getD, hk]
        rw [e]; exact h _ (List.getElem_mem _)
      · have e : xs.getD k ByteArray.empty = ByteArray.empty := by simp [List.getD, hk]
        rw [e]; exact Nat.zero_le _
    omega
theorem x1_ident : Ident ⟨#[120, 49]⟩ := by
  refine ⟨by decide, by decide, fun i h => ?_⟩
  have h' : i < 2 := h
  rcases i with _ | _ | i
  · exact .inl ⟨show (97 : Nat) ≤ 120 by omega, show (120 : Nat) ≤ 122 by omega⟩
  · exact .inr ⟨by omega, show (48 : Nat) ≤ 49 by omega, show (49 : Nat) ≤ 57 by omega⟩
  · omega
theorem row_ints {w : World} {base : Nat} {A : Option Addr} {c : Nat} {xs : List Int} (h : w.ownsRow base 3 1 (.slice A xs.length c) xs.length (xs.map I64)) : Row I64 w w.heap.size A xs := Row.of_own h
theorem row_strs {w : World} {base : Nat} {A : Option Addr} {c : Nat} {xs : List ByteArray} (h : w.ownsRow base 9 1 (.slice A xs.length c) xs.length (xs.map Str)) : Row Str w w.heap.size A xs := Row.of_own h
set_option maxHeartbeats 1000000 in
theorem walk (w : World) (a0 : Option Addr) (c0 : Nat) (x0 : List Int) (r0 : Row (Value.int .u8) w w.heap.size a0 x0) (m0 : x0.length ≤ maxLen) (w0 : ∀ x ∈ x0, (Lit.int .u8 x).wf = true) (HP : Hid (Pow w)) (HE : Hid (Errs w)) :
    Calls Tryd.prog 3 #[.slice a0 x0.length c0] w fun e w' => e = .returned (.bool true) ∧ Below w.heap.size w w' := by
  have H8 : Hid (∀ x ∈ x0, 0 ≤ x ∧ x ≤ 255) := Lib.hid (fun x hx => bounds_u8 (w0 x hx))
  have HR : Hid (Row U8 w w.heap.size a0 x0) := Lib.hid r0
  clear w0 r0
  by_cases hbig : x0.length ≤ 1048576
  · go_enter Tryd.func3, Tryd.ntmps3
    go_wp2_with fail
    refine (makeNum_any _ _ x0 _ _ HR.out H8.out hbig (by omega) (by omega)).mono ?_
    rintro e w1 ⟨x, hx0, hx1, rfl, hb1⟩
    have HR1 := Lib.hid (HR.out.later hb1)
    have HP1 := Lib.hid (HP.out.later hb1)
    have HE1 := Lib.hid (HE.out.later hb1)
    have HB1 := Lib.hid hb1
    clear hb1 HR HP HE
    go_wp2_with fail
    refine (makeInts_any _ _ x0 _ HR1.out H8.out hbig).mono ?_
    rintro e w2 ⟨A2, c2, xs, rfl, ho2, hl2, hz2, hb2⟩
    have HR2 := Lib.hid (HR1.out.later hb2)
    have HP2 := Lib.hid (HP1.out.later hb2)
    have HE2 := Lib.hid (HE1.out.later hb2)
    have HB2 := Lib.hid (HB1.out.trans (hb2.mono HB1.out.size))
    have HI2 := Lib.hid (row_ints ho2)
    have HZ : Hid (∀ x ∈ xs, InR x) := Lib.hid (fun x hx => by have := hz2 x hx; exact ⟨by omega, by omega⟩)
    clear hb2 ho2 hz2 HR1 HP1 HE1 HB1
    go_wp2_with fail
    refine (format_any _ _ HP2.out).mono ?_
    rintro e w3 ⟨rfl, hb3⟩
    have HR3 := Lib.hid (HR2.out.later hb3)
    have HP3 := Lib.hid (HP2.out.later hb3)
    have HE3 := Lib.hid (HE2.out.later hb3)
    have HI3 := Lib.hid (HI2.out.later hb3)
    have HB3 := Lib.hid (HB2.out.trans (hb3.mono HB2.out.size))
    have HNUM : Hid (IsNum (fmtP (x - 30000)) (x - 30000)) := Lib.hid (num_of_fmt ⟨by omega, by omega⟩)
    have HSZ := Lib.hid (fmtP_size (x - 30000))
    clear hb3 HR2 HP2 HE2 HB2 HI2
    obtain ⟨fs, hfs⟩ : ∃ fs, fs = fmtP (x - 30000) := ⟨_, rfl⟩
    rw [← hfs] at HNUM HSZ ⊢
    clear hfs
    go_wp2_with fail
    refine (parse_any fs _ (by have := HSZ.out; omega) HP3.out HE3.out).mono ?_
    rintro e w4 ⟨k, b, rfl, h1, h2, hb4⟩
    obtain rfl : b = true := by
      cases b
      · exact absurd HNUM.out ((h2 rfl).2 _)
      · rfl
    obtain rfl : k = x - 30000 := num_inj (h1 rfl) HNUM.out
    have HR4 := Lib.hid (HR3.out.later hb4)
    have HP4 := Lib.hid (HP3.out.later hb4)
    have HE4 := Lib.hid (HE3.out.later hb4)
    have HI4 := Lib.hid (HI3.out.later hb4)
    have HB4 := Lib.hid (HB3.out.trans (hb4.mono HB3.out.size))
    clear hb4 h1 h2 HR3 HP3 HE3 HB3 HI3 HNUM HSZ
    go_wp2_with fail
    refine (formats_any _ _ xs _ HI4.out (by omega) HP4.out).mono ?_
    rintro e w5 ⟨rfl, hb5⟩
    have HR5 := Lib.hid (HR4.out.later hb5)
    have HP5 := Lib.hid (HP4.out.later hb5)
    have HE5 := Lib.hid (HE4.out.later hb5)
    have HI5 := Lib.hid (HI4.out.later hb5)
    have HB5 := Lib.hid (HB4.out.trans (hb5.mono HB4.out.size))
    have HNS := Lib.hid (nums_fmts xs HZ.out)
    have HSS := Lib.hid (fmts_size xs (by omega))
    clear hb5 HR4 HP4 HE4 HB4 HI4
    obtain ⟨gs, hgs⟩ : ∃ gs, gs = fmtsP xs := ⟨_, rfl⟩
    rw [← hgs] at HNS HSS ⊢
    clear hgs
    go_wp2_with fail
    refine (parses_any gs _ HSS.out HP5.out HE5.out).mono ?_
    rintro e w6 ⟨b, ys, A6, c6, rfl, ho6, h1, h2, _, hb6⟩
    obtain rfl : b = true := by
      cases b
      · exact absurd HNS.out ((h2 rfl).2 _)
      · rfl
    obtain rfl : ys = xs := nums_inj (h1 rfl) HNS.out
    have HR6 := Lib.hid (HR5.out.later hb6)
    have HI6 := Lib.hid (HI5.out.later hb6)
    have HJ6 := Lib.hid (row_ints ho6)
    have HB6 := Lib.hid (HB5.out.trans (hb6.mono HB5.out.size))
    clear hb6 ho6 h1 h2 HR5 HP5 HE5 HB5 HI5 HNS HSS
    go_wp2_with fail
    refine (makeText_any _ _ x0 _ HR6.out H8.out hbig).mono ?_
    rintro e w7 ⟨s, hs, rfl, hb7⟩
    have HI7 := Lib.hid (HI6.out.later hb7)
    have HJ7 := Lib.hid (HJ6.out.later hb7)
    have HB7 := Lib.hid (HB6.out.trans (hb7.mono HB6.out.size))
    clear hb7 HR6 HI6 HJ6 HB6
    go_wp2_with fail
    refine (sameInts_same _ _ _ _ ys _ _ HI7.out HJ7.out (by omega)).mono ?_
    rintro e w' ⟨rfl, rfl⟩
    clear HI7 HJ7
    have hsp := splitAny_any s ⟨#[32]⟩
    have hjs := join_of_split 32 s
    have hpl := parts_len s ⟨#[32]⟩
    have hpz := parts_size s ⟨#[32]⟩
    unfold oneB at hjs
    obtain ⟨ps, hps⟩ : ∃ ps, ps = splitP s ⟨#[32]⟩ := ⟨_, rfl⟩
    rw [← hps] at hsp hjs hpl hpz
    have HSP := Lib.hid hsp
    have HJS := Lib.hid hjs
    have HPZ := Lib.hid (sizeN_le ps s.size hpz ps.length)
    have hmul : ps.length * s.size ≤ 17 * 16 := Nat.mul_le_mul (by omega) hs
    have HML := Lib.hid hmul
    clear hsp hjs hpz hps hmul
    go_wp2_with fail
    refine (HSP.out _ (by omega)).mono ?_
    rintro e w8 ⟨A8, c8, rfl, ho8, hb8⟩
    have HS8 := Lib.hid (row_strs ho8)
    have HB8 := Lib.hid (HB7.out.trans (hb8.mono HB7.out.size))
    clear hb8 ho8 HB7
    go_wp2_with fail
    refine (join_any _ _ ps ⟨#[32]⟩ _ HS8.out (by omega) (by decide) (by have := HPZ.out; have := HML.out; omega)).mono ?_
    rintro e w9 ⟨rfl, hb9⟩
    rw [HJS.out]
    have HB9 := Lib.hid (HB8.out.trans (hb9.mono HB8.out.size))
    clear hb9 HB8
    go_wp2_with fail
    refine (ident_any ⟨#[120, 49]⟩ _ (by decide)).mono ?_
    rintro e w10 ⟨b, rfl, hbi, hb10⟩
    obtain rfl : b = true := hbi.2 x1_ident
    have HB10 := Lib.hid (HB9.out.trans (hb10.mono HB9.out.size))
    clear hb10 hbi HB9
    go_wp2_with fail
    go_ret
    exact ⟨rfl, HB10.out⟩
  · go_enter Tryd.func3, Tryd.ntmps3
    go_wp2_with fail
    go_ret
    exact ⟨rfl, Below.refl _ _⟩

theorem contract (H : Type) (enc : TypeId × Value → H) (W : World) (base : Nat) (args : Array Value) (ds gs : List (DataW H)) (before : List MemPlace)
    (hval : ∀ (j : Nat) t v, Tryd.f3.params[j]? = some t → args[j]? = some v → Value.okWide Tryd.prog W .any base t v)
    (hW : DataW.Whole enc Tryd.prog Tryd.f3.params.toList Rows.fnWordsSpec.vars false W args.toList ds gs before) (hL : laidMetH Tryd.prog Rows.fnWordsRow.laid W) :
    Calls Tryd.prog 3 args W fun e W' => ∃ v, e = .returned v ∧ Rows.fnWordsSpec.post enc Tryd.prog Tryd.f3 false true false false W args v W' := by
  have hW' := hW
  obtain ⟨p, q, hA0, hV, rfl, hfz, hnd⟩ := hW
  have hA : DataW.TrodAll enc Tryd.prog W 0 (fun _ => true) true Tryd.f3.params.toList args.toList ds p := hA0
  rw [Tryd.params3] at hA hval
  obtain ⟨v0, vs0, d0, ds0, p0, q0, hargs, rfl, rfl, h0, r1000⟩ := trodAll_cons hA
  obtain ⟨rfl, rfl, rfl⟩ := trodAll_nil r1000
  obtain rfl : args = #[v0] := by cases args; simp_all
  obtain ⟨rfl, rfl⟩ := trodVars_none hV
  obtain ⟨a0, len0, cap0, rfl⟩ := okWide_slice Tryd.underlying22 (hval 0 22 v0 rfl rfl)
  have k0 := h0
  have lt0 : ∀ x ∈ p0, x.block < W.heap.size := by obtain ⟨m, hm⟩ := k0; exact DataW.trod_lt m _ _ _ hm
  obtain ⟨x0, rfl, r0, m0, w0⟩ : ∃ xs : List Int, len0 = xs.length ∧ Row (Value.int .u8) W W.heap.size a0 xs ∧ xs.length ≤ maxLen ∧ ∀ x ∈ xs, (Lit.int .u8 x).wf = true := by
    obtain ⟨fuel, hf⟩ := h0
    rcases open_ints Tryd.underlying22 Tryd.underlying5 (by kernel_rfl) hf with ⟨hcs, _⟩ | ⟨x, l, c, zs, hcs, _, hl, hm, hz, _, hcell, hwz⟩
    · simp [Value.cells] at hcs
      obtain ⟨rfl, rfl, rfl⟩ := hcs
      exact ⟨[], rfl, Row.nil, Nat.zero_le _, fun x hx => by cases hx⟩
    · simp [Value.cells] at hcs
      obtain ⟨rfl, rfl, rfl⟩ := hcs
      exact row_of_cells (d := (0 : Int)) hl hm (by simpa using hz) hcell hwz
  clear hA0
  refine (walk W a0 cap0 x0 r0 m0 w0 (Lib.hid (pow_of _ (by kernel_rfl) hL)) (Lib.hid (errs_of _ (by kernel_rfl) (by kernel_rfl) hL))).mono fun e W' ⟨he, bel⟩ => ?_
  subst he
  exact ⟨_, rfl, _, _, _, [], _, [], hW', trodAll_mk1 (shut_bool Tryd.underlying4 _), (trodAll_cons_mk (Below.trod laidOut (by kernel_rfl) (of_decide_eq_true (by kernel_rfl)) k0 bel lt0) trodAll_mk0), rfl, bel.frame _, fun h => by cases h⟩

theorem laid_met (os : Os) : laidMet Tryd.prog Rows.fnWordsRow.laid ((laidWorldE os).forCall (fun _ _ => 0) ⟨#[], #[.slice none 0 0], []⟩).memory :=
  laidMet_of_run' 8 (by kernel_rfl) (by kernel_rfl)
theorem reads (os : Os) {H : Type} (enc : TypeId × Value → H) : ∃ d places, DataW.whole enc Tryd.prog ((laidWorldE os).forCall (fun _ _ => 0) ⟨#[], #[.slice none 0 0], []⟩).memory Tryd.f3.params.toList Rows.fnWordsSpec.vars false (#[.slice none 0 0] : Array Value).toList 8 = some (d, [], places) :=
  ⟨[.nil], [], by kernel_rfl⟩
set_option maxRecDepth 100000 in
theorem lifted (os : Os) (started : os.Started) (H : Type) (enc : TypeId × Value → H) (F : Stop.Interp) :
    ReturnsInHanded {} Tryd.checked os 3 .any ((OpenSpec.ofChange Rows.fnWordsSpec).preRow enc Tryd.prog Tryd.f3 Rows.fnWordsRow.domain false Rows.fnWordsRow.laid) (((OpenSpec.ofChange Rows.fnWordsSpec).at F).post enc Tryd.prog Tryd.f3 false true false false) := by
  obtain ⟨d, places, hx⟩ := reads os enc
  refine returnsInHanded_of_row (C := Tryd.checked) (s := OpenSpec.ofChange Rows.fnWordsSpec) own started (by kernel_rfl) Tryd.func3
    (witness_row_atRef (enc := enc) (C := Tryd.checked) false (laidWorldE os) #[.slice none 0 0] rfl (by kernel_rfl) (by kernel_rfl) (by kernel_rfl)
      (OpenSpec.preRow_of_cond 8 hx (by kernel_rfl) (fun k hk => by cases hk) (by kernel_rfl) (laid_met os))) ?_
  intro W base args ds gs before hval hW _ _ _ hL _ _
  exact contract H enc W base args ds gs before hval hW hL
theorem said : Rows.FnWordsSaid :=
  OpenClaim.holds_of_cond 3 Tryd.f3 rfl rfl rfl rfl rfl rfl rfl ⟨rfl, rfl, rfl, rfl, rfl⟩ rfl rfl rfl rfl rfl (by kernel_rfl) Tryd.func3 (by kernel_rfl)
    (of_decide_eq_true (by kernel_rfl)) (by unfold Func.isWrapper; first | (rw [if_pos (by decide +kernel)]; kernel_rfl) | (rw [if_neg (by decide +kernel)]; exact ⟨rfl, rfl⟩))
    (fun os started H enc _ F => by rw [OpenClaim.pre_eq_preRow]; exact lifted os started H enc F)
theorem plain (f : FuncId) (fn : Func) (hf : Tryd.pinned.checked.prog.funcNamed "loop.example/g00809/laws.FnWords" = some f) (hfn : Tryd.pinned.checked.prog.funcs[f]? = some fn) :
    true = Tryd.pinned.checked.prog.looks [] ∧ ∀ (j : Nat) t, fn.params[j]? = some t → Tryd.pinned.checked.prog.wantsStandIn t = false := by
  obtain rfl : f = 3 := Option.some.inj ((show Tryd.prog.funcNamed "loop.example/g00809/laws.FnWords" = some 3 by kernel_rfl).symm.trans hf) |>.symm
  obtain rfl : fn = Tryd.f3 := (Option.some.inj (Tryd.func3.symm.trans hfn)).symm
  refine ⟨by kernel_rfl, fun j t ht => ?_⟩
  rw [Tryd.params3] at ht
  have hm := Array.mem_of_getElem? ht
  simp only [List.mem_toArray, List.mem_cons, List.not_mem_nil, or_false] at hm
  rcases hm with rfl
  · exact (show Tryd.prog.wantsStandIn 22 = false by kernel_rfl)
theorem proved : Rows.FnWordsCardSaid :=
  Claim7.holds_tied_plain_at .later [] _ _ _ _ said (fun _ h => by cases h) (by kernel_rfl) (fun _ h => by cases h) fnWords_row_tie rfl ⟨rfl, rfl⟩ (by kernel_rfl) rfl plain (by kernel_rfl)
#print axioms proved
end Go.Proofs.YtnjncihnhjaddabDoor.fnWords
