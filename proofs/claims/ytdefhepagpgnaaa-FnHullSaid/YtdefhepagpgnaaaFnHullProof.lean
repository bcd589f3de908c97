/-
  Proved: the law FnHull returns true for every input and its arguments read behind the call as they read before. Conditions: none of our own; those of the given row alone.
-/
import Derived.Test.YtdefhepagpgnaaaRows
import Derived.WalkKit
import Derived.ProofKit
import Derived.OpenShut
import Derived.ShutString
import Derived.SliceStrings
import Derived.ChangeOld
import Derived.Below
import Derived.Test.YtdefhepagpgnaaaMem
import Derived.Test.YtdefhepagpgnaaaInts
import Derived.Test.YtdefhepagpgnaaaIntS
import Derived.Test.YtdefhepagpgnaaaCur
import Derived.Test.YtdefhepagpgnaaaFlat
import Derived.Test.YtdefhepagpgnaaaVbox
import Derived.Test.YtdefhepagpgnaaaVec
import Derived.Test.YtdefhepagpgnaaaHeld
import Derived.Test.YtdefhepagpgnaaaRowC
import Derived.Test.YtdefhepagpgnaaaVecS
import Derived.Test.YtdefhepagpgnaaaSS
import Derived.Test.YtdefhepagpgnaaaMkA
import Derived.Test.YtdefhepagpgnaaaMkB
import Derived.Test.YtdefhepagpgnaaaMkC
import Derived.Test.YtdefhepagpgnaaaMkD
import Derived.Test.YtdefhepagpgnaaaMF
import Derived.Test.YtdefhepagpgnaaaMEd
import Derived.Test.YtdefhepagpgnaaaMBd
import Derived.Test.YtdefhepagpgnaaaKp
import Derived.Test.YtdefhepagpgnaaaKx
import Derived.Test.YtdefhepagpgnaaaLf
import Derived.Test.YtdefhepagpgnaaaLn
import Derived.Test.YtdefhepagpgnaaaKd
import Derived.Test.YtdefhepagpgnaaaBPts
import Derived.Test.YtdefhepagpgnaaaBCont
import Derived.Handy
import Derived.Deep.RegionHeld3
import Derived.Deep.DeepCutAuto
namespace Go.Proofs.Ytdefhepagpgnaaa.fnHull
open Go.ChangeShapes Go.WideShapes Go.ChangeAt Go.RowKit
open Go.ChangeMaps (open_string shut_string)
set_option linter.unusedVariables false

theorem own : ownKnob Try.prog.godebug = none := by kernel_rfl
theorem laidOut : laidOutB Try.prog = true := by kernel_rfl
theorem fold_mn (f : V3 → Int) : ∀ (r : List V3) (a : Int), r.foldl (fun a v => mnP a (cc (f v))) a ≤ a ∧ ∀ v ∈ r, r.foldl (fun a v => mnP a (cc (f v))) a ≤ cc (f v)
  | [], a => ⟨Int.le_refl _, fun v h => by cases h⟩
  | x :: r, a => by
    have h := fold_mn f r (mnP a (cc (f x)))
    have h1 : mnP a (cc (f x)) ≤ a ∧ mnP a (cc (f x)) ≤ cc (f x) := by unfold mnP; split <;> omega
    refine ⟨Int.le_trans h.1 h1.1, fun v hv => ?_⟩
    rcases List.mem_cons.1 hv with rfl | hv
    · exact Int.le_trans h.1 h1.2
    · exact h.2 v hv
theorem fold_mx (f : V3 → Int) : ∀ (r : List V3) (a : Int), a ≤ r.foldl (fun a v => mxP a (cc (f v))) a ∧ ∀ v ∈ r, cc (f v) ≤ r.foldl (fun a v => mxP a (cc (f v))) a
  | [], a => ⟨Int.le_refl _, fun v h => by cases h⟩
  | x :: r, a => by
    have h := fold_mx f r (mxP a (cc (f x)))
    have h1 : a ≤ mxP a (cc (f x)) ∧ cc (f x) ≤ mxP a (cc (f x)) := by unfold mxP; split <;> omega
    refine ⟨Int.le_trans h1.1 h.1, fun v hv => ?_⟩
    rcases List.mem_cons.1 hv with rfl | hv
    · exact Int.le_trans h1.2 h.1
    · exact h.2 v hv
theorem mn_mx (f : V3 → Int) (x : V3) (r : List V3) (v : V3) (hv : v ∈ x :: r) : mnF f x r ≤ cc (f v) ∧ cc (f v) ≤ mxF f x r := by
  rcases List.mem_cons.1 hv with rfl | hv
  · exact ⟨(fold_mn f r _).1, (fold_mx f r _).1⟩
  · exact ⟨(fold_mn f r _).2 v hv, (fold_mx f r _).2 v hv⟩
theorem bb_btw {x : V3} {r : List V3} (h : ∀ v ∈ x :: r, InV 1000000 v) : ∀ v ∈ x :: r, Btw (mnF cx x r, mnF cy x r, mnF cz x r) (mxF cx x r, mxF cy x r, mxF cz x r) v := fun v hv => by
  obtain ⟨⟨a1, a2⟩, ⟨b1, b2⟩, c1, c2⟩ := h v hv
  have hx := mn_mx cx x r v hv
  have hy := mn_mx cy x r v hv
  have hz := mn_mx cz x r v hv
  unfold cx at hx
  unfold cy at hy
  unfold cz at hz
  rw [cc_in a1 a2] at hx
  rw [cc_in b1 b2] at hy
  rw [cc_in c1 c2] at hz
  exact ⟨hx, hy, hz⟩
theorem inB_of {a b c d e f : Int} {p : V3} (h : Btw (a, b, c) (d, e, f) p) : inB a b c d e f p.1 p.2.1 p.2.2 = true := (inB_iff ..).2 ⟨⟨h.1.1, h.1.2⟩, ⟨h.2.1.1, h.2.1.2⟩, h.2.2.1, h.2.2.2⟩
def BxOut (v : Value) (w : World) (e : Ending) (w' : World) : Prop := e = .returned (.tuple #[v, .bool true]) ∧ Below w.heap.size w w'
def MsOut (P : List V3) (F : List (List Int)) (w : World) (e : Ending) (w' : World) : Prop := ∃ A1 c1 A2 c2, e = .returned (.tuple #[mv A1 A2 P.length c1 F.length c2, .bool true]) ∧ MeshIn w' A1 A2 P F ∧ Below w.heap.size w w'
set_option maxHeartbeats 4000000 in
theorem hull_calls {A1 A2 : Option Addr} {c1 c2 : Nat} {vs : List V3} {fs : List (List Int)} (hmm : MadeMesh vs fs) (hc : vs.length ≤ c1) : ∃ l1 l2 l3 h1 h2 h3 P F,
    (∀ w : World, MeshIn w A1 A2 vs fs → Calls Try.prog 17 #[.slice A1 vs.length c1] w (BxOut (box l1 l2 l3 h1 h2 h3) w)) ∧
    (∀ w : World, MeshIn w A1 A2 vs fs → Calls Try.prog 10 #[mv A1 A2 vs.length c1 fs.length c2] w (MsOut P F w)) ∧ 0 < P.length ∧ P.length ≤ 80 ∧
    ∀ p ∈ P, inB l1 l2 l3 h1 h2 h3 p.1 p.2.1 p.2.2 = true := by
  obtain ⟨hok, hsb, _, _, _, _, hin, h0⟩ := meshes_ok hmm.1 hmm.chk
  obtain ⟨x, r, hvs⟩ : ∃ x r, vs = x :: r := by
    cases vs with
    | nil => simp at h0
    | cons x r => exact ⟨x, r, rfl⟩
  refine ⟨mnF cx x r, mnF cy x r, mnF cz x r, mxF cx x r, mxF cy x r, mxF cz x r, subP vs fs, subF vs fs, fun w hI => ?_, fun w hI => ?_, ?_, ?_, ?_⟩
  · have h := boundPoints_any A1 c1 vs w hI.1 (by have := (made_four hmm).1; omega) hc
    refine h.mono ?_
    rintro e w' hp
    rw [hvs] at hp
    exact hp
  · have h := subdivide_any A1 A2 c1 c2 vs fs w hI (made_fits hmm)
    refine h.mono ?_
    rintro e w' hp
    unfold sbP sbF at hp
    rw [hsb] at hp
    exact mesh_read hp (fun f hf => by have := subF_four f hf; omega)
  · rw [subP_len]; omega
  · rw [subP_len]; exact ((subOk_iff _ _).1 hsb).2.2
  · have hb := bb_btw (x := x) (r := r) (fun v hv => hmm.1 v (by rw [hvs]; exact hv))
    exact fun p hp => inB_of (subP_btw hok (fun v hv => hb v (by rw [← hvs]; exact hv)) hin p hp)
set_option maxRecDepth 100000 in
set_option maxHeartbeats 20000000 in
theorem walk (w : World) (a0 : Option Addr) (c0 : Nat) (x0 : List Int) (r0 : Row (Value.int .u8) w w.heap.size a0 x0) (m0 : x0.length ≤ maxLen) (w0 : ∀ x ∈ x0, (Lit.int .u8 x).wf = true) :
    Calls Try.prog 4 #[.slice a0 x0.length c0] w fun e w' => e = .returned (.bool true) ∧ Below w.heap.size w w' := by
  have H8 : Hid (∀ x ∈ x0, 0 ≤ x ∧ x ≤ 255) := Lib.hid (fun x hx => bounds_u8 (w0 x hx))
  have HR : Hid (Row U8 w w.heap.size a0 x0) := Lib.hid r0
  clear w0 r0
  by_cases hbig : x0.length ≤ 1048576
  · go_enter Try.func4, Try.ntmps4
    go_wp2_with fail
    refine (makeMesh_any _ _ x0 _ HR.out H8.out hbig).mono ?_
    rintro e w1 ⟨A1, c1, A2, c2, vs, fs, rfl, hmm, hin, hb1, hc1⟩
    obtain ⟨l1, l2, l3, h1, h2, h3, P, F, hB, hS, hp0, hp1, hI⟩ := hull_calls (A1 := A1) (A2 := A2) (c2 := c2) hmm hc1
    obtain ⟨n, hn⟩ : ∃ n, n = vs.length := ⟨_, rfl⟩
    obtain ⟨nf, hnf⟩ : ∃ n, n = fs.length := ⟨_, rfl⟩
    rw [← hn] at hB hS ⊢
    rw [← hnf] at hS ⊢
    have HBP := Lib.hid hB
    have HSU := Lib.hid hS
    have HIN := Lib.hid hI
    have HM := Lib.hid (hin.alloc (.cells #[.slice A1 n c1, .slice A2 nf c2] 26))
    have HT := Lib.hid (((Held.nil w).later hb1).new #[.slice A1 n c1, .slice A2 nf c2] 26)
    have hn8 : n ≤ 8 := by have := (made_four hmm).1; omega
    have hnf8 : nf ≤ 6 := by have := (made_four hmm).2.2.1; omega
    clear hB hS hI hin hb1 hmm hn hnf hc1 HR H8
    have c0 := (HT.out.box 0).c 0
    have c1' := (HT.out.box 0).c 1
    go_wp2_with fail
    refine (HBP.out _ HM.out).mono ?_
    rintro e w2 ⟨rfl, hb2⟩
    have HM := Lib.hid ((HM.out.later hb2).alloc (.cells #[.int .i64 l1, .int .i64 l2, .int .i64 l3, .int .i64 h1, .int .i64 h2, .int .i64 h3] 39))
    have HT := Lib.hid ((HT.out.later hb2).new #[.int .i64 l1, .int .i64 l2, .int .i64 l3, .int .i64 h1, .int .i64 h2, .int .i64 h3] 39)
    clear hb2 HBP c0 c1'
    have c0 := (HT.out.box 1).c 0
    have c1' := (HT.out.box 1).c 1
    go_wp2_with fail
    refine (HSU.out _ HM.out).mono ?_
    rintro e w3 ⟨A3, c3, A4, c4, rfl, hin, hb3⟩
    obtain ⟨p, hp⟩ : ∃ n, n = P.length := ⟨_, rfl⟩
    obtain ⟨pf, hpf⟩ : ∃ n, n = F.length := ⟨_, rfl⟩
    rw [← hp] at hp0 hp1 ⊢
    rw [← hpf]
    have HP := Lib.hid hp
    have HM := Lib.hid (hin.alloc (.cells #[.slice A3 p c3, .slice A4 pf c4] 26)).1
    have HT := Lib.hid ((HT.out.later hb3).new #[.slice A3 p c3, .slice A4 pf c4] 26)
    clear hb3 HSU c0 c1' hin hp hpf
    have c0 := (HT.out.box 0).c 0
    have c1' := (HT.out.box 0).c 1
    generalize w1.heap.size = k1 at HT ⊢
    go_wp2_with fail
    have hpp : (0 : Int) ≤ 0 := by omega
    clear c0 c1'
    go_loopw [31] (fun i wr => ∃ k : Nat, k ≤ p ∧ i = .int .i64 k ∧ RowC 3 vg wr wr.heap.size A3 P ∧ Held w wr [(w3.heap.size, [.slice A3 p c3, .slice A4 pf c4]), (w2.heap.size, [.int .i64 l1, .int .i64 l2, .int .i64 l3, .int .i64 h1, .int .i64 h2, .int .i64 h3]), (k1, [.slice A1 n c1, .slice A2 nf c2])]) (fun i _ => p - (intOf i).toNat)
    case atStart => exact ⟨0, Nat.zero_le _, rfl, HM.out, HT.out⟩
    case round =>
      clear HM HT hpp
      obtain ⟨k, hk, rfl, hrc, ht⟩ := hrel
      have HM := Lib.hid hrc
      have HT := Lib.hid ht
      clear hrc ht
      by_cases hlt : k < p
      · have hlP : k < P.length := by rw [← HP.out]; exact hlt
        obtain ⟨b3, o3, rfl, hb3, hc⟩ := HM.out.at hlP
        obtain ⟨d0, d1, d2⟩ := vg_at hc
        have hin := HIN.out _ (List.getElem_mem hlP)
        obtain ⟨v, hv⟩ : ∃ v, v = P[k] := ⟨_, rfl⟩
        rw [← hv] at d0 d1 d2 hin
        have HV := Lib.hid hin
        have HT1 := Lib.hid (HT.out.new #[.int .i64 v.1, .int .i64 v.2.1, .int .i64 v.2.2] 37)
        have HM1 := Lib.hid (HM.out.later (show Below wr.heap.size wr (wr.alloc (.cells #[.int .i64 v.1, .int .i64 v.2.1, .int .i64 v.2.2] 37)) by go_grown))
        have v0 := (HT1.out.box 0).c 0
        have v1 := (HT1.out.box 0).c 1
        have v2 := (HT1.out.box 0).c 2
        have q0 := (HT1.out.box 2).c 0
        have q1 := (HT1.out.box 2).c 1
        have q2 := (HT1.out.box 2).c 2
        have q3 := (HT1.out.box 2).c 3
        have q4 := (HT1.out.box 2).c 4
        have q5 := (HT1.out.box 2).c 5
        have HC := boxContains_any l1 l2 l3 h1 h2 h3 v.1 v.2.1 v.2.2
        clear hc hv hin HM HT
        go_wp2_with fail
        refine (HC _).mono ?_
        rintro e w4 ⟨rfl, hb4⟩
        rw [HV.out]
        have HM := Lib.hid (HM1.out.later hb4)
        have HT := Lib.hid (HT1.out.later hb4).tail
        clear hb4 HM1 HT1 HC v0 v1 v2 q0 q1 q2 q3 q4 q5 d0 d1 d2
        go_wp2_with fail
        go_roundw
        case rel => exact ⟨k + 1, by omega, by go_num, HM.out, HT.out⟩
        case measure => simp [intOf]; omega
      · have e : k = p := by omega
        subst e
        have c0 := (HT.out.box 0).c 0
        have c1' := (HT.out.box 0).c 1
        have HB := Lib.hid HT.out.below
        have hkd : decide ((k : Int) > 0) = true := by simp; omega
        clear HM HT
        go_wp2_with fail
        go_ret
        exact ⟨rfl, HB.out⟩
  · go_enter Try.func4, Try.ntmps4
    go_wp2_with fail
    go_ret
    exact ⟨rfl, Below.refl _ _⟩

set_option maxRecDepth 100000 in
theorem lifted (os : Os) (started : os.Started) (H : Type) (enc : TypeId × Value → H) :
    ReturnsInHanded {} Try.checked os 4 .any (Rows.fnHullSpec.pre6 enc Try.prog Try.f4 Rows.fnHullRow.domain false) (Rows.fnHullSpec.post enc Try.prog Try.f4 false true false false) := by
  refine returnsInHanded_of_change (C := Try.checked) own started (by kernel_rfl) Try.func4
    (ChangeSpec.witness6 (enc := enc) (C := Try.checked) false ⟨#[], #[.slice none 0 0], []⟩ 8 (by kernel_rfl) (by kernel_rfl) (by kernel_rfl) (by kernel_rfl)) ?_
  intro W base args ds gs before hval0 hW hcnd _
  have hval : ∀ (j : Nat) t v, Try.f4.params[j]? = some t → args[j]? = some v → Value.okWide Try.prog W .any base t v := hval0
  have hW' := hW
  obtain ⟨p, q, hA0, hV, rfl, hfz, hnd⟩ := hW
  have hA : DataW.TrodAll enc Try.prog W 0 (fun _ => true) true Try.f4.params.toList args.toList ds p := hA0
  rw [Try.params4] at hA hval
  obtain ⟨v0, vs0, d0, ds0, p0, q0, hargs, rfl, rfl, h0, r1000⟩ := trodAll_cons hA
  obtain ⟨rfl, rfl, rfl⟩ := trodAll_nil r1000
  obtain rfl : args = #[v0] := by cases args; simp_all
  obtain ⟨rfl, rfl⟩ := trodVars_none hV
  obtain ⟨a0, len0, cap0, rfl⟩ := okWide_slice Try.underlying22 (hval 0 22 v0 rfl rfl)
  have k0 := h0
  have lt0 : ∀ x ∈ p0, x.block < W.heap.size := by obtain ⟨m, hm⟩ := k0; exact DataW.trod_lt m _ _ _ hm
  obtain ⟨x0, rfl, r0, m0, w0⟩ : ∃ xs : List Int, len0 = xs.length ∧ Row (Value.int .u8) W W.heap.size a0 xs ∧ xs.length ≤ maxLen ∧ ∀ x ∈ xs, (Lit.int .u8 x).wf = true := by
    obtain ⟨fuel, hf⟩ := h0
    rcases open_ints Try.underlying22 Try.underlying5 (by kernel_rfl) hf with ⟨hcs, _⟩ | ⟨x, l, c, zs, hcs, _, hl, hm, hz, _, hcell, hwz⟩
    · simp [Value.cells] at hcs
      obtain ⟨rfl, rfl, rfl⟩ := hcs
      exact ⟨[], rfl, Row.nil, Nat.zero_le _, fun x hx => by cases hx⟩
    · simp [Value.cells] at hcs
      obtain ⟨rfl, rfl, rfl⟩ := hcs
      exact row_of_cells (d := (0 : Int)) hl hm (by simpa using hz) hcell hwz
  clear hA0
  refine (walk W a0 cap0 x0 r0 m0 w0).mono fun e W' ⟨he, bel⟩ => ?_
  subst he
  exact ⟨_, rfl, _, _, _, [], _, [], hW', trodAll_mk1 (shut_bool Try.underlying4 _), (trodAll_cons_mk (Below.trod laidOut (by kernel_rfl) (of_decide_eq_true (by kernel_rfl)) k0 bel lt0) trodAll_mk0), rfl, bel.frame _, fun h => by cases h⟩

theorem proved : Rows.FnHullSaid :=
  OpenClaim.holds_of_wide 4 Try.f4 rfl rfl rfl rfl rfl rfl rfl ⟨rfl, rfl, rfl, rfl, rfl⟩ rfl rfl rfl rfl rfl (by kernel_rfl) Try.func4 (by kernel_rfl)
    (of_decide_eq_true (by kernel_rfl)) (by unfold Func.isWrapper; first | (rw [if_pos (by decide +kernel)]; kernel_rfl) | (rw [if_neg (by decide +kernel)]; exact ⟨rfl, rfl⟩))
    (fun os started H enc _ => lifted os started H enc)
#print axioms proved
end Go.Proofs.Ytdefhepagpgnaaa.fnHull
