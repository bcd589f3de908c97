/- The contract of IsValidMesh in the model. -/
import Derived.Test.YtdefhepagpgnaaaGreatProg
import Derived.Test.YtdefhepagpgnaaaGreatInts
import Derived.Test.YtdefhepagpgnaaaGreatVbox
import Derived.Test.YtdefhepagpgnaaaGreatVec
import Derived.Test.YtdefhepagpgnaaaGreatHeld
import Derived.Test.YtdefhepagpgnaaaGreatMem
import Derived.Test.YtdefhepagpgnaaaGreatRowC
import Derived.Test.YtdefhepagpgnaaaGreatIntS
import Derived.Test.YtdefhepagpgnaaaGreatVecS
import Derived.Test.YtdefhepagpgnaaaGreatSS
import Derived.Test.YtdefhepagpgnaaaGreatMkA
import Derived.Test.YtdefhepagpgnaaaGreatMkB
import Derived.Test.YtdefhepagpgnaaaGreatMkC
import Derived.Test.YtdefhepagpgnaaaGreatMkD
import Derived.Test.YtdefhepagpgnaaaGreatMF
import Derived.Test.YtdefhepagpgnaaaGreatMG
import Derived.Test.YtdefhepagpgnaaaGreatMH
import Derived.WalkKit
import Derived.WalkSpells
import Derived.WalkLawsBesides
import Derived.Lib.Hide
import Derived.Deep.RegionHeld3
import Derived.Deep.QuietTactic
import Derived.BigQuiet
import Derived.Handy
import Derived.Deep.DeepCutAuto
import Derived.OwnWalk
import Derived.Deep.AppendLies
namespace Go.Proofs.YtdefhepagpgnaaaGreat
open Go.RowKit


theorem drewN_add (w : World) (a b : Nat) : (w.drewN a).drewN b = w.drewN (a + b) := by simp [World.drewN, Nat.add_assoc]
/-- what a call holds, behind an append onto a row of its own -/
theorem heldGrown {w W W' : World} {bs : List (Nat × List Value)} {row : Option Nat} (h : Held w W bs) (hg : W.grownBy W' row) (hr : ∀ k, row = some k → w.heap.size ≤ k) (hne : ∀ p ∈ bs, some p.1 ≠ row) : Held w W' bs :=
  ⟨h.1.grown hg h.1.size hr, fun i k vs e => (h.2 i k vs e).keep fun hl => hg.block k hl (hne (k, vs) (List.mem_of_getElem? e))⟩
/-- 'append(s, x)' of one element, saying where the new slice lies -/
theorem wpList_app1L {P : Program} {ops : Array Oper} {rest : List Oper} {o : Oper} {a : Act} {Q : Exit → Act → World → Prop} (w0 : World) (hgd : o.guard = none) (s x : Operand) (t : TypeId)
    (ho : o.op = .call { callee := .builtin .append, args := #[s, x], argTypes := #[t, t] }) (base : Nat) (e : TypeId) (z : Value) (bytes : Nat)
    (ht : P.underlying t = some (.slice e)) (hinfo : (P.info? e).map (fun i => (i.zero, i.size, i.bytes)) = some (some z, 1, bytes)) (hzs : z.cells.size = 1)
    (v : Value) (n : Nat) (xs : List Value) (hs : a.eval s = v) (hown : w0.ownsRow base e 1 v n xs) (u : Value) (hx : a.eval x = .slice (some ⟨w0.heap.size, 0, none⟩) 1 1) (hu : u.oneCell' = true)
    (h63 : n + 1 ≤ maxLen) (hbytes : (n + 1) * bytes ≤ 140737488355328) (hbase : base ≤ w0.heap.size)
    (h : ∀ g cap w', w'.ownsRow base e 1 (.slice (some ⟨g, 0, none⟩) (n + 1) cap) (n + 1) (xs ++ [u]) → w0.grownBy w' v.ownBlock → (v.ownBlock = some g ∨ w0.heap.size ≤ g) → wpList P ops Q rest (a.put o.dst (.slice (some ⟨g, 0, none⟩) (n + 1) cap)) w') : wpList P ops Q (o :: rest) a (w0.alloc (.cells #[u] e)) := by
  obtain ⟨i0, hi, hz0, hz1, hz2⟩ := info_parts hinfo
  refine wpList_append_lies _ hgd s x t ho base e i0 z 1 bytes ht hi hz0 hz1 hz2 hzs (by omega) v n xs hs (hown.alloc _) ⟨w0.heap.size, 0, none⟩ 1 1 [u] hx rfl ?_ ?_ (by omega) h63 hbytes (by simp; omega) _ rfl ?_
  · intro j y hj
    match j, hj with
    | 0, hj => simp at hj; subst hj; simp [Addr.add]
  · intro y hy; simp at hy; subst hy; exact hu
  · intro g cap w' h1 h2 h3 _
    refine h g cap w' h1 ⟨h2.os, h2.tape, h2.output, Nat.le_trans (by simp) h2.size, fun k hk hr => (h2.block k (by simp; omega) hr).trans (Below.heap_alloc w0 _ k hk)⟩ (h3.imp id fun e => by rw [e]; simp)
theorem okMesh_parts' {vs : List V3} {fs : List (List Int)} (h1 : vs.length ≤ 80) (h2 : fs.length ≤ 64) (h3 : ∀ v ∈ vs, okV3 v = true) (h4 : ∀ f ∈ fs, okFace vs.length f = true) : okMesh vs fs = decide (fs.flatMap stepsL).Nodup := by
  unfold okMesh
  rw [List.all_eq_true.2 h3, List.all_eq_true.2 h4]
  simp [h1, h2]
theorem take_all_step' {α : Type} {p : α → Prop} {l : List α} {k : Nat} (h : ∀ x ∈ l.take k, p x) (hk : k < l.length) (hp : p l[k]) : ∀ x ∈ l.take (k + 1), p x := by
  rw [List.take_succ_eq_append_getElem hk]
  intro x hx
  rcases List.mem_append.1 hx with hx | hx
  · exact h x hx
  · rw [List.mem_singleton] at hx
    rw [hx]; exact hp
set_option maxRecDepth 100000 in
set_option maxHeartbeats 8000000 in
theorem sValidMesh_any (A1 A2 : Option Addr) (c1 c2 : Nat) (vs : List V3) (fs : List (List Int)) (w : World) (hR : MeshIn w A1 A2 vs fs) (hf : MeshFits vs fs) :
    Calls Tryz.prog 17 #[mv A1 A2 vs.length c1 fs.length c2] w fun e w' => e = .returned (.bool (okMesh vs fs)) ∧ Below w.heap.size w w' := by
  obtain ⟨R, hRR⟩ : ∃ R, R = okMesh vs fs := ⟨_, rfl⟩
  rw [← hRR]
  have HRR := Lib.hid hRR
  have HV := Lib.hid hR.1
  have HFS := Lib.hid hR.2
  have HFI := Lib.hid hf
  have HT0 : Held w (w.alloc (.cells #[.slice A1 vs.length c1, .slice A2 fs.length c2] 29)) [(w.heap.size, [.slice A1 vs.length c1, .slice A2 fs.length c2])] := by
    have h := (Held.nil w).new #[.slice A1 vs.length c1, .slice A2 fs.length c2] 29
    simpa only [World.size_alloc] using h
  have HT := Lib.hid HT0
  clear hRR hR hf HT0
  by_cases h80 : vs.length ≤ 80
  · have hb80 : decide ((vs.length : Int) > 80) = false := by simp; omega
    by_cases h64 : fs.length ≤ 64
    · have hb64 : decide ((fs.length : Int) > 64) = false := by simp; omega
      go_enter Tryz.func17, Tryz.ntmps17
      go_wp2
      go_loopw [25] (fun i wr => ∃ k : Nat, k ≤ vs.length ∧ i = .int .i64 k ∧ (∀ v ∈ vs.take k, okV3 v = true) ∧ Held w wr [(w.heap.size, [.slice A1 vs.length c1, .slice A2 fs.length c2])]) (fun i _ => vs.length - (intOf i).toNat)
      case atStart => exact ⟨0, Nat.zero_le _, rfl, by simp, HT.out⟩
      case round =>
        obtain ⟨k, hk, rfl, hall, ht⟩ := hrel
        clear HT
        have HAL := Lib.hid hall
        have HT := Lib.hid ht
        clear hall ht
        by_cases hlt : k < vs.length
        · obtain ⟨b, o, rfl, hbl, hc⟩ := HV.out.at hlt
          obtain ⟨q0, q1, q2⟩ := vg_at hc
          have d0 := (HT.out.below.cell (p := ⟨b, o + k * 3, none⟩) hbl).trans q0
          have d1 := (HT.out.below.cell (p := ⟨b, o + k * 3 + 1, none⟩) hbl).trans q1
          have d2 := (HT.out.below.cell (p := ⟨b, o + k * 3 + 2, none⟩) hbl).trans q2
          have HST : Hid (okV3 vs[k] = true → ∀ v ∈ vs.take (k + 1), okV3 v = true) := Lib.hid fun h => take_all_step' HAL.out hlt h
          have HNO : Hid (okV3 vs[k] = false → false = R) := Lib.hid fun h => by
            rw [HRR.out]
            exact (okMesh_no fun hh => by have := hh.2.2.1 _ (List.getElem_mem hlt); rw [h] at this; cases this).symm
          obtain ⟨v, hv⟩ : ∃ v, v = vs[k] := ⟨_, rfl⟩
          rw [← hv] at d0 d1 d2
          simp only [← hv] at HST HNO
          obtain ⟨x, y, z⟩ := v
          simp only at d0 d1 d2
          obtain ⟨q, hq⟩ : ∃ q, q = okB x y z := ⟨_, rfl⟩
          have HQ : Hid (okV3 (x, y, z) = q) := Lib.hid hq.symm
          have HC : ∀ W, Calls Tryz.prog 43 #[vec x y z] W fun e w' => e = .returned (.bool q) ∧ Below W.heap.size W w' := fun W => by rw [hq]; exact sIsValidVec_any x y z W
          have hlt' : (k : Int) < (vs.length : Int) := by omega
          have hge' : (0 : Int) ≤ (k : Int) := by omega
          clear hv hq q0 q1 q2 hc
          go_wp2_with fail
          refine (HC _).mono ?_
          rintro e w2 ⟨rfl, hb2⟩
          have HT2 := Lib.hid ((HT.out.alloc (.cells #[.int .i64 x, .int .i64 y, .int .i64 z] 43)).later hb2)
          clear hb2 HC HT d0 d1 d2
          cases q
          · have HF := Lib.hid (HNO.out HQ.out)
            go_wp2_with fail
            go_ret
            exact ⟨retB HF.out, HT2.out.below⟩
          · have HS := Lib.hid (HST.out HQ.out)
            clear HST HNO HAL
            go_wp2_with fail
            go_roundw
            case rel => exact ⟨k + 1, by omega, by go_num, HS.out, HT2.out⟩
            case measure => simp [intOf]; omega
        · have e : k = vs.length := by omega
          have HAV : Hid (∀ v ∈ vs, okV3 v = true) := Lib.hid (by have := HAL.out; rwa [e, List.take_length] at this)
          have f1 := ((HT.out.alloc (.cells #[] 45)).box 0).c 1
          have HO0 := Lib.hid (own_base (made_none wr 45) (show w.heap.size + 1 ≤ wr.heap.size from (HT.out.box 0).lt))
          have HT0 := Lib.hid (HT.out.alloc (.cells #[] 45))
          clear e HAL
          go_wp2
          go_loopw [5, 37] (fun v i wr => ∃ (k : Nat) (ps : Lot), k ≤ fs.length ∧ i = .int .i64 k ∧ (∀ f ∈ fs.take k, okFace vs.length f = true) ∧ ps.length = 4 * k ∧ wr.ownsRow (w.heap.size + 1) 45 1 v (4 * k) (ps.map hdr) ∧ ps.map Prod.snd = (stepsTo fs k).map pr ∧ LotT wr ps ∧ (stepsTo fs k).Nodup ∧ Held w wr [(w.heap.size, [.slice A1 vs.length c1, .slice A2 fs.length c2])]) (fun _ i _ => fs.length - (intOf i).toNat)
          case atStart => exact ⟨0, [], Nat.zero_le _, rfl, by simp, rfl, HO0.out, by simp [stepsTo], LotT.nil _, by simp [stepsTo], HT0.out⟩
          case round =>
            clear f1 HT HO0 HT0
            obtain ⟨j, ps, hj, rfl, hall, hpl, hown, hsnd, hlots, hnd, ht⟩ := hrel
            have HAL := Lib.hid hall
            have HPL := Lib.hid hpl
            have HO := Lib.hid hown
            have HSN := Lib.hid hsnd
            have HL := Lib.hid hlots
            have HND := Lib.hid hnd
            have HT := Lib.hid ht
            clear hall hpl hown hsnd hlots hnd ht
            by_cases hjl : j < fs.length
            · obtain ⟨b, o, a, cc, rfl, hbl, hc, hle, hcm, hrow⟩ := HFS.out.at hjl
              have hc' := (HT.out.below.cell (p := ⟨b, o + j, none⟩) hbl).trans hc
              have hrow' := (hrow.below HT.out.below).more HT.out.size
              have HRW := Lib.hid hrow
              have HST : Hid (okFace vs.length fs[j] = true → ∀ f ∈ fs.take (j + 1), okFace vs.length f = true) := Lib.hid fun h => take_all_step' HAL.out hjl h
              have HNO : Hid (okFace vs.length fs[j] = false → false = R) := Lib.hid fun h => by
                rw [HRR.out]
                exact (okMesh_no fun hh => by have := hh.2.2.2.1 _ (List.getElem_mem hjl); rw [h] at this; cases this).symm
              have HSU := Lib.hid (stepsTo_succ fs j hjl)
              have HPRE := Lib.hid (stepsTo_pre fs (j + 1))
              obtain ⟨f, hf⟩ : ∃ f, f = fs[j] := ⟨_, rfl⟩
              rw [← hf] at hc' hrow' hle
              simp only [← hf] at HST HNO HSU HRW
              have HC := sFace_any A1 a (some ⟨b, o, none⟩) c1 c2 cc vs.length fs.length f wr hrow' hle hcm (by omega)
              obtain ⟨q, hq⟩ : ∃ q, q = okFace vs.length f := ⟨_, rfl⟩
              have HQ : Hid (okFace vs.length f = q) := Lib.hid hq.symm
              rw [← hq] at HC
              have f0 := (HT.out.box 0).c 0
              have f1 := (HT.out.box 0).c 1
              clear hf hq hc hrow hrow'
              go_wp2_with fail
              refine HC.mono ?_
              rintro e w2 ⟨rfl, hb2⟩
              have hx1 := HO.out.lt
              have HO2 := Lib.hid (own_keep' HO.out hb2)
              have HL2 := Lib.hid (HL.out.later hb2)
              have HT2 := Lib.hid (HT.out.later hb2)
              clear HC f0 f1 hc' hb2 HO HL HT hx1
              cases q
              · have HF := Lib.hid (HNO.out HQ.out)
                go_wp2_with fail
                go_ret
                exact ⟨retB HF.out, HT2.out.below⟩
              · have HS := Lib.hid (HST.out HQ.out)
                have HF4 := Lib.hid (okFace_at HQ.out).1
                have HLEN : Hid ((stepsL f).length = 4) := Lib.hid (by rw [stepsL_len, HF4.out])
                clear HST HNO HAL
                go_wp2_with fail
                refine (sSteps_any a cc f w2 ((HRW.out.below HT2.out.below).more HT2.out.size) (by have := HF4.out; omega)).mono ?_
                rintro e w3 ⟨v2, ps2, rfl, ho2, hs2, hl2, hge2, hb3⟩
                have HP2L : Hid (ps2.length = 4) := Lib.hid (by have := congrArg List.length hs2; simpa [HLEN.out] using this)
                obtain ⟨A2, cp2, rfl⟩ := own_shape ho2
                have hp2 := HP2L.out
                rw [hp2] at ho2 ⊢
                obtain ⟨g2, rfl⟩ : ∃ g, A2 = some ⟨g, 0, none⟩ := by
                  rcases ho2.2 with ⟨h, h0⟩ | ⟨g, cap, cur, h, _⟩
                  · omega
                  · injection h with h; exact ⟨g, h⟩
                have hg2 := ho2.lt g2 rfl
                have hR2 : Row hdr w3 w3.heap.size (some ⟨g2, 0, none⟩) ps2 := Row.of_own (n := 4) ho2
                have HR2 := Lib.hid hR2
                have HO3 := Lib.hid (own_keep' HO2.out hb3)
                have HLA := Lib.hid ((HL2.out.later hb3).app hl2 (B := w2.heap.size) (fun p hp => (HL2.out.1.2 p hp).2) hge2)
                have HT3 := Lib.hid (HT2.out.later hb3)
                have HNE : Hid (u5.ownBlock ≠ some g2) := Lib.hid fun e => by
                  have h1 := (HO2.out.lt g2 e).2
                  omega
                have HG2 := Lib.hid hg2
                have HS2 := Lib.hid hs2
                clear hp2 ho2 hl2 hge2 hb3 hg2 hR2 HO2 HL2 HT2 hs2
                go_wp2
                go_loopw [5, 48] (fun v i wi => ∃ m : Nat, m ≤ 4 ∧ i = .int .i64 m ∧ wi.ownsRow (w.heap.size + 1) 45 1 v (4 * j + m) ((ps ++ ps2.take m).map hdr) ∧ LotT wi (ps ++ ps2) ∧ (stepsTo fs j ++ (stepsL f).take m).Nodup ∧ Row hdr wi wi.heap.size (some ⟨g2, 0, none⟩) ps2 ∧ v.ownBlock ≠ some g2 ∧ g2 < wi.heap.size ∧ Held w wi [(w.heap.size, [.slice A1 vs.length c1, .slice (some ⟨b, o, none⟩) fs.length c2])]) (fun _ i _ => 4 - (intOf i).toNat)
                case atStart => exact ⟨0, by omega, rfl, by simpa using HO3.out, HLA.out, by simpa using HND.out, HR2.out, HNE.out, HG2.out.2, HT3.out⟩
                case round =>
                  obtain ⟨m, hm, rfl, hown, hlots, hnd, hrow2, hne, hgl, ht⟩ := hrel
                  clear HO3 HLA HND HR2 HNE HG2 HT3
                  by_cases hml : m < 4
                  · have hmp : m < ps2.length := by rw [HP2L.out]; exact hml
                    have hms : m < (stepsL f).length := by rw [HLEN.out]; exact hml
                    obtain ⟨b', o', e', _, hcell⟩ := hrow2.at hmp
                    simp only [Option.some.injEq, Addr.mk.injEq, and_true] at e'
                    obtain ⟨rfl, rfl⟩ := e'
                    rw [Nat.zero_add] at hcell
                    have hmem : ps2[m] ∈ ps ++ ps2 := List.mem_append.2 (Or.inr (List.getElem_mem hmp))
                    have hmb := (hlots.1.2 _ hmem).1
                    have hpe : ps2[m].2 = pr (stepsL f)[m] := by
                      have h1 := congrArg (fun l => l[m]?) HS2.out
                      simp only [List.getElem?_map, List.getElem?_eq_getElem hmp, List.getElem?_eq_getElem hms, Option.map_some, Option.some.injEq] at h1
                      exact h1
                    have HTP := Lib.hid (List.take_succ_eq_append_getElem hmp)
                    have HTE := Lib.hid (List.take_succ_eq_append_getElem hms)
                    obtain ⟨ee, hee⟩ : ∃ e, e = (stepsL f)[m] := ⟨_, rfl⟩
                    obtain ⟨p, hp⟩ : ∃ p, p = ps2[m] := ⟨_, rfl⟩
                    rw [← hp, ← hee] at hpe
                    rw [← hp] at hcell hmb
                    simp only [← hp] at HTP
                    simp only [← hee] at HTE
                    obtain ⟨g, l⟩ := p
                    obtain ⟨x, y⟩ := ee
                    simp only [pr] at hpe
                    subst hpe
                    simp only [hdr, List.length_cons, List.length_nil, Nat.zero_add, Nat.reduceAdd] at hcell
                    have c0 := hmb.c 0
                    have c1' := hmb.c 1
                    obtain ⟨A5, c5, e5⟩ := own_shape hown
                    have hSl : (ps ++ ps2.take m).length = 4 * j + m := by simp [HPL.out, HP2L.out]; omega
                    have hrow5 : Row hdr wr wr.heap.size A5 (ps ++ ps2.take m) := by
                      have h := hown
                      rw [e5, ← hSl] at h
                      exact Row.of_own h
                    have hSm : (ps ++ ps2.take m).map Prod.snd = (stepsTo fs j ++ (stepsL f).take m).map pr := by
                      rw [List.map_append, List.map_append, HSN.out, List.map_take, List.map_take, HS2.out]
                    have HSL := Lib.hid hSl
                    have HR5 := Lib.hid hrow5
                    have HSM := Lib.hid hSm
                    have HO := Lib.hid hown
                    have HLO := Lib.hid hlots
                    have HNJ := Lib.hid hnd
                    have HRW2 := Lib.hid hrow2
                    have HNE := Lib.hid hne
                    have HGL := Lib.hid hgl
                    have HT := Lib.hid ht
                    have H5 := Lib.hid e5
                    have HMB := Lib.hid hmb
                    clear hp hee hmp hms hmem hmb hSl hrow5 hSm hown hlots hnd hrow2 hne hgl ht
                    subst e5
                    clear H5
                    obtain ⟨wo, rfl⟩ : ∃ wo : World, wo = wr := ⟨_, rfl⟩
                    go_wp2
                    go_loopw [54] (fun i wi => ∃ (n : Nat) (nd : Nat), n ≤ 4 * j + m ∧ i = .int .i64 n ∧ (x, y) ∉ (stepsTo fs j ++ (stepsL f).take m).take n ∧ wi = wo.drewN nd) (fun i _ => 4 * j + m - (intOf i).toNat)
                    case atStart => exact ⟨0, 0, Nat.zero_le _, rfl, by simp, rfl⟩
                    case round =>
                      obtain ⟨n, nd, hn, rfl, hno, rfl⟩ := hrel
                      have HN := Lib.hid hno
                      clear hno hcell
                      by_cases hnl : n < 4 * j + m
                      · have hnp : n < (ps ++ ps2.take m).length := by rw [HSL.out]; exact hnl
                        have hns : n < (stepsTo fs j ++ (stepsL f).take m).length := by
                          have := congrArg List.length HSM.out
                          simp only [List.length_map] at this
                          omega
                        obtain ⟨b', o', rfl, _, hcell⟩ := HR5.out.at hnp
                        have hmem : (ps ++ ps2.take m)[n] ∈ ps ++ ps2 := by
                          rcases List.mem_append.1 (List.getElem_mem hnp) with h | h
                          · exact List.mem_append.2 (Or.inl h)
                          · exact List.mem_append.2 (Or.inr (List.mem_of_mem_take h))
                        have hmb' := (HLO.out.1.2 _ hmem).1
                        have hpe : (ps ++ ps2.take m)[n].2 = pr (stepsTo fs j ++ (stepsL f).take m)[n] := by
                          have h1 := congrArg (fun l => l[n]?) HSM.out
                          simp only [List.getElem?_map, List.getElem?_eq_getElem hnp, List.getElem?_eq_getElem hns, Option.map_some, Option.some.injEq] at h1
                          exact h1
                        have HTN := Lib.hid (List.take_succ_eq_append_getElem hns)
                        have HIN := Lib.hid (List.getElem_mem hns)
                        obtain ⟨ee, hee⟩ : ∃ e, e = (stepsTo fs j ++ (stepsL f).take m)[n] := ⟨_, rfl⟩
                        obtain ⟨p, hp⟩ : ∃ p, p = (ps ++ ps2.take m)[n] := ⟨_, rfl⟩
                        rw [← hp, ← hee] at hpe
                        rw [← hp] at hcell hmb'
                        simp only [← hee] at HTN HIN
                        obtain ⟨g', l⟩ := p
                        obtain ⟨x', y'⟩ := ee
                        simp only [pr] at hpe
                        subst hpe
                        simp only [hdr, List.length_cons, List.length_nil, Nat.zero_add, Nat.reduceAdd] at hcell
                        have c0 : (wo.drewN nd).cell? ⟨g, 0, none⟩ = some (.int .i64 x) := HMB.out.c 0
                        have c1' : (wo.drewN nd).cell? ⟨g, 1, none⟩ = some (.int .i64 y) := HMB.out.c 1
                        have d0 : (wo.drewN nd).cell? ⟨g', 0, none⟩ = some (.int .i64 x') := hmb'.c 0
                        have d1 : (wo.drewN nd).cell? ⟨g', 1, none⟩ = some (.int .i64 y') := hmb'.c 1
                        have hcell' : (wo.drewN nd).cell? ⟨b', o' + n, none⟩ = some (.slice (some ⟨g', 0, none⟩) 2 2) := hcell
                        generalize hWD : wo.drewN nd = WD at c0 c1' d0 d1 hcell' ⊢
                        have HWD := Lib.hid hWD
                        clear hWD hcell
                        have hnlI : (n : Int) < ((4 * j + m : Nat) : Int) := by omega
                        clear hp hee hmem hmb' hnp hns
                        by_cases hx : x = x'
                        · have hb0 : (x == x') = true := by simpa using hx
                          by_cases hy : y = y'
                          · have hb1 : (y == y') = true := by simpa using hy
                            have HF : Hid (false = R) := Lib.hid (by
                              rw [HRR.out]
                              refine (okMesh_no fun hh => ?_).symm
                              obtain ⟨r, hr⟩ := HPRE.out
                              have hsplit : fs.flatMap stepsL = (stepsTo fs j ++ (stepsL f).take m) ++ (x, y) :: ((stepsL f).drop (m + 1) ++ r) := by
                                rw [hr, HSU.out]
                                have : stepsL f = (stepsL f).take m ++ (x, y) :: (stepsL f).drop (m + 1) := by
                                  have h1 := List.take_append_drop (m + 1) (stepsL f)
                                  rw [HTE.out] at h1
                                  simpa using h1.symm
                                conv => lhs; rw [this]
                                simp
                              have hm' := HIN.out
                              rw [← hx, ← hy] at hm'
                              exact not_nodup_of_mem hsplit hm' hh.2.2.2.2)
                            have HBB : Hid (Below w.heap.size w (wo.drewN nd)) := Lib.hid (HT.out.drewN nd).below
                            clear hx hy
                            go_wp2
                            go_quiet (fail)
                            go_wp2
                            go_ret
                            exact ⟨retB HF.out, by rw [← HWD.out]; exact below_drewN HBB.out _⟩
                          · have hb1 : (y == y') = false := by simpa using hy
                            have HN' : Hid ((x, y) ∉ (stepsTo fs j ++ (stepsL f).take m).take (n + 1)) := Lib.hid (by rw [HTN.out]; simp only [List.mem_append, List.mem_singleton, not_or]; exact ⟨by simpa using HN.out, fun h => hy (by injection h)⟩)
                            clear hx hy
                            go_wp2
                            go_quiet (fail)
                            go_wp2
                            go_roundw
                            case rel => exact ⟨n + 1, nd + nq, by omega, by go_num, HN'.out, by rw [← HWD.out, drewN_add]⟩
                            case measure => simp [intOf]; omega
                        · have hb0 : (x == x') = false := by simpa using hx
                          have HN' : Hid ((x, y) ∉ (stepsTo fs j ++ (stepsL f).take m).take (n + 1)) := Lib.hid (by rw [HTN.out]; simp only [List.mem_append, List.mem_singleton, not_or]; exact ⟨by simpa using HN.out, fun h => hx (by injection h)⟩)
                          clear hx
                          go_wp2
                          go_quiet (fail)
                          go_wp2
                          go_roundw
                          case rel => exact ⟨n + 1, nd + nq, by omega, by go_num, HN'.out, by rw [← HWD.out, drewN_add]⟩
                          case measure => simp [intOf]; omega
                      · have e : n = 4 * j + m := by omega
                        have HNEW : Hid ((x, y) ∉ stepsTo fs j ++ (stepsL f).take m) := Lib.hid (by
                          have := HN.out
                          rw [e, List.take_of_length_le (by have := congrArg List.length HSM.out; simp only [List.length_map] at this; have := HSL.out; omega)] at this
                          exact this)
                        have HO' : Hid ((wo.drewN nd).ownsRow (w.heap.size + 1) 45 1 (.slice A5 (4 * j + m) c5) (4 * j + m) ((ps ++ ps2.take m).map hdr)) := HO
                        have HL' : Hid (LotT (wo.drewN nd) (ps ++ ps2)) := HLO
                        have HT' : Hid (Held w (wo.drewN nd) [(w.heap.size, [.slice A1 vs.length c1, .slice (some ⟨b, o, none⟩) fs.length c2])]) := Lib.hid (HT.out.drewN nd)
                        clear e HN
                        go_wp2_with (at_builtin; refine wpList_app1L (wo.drewN nd) rfl _ _ 23 rfl (w.heap.size + 1) 45 nilS 24 Tryz.underlying23 infoSS rfl _ _ _ (by rfl) HO'.out (.slice (some ⟨g, 0, none⟩) 2 2) (by rfl) (by rfl) (by unfold maxLen; omega) (by omega) (by exact (HT'.out.box 0).lt) ?_)
                        intro g5 cap5 w5 ho5 hg5 hlie
                        have HL5 := Lib.hid (HL'.out.row HO'.out hg5)
                        have hlt2 : g2 ≠ g5 := fun e => by
                          subst e
                          rcases hlie with h | h
                          · exact HNE.out h
                          · have := HGL.out
                            have : (wo.drewN nd).heap.size = wo.heap.size := rfl
                            omega
                        have HR25 : Hid (Row hdr w5 w5.heap.size (some ⟨g2, 0, none⟩) ps2) := Lib.hid ((Row.keepAt (w := wo.drewN nd) HRW2.out (hg5.block g2 HGL.out (fun e => HNE.out e.symm))).more hg5.size)
                        have HO5 : Hid (w5.ownsRow (w.heap.size + 1) 45 1 (.slice (some ⟨g5, 0, none⟩) (4 * j + (m + 1)) cap5) (4 * j + (m + 1)) ((ps ++ ps2.take (m + 1)).map hdr)) := Lib.hid (by
                          rw [HTP.out]; simp only [List.map_append, List.map_take, List.map_cons, List.map_nil]; exact ho5)
                        have HT5 := Lib.hid (heldGrown HT'.out hg5 (fun k hk => Nat.le_of_succ_le (own_block HO'.out k hk)) (fun p hp e => by
                          simp only [List.mem_singleton] at hp
                          subst hp
                          have := own_block HO'.out _ e.symm
                          omega))
                        have HNJ5 : Hid (stepsTo fs j ++ (stepsL f).take (m + 1)).Nodup := Lib.hid (by
                          rw [HTE.out, ← List.append_assoc, List.nodup_append]
                          refine ⟨HNJ.out, by simp, fun u hu v hv he => ?_⟩
                          rw [List.mem_singleton] at hv
                          subst hv
                          subst he
                          exact HNEW.out hu)
                        have HNE5 : Hid ((Value.slice (some ⟨g5, 0, none⟩) (4 * j + (m + 1)) cap5).ownBlock ≠ some g2) := Lib.hid fun e => by
                          simp only [Value.ownBlock, Option.some.injEq] at e
                          exact hlt2 e.symm
                        have HGL5 : Hid (g2 < w5.heap.size) := Lib.hid (Nat.lt_of_lt_of_le HGL.out hg5.size)
                        have hsz : 4 * j + m + 1 = 4 * j + (m + 1) := by omega
                        clear ho5 hg5 hlie hlt2 HO HO' HL' HT' HLO HNJ HRW2 HNE HGL HT HR5 HSM HSL HMB
                        rw [hsz]
                        clear hsz
                        go_wp2_with fail
                        go_roundw
                        case rel => exact ⟨m + 1, by omega, by go_num, HO5.out, HL5.out, HNJ5.out, HR25.out, HNE5.out, HGL5.out, HT5.out⟩
                        case measure => simp [intOf]; omega
                  · have e4 : m = 4 := by omega
                    subst e4
                    have hE : stepsTo fs j ++ (stepsL f).take 4 = stepsTo fs (j + 1) := by rw [HSU.out, List.take_of_length_le (by rw [HLEN.out]; omega)]
                    have hP : ps2.take 4 = ps2 := List.take_of_length_le (by rw [HP2L.out]; omega)
                    rw [hE] at hnd
                    rw [hP] at hown
                    have HO5 : Hid (wr.ownsRow (w.heap.size + 1) 45 1 u5 (4 * (j + 1)) ((ps ++ ps2).map hdr)) := Lib.hid (by rw [Nat.mul_succ]; exact hown)
                    have HL5 := Lib.hid hlots
                    have HN5 := Lib.hid hnd
                    have HT5 := Lib.hid ht
                    have HPL5 : Hid ((ps ++ ps2).length = 4 * (j + 1)) := Lib.hid (by simp [HPL.out, HP2L.out]; omega)
                    have HSN5 : Hid ((ps ++ ps2).map Prod.snd = (stepsTo fs (j + 1)).map pr) := Lib.hid (by rw [List.map_append, HSN.out, HS2.out, HSU.out, List.map_append])
                    clear hE hP hnd hown hlots ht hrow2 hne hgl
                    go_wp2
                    go_roundw
                    case rel => exact ⟨j + 1, ps ++ ps2, by omega, by go_num, HS.out, HPL5.out, HO5.out, HSN5.out, HL5.out, HN5.out, HT5.out⟩
                    case measure => simp [intOf]; omega
            · have e : j = fs.length := by omega
              have HF : Hid (true = R) := Lib.hid (by
                rw [HRR.out, okMesh_parts' h80 h64 HAV.out (by have := HAL.out; rwa [e, List.take_length] at this)]
                have := HND.out
                rw [e, stepsTo_all] at this
                simp [this])
              clear e HAL HND HO HL
              go_wp2
              go_ret
              exact ⟨retB HF.out, HT.out.below⟩
    · have hb64 : decide ((fs.length : Int) > 64) = true := by simp; omega
      have HF : Hid (false = R) := Lib.hid (by rw [HRR.out]; exact (okMesh_no fun hh => h64 hh.2.1).symm)
      clear h64
      go_enter Tryz.func17, Tryz.ntmps17
      go_wp2_with fail
      go_ret
      exact ⟨retB HF.out, HT.out.below⟩
  · have hb80 : decide ((vs.length : Int) > 80) = true := by simp; omega
    have HF : Hid (false = R) := Lib.hid (by rw [HRR.out]; exact (okMesh_no fun hh => h80 hh.1).symm)
    clear h80
    go_enter Tryz.func17, Tryz.ntmps17
    go_wp2_with fail
    go_ret
    exact ⟨retB HF.out, HT.out.below⟩

end Go.Proofs.YtdefhepagpgnaaaGreat
