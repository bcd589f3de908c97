/- Contracts of the helpers of chapter 7 on one face. -/
import Derived.Test.YtdefhepagpgnaaaGreatProg
import Derived.Test.YtdefhepagpgnaaaGreatInts
import Derived.Test.YtdefhepagpgnaaaGreatVbox
import Derived.Test.YtdefhepagpgnaaaGreatVec
import Derived.Test.YtdefhepagpgnaaaGreatHeld
import Derived.Test.YtdefhepagpgnaaaGreatMem
import Derived.Test.YtdefhepagpgnaaaGreatRowC
import Derived.Test.YtdefhepagpgnaaaGreatIntS
import Derived.Test.YtdefhepagpgnaaaGreatVecS
import Derived.Test.YtdefhepagpgnaaaGreatSS
import Derived.Test.YtdefhepagpgnaaaGreatMkA
import Derived.Test.YtdefhepagpgnaaaGreatMkB
import Derived.Test.YtdefhepagpgnaaaGreatMkC
import Derived.Test.YtdefhepagpgnaaaGreatMkD
import Derived.Test.YtdefhepagpgnaaaGreatMF
import Derived.WalkKit
import Derived.WalkSpells
import Derived.WalkLawsBesides
import Derived.Lib.Hide
import Derived.Deep.RegionHeld3
import Derived.Deep.QuietTactic
import Derived.BigQuiet
import Derived.Handy
import Derived.Deep.DeepCutAuto
import Derived.OwnWalk
namespace Go.Proofs.YtdefhepagpgnaaaGreat
open Go.RowKit

set_option maxHeartbeats 2000000 in
theorem sFace_any (A1 A : Option Addr) (A2 : Option Addr) (c1 c2 c n m : Nat) (f : List Int) (w : World) (hR : Row I64 w w.heap.size A f) (hc : f.length ≤ c) (hcm : c ≤ maxLen) (hn : n ≤ 1048576) :
    Calls Tryz.prog 44 #[.agg #[.slice A1 n c1, .slice A2 m c2], .slice A f.length c] w fun e w' => e = .returned (.bool (okFace n f)) ∧ Below w.heap.size w w' := by
  have HR : Hid (Row I64 (w.alloc (.cells #[.slice A1 n c1, .slice A2 m c2] 29)) w.heap.size A f) := Lib.hid (hR.alloc (Nat.le_refl _) _)
  have hbox := (Mbox.new w #[.slice A1 n c1, .slice A2 m c2] 29).c 0
  have HBW : Hid (Below w.heap.size w (w.alloc (.cells #[.slice A1 n c1, .slice A2 m c2] 29))) := Lib.hid (by go_grown)
  obtain ⟨R, hRR⟩ : ∃ R, R = okFace n f := ⟨_, rfl⟩
  rw [← hRR]
  have HRR := Lib.hid hRR
  have hcm' : (c : Int) ≤ 9223372036854775807 := by unfold maxLen at hcm; omega
  obtain ⟨m4, hm⟩ : ∃ m, m = f.length := ⟨_, rfl⟩
  have HM := Lib.hid hm
  rw [← hm] at hc ⊢
  clear hm hR hRR hcm
  go_enter Tryz.func44, Tryz.ntmps44
  go_wp2
  generalize w.alloc (.cells #[.slice A1 n c1, .slice A2 m c2] 29) = W at HR hbox HBW ⊢
  go_loop [11] (fun i => ∃ k : Nat, k ≤ m4 ∧ i = .int .i64 k ∧ ∀ i < k, okAt n f i = true) (fun i => m4 - (intOf i).toNat)
  case atStart => exact ⟨0, Nat.zero_le _, rfl, fun i h => by omega⟩
  case round =>
    obtain ⟨k, hk, rfl, hok⟩ := hrel
    have HK := Lib.hid hok
    clear hok
    by_cases hlt : k < m4
    · have hlt' : k < f.length := by have := HM.out; omega
      obtain ⟨b, o, rfl, hbl, hcell⟩ := HR.out.at hlt'
      have HRC : Hid (∀ j (h : j < f.length), W.cell? ⟨b, o + j, none⟩ = some (I64 (f[j]))) := Lib.hid fun j h => by
        obtain ⟨b1, o1, e1, _, hc1⟩ := HR.out.at h
        simp only [Option.some.injEq, Addr.mk.injEq, and_true] at e1
        obtain ⟨rfl, rfl⟩ := e1
        exact hc1
      have HD := Lib.hid (gd f k 0 hlt')
      have HNO : Hid (okAt n f k = false → false = R) := Lib.hid fun h => by rw [HRR.out, okFace_no_at hlt' h]
      obtain ⟨x, hx⟩ : ∃ x, x = f[k] := ⟨_, rfl⟩
      rw [← hx] at hcell HD
      have HOK : Hid (okAt n f k = (decide (0 ≤ x) && decide (x < n) && !((f.take k).contains x))) := Lib.hid (by unfold okAt; rw [HD.out])
      clear hx hlt'
      have hkc : (k : Int) ≤ (c : Int) := by omega
      by_cases hin : 0 ≤ x ∧ x ≤ (n : Int) - 1
      · go_wp2_with (go_at_call 36; refine (inV_yes _ _ _ _ hin.1 hin.2).mono ?_; rintro e w' ⟨rfl, rfl⟩)
        go_loop [27] (fun i => ∃ j : Nat, j ≤ k ∧ i = .int .i64 j ∧ x ∉ f.take j) (fun i => k - (intOf i).toNat)
        case atStart => exact ⟨0, Nat.zero_le _, rfl, by simp⟩
        case round =>
          obtain ⟨j, hj, rfl, hno⟩ := hrel
          have HN := Lib.hid hno
          clear hno
          by_cases hjl : j < k
          · have hjf : j < f.length := by have := HM.out; omega
            have hcj := HRC.out j hjf
            have HT := Lib.hid (List.take_succ_eq_append_getElem hjf)
            have HMem : Hid (x = f[j] → (f.take k).contains x = true) := Lib.hid fun e => by
              rw [List.contains_iff_mem, e]
              exact List.mem_iff_getElem.2 ⟨j, by simp; omega, by simp⟩
            obtain ⟨y, hy⟩ : ∃ y, y = f[j] := ⟨_, rfl⟩
            rw [← hy] at hcj HT HMem
            clear hy hjf
            by_cases he : x = y
            · have HF : Hid (false = R) := Lib.hid (HNO.out (by rw [HOK.out, HMem.out he]; simp))
              go_wp2
              go_ret
              exact ⟨retB HF.out, HBW.out⟩
            · have HE := Lib.hid he
              go_wp2
              go_round
              case rel => exact ⟨j + 1, by omega, by go_num, by rw [HT.out]; simp [HN.out, HE.out]⟩
              case measure => simp [intOf]; omega
          · have e : j = k := by omega
            have HG : Hid (okAt n f k = true) := Lib.hid (by rw [HOK.out]; have := HN.out; rw [e] at this; simp [this]; omega)
            clear e
            go_wp2
            go_round
            case rel => exact ⟨k + 1, by omega, by go_num, fun i hi => by
              by_cases e : i = k
              · rw [e]; exact HG.out
              · exact HK.out i (by omega)⟩
            case measure => simp [intOf]; omega
      · have HF : Hid (false = R) := Lib.hid (HNO.out (by rw [HOK.out]; simp; omega))
        go_wp2_with (go_at_call 36; refine (inV_no _ _ _ _ hin).mono ?_; rintro e w' ⟨rfl, rfl⟩)
        go_ret
        exact ⟨retB HF.out, HBW.out⟩
    · have HF : Hid (decide (m4 = 4) = R) := Lib.hid (by rw [HRR.out, okFace_eq (fun i hi => HK.out i (by have := HM.out; omega)), ← HM.out])
      have HF' : Hid (((m4 : Int) == 4) = R) := Lib.hid (by rw [← HF.out, Bool.eq_iff_iff]; simp; omega)
      clear HF
      go_wp2
      go_ret
      exact ⟨retB HF'.out, HBW.out⟩


theorem rem_nat (k n : Nat) : ((k : Int) + 1).tmod (n : Int) = (((k + 1) % n : Nat) : Int) := by
  rw [Int.tmod_eq_emod_of_nonneg (by omega), Int.natCast_emod, Int.natCast_add]; rfl
theorem made_none (w : World) (t : TypeId) : (w.alloc (.cells #[] t)).ownsRow w.heap.size t 1 (.slice (some ⟨w.heap.size, 0, none⟩) 0 0) 0 [] := World.ownsRow_made w #[] 0 (Nat.le_refl _) (by unfold maxLen; omega) rfl
theorem stepAt_eq (f : List Int) (k : Nat) (h : k < f.length) (h2 : (k + 1) % f.length < f.length) : stepAt f k = (f[k], f[(k + 1) % f.length]) := by
  unfold stepAt
  rw [gd f k 0 h, gd f _ 0 h2]
set_option maxHeartbeats 2000000 in
theorem sSteps_any (A : Option Addr) (c : Nat) (f : List Int) (w : World) (hR : Row I64 w w.heap.size A f) (hl : f.length ≤ 1048576) :
    Calls Tryz.prog 39 #[.slice A f.length c] w (SSOut w ((stepsL f).map pr)) := by
  have HR := Lib.hid hR
  have HO0 := Lib.hid (made_none w 45)
  obtain ⟨n, hn⟩ : ∃ m, m = f.length := ⟨_, rfl⟩
  have HM := Lib.hid hn
  rw [← hn] at hl ⊢
  clear hR hn
  go_enter Tryz.func39, Tryz.ntmps39
  go_wp2
  go_loopw [3, 9] (fun v i wr => ∃ (k : Nat) (ps : Lot), k ≤ n ∧ i = .int .i64 k ∧ ps.length = k ∧ wr.ownsRow w.heap.size 45 1 v k (ps.map hdr) ∧ ps.map Prod.snd = ((List.range k).map (stepAt f)).map pr ∧ LotT wr ps ∧ (∀ p ∈ ps, w.heap.size ≤ p.1) ∧ Below w.heap.size w wr) (fun _ i _ => n - (intOf i).toNat)
  case atStart => exact ⟨0, [], Nat.zero_le _, rfl, rfl, HO0.out, rfl, LotT.nil _, (fun p h => by cases h), by go_grown⟩
  case round =>
    obtain ⟨k, ps, hk, rfl, hpl, hown, hsnd, hlots, hge, hb⟩ := hrel
    clear HO0
    have HPL := Lib.hid hpl
    have HO := Lib.hid hown
    have HS := Lib.hid hsnd
    have HL := Lib.hid hlots
    have HG := Lib.hid hge
    have HB := Lib.hid hb
    clear hpl hown hsnd hlots hge hb
    by_cases hlt : k < n
    · have hlt' : k < f.length := by have := HM.out; omega
      obtain ⟨b, o, e, hbl, q0⟩ := HR.out.at hlt'
      have hn0 : ¬ ((n : Int) = 0) := by omega
      have hrem := rem_nat k n
      have hr2 : (k + 1) % n < n := Nat.mod_lt _ (by omega)
      have HST : Hid (((List.range (k + 1)).map (stepAt f)).map pr = ((List.range k).map (stepAt f)).map pr ++ [[f[k], f[(k + 1) % n]'(by have := HM.out; omega)]]) := Lib.hid (by
        rw [range_take_map, List.map_append]
        have := stepAt_eq f k hlt' (by have := HM.out; rw [← this]; exact hr2)
        simp only [List.map_cons, List.map_nil, this, pr, HM.out])
      obtain ⟨r, hr⟩ : ∃ r, r = (k + 1) % n := ⟨_, rfl⟩
      rw [← hr] at hrem hr2
      simp only [← hr] at HST
      have hrl : r < f.length := by have := HM.out; omega
      obtain ⟨b1, o1, e1, hbl1, q1⟩ := HR.out.at hrl
      rw [e] at e1
      simp only [Option.some.injEq, Addr.mk.injEq, and_true] at e1
      obtain ⟨rfl, rfl⟩ := e1
      subst e
      have hc0 := (HB.out.cell (p := ⟨b, o + k, none⟩) hbl).trans q0
      have hc1 := (HB.out.cell (p := ⟨b, o + r, none⟩) hbl).trans q1
      obtain ⟨x, hx⟩ : ∃ x, x = f[k] := ⟨_, rfl⟩
      obtain ⟨y, hy⟩ : ∃ y, y = f[r] := ⟨_, rfl⟩
      rw [← hx] at hc0
      rw [← hy] at hc1
      simp only [← hx, ← hy] at HST
      have hri : (0 : Int) ≤ (r : Int) := by omega
      have hri2 : (r : Int) < (n : Int) := by omega
      clear hx hy hr q0 q1 hrl hlt'
      go_wp2_with (at_builtin; (refine wpList_app1 (wr.alloc (.cells #[.int .i64 x, .int .i64 y] 3)) rfl _ _ 23 rfl w.heap.size 45 nilS 24 Tryz.underlying23 infoSS rfl _ _ _ (by rfl) (HO.out.alloc _) (.slice (some ⟨wr.heap.size, 0, none⟩) 2 2) (by rw [World.size_alloc]; rfl) (by rfl) (by unfold maxLen; omega) (by omega) (by have := HB.out.size; simp; omega) ?_))
      intro v' w4 ho4 hg4
      have HL4 := Lib.hid ((HL.out.new [x, y] #[.int .i64 x, .int .i64 y] rfl).row (HO.out.alloc _) hg4)
      have HB4 := Lib.hid ((HB.out.alloc HB.out.size (.cells #[.int .i64 x, .int .i64 y] 3)).grown hg4 (by have := HB.out.size; simp; omega) (own_block HO.out))
      have HO4 : Hid (w4.ownsRow w.heap.size 45 1 v' (k + 1) ((ps ++ [(wr.heap.size, [x, y])]).map hdr)) := Lib.hid (by rw [List.map_append]; exact ho4)
      have HG4 : Hid (∀ p ∈ ps ++ [(wr.heap.size, [x, y])], w.heap.size ≤ p.1) := Lib.hid fun p hp => by
        rcases List.mem_append.1 hp with hp | hp
        · exact HG.out p hp
        · rw [List.mem_singleton] at hp
          subst hp
          exact HB.out.size
      have HS4 : Hid ((ps ++ [(wr.heap.size, [x, y])]).map Prod.snd = ((List.range (k + 1)).map (stepAt f)).map pr) := Lib.hid (by rw [List.map_append, HS.out, HST.out]; rfl)
      clear ho4 hg4 HO HL HG HB HS HST
      go_wp2_with fail
      go_roundw
      case rel => exact ⟨k + 1, ps ++ [(wr.heap.size, [x, y])], by omega, by go_num, by simp [HPL.out], HO4.out, HS4.out, HL4.out, HG4.out, HB4.out⟩
      case measure => simp [intOf]; omega
    · have e : k = f.length := by have := HM.out; omega
      have HF : Hid (SSOut w ((stepsL f).map pr) (.returned u3) wr) := Lib.hid ⟨u3, ps, rfl, by rw [HPL.out]; exact HO.out, by rw [HS.out, e]; rfl, HL.out, HG.out, HB.out⟩
      clear e HO HL HG HB HS
      go_wp2
      go_ret
      exact HF.out

end Go.Proofs.YtdefhepagpgnaaaGreat
