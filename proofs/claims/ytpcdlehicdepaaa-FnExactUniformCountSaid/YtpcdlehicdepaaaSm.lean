/- Pieces of Check of the program. -/
import Derived.Test.YtpcdlehicdepaaaProg
import Derived.Test.YtpcdlehicdepaaaInts
import Derived.Test.YtpcdlehicdepaaaVbox
import Derived.Test.YtpcdlehicdepaaaHeld
import Derived.Test.YtpcdlehicdepaaaMem
import Derived.Test.YtpcdlehicdepaaaFlat
import Derived.Test.YtpcdlehicdepaaaRowC
import Derived.Test.YtpcdlehicdepaaaKS
import Derived.Test.YtpcdlehicdepaaaStrS
import Derived.Test.YtpcdlehicdepaaaIntS
import Derived.Test.YtpcdlehicdepaaaSS
import Derived.Test.YtpcdlehicdepaaaPg
import Derived.Test.YtpcdlehicdepaaaPh
import Derived.Test.YtpcdlehicdepaaaPi
import Derived.Test.YtpcdlehicdepaaaIdent
import Derived.Test.YtpcdlehicdepaaaPn
import Derived.Test.YtpcdlehicdepaaaQa
import Derived.Test.YtpcdlehicdepaaaQb
import Derived.Test.YtpcdlehicdepaaaQd
import Derived.Test.YtpcdlehicdepaaaQe
import Derived.Test.YtpcdlehicdepaaaSa
import Derived.Test.YtpcdlehicdepaaaSb
import Derived.Test.YtpcdlehicdepaaaSc
import Derived.Test.YtpcdlehicdepaaaSh
import Derived.Test.YtpcdlehicdepaaaSi
import Derived.WalkKit
import Derived.WalkSpells
import Derived.WalkLawsBesides
import Derived.Lib.Hide
import Derived.Deep.RegionHeld3
import Derived.Deep.QuietTactic
import Derived.BigQuiet
import Derived.Handy
import Derived.Deep.DeepCutAuto
import Derived.OwnWalk
import Derived.Shelf.Abstract
namespace Go.Proofs.Ytpcdlehicdepaaa
open Go.RowKit Go.Shelf

theorem infoStrS : (Try.prog.info? 9).map (fun i => (i.zero, i.size, i.bytes)) = some (some (.string ⟨#[]⟩), 1, 16) := by kernel_rfl
theorem Row.take {α : Type} {f : α → Value} {w : World} {B : Nat} {A : Option Addr} {xs : List α} (h : Row f w B A xs) (k : Nat) : Row f w B A (xs.take k) := fun hn => by
  rw [List.length_take] at hn
  obtain ⟨b, o, e, hb, hc⟩ := h (by omega)
  refine ⟨b, o, e, hb, fun j hj => ?_⟩
  rw [List.getElem_take]
  exact hc j (by rw [List.length_take] at hj; omega)
theorem inL_no {l : List ByteArray} {s : ByteArray} (h : ∀ j (hj : j < l.length), l[j] ≠ s) : inL l s = false := by
  unfold inL
  rw [List.any_eq_false]
  intro x hx
  obtain ⟨j, hj, rfl⟩ := List.getElem_of_mem hx
  simpa using h j hj
theorem inL_yes {l : List ByteArray} {s : ByteArray} {j : Nat} (hj : j < l.length) (h : l[j] = s) : inL l s = true := by
  unfold inL
  rw [List.any_eq_true]
  exact ⟨l[j], List.getElem_mem hj, decide_eq_true h⟩
def nmsL (ys : List As) : List ByteArray := ys.map (·.1)
theorem nms_len (ys : List As) : (nmsL ys).length = ys.length := by simp [nmsL]
theorem nms_step (ys : List As) (k : Nat) (h : k < ys.length) : nmsL (ys.take (k + 1)) = nmsL (ys.take k) ++ [(ys[k]).1] := by
  unfold nmsL
  rw [List.take_succ_eq_append_getElem h, List.map_append]
  rfl
/-- the names of all assignments -/
def NamesOut (ys : List As) (w : World) (e : Ending) (w' : World) : Prop :=
  ∃ (A : Option Addr) (c : Nat), e = .returned (.slice A ys.length c) ∧ Row Str w' w'.heap.size A (nmsL ys) ∧ ys.length ≤ c ∧ c ≤ maxLen ∧ Below w.heap.size w w'
theorem own_cap {w : World} {base : Nat} {e : TypeId} {n c : Nat} {A : Option Addr} {xs : List Value} (h : w.ownsRow base e 1 (.slice A n c) n xs) : n ≤ c ∧ c ≤ maxLen := by
  rcases h.2 with ⟨e1, e2⟩ | ⟨g, cap, cur, e1, _, _, _, hm, hs, _⟩
  · injection e1 with _ _ e3
    omega
  · injection e1 with _ _ e3
    omega
theorem asgd_in (ys : List As) (nm : ByteArray) : ∀ (n k : Nat), n ≤ ys.length → (0 ≤ asgF ys nm (k : Int) n ↔ inL (nmsL (ys.take (min n k))) nm = true) := by
  intro n
  induction n with
  | zero => intro k _; simp [asgF, inL, nmsL]
  | succ n ih =>
    intro k hn
    unfold asgF
    by_cases hk : n < k
    · have e1 : min (n + 1) k = n + 1 := by omega
      have e2 : min n k = n := by omega
      have h2 := ih k (by omega)
      rw [e2] at h2
      rw [e1, nms_step ys n (by omega)]
      unfold inL at h2 ⊢
      rw [List.any_append, Bool.or_eq_true, ← h2]
      rw [getD_at (show n < ys.length by omega)]
      by_cases he : (ys[n]).1 = nm
      · rw [if_pos ⟨by omega, he⟩]
        simp [he]
      · rw [if_neg (fun h => he h.2)]
        simp [he]
    · have e1 : min (n + 1) k = k := by omega
      have e2 : min n k = k := by omega
      have h2 := ih k (by omega)
      rw [e2] at h2
      rw [e1, if_neg (fun h => hk (by omega)), h2]
theorem asgd_iff (ys : List As) (nm : ByteArray) (k : Nat) (hk : k ≤ ys.length) : 0 ≤ asgd ys nm (k : Int) ↔ inL (nmsL (ys.take k)) nm = true := by
  have h := asgd_in ys nm ys.length k (Nat.le_refl _)
  rw [show min ys.length k = k by omega] at h
  exact h
theorem nms_take (ys : List As) (k : Nat) : nmsL (ys.take k) = (nmsL ys).take k := by simp [nmsL]
/-- a known node -/
def knB (v0 : Int) (v1 : ByteArray) (zs : List ByteArray) : Bool := if v0 = 2 then varB v1 || inL zs v1 else if v0 = 8 then arN v1 != -1 else true
theorem arN_ge (s : ByteArray) : -1 ≤ arN s ∧ arN s ≤ 3 := by
  unfold arN
  split
  · omega
  split
  · omega
  split <;> omega
theorem badN_kn (xs : List Nd) (ys : List As) (i : Nat) {z : Nat} (hz : ownV xs ys i = (z : Int)) (hzl : z ≤ ys.length) : badN xs ys i = !knB (ndA xs i).1 (ndA xs i).2.1 (nmsL (ys.take z)) := by
  unfold badN knB
  rw [hz]
  have h1 := asgd_iff ys (ndA xs i).2.1 z hzl
  by_cases h2 : (ndA xs i).1 = 2
  · have h8 : ¬ (ndA xs i).1 = 8 := by omega
    rw [decide_eq_true h2, decide_eq_false h8, if_pos h2]
    by_cases ha : 0 ≤ asgd ys (ndA xs i).2.1 (z : Int)
    · rw [h1.1 ha, decide_eq_false (by omega)]
      simp
    · have : inL (nmsL (ys.take z)) (ndA xs i).2.1 = false := by
        apply Bool.eq_false_iff.2
        intro e
        exact ha (h1.2 e)
      rw [this, decide_eq_true (by omega)]
      simp
  · rw [decide_eq_false h2, if_neg h2]
    by_cases h8 : (ndA xs i).1 = 8
    · rw [decide_eq_true h8, if_pos h8]
      have := arN_ge (ndA xs i).2.1
      by_cases ha : arN (ndA xs i).2.1 = -1
      · rw [ha]
        rfl
      · have e : (arN (ndA xs i).2.1 != -1) = true := by rw [bne_iff_ne]; exact ha
        rw [e, decide_eq_false (show ¬ arN (ndA xs i).2.1 < 0 by omega)]
        simp
    · rw [decide_eq_false h8, if_neg h8]
      rfl
/-- where the first one is, or -1 -/
def fstI (o : Option Nat) : Int := match o with
  | some i => (i : Int)
  | none => -1

set_option maxRecDepth 100000 in
set_option maxHeartbeats 4000000 in
theorem index_any (A : Option Addr) (c B : Nat) (zs : List ByteArray) (s : ByteArray) (w : World) (hR : Row Str w B A zs) (hz : zs.length ≤ 1048576) :
    Calls Try.prog 66 #[.slice A zs.length c, .string s] w fun e w' => (∃ r : Int, e = .returned (.int .i64 r) ∧ (0 ≤ r ↔ inL zs s = true)) ∧ w' = w := by
  go_enter Try.func66, Try.ntmps66
  go_wp2_with fail
  go_loop [8] (fun i => ∃ k : Nat, k ≤ zs.length ∧ i = .int .i64 k ∧ ∀ j (h : j < zs.length), j < k → zs[j] ≠ s) (fun i => zs.length - (intOf i).toNat)
  case atStart => exact ⟨0, Nat.zero_le _, rfl, fun j _ h => by omega⟩
  case round =>
    obtain ⟨k, hk, rfl, hno⟩ := hrel
    have HNO := Lib.hid hno
    clear hno
    by_cases hlt : k < zs.length
    · obtain ⟨b, o, rfl, _, hc⟩ := hR.at hlt
      have hlt' : (k : Int) < (zs.length : Int) := by omega
      have hge' : (0 : Int) ≤ (k : Int) := by omega
      have hge'' : (0 : Int) ≤ (k : Int) := hge'
      obtain ⟨v, hv⟩ : ∃ v, v = zs[k] := ⟨_, rfl⟩
      have HV := Lib.hid hv
      rw [← hv] at hc
      clear hv
      by_cases he : s = v
      · have hq : (s.toList == v.toList) = true := by rw [he]; simp
        have HY : Hid (inL zs s = true) := Lib.hid (inL_yes hlt (by rw [← HV.out]; exact he.symm))
        clear he
        go_wp2_with fail
        go_ret
        exact ⟨⟨_, rfl, fun _ => HY.out, fun _ => by omega⟩, rfl⟩
      · have hq : (s.toList == v.toList) = false := str_ne he
        have HN2 : Hid (∀ j (h : j < zs.length), j < k + 1 → zs[j] ≠ s) := Lib.hid (fun j h hj => by
          by_cases e : j = k
          · subst e
            rw [← HV.out]
            exact fun e => he e.symm
          · exact HNO.out j h (by omega))
        clear he
        go_wp2_with fail
        go_round
        case rel => exact ⟨k + 1, by omega, by go_num, HN2.out⟩
        case measure => simp [intOf]; omega
    · obtain rfl : k = zs.length := by omega
      have HF : Hid (inL zs s = false) := Lib.hid (inL_no (fun j h => HNO.out j h h))
      have hge2 : ¬ ((zs.length : Nat) : Int) < ((zs.length : Nat) : Int) := by omega
      go_wp2_with fail
      go_ret
      exact ⟨⟨-1, rfl, fun h => by omega, fun h => by rw [HF.out] at h; cases h⟩, rfl⟩
theorem contains_any (A : Option Addr) (c B : Nat) (zs : List ByteArray) (s : ByteArray) (w : World) (hR : Row Str w B A zs) (hz : zs.length ≤ 1048576) :
    Calls Try.prog 45 #[.slice A zs.length c, .string s] w fun e w' => e = .returned (.bool (inL zs s)) ∧ w' = w := by
  go_enter Try.func45, Try.ntmps45
  go_wp2_with fail
  refine (index_any A c B zs s w hR hz).mono ?_
  rintro e w1 ⟨⟨r, rfl, hr⟩, rfl⟩
  have HR := Lib.hid hr
  clear hr hR
  have HE : Hid (decide (0 ≤ r) = inL zs s) := Lib.hid (by rw [Bool.eq_iff_iff, decide_eq_true_eq]; exact HR.out)
  go_wp2_with fail
  go_ret
  exact ⟨by rw [← HE.out]; rfl, rfl⟩


set_option maxRecDepth 100000 in
set_option maxHeartbeats 4000000 in
theorem names_any (A A' : Option Addr) (c c' : Nat) (xs : List Nd) (ys : List As) (w : World) (hR : ProgIn w w.heap.size A A' xs ys) (hl2 : ys.length ≤ 1048576) :
    Calls Try.prog 46 #[pgv A A' xs.length c ys.length c'] w (NamesOut ys w) := by
  obtain ⟨W1, hW1⟩ : ∃ W, W = w.alloc (.cells #[.slice A xs.length c, .slice A' ys.length c'] 35) := ⟨_, rfl⟩
  have M := Mbox.new w #[.slice A xs.length c, .slice A' ys.length c'] 35
  have hB : Below w.heap.size w (w.alloc (.cells #[.slice A xs.length c, .slice A' ys.length c'] 35)) := by go_grown
  have hR1 := (hR.alloc (Nat.le_refl _) (.cells #[.slice A xs.length c, .slice A' ys.length c'] 35)).more (B' := (w.alloc (.cells #[.slice A xs.length c, .slice A' ys.length c'] 35)).heap.size) (by simp)
  rw [← hW1] at M hB hR1
  have HM := Lib.hid M
  have HB := Lib.hid hB
  have HR := Lib.hid hR1
  clear M hB hR hR1
  go_enter Try.func46, Try.ntmps46
  go_upto_region 1 with fail
  rw [← hW1]
  clear hW1
  have m0 := HM.out.c 0
  have m1 := HM.out.c 1
  go_wp2_with fail
  go_loopw [3, 9] (fun v i wr => ∃ k : Nat, k ≤ ys.length ∧ i = .int .i64 k ∧ wr.ownsRow W1.heap.size 9 1 v (nmsL (ys.take k)).length ((nmsL (ys.take k)).map Str) ∧ Below W1.heap.size W1 wr) (fun _ i _ => ys.length - (intOf i).toNat)
  case atStart => exact ⟨0, Nat.zero_le _, rfl, World.ownsRow_nil _ _ _ _, Below.refl _ _⟩
  case round =>
    clear m0 m1
    obtain ⟨k, hk, rfl, hown, hb⟩ := hrel
    by_cases hlt : k < ys.length
    · obtain ⟨b, o, rfl, hbl, hc⟩ := HR.out.2.at hlt
      obtain ⟨c0, c1⟩ := asg_at hc
      have c0 := (hb.cell (p := ⟨b, o + k * 2, none⟩) hbl).trans c0
      have c1 := (hb.cell (p := ⟨b, o + k * 2 + 1, none⟩) hbl).trans c1
      have hst := nms_step ys k hlt
      have hle : (nmsL (ys.take k)).length ≤ k := by rw [nms_len]; simp; omega
      obtain ⟨v, hv⟩ : ∃ v, v = ys[k] := ⟨_, rfl⟩
      rw [← hv] at c0 c1 hst
      obtain ⟨ps, hps⟩ : ∃ ps, ps = nmsL (ys.take k) := ⟨_, rfl⟩
      rw [← hps] at hown hst hle
      obtain ⟨v0, v1⟩ := v
      have HO := Lib.hid hown
      have HB2 := Lib.hid hb
      have HST := Lib.hid hst
      have hlt' : (k : Int) < (ys.length : Int) := by omega
      have hge' : (0 : Int) ≤ (k : Int) := by omega
      clear hown hb hst hps hc hv
      go_upto_region 5 with fail
      obtain ⟨W2, hW2⟩ : ∃ W, W = wr.alloc (.cells #[.string v0, .int .i64 v1] 58) := ⟨_, rfl⟩
      have M := Mbox.new wr #[.string v0, .int .i64 v1] 58
      have HO1 := Lib.hid (HO.out.alloc (.cells #[.string v0, .int .i64 v1] 58))
      have HB1 := Lib.hid (HB2.out.alloc HB2.out.size (.cells #[.string v0, .int .i64 v1] 58))
      rw [← hW2] at M HO1 HB1 ⊢
      have n0 := M.c 0
      clear hW2 M c0 c1
      have hs1 : W1.heap.size ≤ W2.heap.size := HB1.out.size
      go_wp2_with (at_builtin; refine wpList_app1 W2 rfl _ _ 45 rfl W1.heap.size 9 (.string ⟨#[]⟩) 16 Try.underlying45 infoStrS rfl _ _ _ (by rfl) HO1.out _ (by rfl) (by rfl) (by unfold maxLen; omega) (by omega) hs1 ?_)
      intro v' w4 ho4 hg4
      have HO4 := Lib.hid ho4
      have HB4 := Lib.hid (HB1.out.grown hg4 hs1 (own_block HO1.out))
      clear ho4 hg4
      go_wp2_with fail
      go_roundw
      case rel => exact ⟨k + 1, by omega, by go_num, by rw [HST.out]; simpa using HO4.out, HB4.out⟩
      case measure => simp [intOf]; omega
    · obtain rfl : k = ys.length := by omega
      rw [List.take_length, nms_len] at hown
      obtain ⟨A4, c4, rfl⟩ := own_shape hown
      have hcap := own_cap hown
      have HRW := Lib.hid (Row.of_own (f := Str) (xs := nmsL ys) (c := c4) hown)
      have HBF := Lib.hid (HB.out.trans (hb.mono HB.out.size))
      have HCP := Lib.hid hcap
      have hge2 : ¬ ((ys.length : Nat) : Int) < ((ys.length : Nat) : Int) := by omega
      clear hown hb hcap
      go_wp2
      go_ret
      exact ⟨A4, c4, rfl, HRW.out, HCP.out.1, HCP.out.2, HBF.out⟩

set_option maxRecDepth 100000 in
set_option maxHeartbeats 4000000 in
theorem wrong_any (v0 : Int) (v1 : ByteArray) (v2 : Int) (a : Option Addr) (n c : Nat) (w : World) :
    Calls Try.prog 43 #[.agg #[.int .i64 v0, .string v1, .int .i64 v2, .slice a n c]] w fun e w' => e = .returned (.bool (decide (v0 = 8) && decide (arN v1 ≠ (n : Int)))) ∧ Below w.heap.size w w' := by
  have hb : Below w.heap.size w (w.alloc (.cells #[.int .i64 v0, .string v1, .int .i64 v2, .slice a n c] 56)) := by go_grown
  have M := Mbox.new w #[.int .i64 v0, .string v1, .int .i64 v2, .slice a n c] 56
  obtain ⟨W1, hW1⟩ : ∃ W, W = w.alloc (.cells #[.int .i64 v0, .string v1, .int .i64 v2, .slice a n c] 56) := ⟨_, rfl⟩
  rw [← hW1] at M hb
  have HB := Lib.hid hb
  have m0 := M.c 0
  have m1 := M.c 1
  have m3 := M.c 3
  clear hb M
  go_enter Try.func43, Try.ntmps43
  go_upto_region 1 with fail
  rw [← hW1]
  clear hW1
  by_cases h8 : v0 = 8
  · have q8 : (v0 == 8) = true := by simp [h8]
    have HR := Lib.hid (fun W => arity_any v1 W)
    obtain ⟨r, hr⟩ : ∃ r, r = arN v1 := ⟨_, rfl⟩
    by_cases he : r = (n : Int)
    · have q1 : ((n : Int) != r) = false := by simp [he]
      have HV : Hid ((decide (v0 = 8) && decide (arN v1 ≠ (n : Int))) = false) := Lib.hid (by rw [← hr]; simp [he])
      rw [← hr] at HR
      clear he hr h8
      go_quiet ((go_at_call 15; exact Calls.quiet_of_same ((HR.out _).mono fun _ _ h => h)))
      go_wp2
      go_ret
      exact ⟨by rw [HV.out]; rfl, below_drewN HB.out nq⟩
    · have q1 : ((n : Int) != r) = true := by simp [Ne.symm he]
      have HV : Hid ((decide (v0 = 8) && decide (arN v1 ≠ (n : Int))) = true) := Lib.hid (by rw [← hr]; simp [he, h8])
      rw [← hr] at HR
      clear he hr h8
      go_quiet ((go_at_call 15; exact Calls.quiet_of_same ((HR.out _).mono fun _ _ h => h)))
      go_wp2
      go_ret
      exact ⟨by rw [HV.out]; rfl, below_drewN HB.out nq⟩
  · have q8 : (v0 == 8) = false := by simp [h8]
    have HV : Hid ((decide (v0 = 8) && decide (arN v1 ≠ (n : Int))) = false) := Lib.hid (by simp [h8])
    clear h8
    go_quiet (fail)
    go_wp2
    go_ret
    exact ⟨by rw [HV.out]; rfl, below_drewN HB.out nq⟩

set_option maxRecDepth 100000 in
set_option maxHeartbeats 4000000 in
theorem indexF_any (A : Option Addr) (c : Nat) (xs : List Nd) (w : World) (hR : NdRow w w.heap.size A xs) (hl : xs.length ≤ 1048576) (hx : ∀ x ∈ xs, x.2.2.2.length ≤ 1048576) :
    Calls Try.prog 42 #[.slice A xs.length c, .func (.func 43) #[] #[]] w fun e w' => e = .returned (.int .i64 (fstI (firstB xs.length (badR xs)))) ∧ Below w.heap.size w w' := by
  have HXS := Lib.hid hx
  have HR := Lib.hid hR
  clear hx hR
  go_enter Try.func42, Try.ntmps42
  go_wp2_with fail
  go_loopw [8] (fun i wr => ∃ k : Nat, k ≤ xs.length ∧ i = .int .i64 k ∧ Below w.heap.size w wr ∧ ∀ j, j < k → badR xs j = false) (fun i _ => xs.length - (intOf i).toNat)
  case atStart => exact ⟨0, Nat.zero_le _, rfl, Below.refl _ _, fun j h => by omega⟩
  case round =>
    obtain ⟨k, hk, rfl, hb, hno⟩ := hrel
    have HNO := Lib.hid hno
    clear hno
    by_cases hlt : k < xs.length
    · obtain ⟨bb, o, rfl, hbl, a, ca, c0, c1, c2, c3, hca1, hca2, hrow⟩ := HR.out.at hlt
      have c0 := (hb.cell (p := ⟨bb, o + k * 4, none⟩) hbl).trans c0
      have c1 := (hb.cell (p := ⟨bb, o + k * 4 + 1, none⟩) hbl).trans c1
      have c2 := (hb.cell (p := ⟨bb, o + k * 4 + 2, none⟩) hbl).trans c2
      have c3 := (hb.cell (p := ⟨bb, o + k * 4 + 3, none⟩) hbl).trans c3
      have hl3 := HXS.out _ (List.getElem_mem hlt)
      obtain ⟨v, hv⟩ : ∃ v, v = xs[k] := ⟨_, rfl⟩
      rw [← hv] at c0 c1 c2 c3 hl3
      have HV : Hid (badR xs k = (decide (v.1 = 8) && decide (arN v.2.1 ≠ (v.2.2.2.length : Int)))) := Lib.hid (by unfold badR ndA; rw [getD_at hlt, ← hv])
      obtain ⟨v0, v1, v2, v3⟩ := v
      dsimp only at c0 c1 c2 c3 hl3 HV
      have hlt' : (k : Int) < (xs.length : Int) := by omega
      have hge' : (0 : Int) ≤ (k : Int) := by omega
      have HBW := Lib.hid hb
      have HC := Lib.hid (fun W => wrong_any v0 v1 v2 a v3.length ca W)
      obtain ⟨q, hq⟩ : ∃ q, q = (decide (v0 = 8) && decide (arN v1 ≠ (v3.length : Int))) := ⟨_, rfl⟩
      rw [← hq] at HC HV
      clear hrow hv hca1 hca2 hbl hb hq
      go_wp2_with fail
      refine (HC.out _).mono ?_
      rintro e w1 ⟨rfl, hb1⟩
      have HB1 := Lib.hid (HBW.out.trans (hb1.mono HBW.out.size))
      clear hb1 c0 c1 c2 c3
      cases q with
      | true =>
        have HF : Hid (firstB xs.length (badR xs) = some k) := Lib.hid (first_some hlt HV.out HNO.out)
        go_wp2_with fail
        go_ret
        exact ⟨by rw [HF.out]; rfl, HB1.out⟩
      | false =>
        have HN2 : Hid (∀ j, j < k + 1 → badR xs j = false) := Lib.hid (fun j hj => by
          by_cases e : j = k
          · rw [e, HV.out]
          · exact HNO.out j (by omega))
        go_wp2_with fail
        go_roundw
        case rel => exact ⟨k + 1, by omega, by go_num, HB1.out, HN2.out⟩
        case measure => simp [intOf]; omega
    · obtain rfl : k = xs.length := by omega
      have HF : Hid (firstB xs.length (badR xs) = none) := Lib.hid (first_none HNO.out)
      have HBW := Lib.hid hb
      have hge2 : ¬ ((xs.length : Nat) : Int) < ((xs.length : Nat) : Int) := by omega
      clear hb
      go_wp2_with fail
      go_ret
      exact ⟨by rw [HF.out]; rfl, HBW.out⟩


theorem not_var (T : TypeId) (V : Value) (h : T ≠ 95) (w : World) : (Instr.typeAssert (.iface T V) 78 95 true).run Try.prog w = .ok (.tuple #[.agg #[.string ⟨#[]⟩], .bool false]) w := by
  have hu := Try.underlying95
  have hz : ∀ w, (zeroValue 95).run Try.prog w = .ok (.agg #[.string ⟨#[]⟩]) w := fun w => by kernel_rfl
  simp [Instr.typeAssert, run_underlying hu, h, hz]
theorem not_call (T : TypeId) (V : Value) (h : T ≠ 99) (w : World) : (Instr.typeAssert (.iface T V) 78 99 true).run Try.prog w = .ok (.tuple #[.agg #[.slice none 0 0, .string ⟨#[]⟩], .bool false]) w := by
  have hu := Try.underlying99
  have hz : ∀ w, (zeroValue 99).run Try.prog w = .ok (.agg #[.slice none 0 0, .string ⟨#[]⟩]) w := fun w => by kernel_rfl
  simp [Instr.typeAssert, run_underlying hu, h, hz]
theorem is_var (s : ByteArray) (w : World) : (Instr.typeAssert (.iface 95 (.agg #[.string s])) 78 95 true).run Try.prog w = .ok (.tuple #[.agg #[.string s], .bool true]) w := by kernel_rfl
theorem is_call (a : Option Addr) (n c : Nat) (s : ByteArray) (w : World) : (Instr.typeAssert (.iface 99 (.agg #[.slice a n c, .string s])) 78 99 true).run Try.prog w = .ok (.tuple #[.agg #[.slice a n c, .string s], .bool true]) w := by kernel_rfl
set_option maxRecDepth 100000 in
set_option maxHeartbeats 4000000 in
theorem known_any (v0 : Int) (v1 : ByteArray) (a : Option Addr) (n c : Nat) (A : Option Addr) (cc : Nat) (zs : List ByteArray) (w : World) (hR : Row Str w w.heap.size A zs) (hz : zs.length ≤ 1048576) :
    Calls Try.prog 65 #[exV v0 v1 (.slice a n c), .slice A zs.length cc] w fun e w' => e = .returned (.bool (knB v0 v1 zs)) ∧ Below w.heap.size w w' := by
  by_cases h2 : v0 = 2
  · subst h2
    have hX : exV 2 v1 (.slice a n c) = .iface 95 (.agg #[.string v1]) := by simp [exV]
    have HK : Hid (knB 2 v1 zs = (varB v1 || inL zs v1)) := Lib.hid (by simp [knB])
    rw [hX]
    have ta := is_var v1
    have hb : Below w.heap.size w (w.alloc (.cells #[.string v1] 95)) := by go_grown
    have M := Mbox.new w #[.string v1] 95
    have hR1 := hR.later hb
    obtain ⟨W1, hW1⟩ : ∃ W, W = w.alloc (.cells #[.string v1] 95) := ⟨_, rfl⟩
    rw [← hW1] at M hb hR1
    have HB := Lib.hid hb
    have HCT := Lib.hid (contains_any A cc _ zs v1 W1 hR1 hz)
    have HVR := Lib.hid (var_any v1 W1)
    obtain ⟨p, hp⟩ : ∃ p, p = varB v1 := ⟨_, rfl⟩
    obtain ⟨q, hq⟩ : ∃ q, q = inL zs v1 := ⟨_, rfl⟩
    rw [← hp] at HVR HK
    rw [← hq] at HCT HK
    have m0 := M.c 0
    clear hX hb M hR1 hR hp hq
    go_enter Try.func65, Try.ntmps65
    go_upto_region 4 with fail
    rw [← hW1]
    clear hW1
    cases p with
    | true =>
      go_wp2_with fail
      refine HVR.out.mono ?_
      rintro e w2 ⟨rfl, rfl⟩
      go_wp2_with fail
      go_ret
      exact ⟨by rw [HK.out]; rfl, HB.out⟩
    | false =>
      go_wp2_with fail
      refine HVR.out.mono ?_
      rintro e w2 ⟨rfl, rfl⟩
      go_wp2_with fail
      refine HCT.out.mono ?_
      rintro e w2 ⟨rfl, rfl⟩
      go_wp2_with fail
      go_ret
      exact ⟨by rw [HK.out]; rfl, HB.out⟩
  by_cases h8 : v0 = 8
  · subst h8
    have hX : exV 8 v1 (.slice a n c) = .iface 99 (.agg #[.slice a n c, .string v1]) := by simp [exV]
    have HK : Hid (knB 8 v1 zs = (arN v1 != -1)) := Lib.hid (by simp [knB])
    rw [hX]
    have ta := not_var 99 (.agg #[.slice a n c, .string v1]) (by decide)
    have tb := is_call a n c v1
    have hb : Below w.heap.size w (w.alloc (.cells #[.slice a n c, .string v1] 99)) := by go_grown
    have M := Mbox.new w #[.slice a n c, .string v1] 99
    obtain ⟨W1, hW1⟩ : ∃ W, W = w.alloc (.cells #[.slice a n c, .string v1] 99) := ⟨_, rfl⟩
    rw [← hW1] at M hb
    have HB := Lib.hid hb
    have HAR := Lib.hid (arity_any v1 W1)
    obtain ⟨r, hr⟩ : ∃ r, r = arN v1 := ⟨_, rfl⟩
    rw [← hr] at HAR HK
    have m1 := M.c 1
    clear hX hb M hR hr h2
    go_enter Try.func65, Try.ntmps65
    go_upto_region 7 with fail
    rw [← hW1]
    clear hW1
    go_wp2_with fail
    refine HAR.out.mono ?_
    rintro e w2 ⟨rfl, rfl⟩
    go_wp2_with fail
    go_ret
    exact ⟨by rw [HK.out]; rfl, HB.out⟩
  · have HK : Hid (knB v0 v1 zs = true) := Lib.hid (by simp [knB, h2, h8])
    have hX : ∃ T V, exV v0 v1 (.slice a n c) = .iface T V ∧ T ≠ 95 ∧ T ≠ 99 := by
      by_cases h1 : v0 = 1
      · exact ⟨_, _, by simp only [exV]; rw [if_pos h1], by decide, by decide⟩
      · exact ⟨_, _, by simp only [exV]; rw [if_neg h1, if_neg h2, if_neg h8], by decide, by decide⟩
    obtain ⟨T, V, hX, hT1, hT2⟩ := hX
    rw [hX]
    have ta := not_var T V hT1
    have tb := not_call T V hT2
    clear hX hT1 hT2 h2 h8 hR
    go_enter Try.func65, Try.ntmps65
    go_wp2_with fail
    go_ret
    exact ⟨by rw [HK.out]; rfl, Below.refl _ _⟩
end Go.Proofs.Ytpcdlehicdepaaa
