/- The checker of the model: names and owners. -/
import Derived.Test.YtpcdlehicdepaaaProg
import Derived.Test.YtpcdlehicdepaaaInts
import Derived.Test.YtpcdlehicdepaaaVbox
import Derived.Test.YtpcdlehicdepaaaHeld
import Derived.Test.YtpcdlehicdepaaaMem
import Derived.Test.YtpcdlehicdepaaaFlat
import Derived.Test.YtpcdlehicdepaaaRowC
import Derived.Test.YtpcdlehicdepaaaKS
import Derived.Test.YtpcdlehicdepaaaStrS
import Derived.Test.YtpcdlehicdepaaaIntS
import Derived.Test.YtpcdlehicdepaaaSS
import Derived.Test.YtpcdlehicdepaaaPg
import Derived.Test.YtpcdlehicdepaaaPh
import Derived.Test.YtpcdlehicdepaaaPi
import Derived.Test.YtpcdlehicdepaaaIdent
import Derived.Test.YtpcdlehicdepaaaPn
import Derived.Test.YtpcdlehicdepaaaQa
import Derived.Test.YtpcdlehicdepaaaQb
import Derived.Test.YtpcdlehicdepaaaQd
import Derived.Test.YtpcdlehicdepaaaQe
import Derived.Test.YtpcdlehicdepaaaSa
import Derived.Test.YtpcdlehicdepaaaSb
import Derived.WalkKit
import Derived.WalkSpells
import Derived.WalkLawsBesides
import Derived.Lib.Hide
import Derived.Deep.RegionHeld3
import Derived.Deep.QuietTactic
import Derived.BigQuiet
import Derived.Handy
import Derived.Deep.DeepCutAuto
import Derived.OwnWalk
namespace Go.Proofs.Ytpcdlehicdepaaa
open Go.RowKit

theorem str_isQ (x : ByteArray) (l : List UInt8) : (x.toList == l) = decide (x = ⟨l.toArray⟩) := by
  by_cases h : x = ⟨l.toArray⟩
  · subst h
    simp [ByteArray.toList_eq]
  · have : x.toList ≠ l := fun e => h (by
      cases x
      have e2 := congrArg List.toArray e
      simp only [ByteArray.toList_eq] at e2
      simpa using e2)
    simp [h, this]
theorem str_nots {x : ByteArray} {l : List UInt8} (h : x ≠ ⟨l.toArray⟩) : (x.toList == l) = false := by rw [str_isQ]; exact decide_eq_false h

set_option maxRecDepth 100000 in
set_option maxHeartbeats 4000000 in
theorem sVar_any (s : ByteArray) (w : World) :
    Calls Try.prog 12 #[.string s] w fun e w' => e = .returned (.bool (varB s)) ∧ Below w.heap.size w w' := by
  have hb : Below w.heap.size w (w.alloc (.cells #[.string ⟨#[117]⟩, .string ⟨#[118]⟩, .string ⟨#[120]⟩, .string ⟨#[121]⟩, .string ⟨#[122]⟩, .string ⟨#[116]⟩] 9)) := by go_grown
  have HB := Lib.hid hb
  have M := Mbox.new w #[.string ⟨#[117]⟩, .string ⟨#[118]⟩, .string ⟨#[120]⟩, .string ⟨#[121]⟩, .string ⟨#[122]⟩, .string ⟨#[116]⟩] 9
  have m0 := M.c 0
  have m1 := M.c 1
  have m2 := M.c 2
  have m3 := M.c 3
  have m4 := M.c 4
  have m5 := M.c 5
  obtain ⟨W1, hW1⟩ : ∃ W, W = w.alloc (.cells #[.string ⟨#[117]⟩, .string ⟨#[118]⟩, .string ⟨#[120]⟩, .string ⟨#[121]⟩, .string ⟨#[122]⟩, .string ⟨#[116]⟩] 9) := ⟨_, rfl⟩
  rw [← hW1] at HB m0 m1 m2 m3 m4 m5
  have hc : ∀ k (h : k < varsL.length), W1.cell? ⟨w.heap.size, k, none⟩ = some (.string varsL[k]) := fun k h => by
    match k, h with
    | 0, _ => exact m0
    | 1, _ => exact m1
    | 2, _ => exact m2
    | 3, _ => exact m3
    | 4, _ => exact m4
    | 5, _ => exact m5
  have hlen : varsL.length = 6 := rfl
  have HC := Lib.hid hc
  clear hb M m0 m1 m2 m3 m4 m5 hc
  go_enter Try.func12, Try.ntmps12
  go_upto_region 2 with fail
  rw [← hW1]
  clear hW1
  go_loop [7] (fun i => ∃ k : Nat, k ≤ 6 ∧ i = .int .i64 k ∧ ∀ j (h : j < varsL.length), j < k → varsL[j] ≠ s) (fun i => 6 - (intOf i).toNat)
  case atStart => exact ⟨0, Nat.zero_le _, rfl, fun j _ h => by omega⟩
  case round =>
    obtain ⟨k, hk, rfl, hno⟩ := hrel
    have HNO := Lib.hid hno
    clear hno
    by_cases hlt : k < 6
    · have hlt' : (k : Int) < 6 := by omega
      have hge' : (0 : Int) ≤ (k : Int) := by omega
      have hkl : k < varsL.length := by omega
      have hc := HC.out k hkl
      obtain ⟨v, hv⟩ : ∃ v, v = varsL[k] := ⟨_, rfl⟩
      have HV := Lib.hid hv
      rw [← hv] at hc
      clear hv
      by_cases he : v = s
      · have hq : (v.toList == s.toList) = true := by rw [he]; simp
        have HR : Hid (varB s = true) := Lib.hid (by
          unfold varB inL
          rw [List.any_eq_true]
          exact ⟨varsL[k], List.getElem_mem hkl, decide_eq_true (by rw [← HV.out]; exact he)⟩)
        clear he
        go_wp2_with fail
        go_ret
        exact ⟨by rw [HR.out]; rfl, HB.out⟩
      · have hq : (v.toList == s.toList) = false := by
          apply Bool.eq_false_iff.2
          intro e
          apply he
          have e := eq_of_beq e
          have := congrArg List.toArray e
          cases v; cases s
          simpa [ByteArray.toList_eq] using this
        have HN2 : Hid (∀ j (h : j < varsL.length), j < k + 1 → varsL[j] ≠ s) := Lib.hid (fun j h hj => by
          by_cases e : j = k
          · subst e
            rw [← HV.out]
            exact he
          · exact HNO.out j h (by omega))
        clear he
        go_wp2_with fail
        go_round
        case rel => exact ⟨k + 1, by omega, by go_num, HN2.out⟩
        case measure => simp [intOf]; omega
    · obtain rfl : k = 6 := by omega
      have HR : Hid (varB s = false) := Lib.hid (by
        unfold varB inL
        rw [List.any_eq_false]
        intro x hx
        obtain ⟨j, hj, rfl⟩ := List.getElem_of_mem hx
        simpa using HNO.out j hj (by omega))
      go_wp2_with fail
      go_ret
      exact ⟨by rw [HR.out]; rfl, HB.out⟩

set_option maxRecDepth 100000 in
set_option maxHeartbeats 4000000 in
theorem sArity_any (s : ByteArray) (w : World) :
    Calls Try.prog 14 #[.string s] w fun e w' => e = .returned (.int .i64 (arN s)) ∧ Below w.heap.size w w' := by
  by_cases h0 : s = ⟨#[97, 98, 115]⟩
  · subst h0
    go_enter Try.func14, Try.ntmps14
    go_wp2
    go_ret
    exact ⟨by rfl, Below.refl _ _⟩
  by_cases h1 : s = ⟨#[102, 108, 111, 111, 114]⟩
  · subst h1
    go_enter Try.func14, Try.ntmps14
    go_wp2
    go_ret
    exact ⟨by rfl, Below.refl _ _⟩
  by_cases h2 : s = ⟨#[100, 117]⟩
  · subst h2
    go_enter Try.func14, Try.ntmps14
    go_wp2
    go_ret
    exact ⟨by rfl, Below.refl _ _⟩
  by_cases h3 : s = ⟨#[100, 118]⟩
  · subst h3
    go_enter Try.func14, Try.ntmps14
    go_wp2
    go_ret
    exact ⟨by rfl, Below.refl _ _⟩
  by_cases h4 : s = ⟨#[109, 105, 110]⟩
  · subst h4
    go_enter Try.func14, Try.ntmps14
    go_wp2
    go_ret
    exact ⟨by rfl, Below.refl _ _⟩
  by_cases h5 : s = ⟨#[109, 97, 120]⟩
  · subst h5
    go_enter Try.func14, Try.ntmps14
    go_wp2
    go_ret
    exact ⟨by rfl, Below.refl _ _⟩
  by_cases h6 : s = ⟨#[115, 116, 101, 112]⟩
  · subst h6
    go_enter Try.func14, Try.ntmps14
    go_wp2
    go_ret
    exact ⟨by rfl, Below.refl _ _⟩
  by_cases h7 : s = ⟨#[110, 111, 105, 115, 101]⟩
  · subst h7
    go_enter Try.func14, Try.ntmps14
    go_wp2
    go_ret
    exact ⟨by rfl, Below.refl _ _⟩
  by_cases h8 : s = ⟨#[116, 101, 120]⟩
  · subst h8
    go_enter Try.func14, Try.ntmps14
    go_wp2
    go_ret
    exact ⟨by rfl, Below.refl _ _⟩
  by_cases h9 : s = ⟨#[99, 108, 97, 109, 112]⟩
  · subst h9
    go_enter Try.func14, Try.ntmps14
    go_wp2
    go_ret
    exact ⟨by rfl, Below.refl _ _⟩
  by_cases h10 : s = ⟨#[109, 105, 120]⟩
  · subst h10
    go_enter Try.func14, Try.ntmps14
    go_wp2
    go_ret
    exact ⟨by rfl, Below.refl _ _⟩
  have HN : Hid (arN s = -1) := Lib.hid (by
    unfold arN inL ar1L ar2L ar3L
    simp [Ne.symm h0, Ne.symm h1, Ne.symm h2, Ne.symm h3, Ne.symm h4, Ne.symm h5, Ne.symm h6, Ne.symm h7, Ne.symm h8, Ne.symm h9, Ne.symm h10])
  have q0 : (s.toList == [97, 98, 115]) = false := str_nots h0
  have q1 : (s.toList == [102, 108, 111, 111, 114]) = false := str_nots h1
  have q2 : (s.toList == [100, 117]) = false := str_nots h2
  have q3 : (s.toList == [100, 118]) = false := str_nots h3
  have q4 : (s.toList == [109, 105, 110]) = false := str_nots h4
  have q5 : (s.toList == [109, 97, 120]) = false := str_nots h5
  have q6 : (s.toList == [115, 116, 101, 112]) = false := str_nots h6
  have q7 : (s.toList == [110, 111, 105, 115, 101]) = false := str_nots h7
  have q8 : (s.toList == [116, 101, 120]) = false := str_nots h8
  have q9 : (s.toList == [99, 108, 97, 109, 112]) = false := str_nots h9
  have q10 : (s.toList == [109, 105, 120]) = false := str_nots h10
  clear h0 h1 h2 h3 h4 h5 h6 h7 h8 h9 h10
  go_enter Try.func14, Try.ntmps14
  go_wp2
  go_ret
  exact ⟨by rw [HN.out]; rfl, Below.refl _ _⟩

theorem str_ne {a b : ByteArray} (h : a ≠ b) : (a.toList == b.toList) = false := by
  apply Bool.eq_false_iff.2
  intro e
  apply h
  have e := eq_of_beq e
  have := congrArg List.toArray e
  cases a; cases b
  simpa [ByteArray.toList_eq] using this
/-- the text of a code -/
def txtC (n : Int) : ByteArray := if n = 0 then ⟨#[111, 107]⟩ else if n = 1 then ⟨#[112, 114, 111, 103, 114, 97, 109]⟩ else if n = 2 then ⟨#[110, 97, 109, 101]⟩ else if n = 3 then ⟨#[97, 114, 105, 116, 121]⟩ else if n = 4 then ⟨#[97, 115, 115, 105, 103, 110]⟩ else if n = 5 then ⟨#[99, 111, 108, 111, 114]⟩ else ⟨#[]⟩

set_option maxRecDepth 100000 in
set_option maxHeartbeats 4000000 in
theorem sText_any (n : Int) (w : World) :
    Calls Try.prog 10 #[.int .i64 n] w fun e w' => e = .returned (.string (txtC n)) ∧ Below w.heap.size w w' := by
  by_cases h0 : n = 0
  · subst h0
    have hq : inQ 0 5 0 = true := by decide
    have HQ := Lib.hid (l01InQ 0 0 5 w)
    rw [hq] at HQ
    have M := Mbox.new w #[.string ⟨#[111, 107]⟩, .string ⟨#[112, 114, 111, 103, 114, 97, 109]⟩, .string ⟨#[110, 97, 109, 101]⟩, .string ⟨#[97, 114, 105, 116, 121]⟩, .string ⟨#[97, 115, 115, 105, 103, 110]⟩, .string ⟨#[99, 111, 108, 111, 114]⟩] 9
    have m0 := M.c 0
    have HB : Hid (Below w.heap.size w (w.alloc (.cells #[.string ⟨#[111, 107]⟩, .string ⟨#[112, 114, 111, 103, 114, 97, 109]⟩, .string ⟨#[110, 97, 109, 101]⟩, .string ⟨#[97, 114, 105, 116, 121]⟩, .string ⟨#[97, 115, 115, 105, 103, 110]⟩, .string ⟨#[99, 111, 108, 111, 114]⟩] 9))) := Lib.hid (by go_grown)
    clear M hq
    go_enter Try.func10, Try.ntmps10
    go_wp2_with fail
    refine HQ.out.mono ?_
    rintro e w1 ⟨rfl, rfl⟩
    go_wp2_with fail
    go_ret
    exact ⟨by rfl, HB.out⟩
  by_cases h1 : n = 1
  · subst h1
    have hq : inQ 0 5 1 = true := by decide
    have HQ := Lib.hid (l01InQ 1 0 5 w)
    rw [hq] at HQ
    have M := Mbox.new w #[.string ⟨#[111, 107]⟩, .string ⟨#[112, 114, 111, 103, 114, 97, 109]⟩, .string ⟨#[110, 97, 109, 101]⟩, .string ⟨#[97, 114, 105, 116, 121]⟩, .string ⟨#[97, 115, 115, 105, 103, 110]⟩, .string ⟨#[99, 111, 108, 111, 114]⟩] 9
    have m1 := M.c 1
    have HB : Hid (Below w.heap.size w (w.alloc (.cells #[.string ⟨#[111, 107]⟩, .string ⟨#[112, 114, 111, 103, 114, 97, 109]⟩, .string ⟨#[110, 97, 109, 101]⟩, .string ⟨#[97, 114, 105, 116, 121]⟩, .string ⟨#[97, 115, 115, 105, 103, 110]⟩, .string ⟨#[99, 111, 108, 111, 114]⟩] 9))) := Lib.hid (by go_grown)
    clear M hq
    go_enter Try.func10, Try.ntmps10
    go_wp2_with fail
    refine HQ.out.mono ?_
    rintro e w1 ⟨rfl, rfl⟩
    go_wp2_with fail
    go_ret
    exact ⟨by rfl, HB.out⟩
  by_cases h2 : n = 2
  · subst h2
    have hq : inQ 0 5 2 = true := by decide
    have HQ := Lib.hid (l01InQ 2 0 5 w)
    rw [hq] at HQ
    have M := Mbox.new w #[.string ⟨#[111, 107]⟩, .string ⟨#[112, 114, 111, 103, 114, 97, 109]⟩, .string ⟨#[110, 97, 109, 101]⟩, .string ⟨#[97, 114, 105, 116, 121]⟩, .string ⟨#[97, 115, 115, 105, 103, 110]⟩, .string ⟨#[99, 111, 108, 111, 114]⟩] 9
    have m2 := M.c 2
    have HB : Hid (Below w.heap.size w (w.alloc (.cells #[.string ⟨#[111, 107]⟩, .string ⟨#[112, 114, 111, 103, 114, 97, 109]⟩, .string ⟨#[110, 97, 109, 101]⟩, .string ⟨#[97, 114, 105, 116, 121]⟩, .string ⟨#[97, 115, 115, 105, 103, 110]⟩, .string ⟨#[99, 111, 108, 111, 114]⟩] 9))) := Lib.hid (by go_grown)
    clear M hq
    go_enter Try.func10, Try.ntmps10
    go_wp2_with fail
    refine HQ.out.mono ?_
    rintro e w1 ⟨rfl, rfl⟩
    go_wp2_with fail
    go_ret
    exact ⟨by rfl, HB.out⟩
  by_cases h3 : n = 3
  · subst h3
    have hq : inQ 0 5 3 = true := by decide
    have HQ := Lib.hid (l01InQ 3 0 5 w)
    rw [hq] at HQ
    have M := Mbox.new w #[.string ⟨#[111, 107]⟩, .string ⟨#[112, 114, 111, 103, 114, 97, 109]⟩, .string ⟨#[110, 97, 109, 101]⟩, .string ⟨#[97, 114, 105, 116, 121]⟩, .string ⟨#[97, 115, 115, 105, 103, 110]⟩, .string ⟨#[99, 111, 108, 111, 114]⟩] 9
    have m3 := M.c 3
    have HB : Hid (Below w.heap.size w (w.alloc (.cells #[.string ⟨#[111, 107]⟩, .string ⟨#[112, 114, 111, 103, 114, 97, 109]⟩, .string ⟨#[110, 97, 109, 101]⟩, .string ⟨#[97, 114, 105, 116, 121]⟩, .string ⟨#[97, 115, 115, 105, 103, 110]⟩, .string ⟨#[99, 111, 108, 111, 114]⟩] 9))) := Lib.hid (by go_grown)
    clear M hq
    go_enter Try.func10, Try.ntmps10
    go_wp2_with fail
    refine HQ.out.mono ?_
    rintro e w1 ⟨rfl, rfl⟩
    go_wp2_with fail
    go_ret
    exact ⟨by rfl, HB.out⟩
  by_cases h4 : n = 4
  · subst h4
    have hq : inQ 0 5 4 = true := by decide
    have HQ := Lib.hid (l01InQ 4 0 5 w)
    rw [hq] at HQ
    have M := Mbox.new w #[.string ⟨#[111, 107]⟩, .string ⟨#[112, 114, 111, 103, 114, 97, 109]⟩, .string ⟨#[110, 97, 109, 101]⟩, .string ⟨#[97, 114, 105, 116, 121]⟩, .string ⟨#[97, 115, 115, 105, 103, 110]⟩, .string ⟨#[99, 111, 108, 111, 114]⟩] 9
    have m4 := M.c 4
    have HB : Hid (Below w.heap.size w (w.alloc (.cells #[.string ⟨#[111, 107]⟩, .string ⟨#[112, 114, 111, 103, 114, 97, 109]⟩, .string ⟨#[110, 97, 109, 101]⟩, .string ⟨#[97, 114, 105, 116, 121]⟩, .string ⟨#[97, 115, 115, 105, 103, 110]⟩, .string ⟨#[99, 111, 108, 111, 114]⟩] 9))) := Lib.hid (by go_grown)
    clear M hq
    go_enter Try.func10, Try.ntmps10
    go_wp2_with fail
    refine HQ.out.mono ?_
    rintro e w1 ⟨rfl, rfl⟩
    go_wp2_with fail
    go_ret
    exact ⟨by rfl, HB.out⟩
  by_cases h5 : n = 5
  · subst h5
    have hq : inQ 0 5 5 = true := by decide
    have HQ := Lib.hid (l01InQ 5 0 5 w)
    rw [hq] at HQ
    have M := Mbox.new w #[.string ⟨#[111, 107]⟩, .string ⟨#[112, 114, 111, 103, 114, 97, 109]⟩, .string ⟨#[110, 97, 109, 101]⟩, .string ⟨#[97, 114, 105, 116, 121]⟩, .string ⟨#[97, 115, 115, 105, 103, 110]⟩, .string ⟨#[99, 111, 108, 111, 114]⟩] 9
    have m5 := M.c 5
    have HB : Hid (Below w.heap.size w (w.alloc (.cells #[.string ⟨#[111, 107]⟩, .string ⟨#[112, 114, 111, 103, 114, 97, 109]⟩, .string ⟨#[110, 97, 109, 101]⟩, .string ⟨#[97, 114, 105, 116, 121]⟩, .string ⟨#[97, 115, 115, 105, 103, 110]⟩, .string ⟨#[99, 111, 108, 111, 114]⟩] 9))) := Lib.hid (by go_grown)
    clear M hq
    go_enter Try.func10, Try.ntmps10
    go_wp2_with fail
    refine HQ.out.mono ?_
    rintro e w1 ⟨rfl, rfl⟩
    go_wp2_with fail
    go_ret
    exact ⟨by rfl, HB.out⟩
  have hq : inQ 0 5 n = false := by
    apply Bool.eq_false_iff.2
    intro e
    have := (inQ_iff ..).1 e
    omega
  have HQ := Lib.hid (l01InQ n 0 5 w)
  rw [hq] at HQ
  have HT : Hid (txtC n = ⟨#[]⟩) := Lib.hid (by simp [txtC, h0, h1, h2, h3, h4, h5])
  clear hq h0 h1 h2 h3 h4 h5
  go_enter Try.func10, Try.ntmps10
  go_wp2_with fail
  refine HQ.out.mono ?_
  rintro e w1 ⟨rfl, rfl⟩
  go_wp2_with fail
  go_ret
  exact ⟨by rw [HT.out]; rfl, Below.refl _ _⟩

set_option maxRecDepth 100000 in
set_option maxHeartbeats 4000000 in
theorem sAsgd_any (A A' : Option Addr) (c c' : Nat) (xs : List Nd) (ys : List As) (nm : ByteArray) (b : Int) (w : World) (hR : ProgIn w w.heap.size A A' xs ys) (hl2 : ys.length ≤ 1048576) :
    Calls Try.prog 40 #[pgv A A' xs.length c ys.length c', .string nm, .int .i64 b] w fun e w' => e = .returned (.int .i64 (asgd ys nm b)) ∧ Below w.heap.size w w' := by
  obtain ⟨W1, hW1⟩ : ∃ W, W = w.alloc (.cells #[.slice A xs.length c, .slice A' ys.length c'] 35) := ⟨_, rfl⟩
  have M := Mbox.new w #[.slice A xs.length c, .slice A' ys.length c'] 35
  have hB : Below w.heap.size w (w.alloc (.cells #[.slice A xs.length c, .slice A' ys.length c'] 35)) := by go_grown
  have hR1 := (hR.alloc (Nat.le_refl _) (.cells #[.slice A xs.length c, .slice A' ys.length c'] 35)).more (B' := (w.alloc (.cells #[.slice A xs.length c, .slice A' ys.length c'] 35)).heap.size) (by simp)
  rw [← hW1] at M hB hR1
  have HM := Lib.hid M
  have HB := Lib.hid hB
  have HR := Lib.hid hR1
  clear M hB hR hR1
  go_enter Try.func40, Try.ntmps40
  go_upto_region 1 with fail
  rw [← hW1]
  clear hW1
  have m1 := HM.out.c 1
  go_wp2_with fail
  go_loopw [7, 13] (fun v i wr => ∃ k : Nat, k ≤ ys.length ∧ i = .int .i64 k ∧ v = .int .i64 (asgF ys nm b k) ∧ Below W1.heap.size W1 wr) (fun _ i _ => ys.length - (intOf i).toNat)
  case atStart => exact ⟨0, Nat.zero_le _, rfl, rfl, Below.refl _ _⟩
  case round =>
    clear m1
    obtain ⟨k, hk, rfl, rfl, hb⟩ := hrel
    obtain ⟨q, hq⟩ : ∃ q, q = asgF ys nm b k := ⟨_, rfl⟩
    rw [← hq]
    have HQ := Lib.hid hq
    clear hq
    by_cases hlt : k < ys.length
    · obtain ⟨bb, o, rfl, hbl, hc⟩ := HR.out.2.at hlt
      obtain ⟨c0, c1⟩ := asg_at hc
      have c0 := (hb.cell (p := ⟨bb, o + k * 2, none⟩) hbl).trans c0
      have c1 := (hb.cell (p := ⟨bb, o + k * 2 + 1, none⟩) hbl).trans c1
      obtain ⟨v, hv⟩ : ∃ v, v = ys[k] := ⟨_, rfl⟩
      rw [← hv] at c0 c1
      have HV : Hid (ys.getD k (⟨#[]⟩, 0) = v) := Lib.hid (by rw [getD_at hlt]; exact hv.symm)
      obtain ⟨v0, v1⟩ := v
      dsimp only at c0 c1
      have hlt' : (k : Int) < (ys.length : Int) := by omega
      have hge' : (0 : Int) ≤ (k : Int) := by omega
      have hb2 := hb.alloc hb.size (.cells #[.string v0, .int .i64 v1] 58)
      have HB2 := Lib.hid hb2
      clear hb hb2 hc hv
      go_upto_region 5 with fail
      obtain ⟨W2, hW2⟩ : ∃ W, W = wr.alloc (.cells #[.string v0, .int .i64 v1] 58) := ⟨_, rfl⟩
      have M2 := Mbox.new wr #[.string v0, .int .i64 v1] 58
      rw [← hW2] at M2 HB2 ⊢
      have n0 := M2.c 0
      clear hW2 M2 c0 c1
      by_cases hkb : (k : Int) < b
      · by_cases he : v0 = nm
        · have hq : (v0.toList == nm.toList) = true := by rw [he]; simp
          have HS : Hid (asgF ys nm b (k + 1) = (k : Int)) := Lib.hid (by rw [asgF, HV.out, if_pos ⟨hkb, he⟩])
          clear he
          go_wp2_with fail
          go_roundw
          case rel => exact ⟨k + 1, by omega, by go_num, by rw [HS.out], HB2.out⟩
          case measure => simp [intOf]; omega
        · have hq : (v0.toList == nm.toList) = false := str_ne he
          have HS : Hid (asgF ys nm b (k + 1) = q) := Lib.hid (by rw [asgF, HV.out, if_neg (fun h => he h.2), HQ.out])
          clear he
          go_wp2_with fail
          go_roundw
          case rel => exact ⟨k + 1, by omega, by go_num, by rw [HS.out], HB2.out⟩
          case measure => simp [intOf]; omega
      · have HS : Hid (asgF ys nm b (k + 1) = q) := Lib.hid (by rw [asgF, HV.out, if_neg (fun h => hkb h.1), HQ.out])
        go_wp2_with fail
        go_roundw
        case rel => exact ⟨k + 1, by omega, by go_num, by rw [HS.out], HB2.out⟩
        case measure => simp [intOf]; omega
    · obtain rfl : k = ys.length := by omega
      have HF := Lib.hid (HB.out.trans (hb.mono HB.out.size))
      have hge2 : ¬ ((ys.length : Nat) : Int) < ((ys.length : Nat) : Int) := by omega
      clear hb
      go_wp2_with fail
      go_ret
      exact ⟨by rw [HQ.out]; rfl, HF.out⟩
end Go.Proofs.Ytpcdlehicdepaaa
