/- The checker of the program: IsVariable, Arity, CheckText. -/
import Derived.Test.YtpcdlehicdepaaaProg
import Derived.Test.YtpcdlehicdepaaaInts
import Derived.Test.YtpcdlehicdepaaaVbox
import Derived.Test.YtpcdlehicdepaaaHeld
import Derived.Test.YtpcdlehicdepaaaMem
import Derived.Test.YtpcdlehicdepaaaFlat
import Derived.Test.YtpcdlehicdepaaaRowC
import Derived.Test.YtpcdlehicdepaaaKS
import Derived.Test.YtpcdlehicdepaaaStrS
import Derived.Test.YtpcdlehicdepaaaIntS
import Derived.Test.YtpcdlehicdepaaaSS
import Derived.Test.YtpcdlehicdepaaaPg
import Derived.Test.YtpcdlehicdepaaaPh
import Derived.Test.YtpcdlehicdepaaaPi
import Derived.Test.YtpcdlehicdepaaaIdent
import Derived.Test.YtpcdlehicdepaaaPn
import Derived.Test.YtpcdlehicdepaaaQa
import Derived.Test.YtpcdlehicdepaaaQb
import Derived.Test.YtpcdlehicdepaaaQd
import Derived.Test.YtpcdlehicdepaaaQe
import Derived.Test.YtpcdlehicdepaaaSa
import Derived.Test.YtpcdlehicdepaaaSb
import Derived.Test.YtpcdlehicdepaaaSc
import Derived.WalkKit
import Derived.WalkSpells
import Derived.WalkLawsBesides
import Derived.Lib.Hide
import Derived.Deep.RegionHeld3
import Derived.Deep.QuietTactic
import Derived.BigQuiet
import Derived.Handy
import Derived.Deep.DeepCutAuto
import Derived.OwnWalk
namespace Go.Proofs.Ytpcdlehicdepaaa
open Go.RowKit

set_option maxRecDepth 100000 in
set_option maxHeartbeats 4000000 in
theorem var_any (s : ByteArray) (w : World) :
    Calls Try.prog 13 #[.string s] w fun e w' => e = .returned (.bool (varB s)) ∧ w' = w := by
  by_cases h0 : s = ⟨#[117]⟩
  · subst h0
    go_enter Try.func13, Try.ntmps13
    go_wp2
    go_ret
    exact ⟨by rfl, rfl⟩
  by_cases h1 : s = ⟨#[118]⟩
  · subst h1
    go_enter Try.func13, Try.ntmps13
    go_wp2
    go_ret
    exact ⟨by rfl, rfl⟩
  by_cases h2 : s = ⟨#[120]⟩
  · subst h2
    go_enter Try.func13, Try.ntmps13
    go_wp2
    go_ret
    exact ⟨by rfl, rfl⟩
  by_cases h3 : s = ⟨#[121]⟩
  · subst h3
    go_enter Try.func13, Try.ntmps13
    go_wp2
    go_ret
    exact ⟨by rfl, rfl⟩
  by_cases h4 : s = ⟨#[122]⟩
  · subst h4
    go_enter Try.func13, Try.ntmps13
    go_wp2
    go_ret
    exact ⟨by rfl, rfl⟩
  by_cases h5 : s = ⟨#[116]⟩
  · subst h5
    go_enter Try.func13, Try.ntmps13
    go_wp2
    go_ret
    exact ⟨by rfl, rfl⟩
  have HN : Hid (varB s = false) := Lib.hid (by
    unfold varB inL varsL
    simp [Ne.symm h0, Ne.symm h1, Ne.symm h2, Ne.symm h3, Ne.symm h4, Ne.symm h5])
  have q0 : (s.toList == [117]) = false := str_nots h0
  have q1 : (s.toList == [118]) = false := str_nots h1
  have q2 : (s.toList == [120]) = false := str_nots h2
  have q3 : (s.toList == [121]) = false := str_nots h3
  have q4 : (s.toList == [122]) = false := str_nots h4
  have q5 : (s.toList == [116]) = false := str_nots h5
  clear h0 h1 h2 h3 h4 h5
  go_enter Try.func13, Try.ntmps13
  go_wp2
  go_ret
  exact ⟨by rw [HN.out]; rfl, rfl⟩

set_option maxRecDepth 100000 in
set_option maxHeartbeats 4000000 in
theorem arity_any (s : ByteArray) (w : World) :
    Calls Try.prog 15 #[.string s] w fun e w' => e = .returned (.int .i64 (arN s)) ∧ w' = w := by
  by_cases h0 : s = ⟨#[97, 98, 115]⟩
  · subst h0
    go_enter Try.func15, Try.ntmps15
    go_wp2
    go_ret
    exact ⟨by rfl, rfl⟩
  by_cases h1 : s = ⟨#[102, 108, 111, 111, 114]⟩
  · subst h1
    go_enter Try.func15, Try.ntmps15
    go_wp2
    go_ret
    exact ⟨by rfl, rfl⟩
  by_cases h2 : s = ⟨#[100, 117]⟩
  · subst h2
    go_enter Try.func15, Try.ntmps15
    go_wp2
    go_ret
    exact ⟨by rfl, rfl⟩
  by_cases h3 : s = ⟨#[100, 118]⟩
  · subst h3
    go_enter Try.func15, Try.ntmps15
    go_wp2
    go_ret
    exact ⟨by rfl, rfl⟩
  by_cases h4 : s = ⟨#[109, 105, 110]⟩
  · subst h4
    go_enter Try.func15, Try.ntmps15
    go_wp2
    go_ret
    exact ⟨by rfl, rfl⟩
  by_cases h5 : s = ⟨#[109, 97, 120]⟩
  · subst h5
    go_enter Try.func15, Try.ntmps15
    go_wp2
    go_ret
    exact ⟨by rfl, rfl⟩
  by_cases h6 : s = ⟨#[115, 116, 101, 112]⟩
  · subst h6
    go_enter Try.func15, Try.ntmps15
    go_wp2
    go_ret
    exact ⟨by rfl, rfl⟩
  by_cases h7 : s = ⟨#[110, 111, 105, 115, 101]⟩
  · subst h7
    go_enter Try.func15, Try.ntmps15
    go_wp2
    go_ret
    exact ⟨by rfl, rfl⟩
  by_cases h8 : s = ⟨#[116, 101, 120]⟩
  · subst h8
    go_enter Try.func15, Try.ntmps15
    go_wp2
    go_ret
    exact ⟨by rfl, rfl⟩
  by_cases h9 : s = ⟨#[99, 108, 97, 109, 112]⟩
  · subst h9
    go_enter Try.func15, Try.ntmps15
    go_wp2
    go_ret
    exact ⟨by rfl, rfl⟩
  by_cases h10 : s = ⟨#[109, 105, 120]⟩
  · subst h10
    go_enter Try.func15, Try.ntmps15
    go_wp2
    go_ret
    exact ⟨by rfl, rfl⟩
  have HN : Hid (arN s = -1) := Lib.hid (by
    unfold arN inL ar1L ar2L ar3L
    simp [Ne.symm h0, Ne.symm h1, Ne.symm h2, Ne.symm h3, Ne.symm h4, Ne.symm h5, Ne.symm h6, Ne.symm h7, Ne.symm h8, Ne.symm h9, Ne.symm h10])
  have q0 : (s.toList == [97, 98, 115]) = false := str_nots h0
  have q1 : (s.toList == [102, 108, 111, 111, 114]) = false := str_nots h1
  have q2 : (s.toList == [100, 117]) = false := str_nots h2
  have q3 : (s.toList == [100, 118]) = false := str_nots h3
  have q4 : (s.toList == [109, 105, 110]) = false := str_nots h4
  have q5 : (s.toList == [109, 97, 120]) = false := str_nots h5
  have q6 : (s.toList == [115, 116, 101, 112]) = false := str_nots h6
  have q7 : (s.toList == [110, 111, 105, 115, 101]) = false := str_nots h7
  have q8 : (s.toList == [116, 101, 120]) = false := str_nots h8
  have q9 : (s.toList == [99, 108, 97, 109, 112]) = false := str_nots h9
  have q10 : (s.toList == [109, 105, 120]) = false := str_nots h10
  clear h0 h1 h2 h3 h4 h5 h6 h7 h8 h9 h10
  go_enter Try.func15, Try.ntmps15
  go_wp2
  go_ret
  exact ⟨by rw [HN.out]; rfl, rfl⟩

set_option maxRecDepth 100000 in
set_option maxHeartbeats 4000000 in
theorem text_any (n : Int) (w : World) :
    Calls Try.prog 11 #[.int .i64 n] w fun e w' => e = .returned (.string (txtC n)) ∧ w' = w := by
  by_cases h0 : n = 0
  · subst h0
    go_enter Try.func11, Try.ntmps11
    go_wp2
    go_ret
    exact ⟨by rfl, rfl⟩
  by_cases h1 : n = 1
  · subst h1
    go_enter Try.func11, Try.ntmps11
    go_wp2
    go_ret
    exact ⟨by rfl, rfl⟩
  by_cases h2 : n = 2
  · subst h2
    go_enter Try.func11, Try.ntmps11
    go_wp2
    go_ret
    exact ⟨by rfl, rfl⟩
  by_cases h3 : n = 3
  · subst h3
    go_enter Try.func11, Try.ntmps11
    go_wp2
    go_ret
    exact ⟨by rfl, rfl⟩
  by_cases h4 : n = 4
  · subst h4
    go_enter Try.func11, Try.ntmps11
    go_wp2
    go_ret
    exact ⟨by rfl, rfl⟩
  by_cases h5 : n = 5
  · subst h5
    go_enter Try.func11, Try.ntmps11
    go_wp2
    go_ret
    exact ⟨by rfl, rfl⟩
  have HT : Hid (txtC n = ⟨#[]⟩) := Lib.hid (by simp [txtC, h0, h1, h2, h3, h4, h5])
  have q0 : (n == 0) = false := by simp [h0]
  have q1 : (n == 1) = false := by simp [h1]
  have q2 : (n == 2) = false := by simp [h2]
  have q3 : (n == 3) = false := by simp [h3]
  have q4 : (n == 4) = false := by simp [h4]
  have q5 : (n == 5) = false := by simp [h5]
  clear h0 h1 h2 h3 h4 h5
  go_enter Try.func11, Try.ntmps11
  go_wp2
  go_ret
  exact ⟨by rw [HT.out]; rfl, rfl⟩
end Go.Proofs.Ytpcdlehicdepaaa
