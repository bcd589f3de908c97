/- Contracts of strings.Cut at the separator of one letter that the program uses. -/
import Derived.Test.YtjflkapdnnecjaaDoorProg
import Derived.Test.YtjflkapdnnecjaaDoorMem
import Derived.Test.YtjflkapdnnecjaaDoorStrS
import Derived.Test.YtjflkapdnnecjaaDoorNumP
import Derived.Test.YtjflkapdnnecjaaDoorFmt
import Derived.Test.YtjflkapdnnecjaaDoorBuilder
import Derived.Test.YtjflkapdnnecjaaDoorFmts
import Derived.Test.YtjflkapdnnecjaaDoorShelf
import Derived.WalkKit
import Derived.WalkSpells
import Derived.WalkLawsBesides
import Derived.Lib.Hide
import Derived.Handy
import Derived.Lib.IndexLaws
import Derived.Deep.RegionHeld3
namespace Go.Proofs.YtjflkapdnnecjaaDoor
open Go.RowKit

theorem str_beqC (a b : ByteArray) : (a.toList == b.toList) = decide (a = b) := by
  rw [ByteArray.toList_eq a, ByteArray.toList_eq b, Bool.eq_iff_iff, beq_iff_eq, decide_eq_true_eq]
  exact ⟨fun h => ByteArray.ext (Array.ext' h), fun h => by rw [h]⟩
def semiB : ByteArray := ⟨#[59]⟩
theorem semi_list : semiB.data.toList = [59] := rfl
set_option maxRecDepth 100000 in
set_option maxHeartbeats 2000000 in
theorem index1_any (s : ByteArray) (w : World) (hs : s.size ≤ 4611686018427387903) :
    Calls Tryd.prog 90 #[.string s, .string semiB] w fun e w' => e = .returned (.int .i64 (Lib.indexByte s.data.toList 59)) ∧ w' = w := by
  by_cases h : s = semiB
  · subst h
    have hz : Lib.indexByte semiB.data.toList 59 = 0 := by rfl
    rw [hz]
    have hb : (semiB.toList == semiB.toList) = true := by rw [str_beqC]; exact decide_eq_true rfl
    have hl : semiB.size = 1 := rfl
    go_enter Tryd.func90, Tryd.ntmps90
    go_wp2_with fail
    go_ret
    exact ⟨rfl, rfl⟩
  · have hb : (semiB.toList == s.toList) = false := by rw [str_beqC]; exact decide_eq_false (fun e => h e.symm)
    have hl : semiB.size = 1 := rfl
    go_enter Tryd.func90, Tryd.ntmps90
    go_wp2_with fail
    refine (Tryd.stringslite_IndexByte s 59 _).mono ?_
    rintro e w' ⟨rfl, rfl⟩
    go_wp2_with fail
    go_ret
    exact ⟨rfl, rfl⟩

set_option maxRecDepth 100000 in
set_option maxHeartbeats 2000000 in
theorem cut1_miss (s : ByteArray) (w : World) (hs : s.size ≤ 1099511627776) (h : Lib.indexByte s.data.toList 59 = -1) :
    Calls Tryd.prog 68 #[.string s, .string semiB] w fun e w' => e = .returned (.tuple #[.string s, .string ⟨#[]⟩, .bool false]) ∧ Below w.heap.size w w' := by
  have HI := index1_any s w (by omega)
  rw [h] at HI
  have H := Lib.hid HI
  clear HI h
  go_enter Tryd.func68, Tryd.ntmps68
  go_wp2_with fail
  refine H.out.mono ?_
  rintro e w' ⟨rfl, rfl⟩
  go_wp2_with fail
  exact bodyPost_ret (v := .tuple #[.string s, .string ⟨#[]⟩, .bool false]) (by simp [results, Tryd.results68, go_sem]) rfl ⟨rfl, by go_grown⟩
set_option maxRecDepth 100000 in
set_option maxHeartbeats 2000000 in
theorem cut1_hit (s : ByteArray) (k : Nat) (w : World) (hs : s.size ≤ 1099511627776) (hk : k < s.size) (h : Lib.indexByte s.data.toList 59 = (k : Int)) :
    Calls Tryd.prog 68 #[.string s, .string semiB] w fun e w' => e = .returned (.tuple #[.string (s.extract 0 k), .string (s.extract (k + 1) s.size), .bool true]) ∧ Below w.heap.size w w' := by
  have HI := index1_any s w (by omega)
  rw [h] at HI
  have H := Lib.hid HI
  have hl : semiB.size = 1 := rfl
  have c1 : (0 : Int) ≤ (k : Int) := by omega
  have c2 : (k : Int) ≤ (s.size : Int) := by omega
  have c3 : (0 : Int) ≤ (k : Int) + 1 := by omega
  have c4 : (k : Int) + 1 ≤ (s.size : Int) := by omega
  have c5 : ((k : Int) + 1).toNat = k + 1 := by omega
  have c6 : (0 : Int) ≤ (k : Int) + (semiB.size : Int) := by omega
  have c7 : (k : Int) + (semiB.size : Int) ≤ (s.size : Int) := by omega
  have c8 : IntKind.i64.wrap ((k : Int) + 1) = (k : Int) + 1 := IntWalk.i64_in _ (by omega)
  clear HI h
  go_enter Tryd.func68, Tryd.ntmps68
  go_wp2_with fail
  refine H.out.mono ?_
  rintro e w' ⟨rfl, rfl⟩
  go_wp2_with fail
  go_region_with fail
  all_goals
    go_wp2_with fail
    exact bodyPost_ret (v := .tuple #[.string (s.extract 0 k), .string (s.extract (k + 1) s.size), .bool true]) (by simp [results, Tryd.results68, go_sem]) rfl ⟨rfl, by go_grown⟩

set_option maxRecDepth 100000 in
set_option maxHeartbeats 2000000 in
theorem scut_miss (s : ByteArray) (w : World) (hs : s.size ≤ 1099511627776) (h : Lib.indexByte s.data.toList 59 = -1) :
    Calls Tryd.prog 30 #[.string s, .string semiB] w fun e w' => e = .returned (.tuple #[.string s, .string ⟨#[]⟩, .bool false]) ∧ Below w.heap.size w w' := by
  go_enter Tryd.func30, Tryd.ntmps30
  go_wp2_with fail
  refine (cut1_miss s _ hs h).mono ?_
  rintro e w1 ⟨rfl, hb1⟩
  clear h
  go_wp2_with fail
  exact bodyPost_ret (v := .tuple #[.string s, .string ⟨#[]⟩, .bool false]) (by simp [results, Tryd.results30, go_sem]) rfl ⟨rfl, hb1⟩

set_option maxRecDepth 100000 in
set_option maxHeartbeats 2000000 in
theorem scut_hit (s : ByteArray) (w : World) (hs : s.size ≤ 1099511627776) (k : Nat) (hk : k < s.size) (h : Lib.indexByte s.data.toList 59 = (k : Int)) :
    Calls Tryd.prog 30 #[.string s, .string semiB] w fun e w' => e = .returned (.tuple #[.string (s.extract 0 k), .string (s.extract (k + 1) s.size), .bool true]) ∧ Below w.heap.size w w' := by
  go_enter Tryd.func30, Tryd.ntmps30
  go_wp2_with fail
  refine (cut1_hit s k _ hs hk h).mono ?_
  rintro e w1 ⟨rfl, hb1⟩
  clear h
  go_wp2_with fail
  exact bodyPost_ret (v := .tuple #[.string (s.extract 0 k), .string (s.extract (k + 1) s.size), .bool true]) (by simp [results, Tryd.results30, go_sem]) rfl ⟨rfl, hb1⟩
end Go.Proofs.YtjflkapdnnecjaaDoor
