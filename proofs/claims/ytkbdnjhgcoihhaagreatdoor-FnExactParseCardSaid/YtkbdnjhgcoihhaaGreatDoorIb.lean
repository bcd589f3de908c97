/- The program's lexer: readNumber, readName. -/
import Derived.Test.YtkbdnjhgcoihhaaGreatDoorProg
import Derived.Test.YtkbdnjhgcoihhaaGreatDoorInts
import Derived.Test.YtkbdnjhgcoihhaaGreatDoorVbox
import Derived.Test.YtkbdnjhgcoihhaaGreatDoorHeld
import Derived.Test.YtkbdnjhgcoihhaaGreatDoorMem
import Derived.Test.YtkbdnjhgcoihhaaGreatDoorFlat
import Derived.Test.YtkbdnjhgcoihhaaGreatDoorRowC
import Derived.Test.YtkbdnjhgcoihhaaGreatDoorKS
import Derived.Test.YtkbdnjhgcoihhaaGreatDoorStrS
import Derived.Test.YtkbdnjhgcoihhaaGreatDoorShelf
import Derived.Test.YtkbdnjhgcoihhaaGreatDoorTok
import Derived.Test.YtkbdnjhgcoihhaaGreatDoorFn
import Derived.Test.YtkbdnjhgcoihhaaGreatDoorTp
import Derived.Test.YtkbdnjhgcoihhaaGreatDoorIdent
import Derived.Test.YtkbdnjhgcoihhaaGreatDoorIa
import Derived.WalkKit
import Derived.WalkSpells
import Derived.WalkLawsBesides
import Derived.Lib.Hide
import Derived.Deep.RegionHeld3
import Derived.Deep.QuietTactic
import Derived.BigQuiet
import Derived.Handy
import Derived.Deep.DeepCutAuto
namespace Go.Proofs.YtkbdnjhgcoihhaaGreatDoor
open Go.RowKit

/-- what a call that reads a token answers -/
def ReadOut (R : Option Tk) (k : Nat) (w : World) (e : Ending) (w' : World) : Prop := Below w.heap.size w w' ∧ match R with
  | none => e = .returned (.tuple #[tok 0 ⟨#[]⟩ 0 0, .iface 62 (.agg #[.int .i64 k])])
  | some t => e = .returned (.tuple #[tkv t, .nilIface])
theorem dot_pre (s : ByteArray) (e : Nat) : Lib.hasPrefix (s.extract e s.size).data.toList (⟨#[46]⟩ : ByteArray).data.toList = dotAt s e := by
  rw [ext_list, List.take_of_length_le (by rw [List.length_drop, ← Lib.size_eq]; exact Nat.le_refl _)]
  unfold dotAt
  show List.isPrefixOf [46] (s.data.toList.drop e) = _
  rcases Nat.lt_or_ge e s.data.toList.length with h | h
  · rw [List.drop_eq_getElem_cons h, List.getElem?_eq_getElem h]
    show ((46 : UInt8) == s.data.toList[e] && List.isPrefixOf [] _) = _
    rw [show List.isPrefixOf ([] : List UInt8) (s.data.toList.drop (e + 1)) = true from by cases (s.data.toList.drop (e + 1)) <;> rfl, Bool.and_true]
    by_cases hc : s.data.toList[e] = 46
    · rw [hc]; rfl
    · have h1 : ((46 : UInt8) == s.data.toList[e]) = false := by simp; exact fun h => hc h.symm
      have h2 : (some s.data.toList[e] == some (46 : UInt8)) = false := by simp; exact hc
      rw [h1, h2]
  · rw [List.drop_eq_nil_of_le h, List.getElem?_eq_none h]
    rfl
theorem app_list (a b : ByteArray) : (a ++ b).data.toList = a.data.toList ++ b.data.toList := by simp
theorem ext_dg (s : ByteArray) (k n : Nat) : (s.extract k (k + n)).data.toList = dg s k n := by
  rw [ext_list, show k + n - k = n by omega]
  rfl
/-- two runs of digits, one behind the other, are digits -/
theorem all_dig {a b : ByteArray} (ha : ∀ c ∈ a.data.toList, digB c = true) (hb : ∀ c ∈ b.data.toList, digB c = true) : (a ++ b).size ≤ runP digB (a ++ b) 0 := by
  unfold runP
  rw [List.drop_zero, app_list, Lib.size_eq, app_list]
  have h : ∀ l : List UInt8, (∀ c ∈ l, digB c = true) → l.takeWhile digB = l := by
    intro l
    induction l with
    | nil => intro _; rfl
    | cons x l ih => intro hl; rw [List.takeWhile_cons, hl x List.mem_cons_self, if_pos rfl, ih (fun c hc => hl c (List.mem_cons_of_mem _ hc))]
  rw [h _ (fun c hc => by rcases List.mem_append.1 hc with h | h; exact ha c h; exact hb c h)]
  exact Nat.le_refl _

set_option maxHeartbeats 2000000 in
theorem readNum_long (s : ByteArray) (k : Nat) (w : World) (hk : k < s.size) (hs : s.size ≤ 2000) (hd : digB s[k] = true) (h4 : 4 < runP digB s k) :
    Calls Tryz.prog 56 #[.string s, .int .i64 k] w (ReadOut (scanT s k s[k]) k w) := by
  have hS : scanT s k s[k] = (numS s k).map fun x => (1, s.extract k (k + x.1), (x.2 : Int), (k : Int)) := by unfold scanT; rw [if_pos hd]
  have hle := runP_le (p := digB) (s := s) (k := k) (by omega)
  have hpre1 : ∀ W, Calls Tryz.prog 73 #[.string (s.extract k s.size), .func (.func 55) #[] #[]] W fun e w' => e = .returned (.string (s.extract k (k + runP digB s k))) ∧ Below W.heap.size W w' := fun W => by
    have h := preDig_any (s.extract k s.size) W (by rw [ext_size s (Nat.le_refl _)]; omega)
    rw [run_ext, ext_ext] at h
    exact h
  have hsz1 := ext_size s (a := k) hle
  rw [Nat.add_sub_cancel_left] at hsz1
  obtain ⟨t1, ht1⟩ : ∃ t1, t1 = s.extract k (k + runP digB s k) := ⟨_, rfl⟩
  rw [← ht1] at hpre1 hsz1
  have HS : Hid (scanT s k s[k] = none) := Lib.hid (by rw [hS]; unfold numS; rw [if_pos h4]; rfl)
  have HP := Lib.hid hpre1
  have hgt : (4 : Int) < (t1.size : Int) := by omega
  have HT : Held w (w.alloc (.cells #[.int .i64 0, .string ⟨#[]⟩, .int .i64 0, .int .i64 0] 38)) [(w.heap.size, [.int .i64 0, .string ⟨#[]⟩, .int .i64 0, .int .i64 0])] := by
    have h := (Held.nil w).new #[.int .i64 0, .string ⟨#[]⟩, .int .i64 0, .int .i64 0] 38
    simpa only [World.size_alloc] using h
  clear hS hpre1 hsz1 ht1 hle h4
  go_enter Tryz.func56, Tryz.ntmps56
  go_wp2_with fail
  refine (HP.out _).mono ?_
  rintro e w2 ⟨rfl, hb2⟩
  have HT := HT.later hb2
  clear hb2
  have r0 := (HT.box 0).c 0
  have r1 := (HT.box 0).c 1
  have r2 := (HT.box 0).c 2
  have r3 := (HT.box 0).c 3
  have g0 := (HT.box 0).f 0
  have g1 := (HT.box 0).f 1
  have g2 := (HT.box 0).f 2
  have g3 := (HT.box 0).f 3
  go_wp2_with fail
  exact bodyPost_ret (v := .tuple #[tok 0 ⟨#[]⟩ 0 0, .iface 62 (.agg #[.int .i64 k])]) (by simp [results, Tryz.results56, go_sem, r0, r1, r2, r3]) rfl ⟨(((((HT.below).setCell (p := ⟨w.heap.size, 0, none⟩) (Nat.le_refl _) _).setCell (p := ⟨w.heap.size, 1, none⟩) (Nat.le_refl _) _).setCell (p := ⟨w.heap.size, 2, none⟩) (Nat.le_refl _) _).setCell (p := ⟨w.heap.size, 3, none⟩) (Nat.le_refl _) _), by rw [HS.out]⟩

set_option maxRecDepth 100000 in
set_option maxHeartbeats 4000000 in
theorem readNum_int (s : ByteArray) (k : Nat) (w : World) (hk : k < s.size) (hs : s.size ≤ 2000) (hd : digB s[k] = true) (h4 : ¬ 4 < runP digB s k) (hdot : dotAt s (k + runP digB s k) = false) :
    Calls Tryz.prog 56 #[.string s, .int .i64 k] w (ReadOut (scanT s k s[k]) k w) := by
  have hS : scanT s k s[k] = (numS s k).map fun x => (1, s.extract k (k + x.1), (x.2 : Int), (k : Int)) := by unfold scanT; rw [if_pos hd]
  have hle := runP_le (p := digB) (s := s) (k := k) (by omega)
  have hpre1 : ∀ W, Calls Tryz.prog 73 #[.string (s.extract k s.size), .func (.func 55) #[] #[]] W fun e w' => e = .returned (.string (s.extract k (k + runP digB s k))) ∧ Below W.heap.size W w' := fun W => by
    have h := preDig_any (s.extract k s.size) W (by rw [ext_size s (Nat.le_refl _)]; omega)
    rw [run_ext, ext_ext] at h
    exact h
  have hsz1 := ext_size s (a := k) hle
  rw [Nat.add_sub_cancel_left] at hsz1
  obtain ⟨t1, ht1⟩ : ∃ t1, t1 = s.extract k (k + runP digB s k) := ⟨_, rfl⟩
  rw [← ht1] at hpre1 hsz1
  have hdp := dot_pre s (k + runP digB s k)
  rw [hdot] at hdp
  have hdg := dg_dig s (k := k) (Nat.le_refl (runP digB s k))
  rw [← ext_dg, ← ht1] at hdg
  have hdv := fun W => digitsValue_any (t1 ++ ⟨#[]⟩) W (by rw [Lib.size_eq, app_list]; simp; omega) (all_dig hdg (fun c hc => by cases hc))
  have hlv : lval (t1 ++ ⟨#[]⟩).data.toList = lval (dg s k (runP digB s k)) := by rw [app_list, ← ext_dg, ← ht1]; simp
  have hl4 := lval6 (s := s) (k := k) (Nat.le_refl (runP digB s k)) (by omega) hle
  have hiu := fun W => inUnits_any (lval (dg s k (runP digB s k))) 0 W (by omega) (by omega)
  have hun : uniP (lval (dg s k (runP digB s k))) 0 = lval (dg s k (runP digB s k)) * 256 := by unfold uniP; rw [Nat.pow_zero, Nat.div_one]
  rw [hlv] at hdv
  rw [hun] at hiu
  have hS2 : scanT s k s[k] = some (1, s.extract k (k + runP digB s k), ((lval (dg s k (runP digB s k)) * 256 : Nat) : Int), (k : Int)) := by rw [hS]; unfold numS; rw [if_neg h4, hdot, if_neg (by simp)]; rfl
  have hnp := fun W => newPartT_any s k (k + runP digB s k) W (by omega) (by omega) hle
  have hhp := fun W => Tryz.strings_HasPrefix (s.extract (k + runP digB s k) s.size) ⟨#[46]⟩ W
  rw [hdp] at hhp
  rw [← ht1] at hS2 hnp
  obtain ⟨x, hx⟩ : ∃ x, x = lval (dg s k (runP digB s k)) := ⟨_, rfl⟩
  obtain ⟨y, hy⟩ : ∃ y, y = x * 256 := ⟨_, rfl⟩
  rw [← hx] at hdv hiu hS2 hl4
  rw [← hy] at hiu hS2
  rw [← hsz1] at hnp hhp hle h4
  rw [Int.natCast_add] at hnp
  have HS := Lib.hid hS2
  have HP := Lib.hid hpre1
  have HV := Lib.hid hdv
  have HU := Lib.hid hiu
  have HNP := Lib.hid hnp
  have HHP := Lib.hid hhp
  have hgt : ¬ (4 : Int) < (t1.size : Int) := by omega
  have htb : t1.size ≤ 4 := by omega
  have h00 : (⟨#[]⟩ : ByteArray).size = 0 := rfl
  have HT : Held w (w.alloc (.cells #[.int .i64 0, .string ⟨#[]⟩, .int .i64 0, .int .i64 0] 38)) [(w.heap.size, [.int .i64 0, .string ⟨#[]⟩, .int .i64 0, .int .i64 0])] := by
    have h := (Held.nil w).new #[.int .i64 0, .string ⟨#[]⟩, .int .i64 0, .int .i64 0] 38
    simpa only [World.size_alloc] using h
  clear hS hpre1 hsz1 ht1 h4 hdp hdg hdv hlv hiu hun hS2 hnp hhp hx hy hdot
  go_enter Tryz.func56, Tryz.ntmps56
  go_wp2_with fail
  refine (HP.out _).mono ?_
  rintro e w2 ⟨rfl, hb2⟩
  have HT := HT.later hb2
  clear hb2
  go_wp2_with fail
  refine (HHP.out _).mono ?_
  rintro e w3 ⟨rfl, rfl⟩
  go_wp2_with fail
  refine (HV.out _).mono ?_
  rintro e w4 ⟨rfl, hb4⟩
  have HT := HT.later hb4
  clear hb4
  go_wp2_with fail
  refine (HU.out _).mono ?_
  rintro e w5 ⟨rfl, rfl⟩
  go_wp2_with fail
  refine (HNP.out _).mono ?_
  rintro e w6 ⟨rfl, hb6⟩
  have HT := HT.later hb6
  clear hb6
  have r0 := (HT.box 0).c 0
  have r1 := (HT.box 0).c 1
  have r2 := (HT.box 0).c 2
  have r3 := (HT.box 0).c 3
  have g0 := (HT.box 0).f 0
  have g1 := (HT.box 0).f 1
  have g2 := (HT.box 0).f 2
  have g3 := (HT.box 0).f 3
  go_wp2_with fail
  exact bodyPost_ret (v := .tuple #[tok 1 t1 (y : Nat) (k : Int), .nilIface]) (by simp [results, Tryz.results56, go_sem, r0, r1, r2, r3]) rfl ⟨(((((HT.below).setCell (p := ⟨w.heap.size, 0, none⟩) (Nat.le_refl _) _).setCell (p := ⟨w.heap.size, 1, none⟩) (Nat.le_refl _) _).setCell (p := ⟨w.heap.size, 2, none⟩) (Nat.le_refl _) _).setCell (p := ⟨w.heap.size, 3, none⟩) (Nat.le_refl _) _), by rw [HS.out]⟩

set_option maxRecDepth 100000 in
set_option maxHeartbeats 4000000 in
theorem readNum_bad (s : ByteArray) (k : Nat) (w : World) (hk : k < s.size) (hs : s.size ≤ 2000) (hd : digB s[k] = true) (h4 : ¬ 4 < runP digB s k) (hdot : dotAt s (k + runP digB s k) = true) (hm : ¬ (1 ≤ runP digB s (k + runP digB s k + 1) ∧ runP digB s (k + runP digB s k + 1) ≤ 4)) :
    Calls Tryz.prog 56 #[.string s, .int .i64 k] w (ReadOut (scanT s k s[k]) k w) := by
  have hS : scanT s k s[k] = (numS s k).map fun x => (1, s.extract k (k + x.1), (x.2 : Int), (k : Int)) := by unfold scanT; rw [if_pos hd]
  have hle := runP_le (p := digB) (s := s) (k := k) (by omega)
  have hpre1 : ∀ W, Calls Tryz.prog 73 #[.string (s.extract k s.size), .func (.func 55) #[] #[]] W fun e w' => e = .returned (.string (s.extract k (k + runP digB s k))) ∧ Below W.heap.size W w' := fun W => by
    have h := preDig_any (s.extract k s.size) W (by rw [ext_size s (Nat.le_refl _)]; omega)
    rw [run_ext, ext_ext] at h
    exact h
  have hsz1 := ext_size s (a := k) hle
  rw [Nat.add_sub_cancel_left] at hsz1
  obtain ⟨t1, ht1⟩ : ∃ t1, t1 = s.extract k (k + runP digB s k) := ⟨_, rfl⟩
  rw [← ht1] at hpre1 hsz1
  have hdp := dot_pre s (k + runP digB s k)
  rw [hdot] at hdp
  obtain ⟨hdl, _⟩ := dot_yes hdot
  have hle2 := runP_le (p := digB) (s := s) (k := k + runP digB s k + 1) (by omega)
  have hpre2 : ∀ W, Calls Tryz.prog 73 #[.string (s.extract (k + runP digB s k + 1) s.size), .func (.func 55) #[] #[]] W fun e w' => e = .returned (.string (s.extract (k + runP digB s k + 1) ((k + runP digB s k + 1) + runP digB s (k + runP digB s k + 1)))) ∧ Below W.heap.size W w' := fun W => by
    have h := preDig_any (s.extract (k + runP digB s k + 1) s.size) W (by rw [ext_size s (Nat.le_refl _)]; omega)
    rw [run_ext, ext_ext] at h
    exact h
  have hsz2 := ext_size s (a := k + runP digB s k + 1) hle2
  rw [Nat.add_sub_cancel_left] at hsz2
  obtain ⟨t2, ht2⟩ : ∃ t2, t2 = s.extract (k + runP digB s k + 1) (k + runP digB s k + 1 + runP digB s (k + runP digB s k + 1)) := ⟨_, rfl⟩
  rw [← ht2] at hpre2 hsz2
  have hhp := fun W => Tryz.strings_HasPrefix (s.extract (k + runP digB s k) s.size) ⟨#[46]⟩ W
  rw [hdp] at hhp
  have hS2 : scanT s k s[k] = none := by rw [hS]; unfold numS; rw [if_neg h4, hdot, if_pos rfl, if_neg hm]; rfl
  have hin := fun W => isWithinN_no (t2.size : Int) 1 4 W (by omega)
  have htb2 : t2.size ≤ 2000 := by omega
  rw [← hsz1] at hhp hle h4 hpre2 hle2 hdl
  have HS := Lib.hid hS2
  have HP := Lib.hid hpre1
  have HP2 := Lib.hid hpre2
  have HHP := Lib.hid hhp
  have HIN := Lib.hid hin
  have hgt : ¬ (4 : Int) < (t1.size : Int) := by omega
  have htb : t1.size ≤ 4 := by omega
  have HT : Held w (w.alloc (.cells #[.int .i64 0, .string ⟨#[]⟩, .int .i64 0, .int .i64 0] 38)) [(w.heap.size, [.int .i64 0, .string ⟨#[]⟩, .int .i64 0, .int .i64 0])] := by
    have h := (Held.nil w).new #[.int .i64 0, .string ⟨#[]⟩, .int .i64 0, .int .i64 0] 38
    simpa only [World.size_alloc] using h
  clear hS hpre1 hpre2 hsz1 hsz2 ht1 ht2 h4 hdp hS2 hhp hdot hin hm hle2
  go_enter Tryz.func56, Tryz.ntmps56
  go_wp2_with fail
  refine (HP.out _).mono ?_
  rintro e w2 ⟨rfl, hb2⟩
  have HT := HT.later hb2
  clear hb2
  go_wp2_with fail
  refine (HHP.out _).mono ?_
  rintro e w3 ⟨rfl, rfl⟩
  go_wp2_with fail
  refine (HP2.out _).mono ?_
  rintro e w3 ⟨rfl, hb3⟩
  have HT := HT.later hb3
  clear hb3
  go_wp2_with fail
  refine (HIN.out _).mono ?_
  rintro e w4 ⟨rfl, rfl⟩
  have r0 := (HT.box 0).c 0
  have r1 := (HT.box 0).c 1
  have r2 := (HT.box 0).c 2
  have r3 := (HT.box 0).c 3
  have g0 := (HT.box 0).f 0
  have g1 := (HT.box 0).f 1
  have g2 := (HT.box 0).f 2
  have g3 := (HT.box 0).f 3
  go_wp2_with fail
  exact bodyPost_ret (v := .tuple #[tok 0 ⟨#[]⟩ 0 0, .iface 62 (.agg #[.int .i64 k])]) (by simp [results, Tryz.results56, go_sem, r0, r1, r2, r3]) rfl ⟨(((((HT.below).setCell (p := ⟨w.heap.size, 0, none⟩) (Nat.le_refl _) _).setCell (p := ⟨w.heap.size, 1, none⟩) (Nat.le_refl _) _).setCell (p := ⟨w.heap.size, 2, none⟩) (Nat.le_refl _) _).setCell (p := ⟨w.heap.size, 3, none⟩) (Nat.le_refl _) _), by rw [HS.out]⟩

set_option maxRecDepth 100000 in
set_option maxHeartbeats 4000000 in
theorem readNum_frac (s : ByteArray) (k : Nat) (w : World) (hk : k < s.size) (hs : s.size ≤ 2000) (hd : digB s[k] = true) (h4 : ¬ 4 < runP digB s k) (hdot : dotAt s (k + runP digB s k) = true) (hm : 1 ≤ runP digB s (k + runP digB s k + 1) ∧ runP digB s (k + runP digB s k + 1) ≤ 4) :
    Calls Tryz.prog 56 #[.string s, .int .i64 k] w (ReadOut (scanT s k s[k]) k w) := by
  have hS : scanT s k s[k] = (numS s k).map fun x => (1, s.extract k (k + x.1), (x.2 : Int), (k : Int)) := by unfold scanT; rw [if_pos hd]
  have hle := runP_le (p := digB) (s := s) (k := k) (by omega)
  have hpre1 : ∀ W, Calls Tryz.prog 73 #[.string (s.extract k s.size), .func (.func 55) #[] #[]] W fun e w' => e = .returned (.string (s.extract k (k + runP digB s k))) ∧ Below W.heap.size W w' := fun W => by
    have h := preDig_any (s.extract k s.size) W (by rw [ext_size s (Nat.le_refl _)]; omega)
    rw [run_ext, ext_ext] at h
    exact h
  have hsz1 := ext_size s (a := k) hle
  rw [Nat.add_sub_cancel_left] at hsz1
  obtain ⟨t1, ht1⟩ : ∃ t1, t1 = s.extract k (k + runP digB s k) := ⟨_, rfl⟩
  rw [← ht1] at hpre1 hsz1
  have hdp := dot_pre s (k + runP digB s k)
  rw [hdot] at hdp
  obtain ⟨hdl, _⟩ := dot_yes hdot
  have hle2 := runP_le (p := digB) (s := s) (k := k + runP digB s k + 1) (by omega)
  have hpre2 : ∀ W, Calls Tryz.prog 73 #[.string (s.extract (k + runP digB s k + 1) s.size), .func (.func 55) #[] #[]] W fun e w' => e = .returned (.string (s.extract (k + runP digB s k + 1) ((k + runP digB s k + 1) + runP digB s (k + runP digB s k + 1)))) ∧ Below W.heap.size W w' := fun W => by
    have h := preDig_any (s.extract (k + runP digB s k + 1) s.size) W (by rw [ext_size s (Nat.le_refl _)]; omega)
    rw [run_ext, ext_ext] at h
    exact h
  have hsz2 := ext_size s (a := k + runP digB s k + 1) hle2
  rw [Nat.add_sub_cancel_left] at hsz2
  obtain ⟨t2, ht2⟩ : ∃ t2, t2 = s.extract (k + runP digB s k + 1) (k + runP digB s k + 1 + runP digB s (k + runP digB s k + 1)) := ⟨_, rfl⟩
  rw [← ht2] at hpre2 hsz2
  have hhp := fun W => Tryz.strings_HasPrefix (s.extract (k + runP digB s k) s.size) ⟨#[46]⟩ W
  rw [hdp] at hhp
  have hS2 : scanT s k s[k] = some (1, s.extract k (k + (runP digB s k + 1 + runP digB s (k + runP digB s k + 1))), ((lval (dg s k (runP digB s k)) * 256 + lval (dg s (k + runP digB s k + 1) (runP digB s (k + runP digB s k + 1))) * 256 / 10 ^ runP digB s (k + runP digB s k + 1) : Nat) : Int), (k : Int)) := by
    rw [hS]; unfold numS; rw [if_neg h4, hdot, if_pos rfl, if_pos hm]; rfl
  have hin := fun W => isWithinN_any (t2.size : Int) 1 4 W (by omega) (by omega)
  have hdg := dg_dig s (k := k) (Nat.le_refl (runP digB s k))
  rw [← ext_dg, ← ht1] at hdg
  have hdg2 := dg_dig s (k := k + runP digB s k + 1) (Nat.le_refl (runP digB s (k + runP digB s k + 1)))
  rw [← ext_dg, ← ht2] at hdg2
  have hdv := fun W => digitsValue_any (t1 ++ t2) W (by rw [Lib.size_eq, app_list, List.length_append, ← Lib.size_eq, ← Lib.size_eq]; omega) (all_dig hdg hdg2)
  have hlv : lval (t1 ++ t2).data.toList = lval (dg s k (runP digB s k)) * 10 ^ runP digB s (k + runP digB s k + 1) + lval (dg s (k + runP digB s k + 1) (runP digB s (k + runP digB s k + 1))) := by
    rw [app_list, lval_app, ← Lib.size_eq, hsz2, ht1, ht2, ext_dg, ext_dg]
  have hnl : lval (t1 ++ t2).data.toList < 100000000 := by
    have h := lval_lt (t1 ++ t2).data.toList (fun c hc => by rw [app_list] at hc; rcases List.mem_append.1 hc with h | h; exact hdg c h; exact hdg2 c h)
    rw [app_list, List.length_append, ← Lib.size_eq, ← Lib.size_eq] at h
    rw [app_list]
    have : (10 : Nat) ^ (t1.size + t2.size) ≤ 10 ^ 8 := Nat.pow_le_pow_right (by omega) (by omega)
    have e8 : (10 : Nat) ^ 8 = 100000000 := by rfl
    omega
  have hiu := fun W => inUnits_any (lval (t1 ++ t2).data.toList) t2.size W (by omega) (by omega)
  have hun : uniP (lval (t1 ++ t2).data.toList) t2.size = lval (dg s k (runP digB s k)) * 256 + lval (dg s (k + runP digB s k + 1) (runP digB s (k + runP digB s k + 1))) * 256 / 10 ^ runP digB s (k + runP digB s k + 1) := by rw [hlv, hsz2, num_eq]
  rw [hun] at hiu
  have hnp := fun W => newPartT_any s k (k + (runP digB s k + 1 + runP digB s (k + runP digB s k + 1))) W (by omega) (by omega) (by omega)
  obtain ⟨p, hp⟩ : ∃ p, p = s.extract k (k + (runP digB s k + 1 + runP digB s (k + runP digB s k + 1))) := ⟨_, rfl⟩
  obtain ⟨y, hy⟩ : ∃ y, y = lval (dg s k (runP digB s k)) * 256 + lval (dg s (k + runP digB s k + 1) (runP digB s (k + runP digB s k + 1))) * 256 / 10 ^ runP digB s (k + runP digB s k + 1) := ⟨_, rfl⟩
  rw [← hy] at hiu hS2
  rw [← hp] at hS2 hnp
  obtain ⟨x, hx⟩ : ∃ x, x = lval (t1 ++ t2).data.toList := ⟨_, rfl⟩
  rw [← hx] at hdv hiu hnl
  rw [← hsz2, ← hsz1] at hnp
  have hki : ((k + (t1.size + 1 + t2.size) : Nat) : Int) = (k : Int) + (t1.size : Int) + (1 + (t2.size : Int)) := by omega
  rw [hki] at hnp
  rw [← hsz1] at hhp hle h4 hpre2 hdl
  have hle3 : k + t1.size + 1 + t2.size ≤ s.size := by omega
  have HS := Lib.hid hS2
  have HP := Lib.hid hpre1
  have HP2 := Lib.hid hpre2
  have HHP := Lib.hid hhp
  have HIN := Lib.hid hin
  have HV := Lib.hid hdv
  have HU := Lib.hid hiu
  have HNP := Lib.hid hnp
  have hgt : ¬ (4 : Int) < (t1.size : Int) := by omega
  have htb : t1.size ≤ 4 := by omega
  have htb2 : t2.size ≤ 4 := by omega
  have HT : Held w (w.alloc (.cells #[.int .i64 0, .string ⟨#[]⟩, .int .i64 0, .int .i64 0] 38)) [(w.heap.size, [.int .i64 0, .string ⟨#[]⟩, .int .i64 0, .int .i64 0])] := by
    have h := (Held.nil w).new #[.int .i64 0, .string ⟨#[]⟩, .int .i64 0, .int .i64 0] 38
    simpa only [World.size_alloc] using h
  clear hS hpre1 hpre2 hsz1 hsz2 ht1 ht2 h4 hdp hS2 hhp hdot hin hm hle2 hdg hdg2 hdv hlv hiu hun hnp hki hx hy hp
  go_enter Tryz.func56, Tryz.ntmps56
  go_wp2_with fail
  refine (HP.out _).mono ?_
  rintro e w2 ⟨rfl, hb2⟩
  have HT := HT.later hb2
  clear hb2
  go_wp2_with fail
  refine (HHP.out _).mono ?_
  rintro e w3 ⟨rfl, rfl⟩
  go_wp2_with fail
  refine (HP2.out _).mono ?_
  rintro e w3 ⟨rfl, hb3⟩
  have HT := HT.later hb3
  clear hb3
  go_wp2_with fail
  refine (HIN.out _).mono ?_
  rintro e w4 ⟨rfl, rfl⟩
  go_wp2_with fail
  refine (HV.out _).mono ?_
  rintro e w4 ⟨rfl, hb4⟩
  have HT := HT.later hb4
  clear hb4
  go_wp2_with fail
  refine (HU.out _).mono ?_
  rintro e w5 ⟨rfl, rfl⟩
  go_wp2_with fail
  refine (HNP.out _).mono ?_
  rintro e w6 ⟨rfl, hb6⟩
  have HT := HT.later hb6
  clear hb6
  have r0 := (HT.box 0).c 0
  have r1 := (HT.box 0).c 1
  have r2 := (HT.box 0).c 2
  have r3 := (HT.box 0).c 3
  have g0 := (HT.box 0).f 0
  have g1 := (HT.box 0).f 1
  have g2 := (HT.box 0).f 2
  have g3 := (HT.box 0).f 3
  go_wp2_with fail
  exact bodyPost_ret (v := .tuple #[tok 1 p (y : Nat) (k : Int), .nilIface]) (by simp [results, Tryz.results56, go_sem, r0, r1, r2, r3]) rfl ⟨(((((HT.below).setCell (p := ⟨w.heap.size, 0, none⟩) (Nat.le_refl _) _).setCell (p := ⟨w.heap.size, 1, none⟩) (Nat.le_refl _) _).setCell (p := ⟨w.heap.size, 2, none⟩) (Nat.le_refl _) _).setCell (p := ⟨w.heap.size, 3, none⟩) (Nat.le_refl _) _), by rw [HS.out]⟩
theorem readNum_any (s : ByteArray) (k : Nat) (w : World) (hk : k < s.size) (hs : s.size ≤ 2000) (hd : digB s[k] = true) :
    Calls Tryz.prog 56 #[.string s, .int .i64 k] w (ReadOut (scanT s k s[k]) k w) := by
  by_cases h4 : 4 < runP digB s k
  · exact readNum_long s k w hk hs hd h4
  · cases hdot : dotAt s (k + runP digB s k) with
    | false => exact readNum_int s k w hk hs hd h4 hdot
    | true =>
      by_cases hm : 1 ≤ runP digB s (k + runP digB s k + 1) ∧ runP digB s (k + runP digB s k + 1) ≤ 4
      · exact readNum_frac s k w hk hs hd h4 hdot hm
      · exact readNum_bad s k w hk hs hd h4 hdot hm

set_option maxRecDepth 100000 in
set_option maxHeartbeats 4000000 in
theorem readName_any (s : ByteArray) (k : Nat) (w : World) (hk : k < s.size) (hs : s.size ≤ 2000) (hd : digB s[k] = false) (hl : letB s[k] = true) :
    Calls Tryz.prog 58 #[.string s, .int .i64 k] w (ReadOut (scanT s k s[k]) k w) := by
  have hS : scanT s k s[k] = if runP namB s k ≤ 8 then some (2, s.extract k (k + runP namB s k), 0, (k : Int)) else none := by unfold scanT; rw [if_neg (by rw [hd]; simp), if_pos hl]
  have hle := runP_le (p := namB) (s := s) (k := k) (by omega)
  have hn1 := runP_yes (p := namB) hk (by unfold namB; rw [hl]; rfl)
  have hpre : ∀ W, Calls Tryz.prog 73 #[.string (s.extract k s.size), .func (.func 78) #[] #[]] W fun e w' => e = .returned (.string (s.extract k (k + runP namB s k))) ∧ Below W.heap.size W w' := fun W => by
    have h := preNam_any (s.extract k s.size) W (by rw [ext_size s (Nat.le_refl _)]; omega)
    rw [run_ext, ext_ext] at h
    exact h
  have hsz := ext_size s (a := k) hle
  rw [Nat.add_sub_cancel_left] at hsz
  have hch : ∀ i (h : i < (s.extract k (k + runP namB s k)).size), (s.extract k (k + runP namB s k))[i] = s[k + i]'(by omega) := fun i h => by
    have e : (s.extract k (k + runP namB s k)).data.toList[i]? = s.data.toList[k + i]? := by
      rw [ext_list, show k + runP namB s k - k = runP namB s k by omega, List.getElem?_take_of_lt (by omega), List.getElem?_drop]
    rw [List.getElem?_eq_getElem (by rw [← Lib.size_eq]; exact h), List.getElem?_eq_getElem (by rw [← Lib.size_eq]; omega)] at e
    exact Option.some.inj e
  have hid : Ident (s.extract k (k + runP namB s k)) ↔ runP namB s k ≤ 8 := by
    constructor
    · intro h
      have := h.2.1
      omega
    · intro h
      refine ⟨by omega, by omega, fun i hi => ?_⟩
      rw [hch i hi]
      have hin := runP_in (p := namB) (s := s) (k := k) i (by omega) (by omega)
      unfold GoodAt
      by_cases h0 : i = 0
      · subst h0
        simp only [Nat.add_zero]
        exact .inl ((letB_iff _).1 hl)
      · unfold namB at hin
        rcases (Bool.or_eq_true _ _).mp hin with h | h
        · exact .inl ((letB_iff _).1 h)
        · exact .inr ⟨h0, (digB_iff _).1 h⟩
  have hic := fun W => ident_any (s.extract k (k + runP namB s k)) W (by omega)
  obtain ⟨t1, ht1⟩ : ∃ t1, t1 = s.extract k (k + runP namB s k) := ⟨_, rfl⟩
  rw [← ht1] at hpre hsz hid hic hS
  have hcl := fun W => cloneT_any t1 W (by omega)
  have HP := Lib.hid hpre
  have HI := Lib.hid hic
  have HC := Lib.hid hcl
  have HID := Lib.hid hid
  have HT : Held w (w.alloc (.cells #[.int .i64 0, .string ⟨#[]⟩, .int .i64 0, .int .i64 0] 38)) [(w.heap.size, [.int .i64 0, .string ⟨#[]⟩, .int .i64 0, .int .i64 0])] := by
    have h := (Held.nil w).new #[.int .i64 0, .string ⟨#[]⟩, .int .i64 0, .int .i64 0] 38
    simpa only [World.size_alloc] using h
  by_cases h8 : runP namB s k ≤ 8
  · rw [if_pos h8] at hS
    have HS := Lib.hid hS
    have HY := Lib.hid (hid.2 h8)
    clear hS hpre hsz ht1 hle hn1 hch hid hic hcl h8
    go_enter Tryz.func58, Tryz.ntmps58
    go_wp2_with fail
    refine (HP.out _).mono ?_
    rintro e w2 ⟨rfl, hb2⟩
    have HT := HT.later hb2
    clear hb2
    go_wp2_with fail
    refine (HI.out _).mono ?_
    rintro e w3 ⟨b, rfl, hb, hb3⟩
    obtain rfl : b = true := hb.2 HY.out
    have HT := HT.later hb3
    clear hb3 hb
    go_wp2_with fail
    refine (HC.out _).mono ?_
    rintro e w4 ⟨rfl, hb4⟩
    have HT := HT.later hb4
    clear hb4
    have r0 := (HT.box 0).c 0
    have r1 := (HT.box 0).c 1
    have r2 := (HT.box 0).c 2
    have r3 := (HT.box 0).c 3
    have g0 := (HT.box 0).f 0
    have g1 := (HT.box 0).f 1
    have g2 := (HT.box 0).f 2
    have g3 := (HT.box 0).f 3
    go_wp2_with fail
    exact bodyPost_ret (v := .tuple #[tok 2 t1 0 (k : Int), .nilIface]) (by simp [results, Tryz.results58, go_sem, r0, r1, r2, r3]) rfl ⟨(((((HT.below).setCell (p := ⟨w.heap.size, 0, none⟩) (Nat.le_refl _) _).setCell (p := ⟨w.heap.size, 1, none⟩) (Nat.le_refl _) _).setCell (p := ⟨w.heap.size, 2, none⟩) (Nat.le_refl _) _).setCell (p := ⟨w.heap.size, 3, none⟩) (Nat.le_refl _) _), by rw [HS.out]⟩
  · rw [if_neg h8] at hS
    have HS := Lib.hid hS
    have HY := Lib.hid (fun h => h8 (hid.1 h))
    clear hS hpre hsz ht1 hle hn1 hch hid hic hcl h8
    go_enter Tryz.func58, Tryz.ntmps58
    go_wp2_with fail
    refine (HP.out _).mono ?_
    rintro e w2 ⟨rfl, hb2⟩
    have HT := HT.later hb2
    clear hb2
    go_wp2_with fail
    refine (HI.out _).mono ?_
    rintro e w3 ⟨b, rfl, hb, hb3⟩
    obtain rfl : b = false := by
      cases b with
      | false => rfl
      | true => exact absurd (hb.1 rfl) HY.out
    have HT := HT.later hb3
    clear hb3 hb
    have r0 := (HT.box 0).c 0
    have r1 := (HT.box 0).c 1
    have r2 := (HT.box 0).c 2
    have r3 := (HT.box 0).c 3
    have g0 := (HT.box 0).f 0
    have g1 := (HT.box 0).f 1
    have g2 := (HT.box 0).f 2
    have g3 := (HT.box 0).f 3
    go_wp2_with fail
    exact bodyPost_ret (v := .tuple #[tok 0 ⟨#[]⟩ 0 0, .iface 62 (.agg #[.int .i64 k])]) (by simp [results, Tryz.results58, go_sem, r0, r1, r2, r3]) rfl ⟨(((((HT.below).setCell (p := ⟨w.heap.size, 0, none⟩) (Nat.le_refl _) _).setCell (p := ⟨w.heap.size, 1, none⟩) (Nat.le_refl _) _).setCell (p := ⟨w.heap.size, 2, none⟩) (Nat.le_refl _) _).setCell (p := ⟨w.heap.size, 3, none⟩) (Nat.le_refl _) _), by rw [HS.out]⟩
end Go.Proofs.YtkbdnjhgcoihhaaGreatDoor
