/- The model's lexer, on: l12Scan, Tokenize. -/
import Derived.Test.YtkbdnjhgcoihhaaGreatDoorProg
import Derived.Test.YtkbdnjhgcoihhaaGreatDoorInts
import Derived.Test.YtkbdnjhgcoihhaaGreatDoorVbox
import Derived.Test.YtkbdnjhgcoihhaaGreatDoorHeld
import Derived.Test.YtkbdnjhgcoihhaaGreatDoorMem
import Derived.Test.YtkbdnjhgcoihhaaGreatDoorFlat
import Derived.Test.YtkbdnjhgcoihhaaGreatDoorRowC
import Derived.Test.YtkbdnjhgcoihhaaGreatDoorKS
import Derived.Test.YtkbdnjhgcoihhaaGreatDoorStrS
import Derived.Test.YtkbdnjhgcoihhaaGreatDoorTok
import Derived.Test.YtkbdnjhgcoihhaaGreatDoorFn
import Derived.Test.YtkbdnjhgcoihhaaGreatDoorTp
import Derived.Test.YtkbdnjhgcoihhaaGreatDoorTk
import Derived.WalkKit
import Derived.WalkSpells
import Derived.WalkLawsBesides
import Derived.Lib.Hide
import Derived.Deep.RegionHeld3
import Derived.Deep.QuietTactic
import Derived.BigQuiet
import Derived.Handy
import Derived.Deep.DeepCutAuto
import Derived.Deep.CutRange
import Derived.Lib.SlBytesConst
import Derived.Lib.SmallJoins
namespace Go.Proofs.YtkbdnjhgcoihhaaGreatDoor
open Go.RowKit

def ScanOut (s : ByteArray) (k : Nat) (b : UInt8) (w : World) (e : Ending) (w' : World) : Prop := Below w.heap.size w w' ∧ match scanT s k b with
  | none => ∃ (t : Tk) (q : Nat), e = .returned (.tuple #[tkv t, .int .i64 q, .bool false])
  | some t => e = .returned (.tuple #[tkv t, .int .i64 (k + t.2.1.size : Nat), .bool true])
def syL : List Int := [43, 45, 42, 47, 40, 41, 44, 61, 59]
theorem sy_yes {b : UInt8} {i : Nat} (h : i < 9) (e : syL.getD i 0 = (b.toNat : Int)) : symB b = true := by
  rw [symB_iff]
  have : i = 0 ∨ i = 1 ∨ i = 2 ∨ i = 3 ∨ i = 4 ∨ i = 5 ∨ i = 6 ∨ i = 7 ∨ i = 8 := by omega
  rcases this with rfl | rfl | rfl | rfl | rfl | rfl | rfl | rfl | rfl <;> (simp [syL] at e; omega)
theorem sy_no {b : UInt8} (h : ∀ i, i < 9 → syL.getD i 0 ≠ (b.toNat : Int)) : symB b = false := by
  cases hs : symB b with
  | false => rfl
  | true =>
    exfalso
    have h0 := h 0 (by omega); have h1 := h 1 (by omega); have h2 := h 2 (by omega); have h3 := h 3 (by omega); have h4 := h 4 (by omega); have h5 := h 5 (by omega); have h6 := h 6 (by omega); have h7 := h 7 (by omega); have h8 := h 8 (by omega)
    rw [symB_iff] at hs
    simp [syL] at h0 h1 h2 h3 h4 h5 h6 h7 h8
    omega
theorem sy_cell {w : World} {g : Nat} (h : Mbox w g [.int .u8 43, .int .u8 45, .int .u8 42, .int .u8 47, .int .u8 40, .int .u8 41, .int .u8 44, .int .u8 61, .int .u8 59]) {i : Nat} (hi : i < 9) : w.cell? ⟨g, i, none⟩ = some (.int .u8 (syL.getD i 0)) := by
  have : i = 0 ∨ i = 1 ∨ i = 2 ∨ i = 3 ∨ i = 4 ∨ i = 5 ∨ i = 6 ∨ i = 7 ∨ i = 8 := by omega
  rcases this with rfl | rfl | rfl | rfl | rfl | rfl | rfl | rfl | rfl <;> exact h.c _
theorem sy_bd (i : Nat) : 0 ≤ syL.getD i 0 ∧ syL.getD i 0 < 256 := by
  by_cases h : i < 9
  · have : i = 0 ∨ i = 1 ∨ i = 2 ∨ i = 3 ∨ i = 4 ∨ i = 5 ∨ i = 6 ∨ i = 7 ∨ i = 8 := by omega
    rcases this with rfl | rfl | rfl | rfl | rfl | rfl | rfl | rfl | rfl <;> simp [syL]
  · have : syL[i]? = none := List.getElem?_eq_none (by simp [syL]; omega)
    simp [List.getD, this]

set_option maxRecDepth 100000 in
set_option maxHeartbeats 4000000 in
theorem sScanD_any (s : ByteArray) (k : Nat) (w : World) (hk : k < s.size) (hs : s.size ≤ 2000) (hd : digB s[k] = true) :
    Calls Tryz.prog 23 #[.string s, .int .i64 k] w (ScanOut s k s[k] w) := by
  have hdc := fun W => sDig_any s[k] W
  rw [hd] at hdc
  have HD := Lib.hid hdc
  have hnum := fun W => sNum_any s k W (by omega) hs
  have HN := Lib.hid hnum
  have HS : Hid (scanT s k s[k] = (numS s k).map fun x => (1, s.extract k (k + x.1), (x.2 : Int), (k : Int))) := Lib.hid (by unfold scanT; rw [if_pos hd])
  have HDD := Lib.hid hd
  have HT : Held w (w.alloc (.cells #[.int .i64 0, .string ⟨#[]⟩, .int .i64 0, .int .i64 0] 38)) [(w.heap.size, [.int .i64 0, .string ⟨#[]⟩, .int .i64 0, .int .i64 0])] := by
    have h := (Held.nil w).new #[.int .i64 0, .string ⟨#[]⟩, .int .i64 0, .int .i64 0] 38
    simpa only [World.size_alloc] using h
  clear hdc hnum hd
  go_enter Tryz.func23, Tryz.ntmps23
  go_wp2_with fail
  refine (HD.out _).mono ?_
  rintro e w1 ⟨rfl, rfl⟩
  go_wp2_with fail
  refine (HN.out _).mono ?_
  rintro e w2 ⟨hb2, he⟩
  have HT := HT.later hb2
  clear hb2
  cases hn : numS s k with
  | none =>
    rw [hn] at he HS
    obtain ⟨q, v, rfl, hq1, hq2⟩ := he
    have r0 := (HT.box 0).c 0
    have r1 := (HT.box 0).c 1
    have r2 := (HT.box 0).c 2
    have r3 := (HT.box 0).c 3
    have g0 := (HT.box 0).f 0
    have g1 := (HT.box 0).f 1
    have g2 := (HT.box 0).f 2
    have g3 := (HT.box 0).f 3
    go_wp2_with fail
    exact bodyPost_ret (v := .tuple #[tkv (1, s.extract k q, v, (k : Int)), .int .i64 (q : Nat), .bool false]) (by simp [results, Tryz.results23, go_sem, r0, r1, r2, r3]) rfl ⟨(((((HT.below).setCell (p := ⟨w.heap.size, 0, none⟩) (Nat.le_refl _) _).setCell (p := ⟨w.heap.size, 1, none⟩) (Nat.le_refl _) _).setCell (p := ⟨w.heap.size, 2, none⟩) (Nat.le_refl _) _).setCell (p := ⟨w.heap.size, 3, none⟩) (Nat.le_refl _) _), by rw [HS.out]; exact ⟨_, q, rfl⟩⟩
  | some x =>
    obtain ⟨m, v⟩ := x
    rw [hn] at he HS
    obtain rfl := he
    obtain ⟨hm1, hm2⟩ := num_bd hk HDD.out hn
    have hsz : (s.extract k (k + m)).size = m := by rw [ext_size s hm2]; omega
    obtain ⟨q, hq⟩ : ∃ q, q = k + m := ⟨_, rfl⟩
    rw [← hq] at hsz hm2 ⊢
    have HQ := Lib.hid hq
    have HSZ := Lib.hid hsz
    have hkq : k ≤ q := by omega
    clear hq hsz hn hm1
    have r0 := (HT.box 0).c 0
    have r1 := (HT.box 0).c 1
    have r2 := (HT.box 0).c 2
    have r3 := (HT.box 0).c 3
    have g0 := (HT.box 0).f 0
    have g1 := (HT.box 0).f 1
    have g2 := (HT.box 0).f 2
    have g3 := (HT.box 0).f 3
    go_wp2_with fail
    exact bodyPost_ret (v := .tuple #[tkv (1, s.extract k q, (v : Int), (k : Int)), .int .i64 (q : Nat), .bool true]) (by simp [results, Tryz.results23, go_sem, r0, r1, r2, r3]) rfl ⟨(((((HT.below).setCell (p := ⟨w.heap.size, 0, none⟩) (Nat.le_refl _) _).setCell (p := ⟨w.heap.size, 1, none⟩) (Nat.le_refl _) _).setCell (p := ⟨w.heap.size, 2, none⟩) (Nat.le_refl _) _).setCell (p := ⟨w.heap.size, 3, none⟩) (Nat.le_refl _) _), by rw [HS.out]; show _ = Ending.returned (.tuple #[tkv (1, s.extract k (k + m), (v : Int), (k : Int)), .int .i64 (k + (s.extract k (k + m)).size : Nat), .bool true]); rw [← HQ.out, HSZ.out, ← HQ.out]⟩

set_option maxRecDepth 100000 in
set_option maxHeartbeats 4000000 in
theorem sScanL_any (s : ByteArray) (k : Nat) (w : World) (hk : k < s.size) (hs : s.size ≤ 2000) (hd : digB s[k] = false) (hl : letB s[k] = true) :
    Calls Tryz.prog 23 #[.string s, .int .i64 k] w (ScanOut s k s[k] w) := by
  have hdc := fun W => sDig_any s[k] W
  rw [hd] at hdc
  have HD := Lib.hid hdc
  have hlc := fun W => sLet_any s[k] W
  rw [hl] at hlc
  have HL := Lib.hid hlc
  have hle := runP_le (p := namB) (s := s) (k := k) (by omega)
  have HS : Hid (scanT s k s[k] = if runP namB s k ≤ 8 then some (2, s.extract k (k + runP namB s k), 0, (k : Int)) else none) := Lib.hid (by unfold scanT; rw [if_neg (by rw [hd]; simp), if_pos hl])
  obtain ⟨n, hn⟩ : ∃ n, n = runP namB s k := ⟨_, rfl⟩
  rw [← hn] at HS hle
  have HNN := Lib.hid hn
  have HT : Held w (w.alloc (.cells #[.int .i64 0, .string ⟨#[]⟩, .int .i64 0, .int .i64 0] 38)) [(w.heap.size, [.int .i64 0, .string ⟨#[]⟩, .int .i64 0, .int .i64 0])] := by
    have h := (Held.nil w).new #[.int .i64 0, .string ⟨#[]⟩, .int .i64 0, .int .i64 0] 38
    simpa only [World.size_alloc] using h
  clear hdc hlc hd hl hn
  go_enter Tryz.func23, Tryz.ntmps23
  go_wp2_with fail
  refine (HD.out _).mono ?_
  rintro e w1 ⟨rfl, rfl⟩
  go_wp2_with fail
  refine (HL.out _).mono ?_
  rintro e w1 ⟨rfl, rfl⟩
  obtain ⟨W, hW⟩ : ∃ W, W = w.alloc (.cells #[.int .i64 0, .string ⟨#[]⟩, .int .i64 0, .int .i64 0] 38) := ⟨_, rfl⟩
  rw [← hW] at HT ⊢
  clear hW
  go_wp2_with fail
  go_loop [11] (fun i => ∃ q : Nat, k ≤ q ∧ q ≤ k + n ∧ i = .int .i64 q) (fun i => s.size - (intOf i).toNat)
  case atStart => exact ⟨k, Nat.le_refl _, by omega, rfl⟩
  case round =>
    obtain ⟨q, hq1, hq2, rfl⟩ := hrel
    go_upto_region 7 with fail
    go_cut [53] from 38 to 55 (fun y wx => W = wx ∧ ∃ c : Bool, y = .bool c ∧ (c = true → ∃ hl : q < s.size, namB s[q] = true) ∧ (c = false → q = k + n))
    case first =>
      by_cases hl : q < s.size
      · have hdc := fun W => sDig_any s[q] W
        have hlc := fun W => sLet_any s[q] W
        have hl' : (q : Int) < (s.size : Int) := by omega
        cases hl0 : letB s[q] with
        | true =>
          rw [hl0] at hlc
          have HL := Lib.hid hlc
          have HLL := Lib.hid hl0
          clear hlc hl0 hdc
          go_wp2_with (go_at_call 39; refine (HL.out _).mono ?_; rintro e w1 ⟨rfl, rfl⟩)
          go_meet
          exact ⟨rfl, true, rfl, fun _ => ⟨hl, by unfold namB; rw [HLL.out]; rfl⟩, fun e => by cases e⟩
        | false =>
          rw [hl0] at hlc
          have HL := Lib.hid hlc
          have HLL := Lib.hid hl0
          clear hlc hl0
          cases hd0 : digB s[q] with
          | true =>
            rw [hd0] at hdc
            have HD := Lib.hid hdc
            have HDD := Lib.hid hd0
            clear hdc hd0
            go_wp2_with (first | (go_at_call 39; refine (HL.out _).mono ?_; rintro e w1 ⟨rfl, rfl⟩) | (go_at_call 37; refine (HD.out _).mono ?_; rintro e w1 ⟨rfl, rfl⟩))
            go_meet
            exact ⟨rfl, true, rfl, fun _ => ⟨hl, by unfold namB; rw [HDD.out]; simp⟩, fun e => by cases e⟩
          | false =>
            rw [hd0] at hdc
            have HD := Lib.hid hdc
            have HDD := Lib.hid hd0
            clear hdc hd0
            go_wp2_with (first | (go_at_call 39; refine (HL.out _).mono ?_; rintro e w1 ⟨rfl, rfl⟩) | (go_at_call 37; refine (HD.out _).mono ?_; rintro e w1 ⟨rfl, rfl⟩))
            go_meet
            exact ⟨rfl, false, rfl, (fun e => by cases e), fun _ => by have h0 : namB s[q] = false := by (unfold namB; rw [HLL.out, HDD.out]; rfl)
                                                                       have := run_stop (p := namB) (s := s) (k := k) (q := q) hq1 (by rw [← HNN.out]; exact hq2) (by omega) (fun _ => h0); rw [← HNN.out] at this; exact this⟩
      · have hl' : ¬ (q : Int) < (s.size : Int) := by omega
        go_wp2_with fail
        go_meet
        exact ⟨rfl, false, rfl, (fun e => by cases e), fun _ => by have := run_stop (p := namB) (s := s) (k := k) (q := q) hq1 (by rw [← HNN.out]; exact hq2) (by omega) (fun h => by omega); rw [← HNN.out] at this; exact this⟩
    case rest =>
      obtain ⟨rfl, c, rfl, hc1, hc2⟩ := hcut
      cases c with
      | true =>
        obtain ⟨hl, hd⟩ := hc1 rfl
        have HGO := Lib.hid (run_go (p := namB) (s := s) (k := k) (q := q) (by rw [← HNN.out]; exact hq2) hl hd)
        clear hc1 hc2 hd
        go_wp2_with fail
        go_round
        case rel => exact ⟨q + 1, by omega, by have := HGO.out; rw [← HNN.out] at this; exact this, by go_num⟩
        case measure => simp [intOf]; omega
      | false =>
        have hqn := hc2 rfl
        have HQ := Lib.hid hqn
        clear hc1 hc2
        by_cases h8 : n ≤ 8
        · have hb8 : decide ((q : Int) - (k : Int) ≤ 8) = true := decide_eq_true (by omega)
          have hqs : q ≤ s.size := by omega
          have hsz : (s.extract k q).size = n := by rw [ext_size s hqs]; omega
          have HSZ := Lib.hid hsz
          rw [if_pos h8] at HS
          clear hqn hsz
          have r0 := (HT.box 0).c 0
          have r1 := (HT.box 0).c 1
          have r2 := (HT.box 0).c 2
          have r3 := (HT.box 0).c 3
          have g0 := (HT.box 0).f 0
          have g1 := (HT.box 0).f 1
          have g2 := (HT.box 0).f 2
          have g3 := (HT.box 0).f 3
          go_wp2_with fail
          exact bodyPost_ret (v := .tuple #[tkv (2, s.extract k q, 0, (k : Int)), .int .i64 (q : Nat), .bool true]) (by simp [results, Tryz.results23, go_sem, r0, r1, r2, r3]) rfl ⟨(((((HT.below).setCell (p := ⟨w.heap.size, 0, none⟩) (Nat.le_refl _) _).setCell (p := ⟨w.heap.size, 1, none⟩) (Nat.le_refl _) _).setCell (p := ⟨w.heap.size, 2, none⟩) (Nat.le_refl _) _).setCell (p := ⟨w.heap.size, 3, none⟩) (Nat.le_refl _) _), by rw [HS.out]; show _ = Ending.returned (.tuple #[tkv (2, s.extract k (k + n), 0, (k : Int)), .int .i64 (k + (s.extract k (k + n)).size : Nat), .bool true]); rw [← HQ.out, HSZ.out, ← HQ.out]⟩
        · have hb8 : decide ((q : Int) - (k : Int) ≤ 8) = false := decide_eq_false (by omega)
          have hqs : q ≤ s.size := by omega
          rw [if_neg h8] at HS
          clear hqn
          have r0 := (HT.box 0).c 0
          have r1 := (HT.box 0).c 1
          have r2 := (HT.box 0).c 2
          have r3 := (HT.box 0).c 3
          have g0 := (HT.box 0).f 0
          have g1 := (HT.box 0).f 1
          have g2 := (HT.box 0).f 2
          have g3 := (HT.box 0).f 3
          go_wp2_with fail
          exact bodyPost_ret (v := .tuple #[tkv (2, s.extract k q, 0, (k : Int)), .int .i64 (q : Nat), .bool false]) (by simp [results, Tryz.results23, go_sem, r0, r1, r2, r3]) rfl ⟨(((((HT.below).setCell (p := ⟨w.heap.size, 0, none⟩) (Nat.le_refl _) _).setCell (p := ⟨w.heap.size, 1, none⟩) (Nat.le_refl _) _).setCell (p := ⟨w.heap.size, 2, none⟩) (Nat.le_refl _) _).setCell (p := ⟨w.heap.size, 3, none⟩) (Nat.le_refl _) _), by rw [HS.out]; exact ⟨(2, s.extract k q, 0, (k : Int)), q, rfl⟩⟩

set_option maxRecDepth 100000 in
set_option maxHeartbeats 4000000 in
theorem sScanS_any (s : ByteArray) (k : Nat) (w : World) (hk : k < s.size) (hs : s.size ≤ 2000) (hd : digB s[k] = false) (hl : letB s[k] = false) :
    Calls Tryz.prog 23 #[.string s, .int .i64 k] w (ScanOut s k s[k] w) := by
  have hdc := fun W => sDig_any s[k] W
  rw [hd] at hdc
  have HD := Lib.hid hdc
  have hlc := fun W => sLet_any s[k] W
  rw [hl] at hlc
  have HL := Lib.hid hlc
  have HS : Hid (scanT s k s[k] = if symB s[k] = true then some (3, s.extract k (k + 1), 0, (k : Int)) else none) := Lib.hid (by unfold scanT; rw [if_neg (by rw [hd]; simp), if_neg (by rw [hl]; simp)])
  have HT : Held w (w.alloc (.cells #[.int .i64 0, .string ⟨#[]⟩, .int .i64 0, .int .i64 0] 38)) [(w.heap.size, [.int .i64 0, .string ⟨#[]⟩, .int .i64 0, .int .i64 0])] := by
    have h := (Held.nil w).new #[.int .i64 0, .string ⟨#[]⟩, .int .i64 0, .int .i64 0] 38
    simpa only [World.size_alloc] using h
  clear hdc hlc hd hl
  go_enter Tryz.func23, Tryz.ntmps23
  go_wp2_with fail
  refine (HD.out _).mono ?_
  rintro e w1 ⟨rfl, rfl⟩
  go_wp2_with fail
  refine (HL.out _).mono ?_
  rintro e w1 ⟨rfl, rfl⟩
  obtain ⟨W, hW⟩ : ∃ W, W = w.alloc (.cells #[.int .i64 0, .string ⟨#[]⟩, .int .i64 0, .int .i64 0] 38) := ⟨_, rfl⟩
  rw [← hW] at HT ⊢
  clear hW
  have hcv : (convert 78 78 (.slice (some ⟨W.heap.size, 0, none⟩) 9 9)).run Tryz.prog (W.alloc (.cells #[.int .u8 43, .int .u8 45, .int .u8 42, .int .u8 47, .int .u8 40, .int .u8 41, .int .u8 44, .int .u8 61, .int .u8 59] 5)) = .ok (.slice (some ⟨W.heap.size, 0, none⟩) 9 9) (W.alloc (.cells #[.int .u8 43, .int .u8 45, .int .u8 42, .int .u8 47, .int .u8 40, .int .u8 41, .int .u8 44, .int .u8 61, .int .u8 59] 5 (9, 10))) :=
    Lib.run_convert_bytes_const W 78 5 #[.int .u8 43, .int .u8 45, .int .u8 42, .int .u8 47, .int .u8 40, .int .u8 41, .int .u8 44, .int .u8 61, .int .u8 59] 9 9 Tryz.underlying78 Tryz.underlying5
  go_upto_region 11 with fail
  clear hcv
  have HT := HT.alloc (.cells #[.int .u8 43, .int .u8 45, .int .u8 42, .int .u8 47, .int .u8 40, .int .u8 41, .int .u8 44, .int .u8 61, .int .u8 59] 5 (9, 10))
  have hsy : ∀ i, i < 9 → (W.alloc (.cells #[.int .u8 43, .int .u8 45, .int .u8 42, .int .u8 47, .int .u8 40, .int .u8 41, .int .u8 44, .int .u8 61, .int .u8 59] 5 (9, 10))).cell? ⟨W.heap.size, i, none⟩ = some (.int .u8 (syL.getD i 0)) := fun i hi => by
    rw [World.cell?_alloc_mark]
    have : i = 0 ∨ i = 1 ∨ i = 2 ∨ i = 3 ∨ i = 4 ∨ i = 5 ∨ i = 6 ∨ i = 7 ∨ i = 8 := by omega
    rcases this with rfl | rfl | rfl | rfl | rfl | rfl | rfl | rfl | rfl <;> rfl
  have hnx : (W.alloc (.cells #[.int .u8 43, .int .u8 45, .int .u8 42, .int .u8 47, .int .u8 40, .int .u8 41, .int .u8 44, .int .u8 61, .int .u8 59] 5 (9, 10))).heap.size = W.heap.size + 1 := by simp
  obtain ⟨g, hg⟩ : ∃ g, g = W.heap.size := ⟨_, rfl⟩
  obtain ⟨W2, hW2⟩ : ∃ W2, W2 = W.alloc (.cells #[.int .u8 43, .int .u8 45, .int .u8 42, .int .u8 47, .int .u8 40, .int .u8 41, .int .u8 44, .int .u8 61, .int .u8 59] 5 (9, 10)) := ⟨_, rfl⟩
  rw [← hg] at hsy hnx ⊢
  rw [← hW2] at HT hsy hnx ⊢
  have HSY := Lib.hid hsy
  clear hW2 hg hsy hnx
  go_loop [70] (fun i => ∃ q : Nat, q ≤ 9 ∧ i = .int .i64 q ∧ ∀ j, j < q → syL.getD j 0 ≠ ((s[k]).toNat : Int)) (fun i => 9 - (intOf i).toNat)
  case atStart => exact ⟨0, Nat.zero_le _, rfl, fun j h => by omega⟩
  case round =>
    obtain ⟨q, hq, rfl, hno⟩ := hrel
    have HNO := Lib.hid hno
    clear hno
    by_cases h9 : q < 9
    · have hc := HSY.out q h9
      obtain ⟨y, hy⟩ : ∃ y, y = syL.getD q 0 := ⟨_, rfl⟩
      rw [← hy] at hc
      have HY := Lib.hid hy
      have h9' : (q : Int) < 9 := by omega
      clear hy
      by_cases he : y = ((s[k]).toNat : Int)
      · have hb : (y == ((s[k]).toNat : Int)) = true := by simp [he]
        have hsym : symB s[k] = true := sy_yes h9 (by rw [← HY.out]; exact he)
        rw [if_pos hsym] at HS
        have hsz : (s.extract k (k + 1)).size = 1 := by rw [ext_size s (by omega)]; omega
        have HSZ := Lib.hid hsz
        clear he hsym hsz
        have r0 := (HT.box 0).c 0
        have r1 := (HT.box 0).c 1
        have r2 := (HT.box 0).c 2
        have r3 := (HT.box 0).c 3
        have g0 := (HT.box 0).f 0
        have g1 := (HT.box 0).f 1
        have g2 := (HT.box 0).f 2
        have g3 := (HT.box 0).f 3
        go_wp2_with fail
        exact bodyPost_ret (v := .tuple #[tkv (3, s.extract k (k + 1), 0, (k : Int)), .int .i64 ((k + 1 : Nat) : Int), .bool true]) (by simp [results, Tryz.results23, go_sem, r0, r1, r2, r3]) rfl ⟨(((((HT.below).setCell (p := ⟨w.heap.size, 0, none⟩) (Nat.le_refl _) _).setCell (p := ⟨w.heap.size, 1, none⟩) (Nat.le_refl _) _).setCell (p := ⟨w.heap.size, 2, none⟩) (Nat.le_refl _) _).setCell (p := ⟨w.heap.size, 3, none⟩) (Nat.le_refl _) _), by rw [HS.out]; show _ = Ending.returned (.tuple #[tkv (3, s.extract k (k + 1), 0, (k : Int)), .int .i64 (k + (s.extract k (k + 1)).size : Nat), .bool true]); rw [HSZ.out]⟩
      · have hb : (y == ((s[k]).toNat : Int)) = false := by simp [he]
        have HE := Lib.hid he
        clear he
        go_wp2_with fail
        go_round
        case rel => exact ⟨q + 1, by omega, by go_num, fun j hj => by
          rcases Nat.lt_or_ge j q with h | h
          · exact HNO.out j h
          · obtain rfl : j = q := by omega
            rw [← HY.out]; exact HE.out⟩
        case measure => simp [intOf]; omega
    · have h9' : ¬ (q : Int) < 9 := by omega
      have hsym : symB s[k] = false := sy_no (fun j hj => HNO.out j (by omega))
      rw [if_neg (by rw [hsym]; simp)] at HS
      clear hsym
      have r0 := (HT.box 0).c 0
      have r1 := (HT.box 0).c 1
      have r2 := (HT.box 0).c 2
      have r3 := (HT.box 0).c 3
      have g0 := (HT.box 0).f 0
      have g1 := (HT.box 0).f 1
      have g2 := (HT.box 0).f 2
      have g3 := (HT.box 0).f 3
      go_wp2_with fail
      exact bodyPost_ret (v := .tuple #[tkv (0, ⟨#[]⟩, 0, 0), .int .i64 (k : Nat), .bool false]) (by simp [results, Tryz.results23, go_sem, r0, r1, r2, r3]) rfl ⟨(((((HT.below).setCell (p := ⟨w.heap.size, 0, none⟩) (Nat.le_refl _) _).setCell (p := ⟨w.heap.size, 1, none⟩) (Nat.le_refl _) _).setCell (p := ⟨w.heap.size, 2, none⟩) (Nat.le_refl _) _).setCell (p := ⟨w.heap.size, 3, none⟩) (Nat.le_refl _) _), by rw [HS.out]; exact ⟨(0, ⟨#[]⟩, 0, 0), k, rfl⟩⟩
theorem sScan_any (s : ByteArray) (k : Nat) (w : World) (hk : k < s.size) (hs : s.size ≤ 2000) :
    Calls Tryz.prog 23 #[.string s, .int .i64 k] w (ScanOut s k s[k] w) := by
  cases hd : digB s[k] with
  | true => exact sScanD_any s k w hk hs hd
  | false =>
    cases hl : letB s[k] with
    | true => exact sScanL_any s k w hk hs hd hl
    | false => exact sScanS_any s k w hk hs hd hl
end Go.Proofs.YtkbdnjhgcoihhaaGreatDoor
