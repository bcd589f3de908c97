/- Contracts of TokenTexts and JoinTokens, in the program and in its model. -/
import Derived.Test.YtkkjkbloappdhaaProg
import Derived.Test.YtkkjkbloappdhaaInts
import Derived.Test.YtkkjkbloappdhaaVbox
import Derived.Test.YtkkjkbloappdhaaHeld
import Derived.Test.YtkkjkbloappdhaaMem
import Derived.Test.YtkkjkbloappdhaaFlat
import Derived.Test.YtkkjkbloappdhaaRowC
import Derived.Test.YtkkjkbloappdhaaKS
import Derived.Test.YtkkjkbloappdhaaStrS
import Derived.Test.YtkkjkbloappdhaaTok
import Derived.Test.YtkkjkbloappdhaaShelf
import Derived.Test.YtkkjkbloappdhaaBuilder
import Derived.WalkKit
import Derived.WalkSpells
import Derived.WalkLawsBesides
import Derived.Lib.Hide
import Derived.Deep.RegionHeld3
import Derived.Deep.QuietTactic
import Derived.BigQuiet
import Derived.Handy
import Derived.Deep.DeepCutAuto
namespace Go.Proofs.Ytkkjkbloappdhaa
open Go.RowKit

/-- the texts of the tokens that are no end tokens -/
def txs (xs : List Tk) : List ByteArray := (xs.filter (fun v => !(v.1 == 0))).map (·.2.1)
theorem txs_yes (xs : List Tk) (k : Nat) (h : k < xs.length) (h0 : (!((xs[k]).1 == 0)) = true) : txs (xs.take (k + 1)) = txs (xs.take k) ++ [(xs[k]).2.1] := by
  unfold txs
  rw [List.take_succ_eq_append_getElem h, List.filter_append, List.map_append]
  congr 1
  simp [h0]
theorem txs_no (xs : List Tk) (k : Nat) (h : k < xs.length) (h0 : (!((xs[k]).1 == 0)) = false) : txs (xs.take (k + 1)) = txs (xs.take k) := by
  unfold txs
  rw [List.take_succ_eq_append_getElem h, List.filter_append, List.map_append]
  simp [h0]
theorem txs_len (xs : List Tk) : (txs xs).length ≤ xs.length := by
  unfold txs
  rw [List.length_map]
  exact List.length_filter_le _ _
theorem txs_len_take (xs : List Tk) (k : Nat) (h : k ≤ xs.length) : (txs (xs.take k)).length ≤ k := by
  have := txs_len (xs.take k)
  simp at this
  omega
theorem sizeN_cons (x : ByteArray) (xs : List ByteArray) : ∀ k, sizeN (x :: xs) (k + 1) = x.size + sizeN xs k
  | 0 => by simp [sizeN]
  | k + 1 => by
    have := sizeN_cons x xs k
    rw [sizeN, this, sizeN]
    simp
    omega
theorem txs_size (xs : List Tk) : sizeN (txs xs) (txs xs).length ≤ szT xs := by
  induction xs with
  | nil => simp [txs, sizeN]
  | cons x xs ih =>
    by_cases h : (!(x.1 == 0)) = true
    · have e : txs (x :: xs) = x.2.1 :: txs xs := by unfold txs; simp [h]
      rw [e, List.length_cons, sizeN_cons]
      show _ ≤ x.2.1.size + szT xs
      omega
    · have e : txs (x :: xs) = txs xs := by unfold txs; simp [h]
      rw [e]
      show _ ≤ x.2.1.size + szT xs
      omega
theorem infoStrT : (Try.prog.info? 9).map (fun i => (i.zero, i.size, i.bytes)) = some (some (.string ⟨#[]⟩), 1, 16) := by kernel_rfl
/-- what a call that makes strings leaves: a slice of the call's own -/
def StrsOutT (xs : List ByteArray) (w : World) (e : Ending) (w' : World) : Prop :=
  ∃ (A : Option Addr) (c : Nat), e = .returned (.slice A xs.length c) ∧ w'.ownsRow w.heap.size 9 1 (.slice A xs.length c) xs.length (xs.map Str) ∧ Below w.heap.size w w'
theorem ret_sliceT {A : Option Addr} {n m c : Nat} (h : n = m) : Ending.returned (.slice A n c) = .returned (.slice A m c) := by rw [h]

theorem strClone_any (s : ByteArray) (w : World) (hs : s.size ≤ 281474976710656) :
    Calls Try.prog 18 #[.string s] w fun e w' => e = .returned (.string s) ∧ Below w.heap.size w w' := by
  go_enter Try.func18, Try.ntmps18
  go_wp2_with fail
  refine (Try.stringslite_Clone _ _ hs).mono ?_
  rintro e w' ⟨rfl, hb⟩
  go_wp2_with fail
  go_ret
  exact ⟨rfl, hb⟩

set_option maxHeartbeats 4000000 in
theorem tokTexts_any (A : Option Addr) (c : Nat) (xs : List Tk) (w : World) (hR : RowC 4 tkg w w.heap.size A xs) (hm2 : ∀ x ∈ xs, x.2.1.size ≤ 281474976710656) (hl : xs.length ≤ 1099511627776) :
    Calls Try.prog 8 #[.slice A xs.length c] w (StrsOutT (txs xs) w) := by
  go_enter Try.func8, Try.ntmps8
  go_wp2
  
  go_loopw [3, 8] (fun v i wr => ∃ k : Nat, k ≤ xs.length ∧ i = .int .i64 k ∧ wr.ownsRow w.heap.size 9 1 v (txs (xs.take k)).length ((txs (xs.take k)).map Str) ∧ Below w.heap.size w wr) (fun _ i _ => xs.length - (intOf i).toNat)
  case atStart => exact ⟨0, Nat.zero_le _, rfl, World.ownsRow_nil _ _ _ _, Below.refl _ _⟩
  case round =>
    obtain ⟨k, hk, rfl, hown, hb⟩ := hrel
    by_cases hlt : k < xs.length
    · obtain ⟨b, o, rfl, hbl, hc⟩ := hR.at hlt
      obtain ⟨c0, c1, c2, c3⟩ := tkg_at hc
      have c0 := (hb.cell (p := ⟨b, o + k * 4, none⟩) hbl).trans c0
      have c1 := (hb.cell (p := ⟨b, o + k * 4 + 1, none⟩) hbl).trans c1
      have c2 := (hb.cell (p := ⟨b, o + k * 4 + 2, none⟩) hbl).trans c2
      have c3 := (hb.cell (p := ⟨b, o + k * 4 + 3, none⟩) hbl).trans c3
      have hyes := txs_yes xs k hlt
      have hno := txs_no xs k hlt
      have hle := txs_len_take xs k hk
      have hsx := hm2 xs[k] (List.getElem_mem _)
      obtain ⟨v, hv⟩ : ∃ v, v = xs[k] := ⟨_, rfl⟩
      rw [← hv] at c0 c1 c2 c3 hyes hno hsx
      obtain ⟨ps, hps⟩ : ∃ ps, ps = txs (xs.take k) := ⟨_, rfl⟩
      rw [← hps] at hown hyes hno hle
      have hcl := fun W : World => strClone_any v.2.1 W hsx
      obtain ⟨v0, v1, v2, v3⟩ := v
      have HCL := Lib.hid hcl
      have HO := Lib.hid hown
      have HB := Lib.hid hb
      have HYES := Lib.hid hyes
      have HNO := Lib.hid hno
      have hlt' : (k : Int) < (xs.length : Int) := by omega
      have hge' : (0 : Int) ≤ (k : Int) := by omega
      clear hown hb hyes hno hps hR hc hm2 hv hsx hcl
      go_upto_region 5 with fail
      obtain ⟨W1, hW1⟩ : ∃ W, W = wr.alloc (.cells #[.int .i64 v0, .string v1, .int .i64 v2, .int .i64 v3] 37) := ⟨_, rfl⟩
      have M := Mbox.new wr #[.int .i64 v0, .string v1, .int .i64 v2, .int .i64 v3] 37
      have HO1 := Lib.hid (HO.out.alloc (.cells #[.int .i64 v0, .string v1, .int .i64 v2, .int .i64 v3] 37))
      have HB1 := Lib.hid (HB.out.alloc HB.out.size (.cells #[.int .i64 v0, .string v1, .int .i64 v2, .int .i64 v3] 37))
      rw [← hW1] at M HO1 HB1 ⊢
      have m0 := M.c 0
      have m1 := M.c 1
      clear hW1 M c0 c1 c2 c3
      have hs1 : w.heap.size ≤ W1.heap.size := HB1.out.size
      by_cases h0 : (v0 == 0) = true
      · have hne : (v0 != 0) = false := by simpa using h0
        have hst := Lib.hid (HNO.out (by simpa using h0))
        go_wp2_with fail
        go_roundw
        case rel => exact ⟨k + 1, by omega, by go_num, by rw [hst.out]; exact HO1.out, HB1.out⟩
        case measure => simp [intOf]; omega
      · have hne : (v0 != 0) = true := by simpa using h0
        have hst := Lib.hid (HYES.out (by simpa using h0))
        go_wp2_with fail
        refine (HCL.out _).mono ?_
        rintro e w2 ⟨rfl, hb2⟩
        have HO2 := Lib.hid (own_keep' HO1.out hb2)
        have HB2 := Lib.hid (HB1.out.trans (hb2.mono HB1.out.size))
        have hs2 : w.heap.size ≤ w2.heap.size := HB2.out.size
        clear hb2
        go_wp2_with (at_builtin; refine wpList_app1 w2 rfl _ _ 24 rfl w.heap.size 9 (.string ⟨#[]⟩) 16 Try.underlying24 infoStrT rfl _ _ _ (by rfl) HO2.out _ (by rfl) (by rfl) (by unfold maxLen; omega) (by omega) hs2 ?_)
        intro v' w4 ho4 hg4
        have HO4 := Lib.hid ho4
        have HB4 := Lib.hid (HB2.out.grown hg4 hs2 (own_block HO2.out))
        clear ho4 hg4
        go_wp2_with fail
        go_roundw
        case rel => exact ⟨k + 1, by omega, by go_num, by rw [hst.out]; simpa using HO4.out, HB4.out⟩
        case measure => simp [intOf]; omega
    · obtain rfl : k = xs.length := by omega
      rw [List.take_length] at hown
      obtain ⟨A4, c4, rfl⟩ := own_shape hown
      have HO := Lib.hid hown
      have HB := Lib.hid hb
      clear hown hb hR hm2
      go_wp2
      go_ret
      exact ⟨A4, c4, rfl, HO.out, HB.out⟩

set_option maxHeartbeats 4000000 in
theorem sTokTexts_any (A : Option Addr) (c : Nat) (xs : List Tk) (w : World) (hR : RowC 4 tkg w w.heap.size A xs) (hm2 : ∀ x ∈ xs, x.2.1.size ≤ 281474976710656) (hl : xs.length ≤ 1099511627776) :
    Calls Try.prog 6 #[.slice A xs.length c] w (StrsOutT (txs xs) w) := by
  go_enter Try.func6, Try.ntmps6
  go_wp2
  have h0own : World.ownsRow (w.alloc (.cells #[] 9)) w.heap.size 9 1 (.slice (some ⟨w.heap.size, 0, none⟩) 0 0) 0 [] := World.ownsRow_lit w #[] 0 (Nat.le_refl _) (Nat.zero_le _) (by simp)
  go_loopw [3, 9] (fun v i wr => ∃ k : Nat, k ≤ xs.length ∧ i = .int .i64 k ∧ wr.ownsRow w.heap.size 9 1 v (txs (xs.take k)).length ((txs (xs.take k)).map Str) ∧ Below w.heap.size w wr) (fun _ i _ => xs.length - (intOf i).toNat)
  case atStart => exact ⟨0, Nat.zero_le _, rfl, h0own, (Below.refl _ _).alloc (Nat.le_refl _) _⟩
  case round =>
    obtain ⟨k, hk, rfl, hown, hb⟩ := hrel
    by_cases hlt : k < xs.length
    · obtain ⟨b, o, rfl, hbl, hc⟩ := hR.at hlt
      obtain ⟨c0, c1, c2, c3⟩ := tkg_at hc
      have c0 := (hb.cell (p := ⟨b, o + k * 4, none⟩) hbl).trans c0
      have c1 := (hb.cell (p := ⟨b, o + k * 4 + 1, none⟩) hbl).trans c1
      have c2 := (hb.cell (p := ⟨b, o + k * 4 + 2, none⟩) hbl).trans c2
      have c3 := (hb.cell (p := ⟨b, o + k * 4 + 3, none⟩) hbl).trans c3
      have hyes := txs_yes xs k hlt
      have hno := txs_no xs k hlt
      have hle := txs_len_take xs k hk
      have hsx := hm2 xs[k] (List.getElem_mem _)
      obtain ⟨v, hv⟩ : ∃ v, v = xs[k] := ⟨_, rfl⟩
      rw [← hv] at c0 c1 c2 c3 hyes hno hsx
      obtain ⟨ps, hps⟩ : ∃ ps, ps = txs (xs.take k) := ⟨_, rfl⟩
      rw [← hps] at hown hyes hno hle
      
      obtain ⟨v0, v1, v2, v3⟩ := v
      
      have HO := Lib.hid hown
      have HB := Lib.hid hb
      have HYES := Lib.hid hyes
      have HNO := Lib.hid hno
      have hlt' : (k : Int) < (xs.length : Int) := by omega
      have hge' : (0 : Int) ≤ (k : Int) := by omega
      clear hown hb hyes hno hps hR hc hm2 hv hsx 
      go_upto_region 5 with fail
      obtain ⟨W1, hW1⟩ : ∃ W, W = wr.alloc (.cells #[.int .i64 v0, .string v1, .int .i64 v2, .int .i64 v3] 37) := ⟨_, rfl⟩
      have M := Mbox.new wr #[.int .i64 v0, .string v1, .int .i64 v2, .int .i64 v3] 37
      have HO1 := Lib.hid (HO.out.alloc (.cells #[.int .i64 v0, .string v1, .int .i64 v2, .int .i64 v3] 37))
      have HB1 := Lib.hid (HB.out.alloc HB.out.size (.cells #[.int .i64 v0, .string v1, .int .i64 v2, .int .i64 v3] 37))
      rw [← hW1] at M HO1 HB1 ⊢
      have m0 := M.c 0
      have m1 := M.c 1
      clear hW1 M c0 c1 c2 c3
      have hs1 : w.heap.size ≤ W1.heap.size := HB1.out.size
      by_cases h0 : (v0 == 0) = true
      · have hne : (v0 != 0) = false := by simpa using h0
        have hst := Lib.hid (HNO.out (by simpa using h0))
        go_wp2_with fail
        go_roundw
        case rel => exact ⟨k + 1, by omega, by go_num, by rw [hst.out]; exact HO1.out, HB1.out⟩
        case measure => simp [intOf]; omega
      · have hne : (v0 != 0) = true := by simpa using h0
        have hst := Lib.hid (HYES.out (by simpa using h0))
        go_wp2_with (at_builtin; refine wpList_app1 W1 rfl _ _ 24 rfl w.heap.size 9 (.string ⟨#[]⟩) 16 Try.underlying24 infoStrT rfl _ _ _ (by rfl) HO1.out _ (by rfl) (by rfl) (by unfold maxLen; omega) (by omega) hs1 ?_)
        intro v' w4 ho4 hg4
        have HO4 := Lib.hid ho4
        have HB4 := Lib.hid (HB1.out.grown hg4 hs1 (own_block HO1.out))
        clear ho4 hg4
        go_wp2_with fail
        go_roundw
        case rel => exact ⟨k + 1, by omega, by go_num, by rw [hst.out]; simpa using HO4.out, HB4.out⟩
        case measure => simp [intOf]; omega
    · obtain rfl : k = xs.length := by omega
      rw [List.take_length] at hown
      obtain ⟨A4, c4, rfl⟩ := own_shape hown
      have HO := Lib.hid hown
      have HB := Lib.hid hb
      clear hown hb hR hm2
      go_wp2
      go_ret
      exact ⟨A4, c4, rfl, HO.out, HB.out⟩

set_option maxHeartbeats 1000000 in
theorem joinTok_any (A : Option Addr) (c : Nat) (xs : List Tk) (w : World) (hR : RowC 4 tkg w w.heap.size A xs) (hm2 : ∀ x ∈ xs, x.2.1.size ≤ 281474976710656) (hl : xs.length ≤ 1048576) (hz : szT xs ≤ 1048576) :
    Calls Try.prog 15 #[.slice A xs.length c] w fun e w' => e = .returned (.string (joinP (txs xs) ⟨#[32]⟩)) ∧ Below w.heap.size w w' := by
  have hxl := txs_len xs
  have hxz := txs_size xs
  go_enter Try.func15, Try.ntmps15
  go_wp2_with fail
  refine (tokTexts_any _ _ xs _ hR hm2 (by omega)).mono ?_
  rintro e w1 ⟨A1, c1, rfl, ho, hb1⟩
  have hR1 := Row.of_own ho
  clear ho hR hm2
  obtain ⟨ts, hts⟩ : ∃ ts, ts = txs xs := ⟨_, rfl⟩
  rw [← hts] at hR1 hxl hxz ⊢
  have hsp : (⟨#[32]⟩ : ByteArray).size ≤ 1048576 := by show (1 : Nat) ≤ 1048576; omega
  have hts0 : ts.length ≤ 1048576 := by omega
  have htz0 : sizeN ts ts.length ≤ 1099511627776 := by omega
  have HTS := Lib.hid hts
  clear hts hxl hxz hl hz
  go_wp2_with fail
  refine (join_any _ _ ts ⟨#[32]⟩ _ hR1 hts0 hsp htz0).mono ?_
  rintro e w2 ⟨rfl, hb2⟩
  go_wp2_with fail
  go_ret
  exact ⟨by rw [← HTS.out]; rfl, hb1.trans (hb2.mono hb1.size)⟩

set_option maxHeartbeats 1000000 in
theorem sJoinTok_any (A : Option Addr) (c : Nat) (xs : List Tk) (w : World) (hR : RowC 4 tkg w w.heap.size A xs) (hm2 : ∀ x ∈ xs, x.2.1.size ≤ 281474976710656) (hl : xs.length ≤ 1048576) (hz : szT xs ≤ 1048576) :
    Calls Try.prog 14 #[.slice A xs.length c] w fun e w' => e = .returned (.string (joinP (txs xs) ⟨#[32]⟩)) ∧ Below w.heap.size w w' := by
  have hxl := txs_len xs
  have hxz := txs_size xs
  go_enter Try.func14, Try.ntmps14
  go_wp2_with fail
  refine (sTokTexts_any _ _ xs _ hR hm2 (by omega)).mono ?_
  rintro e w1 ⟨A1, c1, rfl, ho, hb1⟩
  have hR1 := Row.of_own ho
  clear ho hR hm2
  obtain ⟨ts, hts⟩ : ∃ ts, ts = txs xs := ⟨_, rfl⟩
  rw [← hts] at hR1 hxl hxz ⊢
  have hsp : (⟨#[32]⟩ : ByteArray).size ≤ 1048576 := by show (1 : Nat) ≤ 1048576; omega
  have hts0 : ts.length ≤ 1048576 := by omega
  have htz0 : sizeN ts ts.length ≤ 1099511627776 := by omega
  have HTS := Lib.hid hts
  clear hts hxl hxz hl hz
  go_wp2_with fail
  refine (sJoin_any _ _ ts ⟨#[32]⟩ _ _ hR1 hts0 hsp htz0).mono ?_
  rintro e w2 ⟨rfl, rfl⟩
  go_wp2_with fail
  go_ret
  exact ⟨by rw [← HTS.out]; rfl, hb1⟩
end Go.Proofs.Ytkkjkbloappdhaa
