/- The program's parser, its small parts. -/
import Derived.Test.YtkbdnjhgcoihhaaGreatDoorProg
import Derived.Test.YtkbdnjhgcoihhaaGreatDoorInts
import Derived.Test.YtkbdnjhgcoihhaaGreatDoorVbox
import Derived.Test.YtkbdnjhgcoihhaaGreatDoorHeld
import Derived.Test.YtkbdnjhgcoihhaaGreatDoorMem
import Derived.Test.YtkbdnjhgcoihhaaGreatDoorFlat
import Derived.Test.YtkbdnjhgcoihhaaGreatDoorRowC
import Derived.Test.YtkbdnjhgcoihhaaGreatDoorKS
import Derived.Test.YtkbdnjhgcoihhaaGreatDoorStrS
import Derived.Test.YtkbdnjhgcoihhaaGreatDoorIntS
import Derived.Test.YtkbdnjhgcoihhaaGreatDoorSS
import Derived.Test.YtkbdnjhgcoihhaaGreatDoorTok
import Derived.Test.YtkbdnjhgcoihhaaGreatDoorPg
import Derived.Test.YtkbdnjhgcoihhaaGreatDoorPh
import Derived.Test.YtkbdnjhgcoihhaaGreatDoorPk
import Derived.Test.YtkbdnjhgcoihhaaGreatDoorPl
import Derived.Test.YtkbdnjhgcoihhaaGreatDoorPp
import Derived.Test.YtkbdnjhgcoihhaaGreatDoorPq
import Derived.Test.YtkbdnjhgcoihhaaGreatDoorTp
import Derived.Test.YtkbdnjhgcoihhaaGreatDoorShelf
import Derived.WalkKit
import Derived.WalkSpells
import Derived.WalkLawsBesides
import Derived.Lib.Hide
import Derived.Deep.RegionHeld3
import Derived.Deep.QuietTactic
import Derived.BigQuiet
import Derived.Handy
import Derived.Deep.DeepCutAuto
import Derived.Lib.Bytealg
import Derived.Lib.IndexLaws
namespace Go.Proofs.YtkbdnjhgcoihhaaGreatDoor
open Go.RowKit

theorem idx_in (l : List UInt8) (c : UInt8) : decide (0 ≤ Lib.indexByte l c) = l.contains c := by
  induction l with
  | nil => rfl
  | cons b l ih =>
    have hge := Lib.indexByte_ge l c
    rw [List.contains_cons]
    unfold Lib.indexByte
    by_cases h : b = c
    · subst h
      simp
    · have h1 : (b == c) = false := by simpa using h
      have h2 : (c == b) = false := by simpa using fun e => h e.symm
      rw [h1, h2, Bool.false_or, ← ih]
      by_cases hm : Lib.indexByte l c = -1
      · simp [hm]
      · have hm2 : (Lib.indexByte l c == -1) = false := by simpa using hm
        simp only [hm2]
        by_cases h0 : 0 ≤ Lib.indexByte l c
        · simp [h0]
          omega
        · omega
/-- a token as the lexer makes it -/
def TkForm (t : Tk) : Prop := (t.1 = 0 ∧ t.2.1 = ⟨#[]⟩) ∨ (t.1 = 1 ∧ ∃ (b : UInt8) (l : List UInt8), t.2.1.data.toList = b :: l ∧ symB b = false) ∨ (t.1 = 2 ∧ ∃ (b : UInt8) (l : List UInt8), t.2.1.data.toList = b :: l ∧ symB b = false) ∨ (t.1 = 3 ∧ ∃ b, t.2.1 = ⟨#[b]⟩ ∧ symB b = true)
theorem ba_mk (s : ByteArray) : s = ⟨s.data.toList.toArray⟩ := by
  apply ByteArray.ext
  simp
/-- what is asked of the next symbol: whether it is one of these -/
def seeB (l : List UInt8) (ts : List Tk) (a : Nat) : Bool := l.any fun c => decide (symA ts a = ⟨#[c]⟩)
theorem see_not {l : List UInt8} {ts : List Tk} {a : Nat} (h : (tkA ts a).1 ≠ 3) : seeB l ts a = false := by
  unfold seeB symA
  rw [if_neg h]
  rw [List.any_eq_false]
  intro c _
  simp
theorem see_sym {l : List UInt8} {ts : List Tk} {a : Nat} {b : UInt8} (h : (tkA ts a).1 = 3) (hb : (tkA ts a).2.1 = ⟨#[b]⟩) : seeB l ts a = l.contains b := by
  unfold seeB symA
  rw [if_pos h, hb]
  induction l with
  | nil => rfl
  | cons c l ih =>
    rw [List.any_cons, ih, List.contains_cons]
    congr 1
    by_cases e : b = c
    · subst e
      simp
    · have : (b == c) = false := by simpa using e
      rw [this]
      simp
      exact e
theorem see_one {c : UInt8} {ts : List Tk} {a : Nat} : seeB [c] ts a = decide (symA ts a = ⟨#[c]⟩) := by simp [seeB]
theorem see_two {c d : UInt8} {ts : List Tk} {a : Nat} : seeB [c, d] ts a = (decide (symA ts a = ⟨#[c]⟩) || decide (symA ts a = ⟨#[d]⟩)) := by simp [seeB]
theorem op_see (add : Bool) (ts : List Tk) (a : Nat) : opP add (symA ts a) = 0 ↔ seeB (if add = true then [43, 45] else [42, 47]) ts a = false := by
  cases add with
  | true =>
    rw [if_pos rfl, see_two]
    unfold opP
    rw [if_pos rfl]
    by_cases h1 : symA ts a = ⟨#[43]⟩
    · simp [h1]
    · by_cases h2 : symA ts a = ⟨#[45]⟩
      · simp [h2]
      · simp [h1, h2]
  | false =>
    rw [if_neg (by simp), see_two]
    unfold opP
    rw [if_neg (by simp)]
    by_cases h1 : symA ts a = ⟨#[42]⟩
    · simp [h1]
    · by_cases h2 : symA ts a = ⟨#[47]⟩
      · simp [h2]
      · simp [h1, h2]
theorem op_index {add : Bool} {ts : List Tk} {a : Nat} (h : opP add (symA ts a) ≠ 0) : ∃ b : UInt8, (tkA ts a).2.1 = ⟨#[b]⟩ ∧ opP add (symA ts a) = 4 + Lib.indexByte [43, 45, 42, 47] b := by
  have hk : (tkA ts a).1 = 3 := by
    by_cases hk : (tkA ts a).1 = 3
    · exact hk
    · exact absurd ((op_see add ts a).2 (see_not hk)) h
  have hs : symA ts a = (tkA ts a).2.1 := by unfold symA; rw [if_pos hk]
  rw [hs] at h ⊢
  cases add with
  | true =>
    unfold opP at h ⊢
    rw [if_pos rfl] at h ⊢
    by_cases h1 : (tkA ts a).2.1 = ⟨#[43]⟩
    · exact ⟨43, h1, by rw [if_pos h1]; rfl⟩
    · by_cases h2 : (tkA ts a).2.1 = ⟨#[45]⟩
      · exact ⟨45, h2, by rw [if_neg h1, if_pos h2]; rfl⟩
      · rw [if_neg h1, if_neg h2] at h
        exact absurd rfl h
  | false =>
    unfold opP at h ⊢
    rw [if_neg (by simp)] at h ⊢
    by_cases h1 : (tkA ts a).2.1 = ⟨#[42]⟩
    · exact ⟨42, h1, by rw [if_pos h1]; rfl⟩
    · by_cases h2 : (tkA ts a).2.1 = ⟨#[47]⟩
      · exact ⟨47, h2, by rw [if_neg h1, if_pos h2]; rfl⟩
      · rw [if_neg h1, if_neg h2] at h
        exact absurd rfl h

/-- how a part of the parser stops: a panic with the offset -/
def panicV (o : Int) : List PanicEntry := [{ v := .iface 45 (.agg #[.int .i64 o]), recovered := false }]
theorem Turn.thenB {T : Nat → Prop} {w w1 w2 : World} (h : Turn T w w1) (hb : Below w.heap.size w1 w2) : Turn T w w2 :=
  ⟨hb.os.trans h.1, hb.tape.trans h.2.1, hb.output.trans h.2.2.1, Nat.le_trans h.size hb.size, fun k hk hn => (hb.block k hk).trans (h.block hk hn)⟩

set_option maxHeartbeats 4000000 in
theorem peek_any (S c a : Nat) (A : Option Addr) (ts : List Tk) (x2 x3 : Value) (w : World) (hM : Mbox w S [.slice A ts.length c, .int .i64 a, x2, x3]) (hR : RowC 4 tkg w w.heap.size A ts) (ha : a < ts.length) (hS : S < w.heap.size) :
    Calls Tryz.prog 15 #[.pointer (some ⟨S, 0, none⟩)] w fun e w' => e = .returned (tkv (tkA ts a)) ∧ Below w.heap.size w w' := by
  obtain ⟨b, o, rfl, hbl, hc⟩ := hR.at ha
  obtain ⟨t0, t1, t2, t3⟩ := tkg_at hc
  have htk := tkA_at ha
  obtain ⟨v, hv⟩ : ∃ v, v = ts[a] := ⟨_, rfl⟩
  rw [← hv] at t0 t1 t2 t3 htk
  obtain ⟨v0, v1, v2, v3⟩ := v
  dsimp only at t0 t1 t2 t3
  have HT : Held w (w.alloc (.cells #[.int .i64 0, .string ⟨#[]⟩, .int .i64 0, .int .i64 0] 38)) [(S, [.slice (some ⟨b, o, none⟩) ts.length c, .int .i64 a, x2, x3])] := ((Held.nil w).cons hM).later (show Below w.heap.size w (w.alloc (.cells #[.int .i64 0, .string ⟨#[]⟩, .int .i64 0, .int .i64 0] 38)) by go_grown)
  have MV := Mbox.new w #[.int .i64 0, .string ⟨#[]⟩, .int .i64 0, .int .i64 0] 38
  have HC : ∀ W', Held w W' [(S, [.slice (some ⟨b, o, none⟩) ts.length c, .int .i64 a, x2, x3])] → W'.cell? ⟨S, 0, none⟩ = some (.slice (some ⟨b, o, none⟩) ts.length c) ∧ W'.cell? ⟨S, 1, none⟩ = some (.int .i64 a) ∧ W'.cell? ⟨b, o + a * 4, none⟩ = some (.int .i64 v0) ∧ W'.cell? ⟨b, o + a * 4 + 1, none⟩ = some (.string v1) ∧ W'.cell? ⟨b, o + a * 4 + 2, none⟩ = some (.int .i64 v2) ∧ W'.cell? ⟨b, o + a * 4 + 3, none⟩ = some (.int .i64 v3) := fun W' h =>
    ⟨(h.box 0).c 0, (h.box 0).c 1, (h.below.cell (p := ⟨b, o + a * 4, none⟩) hbl).trans t0, (h.below.cell (p := ⟨b, o + a * 4 + 1, none⟩) hbl).trans t1, (h.below.cell (p := ⟨b, o + a * 4 + 2, none⟩) hbl).trans t2, (h.below.cell (p := ⟨b, o + a * 4 + 3, none⟩) hbl).trans t3⟩
  have hlt' : (a : Int) < (ts.length : Int) := by omega
  have hge' : (0 : Int) ≤ (a : Int) := by omega
  have HTK := Lib.hid htk
  have hSn : S ≠ w.heap.size := by omega
  clear hR hc hv htk t0 t1 t2 t3 hM
  go_enter Tryz.func15, Tryz.ntmps15
  go_upto_region 1 with fail
  obtain ⟨W1, hW1⟩ : ∃ W, W = w.alloc (.cells #[.int .i64 0, .string ⟨#[]⟩, .int .i64 0, .int .i64 0] 38) := ⟨_, rfl⟩
  obtain ⟨X, hX⟩ : ∃ X, X = w.heap.size := ⟨_, rfl⟩
  have hXg : w.heap.size ≤ X := by omega
  rw [← hW1] at HT MV ⊢
  rw [← hX] at MV hSn ⊢
  have f0 := MV.f 0
  have f1 := MV.f 1
  have f2 := MV.f 2
  have f3 := MV.f 3
  have k0 := MV.c 0
  have k1 := MV.c 1
  have k2 := MV.c 2
  have k3 := MV.c 3
  clear hW1 hX
  go_cut [2] (fun s wx => s = .pointer (some ⟨X, 0, none⟩) ∧ Mbox wx X [.int .i64 v0, .string v1, .int .i64 v2, .int .i64 v3] ∧ Below w.heap.size w wx)
  case first =>
    go_region_held3 (fun W' => W'.cell? ⟨S, 0, none⟩ = some (.slice (some ⟨b, o, none⟩) ts.length c) ∧ W'.cell? ⟨S, 1, none⟩ = some (.int .i64 a) ∧ W'.cell? ⟨b, o + a * 4, none⟩ = some (.int .i64 v0) ∧ W'.cell? ⟨b, o + a * 4 + 1, none⟩ = some (.string v1) ∧ W'.cell? ⟨b, o + a * 4 + 2, none⟩ = some (.int .i64 v2) ∧ W'.cell? ⟨b, o + a * 4 + 3, none⟩ = some (.int .i64 v3))
      (first | (with_reducible exact HC _ HT) | (with_reducible exact HC _ HT.drew) | (with_reducible exact HC _ (HT.far4 hXg (by simp <;> omega) _ _ _ _)) | (with_reducible exact HC _ (HT.drew.far4 hXg (by simp <;> omega) _ _ _ _)) | (with_reducible exact HC _ (HT.far4 hXg (by simp <;> omega) _ _ _ _).drew))
      (fail)
    all_goals (go_wp2_with fail; go_meet)
    all_goals (first | exact ⟨rfl, MV.put4 _ _ _ _, (HT.far4 hXg (by simp <;> omega) _ _ _ _).below⟩ | exact ⟨rfl, MV.drew.put4 _ _ _ _, (HT.drew.far4 hXg (by simp <;> omega) _ _ _ _).below⟩ | exact ⟨rfl, (MV.put4 _ _ _ _).drew, (HT.far4 hXg (by simp <;> omega) _ _ _ _).drew.below⟩)
  case rest =>
    clear HC HT MV f0 f1 f2 f3 k0 k1 k2 k3
    obtain ⟨rfl, MV, HB⟩ := hcut
    have m0 := MV.c 0
    have m1 := MV.c 1
    have m2 := MV.c 2
    have m3 := MV.c 3
    go_wp2_with fail
    exact bodyPost_ret (v := tkv (v0, v1, v2, v3)) (by simp [results, Tryz.results15, go_sem, m0, m1, m2, m3]) rfl ⟨by rw [HTK.out], HB⟩

set_option maxHeartbeats 4000000 in
theorem read_any (S c a : Nat) (A : Option Addr) (ts : List Tk) (x2 x3 : Value) (w : World) (hM : Mbox w S [.slice A ts.length c, .int .i64 a, x2, x3]) (hR : RowC 4 tkg w w.heap.size A ts) (ha : a < ts.length) (hS : S < w.heap.size) (hl : ts.length ≤ 1099511627776) :
    Calls Tryz.prog 29 #[.pointer (some ⟨S, 0, none⟩)] w fun e w' => e = .returned (tkv (tkA ts a)) ∧ Turn (fun k => k = S) w w' ∧ Mbox w' S [.slice A ts.length c, .int .i64 ((a + 1 : Nat) : Int), x2, x3] := by
  have hB0 : Below w.heap.size w (w.alloc (.cells #[.int .i64 0, .string ⟨#[]⟩, .int .i64 0, .int .i64 0] 38)) := by go_grown
  have hM1 := hM.later hB0
  have hR1 := (hR.below hB0).more (B' := (w.alloc (.cells #[.int .i64 0, .string ⟨#[]⟩, .int .i64 0, .int .i64 0] 38)).heap.size) hB0.size
  have MV := Mbox.new w #[.int .i64 0, .string ⟨#[]⟩, .int .i64 0, .int .i64 0] 38
  obtain ⟨W1, hW1⟩ : ∃ W, W = w.alloc (.cells #[.int .i64 0, .string ⟨#[]⟩, .int .i64 0, .int .i64 0] 38) := ⟨_, rfl⟩
  have hsz1 : W1.heap.size = w.heap.size + 1 := by rw [hW1]; simp
  rw [← hW1] at hB0 hM1 hR1 MV
  have HP := Lib.hid (peek_any S c a A ts x2 x3 W1 hM1 hR1 ha (by omega))
  have HB0 := Lib.hid hB0
  have HM1 := Lib.hid hM1
  have HMV := Lib.hid MV
  have HSZ := Lib.hid hsz1
  obtain ⟨v, hv⟩ : ∃ v, v = tkA ts a := ⟨_, rfl⟩
  have HV := Lib.hid hv
  rw [← hv] at HP ⊢
  obtain ⟨v0, v1, v2, v3⟩ := v
  have e1 : ((a + 1 : Nat) : Int) = (a : Int) + 1 := by omega
  rw [e1]
  have hlb : (a : Int) < 1099511627776 := by omega
  have hge : (0 : Int) ≤ (a : Int) := by omega
  clear hv hB0 hM1 hR1 MV hM hR hsz1 e1
  go_enter Tryz.func29, Tryz.ntmps29
  go_upto_region 1 with fail
  rw [← hW1]
  clear hW1
  go_wp2_with fail
  refine HP.out.mono ?_
  rintro e w2 ⟨rfl, hb2⟩
  have M2 := HM1.out.later hb2
  have MV2 := HMV.out.later hb2
  have hb3 : Below w2.heap.size w2 (w2.alloc (.cells #[.int .i64 v0, .string v1, .int .i64 v2, .int .i64 v3] 38)) := by go_grown
  have M3 := M2.later hb3
  have MV3 := MV2.later hb3
  have MC3 := Mbox.new w2 #[.int .i64 v0, .string v1, .int .i64 v2, .int .i64 v3] 38
  have hT3 : Turn (fun k => k = S) w (w2.alloc (.cells #[.int .i64 v0, .string v1, .int .i64 v2, .int .i64 v3] 38)) := (Turn.of_later (HB0.out.trans (hb2.mono HB0.out.size))).thenB (hb3.mono (Nat.le_trans HB0.out.size hb2.size))
  have hs2 := hb2.size
  clear hb2 hb3 M2 MV2 HP
  go_upto_region 2 with fail
  obtain ⟨W3, hW3⟩ : ∃ W, W = w2.alloc (.cells #[.int .i64 v0, .string v1, .int .i64 v2, .int .i64 v3] 38) := ⟨_, rfl⟩
  obtain ⟨Y, hY⟩ : ∃ Y, Y = w2.heap.size := ⟨_, rfl⟩
  obtain ⟨X, hX⟩ : ∃ X, X = w.heap.size := ⟨_, rfl⟩
  have hXY : X < Y := by have := HSZ.out; omega
  have hSX : S < X := by omega
  rw [← hW3] at M3 MV3 MC3 hT3 ⊢
  rw [← hY] at MC3 ⊢
  rw [← hX] at MV3 ⊢
  have HT3 := Lib.hid hT3
  have HXX := Lib.hid hX
  have q1 := M3.c 1
  have g1 := M3.f 1
  have M4 := M3.put 1 (.int .i64 ((a : Int) + 1))
  have hne1 : S ≠ X := by omega
  have hne2 : S ≠ Y := by omega
  have hne3 : X ≠ Y := by omega
  have MV4 : Mbox (W3.setCell ⟨S, 1, none⟩ (.int .i64 ((a : Int) + 1))) X [.int .i64 0, .string ⟨#[]⟩, .int .i64 0, .int .i64 0] := MV3.far hne1.symm _
  have MC4 : Mbox (W3.setCell ⟨S, 1, none⟩ (.int .i64 ((a : Int) + 1))) Y [.int .i64 v0, .string v1, .int .i64 v2, .int .i64 v3] := MC3.far hne2.symm _
  have HM4 := Lib.hid M4
  clear hW3 hY hX M3 MV3 MC3 hT3 M4
  go_upto_region 3 with fail
  obtain ⟨W4, hW4⟩ : ∃ W, W = W3.setCell ⟨S, 1, none⟩ (.int .i64 ((a : Int) + 1)) := ⟨_, rfl⟩
  have HT4 := Lib.hid (HT3.out.setCell (g := S) (i := 1) rfl (.int .i64 ((a : Int) + 1)))
  rw [← hW4] at MV4 MC4 HM4 HT4 ⊢
  have p0 := MC4.c 0
  have p1 := MC4.c 1
  have p2 := MC4.c 2
  have p3 := MC4.c 3
  have z0 := MV4.c 0
  have z1 := MV4.c 1
  have z2 := MV4.c 2
  have z3 := MV4.c 3
  have y0 := MV4.f 0
  have y1 := MV4.f 1
  have y2 := MV4.f 2
  have y3 := MV4.f 3
  have HMV4 := Lib.hid MV4
  clear hW4 MV4 MC4 q1 g1
  go_wp2_with fail
  have hmv := HMV4.out.put4 (.int .i64 v0) (.string v1) (.int .i64 v2) (.int .i64 v3)
  have r0 := hmv.c 0
  have r1 := hmv.c 1
  have r2 := hmv.c 2
  have r3 := hmv.c 3
  have hXg : w.heap.size ≤ X := by rw [HXX.out]; exact Nat.le_refl _
  have HT4o := HT4.out
  exact bodyPost_ret (v := tkv (v0, v1, v2, v3)) (by simp [results, Tryz.results29, go_sem, r0, r1, r2, r3]) rfl ⟨rfl, HT4o.thenB (((((Below.refl _ _).setCell (p := ⟨X, 0, none⟩) hXg _).setCell (p := ⟨X, 1, none⟩) hXg _).setCell (p := ⟨X, 2, none⟩) hXg _).setCell (p := ⟨X, 3, none⟩) hXg _), (((HM4.out.far hne1 _).far hne1 _).far hne1 _).far hne1 _⟩
end Go.Proofs.YtkbdnjhgcoihhaaGreatDoor
