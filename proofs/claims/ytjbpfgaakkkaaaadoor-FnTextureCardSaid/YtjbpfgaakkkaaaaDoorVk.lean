/- What ParseTexture answers; ParseTexture of the model. -/
import Derived.Test.YtjbpfgaakkkaaaaDoorProg
import Derived.Test.YtjbpfgaakkkaaaaDoorInts
import Derived.Test.YtjbpfgaakkkaaaaDoorVbox
import Derived.Test.YtjbpfgaakkkaaaaDoorHeld
import Derived.Test.YtjbpfgaakkkaaaaDoorMem
import Derived.Test.YtjbpfgaakkkaaaaDoorFlat
import Derived.Test.YtjbpfgaakkkaaaaDoorRowC
import Derived.Test.YtjbpfgaakkkaaaaDoorKS
import Derived.Test.YtjbpfgaakkkaaaaDoorStrS
import Derived.Test.YtjbpfgaakkkaaaaDoorIntS
import Derived.Test.YtjbpfgaakkkaaaaDoorSS
import Derived.Test.YtjbpfgaakkkaaaaDoorVi
import Derived.Test.YtjbpfgaakkkaaaaDoorVa
import Derived.Test.YtjbpfgaakkkaaaaDoorVb
import Derived.Test.YtjbpfgaakkkaaaaDoorVc
import Derived.Test.YtjbpfgaakkkaaaaDoorVd
import Derived.Test.YtjbpfgaakkkaaaaDoorNumP
import Derived.Test.YtjbpfgaakkkaaaaDoorIn
import Derived.Test.YtjbpfgaakkkaaaaDoorFmt
import Derived.Test.YtjbpfgaakkkaaaaDoorBuilder
import Derived.Test.YtjbpfgaakkkaaaaDoorFmts
import Derived.Test.YtjbpfgaakkkaaaaDoorVe
import Derived.Test.YtjbpfgaakkkaaaaDoorVf
import Derived.Test.YtjbpfgaakkkaaaaDoorVh
import Derived.Test.YtjbpfgaakkkaaaaDoorVj
import Derived.Test.YtjbpfgaakkkaaaaDoorSplit
import Derived.Test.YtjbpfgaakkkaaaaDoorParse
import Derived.Test.YtjbpfgaakkkaaaaDoorParses
import Derived.Test.YtjbpfgaakkkaaaaDoorRound
import Derived.Test.YtjbpfgaakkkaaaaDoorNumsRound
import Derived.WalkKit
import Derived.WalkSpells
import Derived.WalkLawsBesides
import Derived.Lib.Hide
import Derived.Deep.RegionHeld3
import Derived.Deep.QuietTactic
import Derived.BigQuiet
import Derived.Handy
import Derived.Deep.DeepCutAuto
import Derived.OwnWalk
namespace Go.Proofs.YtjbpfgaakkkaaaaDoor
open Go.RowKit

theorem bytesX_ext {a b : ByteArray} (h : a.data.toList = b.data.toList) : a = b := ByteArray.ext (Array.ext' h)
theorem appendX_list (a b : ByteArray) : (a ++ b).data.toList = a.data.toList ++ b.data.toList := by simp
theorem fmt_nocol {x : Int} (h : InR x) : ∀ b ∈ (fmtP x).data.toList, b ≠ 58 := by
  rw [fmt_bytes h]
  intro b hb he
  subst he
  rcases itoa_cases x with ⟨_, e⟩ | ⟨_, e⟩ <;> rw [e] at hb
  · rcases List.mem_cons.1 hb with hb | hb
    · cases hb
    · have := digits_all _ _ hb; simp at this
  · have := digits_all _ _ hb; simp at this
theorem join_nocol : ∀ (l : List Int), (∀ x ∈ l, InR x) → ∀ b ∈ joinL 44 (l.map fmtP), b ≠ 58
  | [], _, b, hb => by cases hb
  | [x], hr, b, hb => fmt_nocol (hr x (by simp)) b hb
  | x :: y :: r, hr, b, hb => by
    have hb : b ∈ (fmtP x).data.toList ++ 44 :: joinL 44 ((y :: r).map fmtP) := hb
    rcases List.mem_append.1 hb with hb | hb
    · exact fmt_nocol (hr x (by simp)) b hb
    · rcases List.mem_cons.1 hb with hb | hb
      · subst hb; decide
      · exact join_nocol (y :: r) (fun z hz => hr z (by simp [hz])) b hb
theorem fmts_nocol (l : List Int) (hr : ∀ x ∈ l, InR x) : ∀ b ∈ (fmtsP l).data.toList, b ≠ 58 := by
  by_cases h0 : l = []
  · subst h0
    have e : fmtsP [] = ⟨#[45]⟩ := by unfold fmtsP; rw [if_pos rfl]
    rw [e]; decide
  · have e : fmtsP l = joinP (l.map fmtP) (oneB 44) := by
      unfold fmtsP
      rw [if_neg h0, if_pos hr]; rfl
    rw [e, joinP_list 44 _ (by simpa using h0)]
    exact join_nocol l hr
theorem okX_inR {L : Int} {ts : List Int} (h : okX L ts = true) : InR L ∧ ∀ x ∈ ts, InR x := by
  have h1 : okTx L ts := of_decide_eq_true h
  exact ⟨by unfold InR; have := h1.1; omega, fun x hx => by have := h1.2.2 x hx; unfold InR; omega⟩
/-- a texture's text splits into its two parts -/
theorem split_of_tx {L : Int} {ts : List Int} (h : okX L ts = true) : splitP (fmtTx L ts) colonT = [fmtP L, fmtsP ts] := by
  obtain ⟨r1, r2⟩ := okX_inR h
  have n1 := fmt_nocol r1
  have n2 := fmts_nocol ts r2
  unfold fmtTx
  rw [if_pos h]
  generalize fmtP L = f at n1 ⊢
  generalize fmtsP ts = g at n2 ⊢
  have hj : joinP [f, g] (oneB 58) = (f ++ colonT) ++ g := by
    apply bytesX_ext
    rw [joinP_list 58 _ (by simp), appendX_list, appendX_list, show colonT.data.toList = [58] from rfl]
    simp [joinL]
  have := split_of_join 58 [f, g] (by simp) (by
    intro p hp b hb
    simp only [List.mem_cons, List.not_mem_nil, or_false] at hp
    rcases hp with rfl | rfl
    · exact n1 b hb
    · exact n2 b hb)
  rw [hj] at this
  exact this
theorem fmtTx_inj {L M : Int} {ts us : List Int} (h : okX L ts = true) (h' : okX M us = true) (e : fmtTx L ts = fmtTx M us) : L = M ∧ ts = us := by
  have h1 := split_of_tx h
  rw [e, split_of_tx h'] at h1
  injection h1 with e1 e2
  injection e2 with e2 _
  obtain ⟨r1, r2⟩ := okX_inR h
  obtain ⟨q1, q2⟩ := okX_inR h'
  exact ⟨num_inj (num_of_fmt r1) (by rw [← e1]; exact num_of_fmt q1), nums_inj (nums_fmts ts r2) (by rw [← e2]; exact nums_fmts us q2)⟩
theorem fmtTx_ne {L : Int} {ts : List Int} (h : okX L ts = true) : fmtTx L ts ≠ ⟨#[]⟩ := fun e => by
  unfold fmtTx at e
  rw [if_pos h] at e
  have := congrArg ByteArray.size e
  rw [ByteArray.size_append, ByteArray.size_append] at this
  have h1 : colonT.size = 1 := rfl
  have h2 : (⟨#[]⟩ : ByteArray).size = 0 := rfl
  omega
/-- what ParseTexture answers -/
def TxRes (s : ByteArray) (w : World) (e : Ending) (w' : World) : Prop :=
  ∃ (b : Bool) (L : Int) (ts : List Int) (A : Option Addr) (c : Nat), e = .returned (.tuple #[txv L A ts.length c, .bool b]) ∧ w'.ownsRow w.heap.size 3 1 (.slice A ts.length c) ts.length (ts.map I64) ∧ (b = true → okX L ts = true ∧ fmtTx L ts = s) ∧ (b = false → L = 0 ∧ ts = [] ∧ ∀ M us, okX M us = true → fmtTx M us ≠ s) ∧ Below w.heap.size w w'
theorem txRes_out (s : ByteArray) : ∃ (LL : Int) (yy : List Int) (ff : Bool), yy.length ≤ 1048576 ∧ ∀ w e w', TxRes s w e w' → TxOut LL yy ff w e w' := by
  by_cases h : ∃ L ts, okX L ts = true ∧ fmtTx L ts = s
  · obtain ⟨L, ts, h1, h2⟩ := h
    refine ⟨L, ts, true, by have := okX_len2 h1; omega, fun w e w' h => ?_⟩
    obtain ⟨b, M, us, A, c, rfl, ho, ht, hf, hb⟩ := h
    cases b
    · exact absurd h2 ((hf rfl).2.2 L ts h1)
    · obtain ⟨h3, h4⟩ := ht rfl
      obtain ⟨rfl, rfl⟩ := fmtTx_inj h1 h3 (h2.trans h4.symm)
      exact ⟨A, c, rfl, ho, hb⟩
  · refine ⟨0, [], false, by simp, fun w e w' hr => ?_⟩
    obtain ⟨b, M, us, A, c, rfl, ho, ht, hf, hb⟩ := hr
    cases b
    · obtain ⟨rfl, rfl, _⟩ := hf rfl
      exact ⟨A, c, rfl, ho, hb⟩
    · exact absurd ⟨M, us, ht rfl⟩ h
theorem Held.laterX {w W W' : World} {bs : List (Nat × List Value)} {B : Nat} (h : Held w W bs) (hb : Below B W W') (hB : w.heap.size ≤ B) (hk : ∀ p ∈ bs, p.1 < B) : Held w W' bs :=
  ⟨h.1.trans (hb.mono hB), fun i k vs e => (h.2 i k vs e).keep fun _ => hb.block k (hk (k, vs) (List.mem_of_getElem? e))⟩

set_option maxRecDepth 100000 in
set_option maxHeartbeats 8000000 in
theorem sParseTx_any (s : ByteArray) (w : World) (hs : s.size ≤ 1048576) :
    Calls Tryd.prog 17 #[.string s] w (TxRes s w) := by
  have HT : Held w (w.alloc (.cells #[.int .i64 0, .slice none 0 0] 25)) [(w.heap.size, [.int .i64 0, .slice none 0 0])] := by
    have h := (Held.nil w).new #[.int .i64 0, .slice none 0 0] 25
    simpa only [World.size_alloc] using h
  have hsp := sSplitAny_any s colonT (w.alloc (.cells #[.int .i64 0, .slice none 0 0] 25)) hs (by decide)
  have hpl := parts_len s colonT
  have hps := parts_size s colonT
  have hne : 1 ≤ (splitP s colonT).length := by unfold splitP; simp
  have hkey : ∀ M us, okX M us = true → fmtTx M us = s → splitP s colonT = [fmtP M, fmtsP us] := fun M us h e => by rw [← e]; exact split_of_tx h
  unfold colonT at hsp hpl hps hne hkey
  obtain ⟨ps, hpe⟩ : ∃ ps, ps = splitP s ⟨#[58]⟩ := ⟨_, rfl⟩
  rw [← hpe] at hsp hpl hps hne hkey
  have HSP := Lib.hid hsp
  have HPS := Lib.hid hps
  have HKEY := Lib.hid hkey
  clear hsp hps hpe hkey
  go_enter Tryd.func17, Tryd.ntmps17
  go_wp2_with fail
  refine HSP.out.mono ?_
  rintro e w1 ⟨Ap, cp, rfl, hop, hb1⟩
  have HO1 := Lib.hid (own_base hop (base' := w.heap.size + 1) (by simp))
  have HT := HT.later hb1
  have hs1 := hb1.size
  simp only [World.size_alloc] at hs1
  clear hb1 hop HSP
  go_wp2_with (at_builtin; refine wpList_app1 w1 rfl _ _ 45 rfl (w.heap.size + 1) 9 (.string ⟨#[]⟩) 16 Tryd.underlying45 infoStr1 rfl _ _ _ (by rfl) HO1.out _ (by rfl) (by rfl) (by unfold maxLen; omega) (by omega) hs1 ?_)
  intro v' w4 ho4 hg4
  obtain ⟨A4, c4, rfl⟩ := own_shape ho4
  have HB4 := Lib.hid ((Below.refl (w.heap.size + 1) w1).grown hg4 hs1 (own_block HO1.out))
  have HT := HT.laterX HB4.out (by omega) (by simp)
  have hs4 : w.heap.size + 1 ≤ w4.heap.size := by have := HB4.out.size; omega
  obtain ⟨qs, hqs⟩ : ∃ qs, qs = ps ++ [⟨#[]⟩] := ⟨_, rfl⟩
  have ho4' : w4.ownsRow (w.heap.size + 1) 9 1 (.slice A4 (ps.length + 1) c4) qs.length (qs.map Str) := by
    rw [hqs, List.map_append, List.length_append]; exact ho4
  have hql : ps.length + 1 = qs.length := by rw [hqs]; simp
  have hq2 : 2 ≤ qs.length := by omega
  have hqz : ∀ p ∈ qs, p.size ≤ 1048576 := fun p hp => by
    rw [hqs] at hp
    rcases List.mem_append.1 hp with hp | hp
    · exact Nat.le_trans (HPS.out p hp) hs
    · simp only [List.mem_cons, List.not_mem_nil, or_false] at hp
      subst hp; decide
  rw [hql] at ho4' ⊢
  obtain ⟨g, o, rfl, hgl, hc⟩ := (Row.of_own ho4' : Row Str w4 w4.heap.size A4 qs) (by omega)
  have c0 := hc 0 (by omega)
  have c1 := hc 1 (by omega)
  have hf1 := hqz qs[0] (List.getElem_mem _)
  have hf2 := hqz qs[1] (List.getElem_mem _)
  have hk2 : ∀ M us, okX M us = true → fmtTx M us = s → (qs[0]'(by omega)) = fmtP M ∧ (qs[1]'(by omega)) = fmtsP us := fun M us h e => by
    have e := HKEY.out M us h e
    subst e
    subst hqs
    exact ⟨rfl, rfl⟩
  obtain ⟨f, hf⟩ : ∃ f, f = qs[0]'(by omega) := ⟨_, rfl⟩
  obtain ⟨r, hr⟩ : ∃ r, r = qs[1]'(by omega) := ⟨_, rfl⟩
  rw [← hf] at c0 hf1 hk2
  rw [← hr] at c1 hf2 hk2
  have hq0 : (0 : Int) < (qs.length : Int) := by omega
  have hq1 : (1 : Int) < (qs.length : Int) := by omega
  rw [Nat.add_zero] at c0
  have HK2 := Lib.hid hk2
  have HSZ := Lib.hid (And.intro hf1 hf2)
  have HGL := Lib.hid hgl
  have c0 := (World.cell?_alloc_lt w4 (.cells #[.int .i64 0, .slice none 0 0] 25) ⟨g, o, none⟩ HGL.out).trans c0
  have c1 := (World.cell?_alloc_lt w4 (.cells #[.int .i64 0, .slice none 0 0] 25) ⟨g, o + 1, none⟩ HGL.out).trans c1
  have HT := HT.new #[.int .i64 0, .slice none 0 0] 25
  have hs5 : (w4.alloc (.cells #[.int .i64 0, .slice none 0 0] 25)).heap.size = w4.heap.size + 1 := by simp
  clear ho4 hg4 ho4' hc hk2 hqs hqz hf hr hf1 hf2 hql hq2 HKEY HPS hpl hne HO1 HB4 hgl hs1
  go_upto_region 3 with fail
  obtain ⟨W4, hW4⟩ : ∃ W, W = w4.alloc (.cells #[.int .i64 0, .slice none 0 0] 25) := ⟨_, rfl⟩
  rw [← hW4] at HT c0 c1 hs5 ⊢
  obtain ⟨k5, hk5⟩ : ∃ k, k = w4.heap.size := ⟨_, rfl⟩
  rw [← hk5] at HT HGL hs4 hs5 ⊢
  clear hW4 hk5
  go_wp2_with fail
  refine (sParse_any f _ HSZ.out.1).mono ?_
  rintro e w5 ⟨m, b, rfl, h1, h2, hb5⟩
  have HT := HT.later hb5
  have c1 := (hb5.cell (p := ⟨g, o + 1, none⟩) (by have := HGL.out; show g < _; omega)).trans c1
  have hs6 : k5 + 1 ≤ w5.heap.size := by have := hb5.size; omega
  have HM : Hid (∀ M us, okX M us = true → fmtTx M us = s → M = m ∧ r = fmtsP us) := Lib.hid fun M us h e => by
    obtain ⟨e1, e2⟩ := HK2.out M us h e
    have hn : IsNum f M := by rw [e1]; exact num_of_fmt (okX_inR h).1
    cases b
    · exact absurd hn ((h2 rfl).2 M)
    · exact ⟨num_inj hn (h1 rfl), e2⟩
  clear hb5 h1 h2 c0 HK2 hs5
  have d0 := (HT.box 0).f 0
  have d0' := (HT.box 0).c 0
  have HP := HT.put (by omega) (by simp; omega) 0 (.int .i64 m)
  have c1 : (w5.setCell ⟨k5, 0, none⟩ (.int .i64 m)).cell? ⟨g, o + 1, none⟩ = _ := (World.cell?_setCell_other w5 _ _ _ (by intro e; injection e with e; have := HGL.out; omega)).trans c1
  have hs7 : (w5.setCell ⟨k5, 0, none⟩ (.int .i64 m)).heap.size = w5.heap.size := by simp
  clear HT
  go_upto_region 4 with fail
  obtain ⟨W5, hW5⟩ : ∃ W, W = w5.setCell ⟨k5, 0, none⟩ (.int .i64 m) := ⟨_, rfl⟩
  rw [← hW5] at HP c1 hs7 ⊢
  clear hW5 d0 d0'
  have HT : Held w W5 [(k5, [.int .i64 m, .slice none 0 0]), (w.heap.size, [.int .i64 0, .slice none 0 0])] := HP
  clear HP
  go_wp2_with fail
  refine (sParses_any r _ HSZ.out.2).mono ?_
  rintro e w6 ⟨b2, xs, A6, c6, rfl, ho6, h1, h2, hl, hb6⟩
  have HT := HT.later hb6
  have HM : Hid (∀ M us, okX M us = true → fmtTx M us = s → M = m ∧ us = xs) := Lib.hid fun M us h e => by
    obtain ⟨e1, e2⟩ := HM.out M us h e
    have hn : NumsOf r us := by rw [e2]; exact nums_fmts us (okX_inR h).2
    cases b2
    · exact absurd hn ((h2 rfl).2 us)
    · exact ⟨e1, nums_inj hn (h1 rfl)⟩
  have ho6 := own_turnT ho6 ((Turn.refl (fun q => q = k5) w6).setCell (g := k5) (i := 1) rfl (.slice A6 xs.length c6)) (fun k h => by omega)
  have HO := Lib.hid (own_base ho6 (base' := w.heap.size + 1) (by omega))
  have HL := Lib.hid hl
  have d1 := (HT.box 0).f 1
  have d1' := (HT.box 0).c 1
  have HP := HT.put (by omega) (by simp; omega) 1 (.slice A6 xs.length c6)
  clear hb6 h1 h2 hl ho6 c1 HT HSZ HGL
  go_upto_region 5 with fail
  obtain ⟨W6, hW6⟩ : ∃ W, W = w6.setCell ⟨k5, 1, none⟩ (.slice A6 xs.length c6) := ⟨_, rfl⟩
  rw [← hW6] at HP HO ⊢
  clear hW6 d1 d1' hs6 hs7
  have HT : Held w W6 [(k5, [.int .i64 m, .slice A6 xs.length c6]), (w.heap.size, [.int .i64 0, .slice none 0 0])] := HP
  clear HP
  obtain ⟨fs, hfs⟩ : ∃ fs, fs = fmtTx m xs := ⟨_, rfl⟩
  have HF : Hid (∀ w : World, Row I64 w w.heap.size A6 xs → Calls Tryd.prog 14 #[txv m A6 xs.length c6] w (fun e w' => e = .returned (.string fs) ∧ Below w.heap.size w w')) := Lib.hid fun w h => by rw [hfs]; exact sFmtTx_any m A6 c6 xs w h (by have := HL.out; omega)
  have c0 := (HT.box 0).c 0
  have c1 := (HT.box 0).c 1
  go_wp2_with fail
  refine (HF.out _ (Row.of_own HO.out)).mono ?_
  rintro e w7 ⟨rfl, hb7⟩
  have HT := HT.later hb7
  have HO := Lib.hid (own_keep' HO.out hb7)
  clear hb7 c0 c1
  rcases ho : okX m xs with _ | _
  · have hfe : fs = ⟨#[]⟩ := by rw [hfs]; unfold fmtTx; rw [ho]; rfl
    have HNO : Hid (∀ M us, okX M us = true → fmtTx M us ≠ s) := Lib.hid (fun M us h e => by
      obtain ⟨rfl, rfl⟩ := HM.out M us h e
      rw [h] at ho
      cases ho)
    subst hfe
    clear HM hfs ho HF HO
    have r0 := (HT.box 1).c 0
    have r1 := (HT.box 1).c 1
    have r2 := (HT.box 1).f 0
    have r3 := (HT.box 1).f 1
    have HW := HT.below
    clear HT
    go_wp2_with fail
    exact bodyPost_ret (v := .tuple #[txv 0 none 0 0, .bool false]) (by simp [results, Tryd.results17, go_sem, r0, r1]) rfl ⟨false, 0, [], none, 0, rfl, World.ownsRow_nil _ _ _ _, (fun h => by cases h), (fun _ => ⟨rfl, rfl, HNO.out⟩), ((HW.setCell (p := ⟨w.heap.size, 0, none⟩) (Nat.le_refl _) _).setCell (p := ⟨w.heap.size, 1, none⟩) (Nat.le_refl _) _)⟩
  · have hne : fs ≠ ⟨#[]⟩ := by rw [hfs]; exact fmtTx_ne ho
    have hbe : (fs.toList == []) = false := by
      have := str_beq fs ⟨#[]⟩
      rw [decide_eq_false hne, str_toList ⟨#[]⟩] at this
      exact this
    have c0 := (HT.box 0).c 0
    have c1 := (HT.box 0).c 1
    by_cases hfq : fs = s
    · have HY : Hid (okX m xs = true ∧ fmtTx m xs = s) := Lib.hid ⟨ho, hfs.symm.trans hfq⟩
      have hbf : (fs.toList == s.toList) = true := by rw [str_beq]; exact decide_eq_true hfq
      have hbf' : (fs.toList != s.toList) = false := by rw [bne, hbf]; rfl
      clear hfs ho hfq hne HM
      go_wp2_with fail
      refine (HF.out _ (Row.of_own HO.out)).mono ?_
      rintro e w8 ⟨rfl, hb8⟩
      have HT := HT.later hb8
      have HO := own_keep' HO.out hb8
      clear hb8 c0 c1 HF
      have c0 := (HT.box 0).c 0
      have c1 := (HT.box 0).c 1
      have r0 := (HT.box 1).c 0
      have r1 := (HT.box 1).c 1
      have r2 := (HT.box 1).f 0
      have r3 := (HT.box 1).f 1
      have HW := HT.below
      have HOB := Lib.hid (own_base (own_turnT HO (((Turn.refl (fun q => q = w.heap.size) w8).setCell (g := w.heap.size) (i := 0) rfl (.int .i64 m)).setCell (g := w.heap.size) (i := 1) rfl (.slice A6 xs.length c6)) (fun k h => by omega)) (base' := w.heap.size) (by omega))
      clear HO HT
      go_wp2_with fail
      exact bodyPost_ret (v := .tuple #[txv m A6 xs.length c6, .bool true]) (by simp [results, Tryd.results17, go_sem, r0, r1]) rfl ⟨true, m, xs, A6, c6, rfl, HOB.out, (fun _ => HY.out), (fun h => by cases h), ((HW.setCell (p := ⟨w.heap.size, 0, none⟩) (Nat.le_refl _) _).setCell (p := ⟨w.heap.size, 1, none⟩) (Nat.le_refl _) _)⟩
    · have HNO : Hid (∀ M us, okX M us = true → fmtTx M us ≠ s) := Lib.hid (fun M us h e => by
        obtain ⟨rfl, rfl⟩ := HM.out M us h e
        exact hfq (hfs.trans e))
      have hbf : (fs.toList == s.toList) = false := by rw [str_beq]; exact decide_eq_false hfq
      have hbf' : (fs.toList != s.toList) = true := by rw [bne, hbf]; rfl
      clear hfs ho hfq hne HM
      go_wp2_with fail
      refine (HF.out _ (Row.of_own HO.out)).mono ?_
      rintro e w8 ⟨rfl, hb8⟩
      have HT := HT.later hb8
      clear hb8 c0 c1 HF HO
      have r0 := (HT.box 1).c 0
      have r1 := (HT.box 1).c 1
      have r2 := (HT.box 1).f 0
      have r3 := (HT.box 1).f 1
      have HW := HT.below
      clear HT
      go_wp2_with fail
      exact bodyPost_ret (v := .tuple #[txv 0 none 0 0, .bool false]) (by simp [results, Tryd.results17, go_sem, r0, r1]) rfl ⟨false, 0, [], none, 0, rfl, World.ownsRow_nil _ _ _ _, (fun h => by cases h), (fun _ => ⟨rfl, rfl, HNO.out⟩), ((HW.setCell (p := ⟨w.heap.size, 0, none⟩) (Nat.le_refl _) _).setCell (p := ⟨w.heap.size, 1, none⟩) (Nat.le_refl _) _)⟩
end Go.Proofs.YtjbpfgaakkkaaaaDoor
