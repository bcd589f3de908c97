/- Contracts of l07Place and Subdivide, in the model. -/
import Derived.Test.YtdefhepagpgnaaaGreatProg
import Derived.Test.YtdefhepagpgnaaaGreatInts
import Derived.Test.YtdefhepagpgnaaaGreatVbox
import Derived.Test.YtdefhepagpgnaaaGreatVec
import Derived.Test.YtdefhepagpgnaaaGreatHeld
import Derived.Test.YtdefhepagpgnaaaGreatMem
import Derived.Test.YtdefhepagpgnaaaGreatRowC
import Derived.Test.YtdefhepagpgnaaaGreatIntS
import Derived.Test.YtdefhepagpgnaaaGreatVecS
import Derived.Test.YtdefhepagpgnaaaGreatSS
import Derived.Test.YtdefhepagpgnaaaGreatMkA
import Derived.Test.YtdefhepagpgnaaaGreatMkB
import Derived.Test.YtdefhepagpgnaaaGreatMkC
import Derived.Test.YtdefhepagpgnaaaGreatMkD
import Derived.Test.YtdefhepagpgnaaaGreatMF
import Derived.Test.YtdefhepagpgnaaaGreatMG
import Derived.Test.YtdefhepagpgnaaaGreatMH
import Derived.Test.YtdefhepagpgnaaaGreatMM
import Derived.Test.YtdefhepagpgnaaaGreatMN
import Derived.Test.YtdefhepagpgnaaaGreatMV
import Derived.Test.YtdefhepagpgnaaaGreatMW
import Derived.Test.YtdefhepagpgnaaaGreatMVF
import Derived.Test.YtdefhepagpgnaaaGreatMT
import Derived.Test.YtdefhepagpgnaaaGreatME
import Derived.Test.YtdefhepagpgnaaaGreatMSo
import Derived.Test.YtdefhepagpgnaaaGreatMSP
import Derived.Test.YtdefhepagpgnaaaGreatMP
import Derived.Test.YtdefhepagpgnaaaGreatMEF
import Derived.Test.YtdefhepagpgnaaaGreatMEd
import Derived.Test.YtdefhepagpgnaaaGreatMLw
import Derived.Test.YtdefhepagpgnaaaGreatMNb
import Derived.Test.YtdefhepagpgnaaaGreatMB
import Derived.Test.YtdefhepagpgnaaaGreatMBd
import Derived.Test.YtdefhepagpgnaaaGreatKp
import Derived.Test.YtdefhepagpgnaaaGreatKb
import Derived.Test.YtdefhepagpgnaaaGreatKc
import Derived.Test.YtdefhepagpgnaaaGreatKa
import Derived.Test.YtdefhepagpgnaaaGreatKt
import Derived.Test.YtdefhepagpgnaaaGreatKs
import Derived.Test.YtdefhepagpgnaaaGreatKe
import Derived.Test.YtdefhepagpgnaaaGreatKv
import Derived.Test.YtdefhepagpgnaaaGreatKw
import Derived.Test.YtdefhepagpgnaaaGreatKx
import Derived.Test.YtdefhepagpgnaaaGreatLn
import Derived.WalkKit
import Derived.WalkSpells
import Derived.WalkLawsBesides
import Derived.Lib.Hide
import Derived.Deep.RegionHeld3
import Derived.Deep.QuietTactic
import Derived.BigQuiet
import Derived.Handy
import Derived.Deep.DeepCutAuto
import Derived.OwnWalk
import Derived.Deep.AppendLies
import Derived.Deep.RegionLaw
namespace Go.Proofs.YtdefhepagpgnaaaGreat
open Go.RowKit

def plc (l : List E2) (e : E2) : Int := if e ∈ l then (l.idxOf e : Int) else 0
theorem idx_at {l : List E2} {e : E2} {k : Nat} (hk : k < l.length) (hn : e ∉ l.take k) (he : l[k] = e) : plc l e = (k : Int) := by
  have hm : e ∈ l := he ▸ List.getElem_mem hk
  unfold plc
  rw [if_pos hm]
  have h1 : l = l.take k ++ e :: l.drop (k + 1) := by rw [← he, ← List.drop_eq_getElem_cons hk, List.take_append_drop]
  have h2 : l.idxOf e = k := by
    rw [h1, List.idxOf_append, if_neg hn]
    simp
    omega
  rw [h2]
theorem und_comm (a b : Int) : und (a, b) = und (b, a) := by
  unfold und mnP mxP
  dsimp only
  split <;> split <;> (try split) <;> (try split) <;> simp <;> omega
theorem lot_ne {w : World} {ps : Lot} {base m n : Nat} {e : TypeId} {v : Value} {xs : List Value} (h : LotT w ps) (ho : w.ownsRow base e m v n xs) (hne : e ≠ 3) : ∀ p ∈ ps, some p.1 ≠ v.ownBlock := fun p hp c => by
  obtain ⟨cs, fz, hc⟩ := h.2 p hp
  rcases ho.2 with ⟨rfl, _⟩ | ⟨g, cap, cur, rfl, _, hh, _⟩
  · simp [Value.ownBlock] at c
  · simp only [Value.ownBlock, Option.some.injEq] at c
    rw [c, hh] at hc
    injection hc with hc
    injection hc with _ ht
    exact hne ht
/-- the state of a mesh under way in block kO -/
def Way (w w2 : World) (kO : Nat) (bs : List (Nat × List Value)) (v u : Value) (n : Nat) (xs : List Value) (ps : Lot) (W : World) : Prop :=
  W.ownsRow (kO + 1) 43 3 v n xs ∧ W.ownsRow (kO + 1) 45 1 u ps.length (ps.map hdr) ∧ LotT W ps ∧ (∀ p ∈ ps, kO + 1 ≤ p.1) ∧ Held w W ((kO, [v, u]) :: bs) ∧ Below kO w2 W ∧ kO + 1 ≤ W.heap.size
section
variable {w w2 W W' W5 : World} {kO n m : Nat} {bs : List (Nat × List Value)} {v u nv : Value} {xs ys : List Value} {ps : Lot} {o : Obj}
theorem Way.later (h : Way w w2 kO bs v u n xs ps W) (hb : Below W.heap.size W W') : Way w w2 kO bs v u n xs ps W' :=
  ⟨own_keep' h.1 hb, own_keep' h.2.1 hb, h.2.2.1.later hb, h.2.2.2.1, h.2.2.2.2.1.later hb, h.2.2.2.2.2.1.trans (hb.mono (by have := h.2.2.2.2.2.2; omega)), Nat.le_trans h.2.2.2.2.2.2 hb.size⟩
theorem Way.drew (h : Way w w2 kO bs v u n xs ps W) : Way w w2 kO bs v u n xs ps W.drew := ⟨own_keep' h.1 (by go_grown), own_keep' h.2.1 (by go_grown), h.2.2.1.drew, h.2.2.2.1, h.2.2.2.2.1.drew, h.2.2.2.2.2.1.drew, h.2.2.2.2.2.2⟩
theorem Way.held (h : Way w w2 kO bs v u n xs ps W) : Held w W ((kO, [v, u]) :: bs) := h.2.2.2.2.1
theorem Way.below (h : Way w w2 kO bs v u n xs ps W) : Below kO w2 W := h.2.2.2.2.2.1
theorem Way.putV (h : Way w w2 kO bs v u n xs ps W) (hw : w.heap.size ≤ kO) (hbs : ∀ p ∈ bs, p.1 < kO) (hg : (W.alloc o).grownBy W5 v.ownBlock) (ho : W5.ownsRow (kO + 1) 43 3 nv m ys) : Way w w2 kO bs nv u m ys ps (W5.setCell ⟨kO, 0, none⟩ nv) := by
  obtain ⟨h1, h2, h3, h4, h5, h6, h7⟩ := h
  have hop := own_block h1
  have hs5 : W.heap.size ≤ W5.heap.size := Nat.le_trans (by simp) hg.size
  have hgb : W5.grownBy (W5.setCell ⟨kO, 0, none⟩ nv) (some kO) := gb_set (gb_refl W5 (some kO)) nv
  refine ⟨own_keep ho hgb (by omega), own_keep ((World.ownsRow.kept (own_keep' h2 (show Below W.heap.size W (W.alloc o) by go_grown)) hg (own_ne h2 h1 (by decide)))) hgb (by omega), ((h3.alloc o).grown hg (lot_ne h3 h1 (by decide))).grown hgb (fun p hp c => by injection c with c; have := h4 p hp; omega), h4, ?_, ?_, by simp; omega⟩
  · have h8 := heldGrown' (h5.alloc o) hg (fun q hq => by have := hop q hq; omega) (fun p hp c => by
      have h9 := hop _ c.symm
      rcases List.mem_cons.1 hp with rfl | hp
      · simp at h9
        omega
      · have := hbs p hp
        omega)
    exact h8.put hw (fun p hp => by have := hbs p hp; omega) 0 nv
  · exact (below_own (h6.alloc (by omega) o) hg (by simp; omega) (fun q hq => by have := hop q hq; omega)).grown hgb (by omega) (fun q hq => by injection hq with hq; omega)
theorem Way.putU {f : List Int} (h : Way w w2 kO bs v u n xs ps W) (hw : w.heap.size ≤ kO) (hbs : ∀ p ∈ bs, p.1 < kO) {cs : Array Value} (hcs : cs.toList = f.map (Value.int .i64)) (hg : (W.alloc (.cells cs 3)).grownBy W5 u.ownBlock) (ho : W5.ownsRow (kO + 1) 45 1 nv (ps.length + 1) (ps.map hdr ++ [hdr (W.heap.size, f)])) : Way w w2 kO bs v nv n xs (ps ++ [(W.heap.size, f)]) (W5.setCell ⟨kO, 1, none⟩ nv) := by
  obtain ⟨h1, h2, h3, h4, h5, h6, h7⟩ := h
  have hop := own_block h2
  have hs5 : W.heap.size + 1 ≤ W5.heap.size := by have := hg.size; simpa using this
  have hgb : W5.grownBy (W5.setCell ⟨kO, 1, none⟩ nv) (some kO) := gb_set (gb_refl W5 (some kO)) nv
  have h4' : ∀ p ∈ ps ++ [(W.heap.size, f)], kO + 1 ≤ p.1 := fun p hp => by
    rcases List.mem_append.1 hp with hp | hp
    · exact h4 p hp
    · rw [List.mem_singleton] at hp
      subst hp
      exact h7
  refine ⟨own_keep ((World.ownsRow.kept (own_keep' h1 (show Below W.heap.size W (W.alloc (.cells cs 3)) by go_grown)) hg (own_ne h1 h2 (by decide)))) hgb (by omega), ?_, (LotT.grown ((h3.new f cs hcs).row (own_keep' h2 (show Below W.heap.size W (W.alloc (.cells cs 3)) by go_grown)) hg) hgb (fun p hp c => by injection c with c; have := h4' p hp; omega)), h4', ?_, ?_, by simp; omega⟩
  · rw [List.length_append, List.map_append]
    exact own_keep ho hgb (by omega)
  · have h8 := heldGrown' (h5.alloc (.cells cs 3)) hg (fun q hq => by have := hop q hq; omega) (fun p hp c => by
      have h9 := hop _ c.symm
      rcases List.mem_cons.1 hp with rfl | hp
      · simp at h9
        omega
      · have := hbs p hp
        omega)
    exact h8.put hw (fun p hp => by have := hbs p hp; omega) 1 nv
  · exact (below_own (h6.alloc (by omega) _) hg (by simp; omega) (fun q hq => by have := hop q hq; omega)).grown hgb (by omega) (fun q hq => by injection hq with hq; omega)
end
set_option maxRecDepth 100000 in
set_option maxHeartbeats 16000000 in
theorem place_any (A : Option Addr) (c : Nat) (l : List E2) (a b : Int) (w : World) (hR : RowSS w w.heap.size A (l.map pr)) (hl : l.length ≤ 1048576) :
    Calls Tryz.prog 21 #[.slice A l.length c, .int .i64 a, .int .i64 b] w fun e w' => e = .returned (.int .i64 (plc l (und (a, b)))) ∧ Below w.heap.size w w' := by
  have HRS := Lib.hid hR
  clear hR
  obtain ⟨m1, hm1⟩ : ∃ m, m = mnP a b := ⟨_, rfl⟩
  obtain ⟨m2, hm2⟩ : ∃ m, m = mxP a b := ⟨_, rfl⟩
  have HE : Hid (und (a, b) = (m1, m2)) := Lib.hid (by rw [hm1, hm2]; rfl)
  have HMN : Hid (∀ W : World, Calls Tryz.prog 41 #[.int .i64 a, .int .i64 b] W fun e w' => e = .returned (.int .i64 m1) ∧ W = w') := Lib.hid (fun W => by rw [hm1]; exact l01Min_any a b W)
  have HMX : Hid (∀ W : World, Calls Tryz.prog 42 #[.int .i64 a, .int .i64 b] W fun e w' => e = .returned (.int .i64 m2) ∧ W = w') := Lib.hid (fun W => by rw [hm2]; exact l01Max_any a b W)
  obtain ⟨R, hRR⟩ : ∃ R, R = plc l (und (a, b)) := ⟨_, rfl⟩
  rw [← hRR]
  have HRR := Lib.hid hRR
  clear hm1 hm2 hRR
  go_enter Tryz.func21, Tryz.ntmps21
  go_wp2_with fail
  go_loopw [11] (fun i wr => ∃ k : Nat, k ≤ l.length ∧ i = .int .i64 k ∧ (m1, m2) ∉ l.take k ∧ Below w.heap.size w wr) (fun i _ => l.length - (intOf i).toNat)
  case atStart => exact ⟨0, Nat.zero_le _, rfl, by simp, Below.refl _ _⟩
  case round =>
    obtain ⟨k, hk, rfl, hni, hb⟩ := hrel
    have HN := Lib.hid hni
    have HB := Lib.hid hb
    clear hni hb
    by_cases hlt : k < l.length
    · obtain ⟨bl, o, g1, o1, c1, rfl, hbl, hc, hg1, hd0, hd1⟩ := HRS.out.pair hlt
      have hc' := (HB.out.cell (p := ⟨bl, o + k, none⟩) hbl).trans hc
      have d0 := (HB.out.cell (p := ⟨g1, o1, none⟩) hg1).trans hd0
      have d1 := (HB.out.cell (p := ⟨g1, o1 + 1, none⟩) hg1).trans hd1
      have HNX : Hid ((m1, m2) ≠ l[k] → (m1, m2) ∉ l.take (k + 1)) := Lib.hid (fun hne hm => by
        rw [List.take_succ_eq_append_getElem hlt] at hm
        rcases List.mem_append.1 hm with hm | hm
        · exact HN.out hm
        · rw [List.mem_singleton] at hm
          exact hne hm)
      have HAT : Hid (l[k] = (m1, m2) → (k : Int) = R) := Lib.hid (fun he => by rw [HRR.out, HE.out]; exact (idx_at hlt HN.out he).symm)
      obtain ⟨ed, hed⟩ : ∃ e, e = l[k] := ⟨_, rfl⟩
      rw [← hed] at d0 d1
      simp only [← hed] at HNX HAT
      have hQ : Below w.heap.size w wr := HB.out
      have HC : ∀ W : World, W = wr ∨ W = wr.drew → (W.cell? ⟨g1, o1, none⟩ = some (.int .i64 ed.1) ∧ W.cell? ⟨g1, o1 + 1, none⟩ = some (.int .i64 ed.2)) := fun W h => by
        rcases h with rfl | rfl
        · exact ⟨d0, d1⟩
        · exact ⟨d0, d1⟩
      clear hed hc hd0 hd1 d0 d1 HN
      by_cases h1 : ed.1 = m1
      · by_cases h2 : ed.2 = m2
        · have hd1 : (ed.1 == m1) = true := by simp [h1]
          have hd2 : (ed.2 == m2) = true := by simp [h2]
          have HV := Lib.hid (HAT.out (by rw [← h1, ← h2]))
          clear h1 h2
          go_upto_region 4 with fail
          go_region_held3 (fun W => W.cell? ⟨g1, o1, none⟩ = some (.int .i64 ed.1) ∧ W.cell? ⟨g1, o1 + 1, none⟩ = some (.int .i64 ed.2))
            (first | exact HC _ (.inl rfl) | exact HC _ (.inr rfl))
            (first | (go_at_call 41; refine (HMN.out _).mono ?_; rintro e w' ⟨rfl, rfl⟩) | (go_at_call 42; refine (HMX.out _).mono ?_; rintro e w' ⟨rfl, rfl⟩))
          all_goals (go_wp2_with fail; go_ret; first | exact ⟨congrArg (fun x => Ending.returned (Value.int .i64 x)) HV.out, hQ⟩ | exact ⟨congrArg (fun x => Ending.returned (Value.int .i64 x)) HV.out, hQ.drew⟩)
        · have hd1 : (ed.1 == m1) = true := by simp [h1]
          have hd2 : (ed.2 == m2) = false := by simp [h2]
          have HV := Lib.hid (HNX.out (fun he => h2 (by rw [← he])))
          clear h1 h2
          go_upto_region 4 with fail
          go_region_held3 (fun W => W.cell? ⟨g1, o1, none⟩ = some (.int .i64 ed.1) ∧ W.cell? ⟨g1, o1 + 1, none⟩ = some (.int .i64 ed.2))
            (first | exact HC _ (.inl rfl) | exact HC _ (.inr rfl))
            (first | (go_at_call 41; refine (HMN.out _).mono ?_; rintro e w' ⟨rfl, rfl⟩) | (go_at_call 42; refine (HMX.out _).mono ?_; rintro e w' ⟨rfl, rfl⟩))
          all_goals
            go_wp2_with fail
            go_roundw
            case rel => exact ⟨k + 1, by omega, by go_num, HV.out, by first | exact hQ | exact hQ.drew⟩
            case measure => simp [intOf]; omega
      · have hd1 : (ed.1 == m1) = false := by simp [h1]
        have hd2 : decide (ed.1 = m1) = false := by simp [h1]
        have HV := Lib.hid (HNX.out (fun he => h1 (by rw [← he])))
        clear h1
        have q0 := (HC _ (.inl rfl)).1
        have q0' := (HC _ (.inr rfl)).1
        clear HC
        go_upto_region 4 with fail
        go_quiet ((go_at_call 41; exact Calls.quiet_of_same ((HMN.out _).mono fun _ _ h => ⟨h.1, h.2.symm⟩)))
        go_wp2_with fail
        go_roundw
        case rel => exact ⟨k + 1, by omega, by go_num, HV.out, by first | exact hQ | exact hQ.drew | exact below_drewN hQ _⟩
        case measure => simp [intOf]; omega
    · have e : k = l.length := by omega
      have HV : Hid (R = 0) := Lib.hid (by
        have h := HN.out
        rw [e, List.take_length] at h
        rw [HRR.out, HE.out]
        unfold plc
        rw [if_neg h])
      clear e
      go_wp2_with fail
      go_ret
      exact ⟨congrArg (fun x => Ending.returned (Value.int .i64 x)) HV.out.symm, HB.out⟩

theorem way_start {w w2 : World} {bs : List (Nat × List Value)} (h : Held w w2 bs) : Way w w2 w2.heap.size bs (.slice none 0 0) (.slice none 0 0) 0 [] [] (w2.alloc (.cells #[(.slice none 0 0), (.slice none 0 0)] 29)) :=
  ⟨World.ownsRow_nil _ _ _ _, World.ownsRow_nil _ _ _ _, LotT.nil _, (fun p h => by cases h), h.new #[(.slice none 0 0), (.slice none 0 0)] 29, (show Below w2.heap.size w2 (w2.alloc (.cells #[(.slice none 0 0), (.slice none 0 0)] 29)) by go_grown), by simp⟩
theorem rem_n (j m r : Nat) (hr : r = (j + m) % 4) : ((j : Int) + (m : Int)).tmod 4 = (r : Int) := by
  rw [hr, ← Int.natCast_add]
  exact (Int.ofNat_tmod _ _).symm
theorem plc_in {l : List E2} {e : E2} (h : e ∈ l) : plc l e = ((l.idxOf e : Nat) : Int) ∧ l.idxOf e < l.length := ⟨by unfold plc; rw [if_pos h], List.idxOf_lt_length_of_mem h⟩
theorem last_step (f : List Int) (j : Nat) (hj : j < 4) (hf : f.length = 4) : und (f.getD j 0, f.getD ((j + 3) % 4) 0) = und (stepAt f ((j + 3) % 4)) := by
  rw [und_comm]
  unfold stepAt
  have h : ((j + 3) % 4 + 1) % 4 = j := by omega
  rw [hf, h]
set_option maxRecDepth 100000 in
set_option maxHeartbeats 64000000 in
theorem sSubdivide_any (A1 A2 : Option Addr) (c1 c2 : Nat) (vs : List V3) (fs : List (List Int)) (w : World) (hR : MeshIn w A1 A2 vs fs) (hf : MeshFits vs fs) :
    Calls Tryz.prog 6 #[mv A1 A2 vs.length c1 fs.length c2] w (MeshRes w (sbP vs fs) (sbF vs fs) (subOk vs fs)) := by
  have HIN := Lib.hid hR
  have HF := Lib.hid hf
  have HT0 : Held w ((w.alloc (.cells #[.slice A1 vs.length c1, .slice A2 fs.length c2] 29)).alloc (.cells #[.slice none 0 0, .slice none 0 0] 29)) [(w.heap.size + 1, [.slice none 0 0, .slice none 0 0]), (w.heap.size, [.slice A1 vs.length c1, .slice A2 fs.length c2])] := by
    have h := ((Held.nil w).new #[.slice A1 vs.length c1, .slice A2 fs.length c2] 29).new #[.slice none 0 0, .slice none 0 0] 29
    simpa only [World.size_alloc] using h
  have HI : ∀ {bs : List (Nat × List Value)} (W : World), Held w W bs → MeshIn W A1 A2 vs fs := fun W h => ⟨(HIN.out.1.below h.below).more h.size, (HIN.out.2.below h.below).more h.size⟩
  have HT := Lib.hid HT0
  clear hR hf HT0
  obtain ⟨ok, hok⟩ : ∃ ok, ok = okMesh vs fs := ⟨_, rfl⟩
  have HOK := Lib.hid hok
  have HCV : ∀ W, MeshIn W A1 A2 vs fs → Calls Tryz.prog 17 #[mv A1 A2 vs.length c1 fs.length c2] W fun e w' => e = .returned (.bool ok) ∧ Below W.heap.size W w' := fun W h => by rw [hok]; exact sValidMesh_any A1 A2 c1 c2 vs fs W h HF.out
  obtain ⟨Z, hZ⟩ : ∃ Z, Z = edL vs fs := ⟨_, rfl⟩
  have HED := sEdges_any A1 A2 c1 c2 vs fs _ (HI _ HT.out) HF.out
  have HZL : Hid (Z.length ≤ 256) := Lib.hid (by rw [hZ]; exact edL_len vs fs)
  rw [← hZ] at HED
  have HZ := Lib.hid hZ
  clear hZ hok
  have c0' := (HT.out.box 1).c 0
  have c1' := (HT.out.box 1).c 1
  go_enter Tryz.func6, Tryz.ntmps6
  go_wp2_with fail
  refine HED.mono ?_
  rintro e w1 ⟨A6, c6, rfl, hr6, hb1⟩
  have HT1 := Lib.hid (HT.out.later hb1)
  have HR6 := Lib.hid hr6
  clear hb1 hr6 HT c0' c1' HED
  have c0' := (HT1.out.box 1).c 0
  have c1' := (HT1.out.box 1).c 1
  have HC := HCV _ (HI _ HT1.out)
  clear HCV
  go_wp2_with fail
  refine HC.mono ?_
  rintro e w2 ⟨rfl, hb2⟩
  have HT2 := Lib.hid (HT1.out.later hb2)
  have HRS : Hid (RowSS w2 w2.heap.size A6 (Z.map pr)) := Lib.hid ((HR6.out.below hb2).more hb2.size)
  clear hb2 HT1 c0' c1' HC HR6
  have r0 := (HT2.out.box 0).c 0
  have g0 := (HT2.out.box 0).f 0
  have r1 := (HT2.out.box 0).c 1
  have g1 := (HT2.out.box 0).f 1
  have c0' := (HT2.out.box 1).c 0
  have c1' := (HT2.out.box 1).c 1
  cases ok
  · have HE : Hid (subOk vs fs = false) := Lib.hid (subOk_no fun h => by have := h.1; rw [← HOK.out] at this; cases this)
    go_wp2_with fail
    exact bodyPost_ret (v := .tuple #[mv none none 0 0 0 0, .bool false]) (by simp [results, Tryz.results6, go_sem, r0, r1]) rfl (mesh_no HE.out ⟨none, 0, none, 0, [], rfl, World.ownsRow_nil _ _ _ _, World.ownsRow_nil _ _ _ _, rfl, LotT.nil _, (fun p h => by cases h), bset2 HT2.out.below (by omega)⟩)
  · have HOM : Hid (okMesh vs fs = true) := Lib.hid HOK.out.symm
    by_cases h16 : fs.length ≤ 16
    · have hd16 : decide ((fs.length : Int) > 16) = false := by simp; omega
      have HVL := Lib.hid (ok_all HOM.out).1
      have HOF := Lib.hid (ok_all HOM.out).2.2
      have hzl := HZL.out
      have hvl := HVL.out
      have e1 := wrap_in (a := (vs.length : Int) + (Z.length : Int)) (by omega)
      have e2 := wrap_in (a := (vs.length : Int) + (Z.length : Int) + (fs.length : Int)) (by omega)
      clear HOK
      by_cases h80 : vs.length + Z.length + fs.length ≤ 80
      · have hd80 : decide ((vs.length : Int) + (Z.length : Int) + (fs.length : Int) > 80) = false := by simp; omega
        have HSB : Hid (subOk vs fs = true) := Lib.hid ((subOk_iff _ _).2 ⟨HOM.out, h16, by rw [← HZ.out]; exact h80⟩)
        have HP : Hid (subP vs fs = vpS vs fs vs.length ++ epS vs fs Z ++ fpS vs fs fs.length) := Lib.hid (by unfold subP; rw [HZ.out])
        have HSF : Hid (subF vs fs = qdTo vs.length Z fs fs.length) := Lib.hid (by unfold subF; rw [HZ.out])
        have HST := Lib.hid (fun k i (hk : k < fs.length) (hi : i < 4) => (by rw [HZ.out]; exact step_ed HOM.out hk hi : und (stepAt fs[k] i) ∈ Z))
        have hz2 : w.heap.size + 1 < w2.heap.size := (HT2.out.box 0).lt
        have HW0 := Lib.hid (way_start HT2.out)
        have hge : w.heap.size ≤ w2.heap.size := by omega
        have hBS : ∀ p ∈ ([(w.heap.size + 1, [.slice none 0 0, .slice none 0 0]), (w.heap.size, [.slice A1 vs.length c1, .slice A2 fs.length c2])] : List (Nat × List Value)), p.1 < w2.heap.size := fun p hp => by
          simp only [List.mem_cons, List.not_mem_nil, or_false] at hp
          rcases hp with rfl | rfl <;> simp <;> omega
        have c0'' := (HW0.out.held.box 2).c 0
        have c1'' := (HW0.out.held.box 2).c 1
        clear r0 r1 g0 g1
        go_wp2_with fail
        clear c0' c1' c0'' c1'' e1 e2 hd80 hd16 HT2
        go_loopw [46] (fun i wr => ∃ (k : Nat) (v : Value), k ≤ vs.length ∧ i = .int .i64 k ∧ Way w w2 w2.heap.size [(w.heap.size + 1, [.slice none 0 0, .slice none 0 0]), (w.heap.size, [.slice A1 vs.length c1, .slice A2 fs.length c2])] v (.slice none 0 0)  k ((vpS vs fs k).flatMap vg) [] wr) (fun i _ => vs.length - (intOf i).toNat)
        case atStart => exact ⟨0, _, Nat.zero_le _, rfl, HW0.out⟩
        case round =>
          clear HW0
          obtain ⟨k, v, hk, rfl, hw⟩ := hrel
          have HW := Lib.hid hw
          clear hw
          by_cases hlt : k < vs.length
          · obtain ⟨pv, hpv⟩ : ∃ x, x = vpL vs fs (k : Int) := ⟨_, rfl⟩
            have HVP : Hid (∀ W, MeshIn W A1 A2 vs fs → Calls Tryz.prog 18 #[mv A1 A2 vs.length c1 fs.length c2, .int .i64 (k : Int)] W (VecOut pv.1 pv.2.1 pv.2.2 W)) := Lib.hid (fun W h => by rw [hpv]; exact sVertexPoint_any A1 A2 c1 c2 vs fs (k : Int) W h HF.out)
            have HSU : Hid (vpS vs fs (k + 1) = vpS vs fs k ++ [pv]) := Lib.hid (by rw [hpv]; exact vpS_succ vs fs k)
            clear hpv
            have hQ := HW.out
            have hQO := hQ.1
            have hqz : w2.heap.size + 1 ≤ wr.heap.size := hQ.2.2.2.2.2.2
            have hop : ∀ q, v.ownBlock = some q → w2.heap.size + 1 ≤ q := own_block hQ.1
            obtain ⟨i9, hi9, hz90, hz91, hz92⟩ := info_parts infoVec
            clear HW
            go_upto_region 9 with fail
            have HN0 := Lib.hid True.intro
            have k0 := (hQ.held.box 0).c 0; have f0 := (hQ.held.box 0).f 0; have k0' := (hQ.drew.held.box 0).c 0; have f0' := (hQ.drew.held.box 0).f 0; have k3 : ∀ o, (wr.alloc o).cell? ⟨w2.heap.size, 0, none⟩ = some v := fun o => ((hQ.held.box 0).alloc o).c 0
            have m0 := (hQ.held.box 2).c 0; have m1 := (hQ.held.box 2).c 1; have m0' := (hQ.drew.held.box 2).c 0; have m1' := (hQ.drew.held.box 2).c 1
            go_region_law (first | (have hn := HN0; clear hn HN0; have HN1 := Lib.hid True.intro; go_simp; refine (HVP.out _ (by first | with_reducible exact HI _ hQ.held | with_reducible exact HI _ hQ.drew.held)).mono ?_; rintro e w6 ⟨rfl, hb1⟩; (first | (have hQ := hQ.later hb1) | (have hQ := hQ.drew.later hb1)); have hqz := Nat.le_trans hqz hb1.size; clear hQO; have hQO := hQ.1; clear k0 f0 k0' f0' k3 m0 m1 m0' m1'; have k0 := (hQ.held.box 0).c 0; have f0 := (hQ.held.box 0).f 0; have k0' := (hQ.drew.held.box 0).c 0; have f0' := (hQ.drew.held.box 0).f 0; have k3 : ∀ o, (w6.alloc o).cell? ⟨w2.heap.size, 0, none⟩ = some v := fun o => ((hQ.held.box 0).alloc o).c 0; try dsimp only) | (have hn := HN1; clear hn HN1; refine step_append_lies _ (by rfl) _ _ _ (by rfl) (w2.heap.size + 1) 43 i9 _ 3 24 Tryz.underlying27 hi9 hz90 hz91 hz92 rfl (by omega) v (k) _ (by rfl) (by first | with_reducible exact (hQO.alloc _) | with_reducible exact (hQO.alloc _).drew) ⟨_, 0, none⟩ 1 1 [.int .i64 pv.1, .int .i64 pv.2.1, .int .i64 pv.2.2] (by rfl) (by rfl) (World.news_of_block (cs := #[.int .i64 pv.1, .int .i64 pv.2.1, .int .i64 pv.2.2]) (t := 43) (fr := (0, 0)) (heap_alloc_new _ _)) (by simp [Value.oneCell']) (by omega) (by unfold maxLen; omega) (by omega) (by simp; omega) _ rfl ?_; intro gg cap w5 hown5 hgrow hat hlt5; have hQM5 : Mbox w5 w2.heap.size [v, (.slice none 0 0)] := ((hQ.held.box 0).alloc _).keep (fun hl => hgrow.block _ hl (fun c => by have := hop _ c.symm; omega)); have k5 := hQM5.c 0; have f5 := hQM5.f 0))
            all_goals
              have hown6 : w5.ownsRow (w2.heap.size + 1) 43 3 (.slice (some ⟨gg, 0, none⟩) (k + 1) cap) (k + 1) ((vpS vs fs (k + 1)).flatMap vg) := by
                rw [HSU.out,  flat_one]
                exact hown5
              have HW5 := Lib.hid (by first | exact hQ.putV hge (fun p hp => hBS p hp) hgrow hown6 | exact hQ.drew.putV hge (fun p hp => hBS p hp) hgrow hown6)
              clear k0 f0 k0' f0' k3 k5 f5 hQM5 hgrow hown5 hown6 hat hlt5 hb1 hqz hop hQ hQO HSU HVP
              go_wp2_with fail
              go_roundw
              case rel => exact ⟨k + 1, _, by omega, by go_num, HW5.out⟩
              case measure => simp [intOf]; omega
          · have e : k = vs.length := by omega
            have hw := HW.out
            rw [e] at hw
            have HW1 : Hid (Way w w2 w2.heap.size [(w.heap.size + 1, [.slice none 0 0, .slice none 0 0]), (w.heap.size, [.slice A1 vs.length c1, .slice A2 fs.length c2])] v (.slice none 0 0)  (vs.length + 0) ((vpS vs fs vs.length ++ epS vs fs (Z.take 0)).flatMap vg) [] wr) := Lib.hid (by simp only [List.take_zero, epS, List.map_nil, List.append_nil, Nat.add_zero]; exact hw)
            clear hw e HW
            go_wp2_with fail
            go_loopw [60] (fun i wr => ∃ (k : Nat) (v : Value), k ≤ Z.length ∧ i = .int .i64 k ∧ Way w w2 w2.heap.size [(w.heap.size + 1, [.slice none 0 0, .slice none 0 0]), (w.heap.size, [.slice A1 vs.length c1, .slice A2 fs.length c2])] v (.slice none 0 0)  (vs.length + k) ((vpS vs fs vs.length ++ epS vs fs (Z.take k)).flatMap vg) [] wr) (fun i _ => Z.length - (intOf i).toNat)
            case atStart => exact ⟨0, _, Nat.zero_le _, rfl, HW1.out⟩
            case round =>
              clear HW1
              obtain ⟨j, v, hj, rfl, hw⟩ := hrel
              have HW := Lib.hid hw
              clear hw
              by_cases hjl : j < Z.length
              · obtain ⟨b6, o6, g1, o1, c2', rfl, hbl, hc, hg1, hd0, hd1⟩ := HRS.out.pair hjl
                obtain ⟨ed, hed⟩ : ∃ e, e = Z[j] := ⟨_, rfl⟩
                rw [← hed] at hd0 hd1
                have hc' := (HW.out.below.cell (p := ⟨b6, o6 + j, none⟩) hbl).trans hc
                have d0 := (HW.out.below.cell (p := ⟨g1, o1, none⟩) hg1).trans hd0
                have d1 := (HW.out.below.cell (p := ⟨g1, o1 + 1, none⟩) hg1).trans hd1
                obtain ⟨pv, hpv⟩ : ∃ x, x = epL vs fs ed.1 ed.2 := ⟨_, rfl⟩
                have hin : (0 ≤ ed.1 ∧ ed.1 < vs.length) ∧ (0 ≤ ed.2 ∧ ed.2 < vs.length) := by
                  have h := List.getElem_mem hjl
                  rw [← hed, HZ.out] at h
                  exact (ed_in h).2
                have HVP : Hid (∀ W, MeshIn W A1 A2 vs fs → Calls Tryz.prog 19 #[mv A1 A2 vs.length c1 fs.length c2, .int .i64 ed.1, .int .i64 ed.2] W (VecOut pv.1 pv.2.1 pv.2.2 W)) := Lib.hid (fun W h => by rw [hpv]; exact sEdgePoint_any A1 A2 c1 c2 vs fs ed.1 ed.2 W h HF.out)
                have HSU : Hid (epS vs fs (Z.take (j + 1)) = epS vs fs (Z.take j) ++ [pv]) := Lib.hid (by rw [hpv, hed]; exact epS_take vs fs Z j hjl)
                clear hpv hed hd0 hd1 hc hin
                have hQ := HW.out
                have hQO := hQ.1
                have hqz : w2.heap.size + 1 ≤ wr.heap.size := hQ.2.2.2.2.2.2
                have hop : ∀ q, v.ownBlock = some q → w2.heap.size + 1 ≤ q := own_block hQ.1
                obtain ⟨i9, hi9, hz90, hz91, hz92⟩ := info_parts infoVec
                clear HW
                go_upto_region 14 with fail
                have HN0 := Lib.hid True.intro
                have k0 := (hQ.held.box 0).c 0; have f0 := (hQ.held.box 0).f 0; have k0' := (hQ.drew.held.box 0).c 0; have f0' := (hQ.drew.held.box 0).f 0; have k3 : ∀ o, (wr.alloc o).cell? ⟨w2.heap.size, 0, none⟩ = some v := fun o => ((hQ.held.box 0).alloc o).c 0
                have m0 := (hQ.held.box 2).c 0; have m1 := (hQ.held.box 2).c 1; have m0' := (hQ.drew.held.box 2).c 0; have m1' := (hQ.drew.held.box 2).c 1
                go_region_law (first | (have hn := HN0; clear hn HN0; have HN1 := Lib.hid True.intro; go_simp; refine (HVP.out _ (by first | with_reducible exact HI _ hQ.held | with_reducible exact HI _ hQ.drew.held)).mono ?_; rintro e w6 ⟨rfl, hb1⟩; (first | (have hQ := hQ.later hb1) | (have hQ := hQ.drew.later hb1)); have hqz := Nat.le_trans hqz hb1.size; clear hQO; have hQO := hQ.1; clear k0 f0 k0' f0' k3 m0 m1 m0' m1'; have k0 := (hQ.held.box 0).c 0; have f0 := (hQ.held.box 0).f 0; have k0' := (hQ.drew.held.box 0).c 0; have f0' := (hQ.drew.held.box 0).f 0; have k3 : ∀ o, (w6.alloc o).cell? ⟨w2.heap.size, 0, none⟩ = some v := fun o => ((hQ.held.box 0).alloc o).c 0; try dsimp only) | (have hn := HN1; clear hn HN1; refine step_append_lies _ (by rfl) _ _ _ (by rfl) (w2.heap.size + 1) 43 i9 _ 3 24 Tryz.underlying27 hi9 hz90 hz91 hz92 rfl (by omega) v (vs.length + j) _ (by rfl) (by first | with_reducible exact (hQO.alloc _) | with_reducible exact (hQO.alloc _).drew) ⟨_, 0, none⟩ 1 1 [.int .i64 pv.1, .int .i64 pv.2.1, .int .i64 pv.2.2] (by rfl) (by rfl) (World.news_of_block (cs := #[.int .i64 pv.1, .int .i64 pv.2.1, .int .i64 pv.2.2]) (t := 43) (fr := (0, 0)) (heap_alloc_new _ _)) (by simp [Value.oneCell']) (by omega) (by unfold maxLen; omega) (by omega) (by simp; omega) _ rfl ?_; intro gg cap w5 hown5 hgrow hat hlt5; have hQM5 : Mbox w5 w2.heap.size [v, (.slice none 0 0)] := ((hQ.held.box 0).alloc _).keep (fun hl => hgrow.block _ hl (fun c => by have := hop _ c.symm; omega)); have k5 := hQM5.c 0; have f5 := hQM5.f 0))
                all_goals
                  have hown6 : w5.ownsRow (w2.heap.size + 1) 43 3 (.slice (some ⟨gg, 0, none⟩) (vs.length + j + 1) cap) (vs.length + (j + 1)) ((vpS vs fs vs.length ++ epS vs fs (Z.take (j + 1))).flatMap vg) := by
                    rw [HSU.out, ← List.append_assoc, flat_one]
                    exact hown5
                  have HW5 := Lib.hid (by first | exact hQ.putV hge (fun p hp => hBS p hp) hgrow hown6 | exact hQ.drew.putV hge (fun p hp => hBS p hp) hgrow hown6)
                  clear k0 f0 k0' f0' k3 k5 f5 hQM5 hgrow hown5 hown6 hat hlt5 hb1 hqz hop hQ hQO HSU HVP
                  go_wp2_with fail
                  go_roundw
                  case rel => exact ⟨j + 1, _, by omega, by go_num, HW5.out⟩
                  case measure => simp [intOf]; omega
              · have e : j = Z.length := by omega
                have hw := HW.out
                rw [e, List.take_length] at hw
                have HW2 : Hid (Way w w2 w2.heap.size [(w.heap.size + 1, [.slice none 0 0, .slice none 0 0]), (w.heap.size, [.slice A1 vs.length c1, .slice A2 fs.length c2])] v (.slice none 0 0)  (vs.length + Z.length + 0) ((vpS vs fs vs.length ++ epS vs fs Z ++ fpS vs fs 0).flatMap vg) [] wr) := Lib.hid (by simp only [fpS, List.range_zero, List.map_nil, List.append_nil, Nat.add_zero]; exact hw)
                have c0' := (hw.held.box 2).c 0
                have c1' := (hw.held.box 2).c 1
                clear hw e HW
                go_wp2_with fail
                clear c0' c1'
                go_loopw [81] (fun i wr => ∃ (k : Nat) (v u : Value) (ps : Lot), k ≤ fs.length ∧ i = .int .i64 k ∧ ps.length = 4 * k ∧ ps.map Prod.snd = qdTo vs.length Z fs k ∧ Way w w2 w2.heap.size [(w.heap.size + 1, [.slice none 0 0, .slice none 0 0]), (w.heap.size, [.slice A1 vs.length c1, .slice A2 fs.length c2])] v u (vs.length + Z.length + k) ((vpS vs fs vs.length ++ epS vs fs Z ++ fpS vs fs k).flatMap vg) ps wr) (fun i _ => fs.length - (intOf i).toNat)
                case atStart => exact ⟨0, _, _, [], Nat.zero_le _, rfl, rfl, rfl, HW2.out⟩
                case round =>
                  clear HW2
                  obtain ⟨k, v, u, ps, hk, rfl, hpl, hsnd, hw⟩ := hrel
                  have HW := Lib.hid hw
                  have HPL := Lib.hid hpl
                  have HSN := Lib.hid hsnd
                  clear hw hpl hsnd
                  by_cases hlt : k < fs.length
                  · obtain ⟨b, o, a, cc, rfl, hbl, hc, hle, hcm, hrow⟩ := HIN.out.2.at hlt
                    have hQ := HW.out
                    have hc' := (hQ.held.below.cell (p := ⟨b, o + k, none⟩) hbl).trans hc
                    have HTS := Lib.hid (qdTo_succ vs.length Z fs k hlt)
                    have HFO := Lib.hid (HOF.out _ (List.getElem_mem hlt))
                    have HSE := Lib.hid (fun i (hi : i < 4) => HST.out k i hlt hi)
                    obtain ⟨f, hf⟩ : ∃ f, f = fs[k] := ⟨_, rfl⟩
                    rw [← hf] at hc' hrow
                    simp only [← hf] at HTS HFO HSE
                    have HRF := Lib.hid hrow
                    have HF4 := Lib.hid (okFace_at HFO.out).1
                    rw [HF4.out] at hc'
                    obtain ⟨pv, hpv⟩ : ∃ x, x = fpI vs fs (k : Int) := ⟨_, rfl⟩
                    have HVP : Hid (∀ W, MeshIn W A1 (some ⟨b, o, none⟩) vs fs → Calls Tryz.prog 20 #[mv A1 (some ⟨b, o, none⟩) vs.length c1 fs.length c2, .int .i64 (k : Int)] W (VecOut pv.1 pv.2.1 pv.2.2 W)) := Lib.hid (fun W h => by
                      rw [hpv, ← show fpL vs fs (k : Int) = fpI vs fs (k : Int) by unfold fpL; rw [if_pos ⟨HOM.out, by omega, by omega⟩]]
                      exact sFacePoint_any A1 (some ⟨b, o, none⟩) c1 c2 vs fs (k : Int) W h HF.out)
                    have HSU : Hid (fpS vs fs (k + 1) = fpS vs fs k ++ [pv]) := Lib.hid (by rw [hpv]; exact fpS_succ vs fs k)
                    have hqz : w2.heap.size + 1 ≤ wr.heap.size := hQ.2.2.2.2.2.2
                    have hop : ∀ q, v.ownBlock = some q → w2.heap.size + 1 ≤ q := own_block hQ.1
                    obtain ⟨i9, hi9, hz90, hz91, hz92⟩ := info_parts infoVec
                    clear HW hpv hf hc hrow hle hcm hbl
                    go_upto_region 19 with fail
                    go_cut [10] (fun z wx => z = .int .i64 (k : Int) ∧ ∃ v', Way w w2 w2.heap.size [(w.heap.size + 1, [.slice none 0 0, .slice none 0 0]), (w.heap.size, [.slice A1 vs.length c1, .slice (some ⟨b, o, none⟩) fs.length c2])] v' u (vs.length + Z.length + (k + 1)) ((vpS vs fs vs.length ++ epS vs fs Z ++ fpS vs fs (k + 1)).flatMap vg) ps wx)
                    case first =>
                      have hQO := hQ.1
                      have HN0 := Lib.hid True.intro
                      have k0 := (hQ.held.box 0).c 0; have f0 := (hQ.held.box 0).f 0; have k0' := (hQ.drew.held.box 0).c 0; have f0' := (hQ.drew.held.box 0).f 0; have k3 : ∀ o, (wr.alloc o).cell? ⟨w2.heap.size, 0, none⟩ = some v := fun o => ((hQ.held.box 0).alloc o).c 0
                      have m0 := (hQ.held.box 2).c 0; have m1 := (hQ.held.box 2).c 1; have m0' := (hQ.drew.held.box 2).c 0; have m1' := (hQ.drew.held.box 2).c 1
                      go_region_law (first | (have hn := HN0; clear hn HN0; have HN1 := Lib.hid True.intro; go_simp; refine (HVP.out _ (by first | with_reducible exact HI _ hQ.held | with_reducible exact HI _ hQ.drew.held)).mono ?_; rintro e w6 ⟨rfl, hb1⟩; (first | (have hQ := hQ.later hb1) | (have hQ := hQ.drew.later hb1)); have hqz := Nat.le_trans hqz hb1.size; clear hQO; have hQO := hQ.1; clear k0 f0 k0' f0' k3 m0 m1 m0' m1'; have k0 := (hQ.held.box 0).c 0; have f0 := (hQ.held.box 0).f 0; have k0' := (hQ.drew.held.box 0).c 0; have f0' := (hQ.drew.held.box 0).f 0; have k3 : ∀ o, (w6.alloc o).cell? ⟨w2.heap.size, 0, none⟩ = some v := fun o => ((hQ.held.box 0).alloc o).c 0; try dsimp only) | (have hn := HN1; clear hn HN1; refine step_append_lies _ (by rfl) _ _ _ (by rfl) (w2.heap.size + 1) 43 i9 _ 3 24 Tryz.underlying27 hi9 hz90 hz91 hz92 rfl (by omega) v (vs.length + Z.length + k) _ (by rfl) (by first | with_reducible exact (hQO.alloc _) | with_reducible exact (hQO.alloc _).drew) ⟨_, 0, none⟩ 1 1 [.int .i64 pv.1, .int .i64 pv.2.1, .int .i64 pv.2.2] (by rfl) (by rfl) (World.news_of_block (cs := #[.int .i64 pv.1, .int .i64 pv.2.1, .int .i64 pv.2.2]) (t := 43) (fr := (0, 0)) (heap_alloc_new _ _)) (by simp [Value.oneCell']) (by omega) (by unfold maxLen; omega) (by omega) (by simp; omega) _ rfl ?_; intro gg cap w5 hown5 hgrow hat hlt5; have hQM5 : Mbox w5 w2.heap.size [v, u] := ((hQ.held.box 0).alloc _).keep (fun hl => hgrow.block _ hl (fun c => by have := hop _ c.symm; omega)); have k5 := hQM5.c 0; have f5 := hQM5.f 0))
                      all_goals
                        have hown6 : w5.ownsRow (w2.heap.size + 1) 43 3 (.slice (some ⟨gg, 0, none⟩) (vs.length + Z.length + k + 1) cap) (vs.length + Z.length + (k + 1)) ((vpS vs fs vs.length ++ epS vs fs Z ++ fpS vs fs (k + 1)).flatMap vg) := by
                          rw [HSU.out, ← List.append_assoc, flat_one]
                          exact hown5
                        have HW5 := Lib.hid (by first | exact hQ.putV hge (fun p hp => hBS p hp) hgrow hown6 | exact hQ.drew.putV hge (fun p hp => hBS p hp) hgrow hown6)
                        clear k0 f0 k0' f0' k3 k5 f5 hQM5 hgrow hown5 hown6 hat hlt5 hb1 hqz hop hQ hQO HSU HVP
                        go_wp2_with fail
                        go_meet
                        exact ⟨rfl, _, HW5.out⟩
                    case rest =>
                      obtain ⟨rfl, v', hw⟩ := hcut
                      obtain ⟨nv, hnv⟩ : ∃ n, n = vs.length + Z.length + (k + 1) := ⟨_, rfl⟩
                      obtain ⟨lv, hlv⟩ : ∃ l, l = (vpS vs fs vs.length ++ epS vs fs Z ++ fpS vs fs (k + 1)).flatMap vg := ⟨_, rfl⟩
                      rw [← hnv, ← hlv] at hw
                      have HW := Lib.hid hw
                      have HNV := Lib.hid (And.intro hnv hlv)
                      have HPS0 : Hid (ps.map Prod.snd = qdTo vs.length Z fs k ++ qdF vs.length Z f k 0) := Lib.hid (by rw [HSN.out]; simp [qdF])
                      have e1 := wrap_in (a := (vs.length : Int) + (Z.length : Int)) (by omega)
                      have e2 := wrap_in (a := (vs.length : Int) + (Z.length : Int) + (k : Int)) (by omega)
                      clear hnv hlv hw hQ hqz hop HVP HSU hi9 hz90 hz91 hz92 hc'
                      go_wp2_with fail
                      go_loopw [96] (fun i wi => ∃ (j : Nat) (u : Value) (qs : Lot), j ≤ 4 ∧ i = .int .i64 j ∧ qs.length = 4 * k + j ∧ qs.map Prod.snd = qdTo vs.length Z fs k ++ qdF vs.length Z f k j ∧ Way w w2 w2.heap.size [(w.heap.size + 1, [.slice none 0 0, .slice none 0 0]), (w.heap.size, [.slice A1 vs.length c1, .slice (some ⟨b, o, none⟩) fs.length c2])] v' u nv lv qs wi) (fun i _ => 4 - (intOf i).toNat)
                      case atStart => exact ⟨0, u, ps, by omega, rfl, by rw [HPL.out]; rfl, HPS0.out, HW.out⟩
                      case round =>
                        clear HW HPS0 HSN HPL
                        obtain ⟨j, u, qs, hj, rfl, hql, hsnd, hw⟩ := hrel
                        have HW := Lib.hid hw
                        have HPL := Lib.hid hql
                        have HS := Lib.hid hsnd
                        clear hw hsnd hql
                        by_cases hjl : j < 4
                        · have hjf : j < f.length := by rw [HF4.out]; exact hjl
                          obtain ⟨r1, hr1⟩ : ∃ r, r = (j + 1) % 4 := ⟨_, rfl⟩
                          obtain ⟨r3, hr3⟩ : ∃ r, r = (j + 3) % 4 := ⟨_, rfl⟩
                          have hr1f : r1 < f.length := by rw [HF4.out]; omega
                          have hr3f : r3 < f.length := by rw [HF4.out]; omega
                          obtain ⟨bf, of, rfl, hbf, hcf⟩ := HRF.out.at hjf
                          obtain ⟨_, _, ea, _, hcf1⟩ := HRF.out.at hr1f
                          simp only [Option.some.injEq, Addr.mk.injEq, and_true] at ea
                          obtain ⟨rfl, rfl⟩ := ea
                          obtain ⟨_, _, ea, _, hcf3⟩ := HRF.out.at hr3f
                          simp only [Option.some.injEq, Addr.mk.injEq, and_true] at ea
                          obtain ⟨rfl, rfl⟩ := ea
                          obtain ⟨x, hx⟩ : ∃ x, x = f[j] := ⟨_, rfl⟩
                          obtain ⟨y, hy⟩ : ∃ x, x = f[r1] := ⟨_, rfl⟩
                          obtain ⟨z, hz⟩ : ∃ x, x = f[r3] := ⟨_, rfl⟩
                          rw [← hx] at hcf
                          rw [← hy] at hcf1
                          rw [← hz] at hcf3
                          have hu1 : und (x, y) = und (stepAt f j) := by
                            unfold stepAt
                            rw [HF4.out, gd f j 0 hjf, ← hr1, gd f r1 0 hr1f, hx, hy]
                          have hu3 : und (x, z) = und (stepAt f ((j + 3) % 4)) := by
                            rw [← last_step f j hjl HF4.out, gd f j 0 hjf, ← hr3, gd f r3 0 hr3f, hx, hz]
                          obtain ⟨ha1, hb1⟩ := plc_in (HSE.out j hjl)
                          obtain ⟨ha3, hb3⟩ := plc_in (HSE.out ((j + 3) % 4) (Nat.mod_lt _ (by omega)))
                          have HQD : Hid (qd vs.length Z f k j = [x, (vs.length : Int) + ((Z.idxOf (und (stepAt f j)) : Nat) : Int), (vs.length : Int) + (Z.length : Int) + (k : Int), (vs.length : Int) + ((Z.idxOf (und (stepAt f ((j + 3) % 4))) : Nat) : Int)]) := Lib.hid (by
                            unfold qd
                            rw [gd f j 0 hjf, hx]
                            simp only [Int.natCast_add])
                          obtain ⟨p1, hp1⟩ : ∃ p, p = Z.idxOf (und (stepAt f j)) := ⟨_, rfl⟩
                          obtain ⟨p3, hp3⟩ : ∃ p, p = Z.idxOf (und (stepAt f ((j + 3) % 4))) := ⟨_, rfl⟩
                          rw [← hp1] at ha1 hb1 HQD
                          rw [← hp3] at ha3 hb3 HQD
                          rw [← hu1] at ha1
                          rw [← hu3] at ha3
                          have HPC : ∀ W a, Below w2.heap.size w2 W → Calls Tryz.prog 21 #[.slice A6 Z.length c6, .int .i64 x, .int .i64 a] W fun e w' => e = .returned (.int .i64 (plc Z (und (x, a)))) ∧ Below W.heap.size W w' := fun W a hb => place_any A6 c6 Z x a W ((HRS.out.below hb).more hb.size) (by have := HZL.out; omega)
                          have h1 := HPC _ y HW.out.below
                          rw [ha1] at h1
                          have HPC3 := Lib.hid (fun W (hb : Below w2.heap.size w2 W) => by have h := HPC W z hb; rw [ha3] at h; exact h)
                          have q0 := (HW.out.held.below.cell (p := ⟨bf, of + j, none⟩) hbf).trans hcf
                          have q1 := (HW.out.held.below.cell (p := ⟨bf, of + r1, none⟩) hbf).trans hcf1
                          have HQ3 := Lib.hid (And.intro hbf hcf3)
                          have hzl := HZL.out
                          have hvl := HVL.out
                          have hrem1 : ((j : Int) + 1).tmod 4 = (r1 : Int) := rem_n j 1 r1 hr1
                          have hrem3 : ((j : Int) + 3).tmod 4 = (r3 : Int) := rem_n j 3 r3 hr3
                          have hr14 : r1 < 4 := by omega
                          have hr34 : r3 < 4 := by omega
                          have e3 := wrap_in (a := (j : Int) + 1) (by omega)
                          have e4 := wrap_in (a := (j : Int) + 3) (by omega)
                          have e5 := wrap_in (a := (r1 : Int)) (by omega)
                          have e6 := wrap_in (a := (r3 : Int)) (by omega)
                          have e7 := wrap_in (a := (vs.length : Int) + (p1 : Int)) (by omega)
                          have e8 := wrap_in (a := (vs.length : Int) + (p3 : Int)) (by omega)
                          have hri : (0 : Int) ≤ (r1 : Int) := by omega
                          have hri2 : (r1 : Int) < 4 := by omega
                          have hri3 : (0 : Int) ≤ (r3 : Int) := by omega
                          have hri4 : (r3 : Int) < 4 := by omega
                          have hp4 : qs.length ≤ 100 := by rw [HPL.out]; omega
                          clear hx hy hz hu1 hu3 hp1 hp3 ha1 ha3 hr1 hr3 hcf hcf1 hcf3 HPC hr1f hr3f hjf
                          go_wp2_with fail
                          refine h1.mono ?_
                          rintro e w3 ⟨rfl, hb3'⟩
                          have HW3 := Lib.hid (HW.out.later hb3')
                          have q3 := (HW3.out.held.below.cell (p := ⟨bf, of + r3, none⟩) HQ3.out.1).trans HQ3.out.2
                          have h3 := HPC3.out _ HW3.out.below
                          clear hb3' h1 HW q0 q1 HPC3 hbf
                          go_wp2_with fail
                          refine h3.mono ?_
                          rintro e w4 ⟨rfl, hb4⟩
                          have HW4 := Lib.hid (HW3.out.later hb4)
                          have hq4 := HW4.out
                          have hqz := hq4.2.2.2.2.2.2
                          have k1 := (hq4.held.box 0).c 1
                          have kf := (hq4.held.box 0).f 1
                          clear hb4 h3 HW3 q3 HQ3
                          go_wp2_with (at_builtin; (refine wpList_app1 (w4.alloc (.cells #[.int .i64 x, .int .i64 ((vs.length : Int) + (p1 : Int)), .int .i64 ((vs.length : Int) + (Z.length : Int) + (k : Int)), .int .i64 ((vs.length : Int) + (p3 : Int))] 3)) rfl _ _ 23 rfl (w2.heap.size + 1) 45 nilS 24 Tryz.underlying23 infoSS rfl _ _ _ (by rfl) (hq4.2.1.alloc _) (.slice (some ⟨w4.heap.size, 0, none⟩) 4 4) (by rw [World.size_alloc]; rfl) (by rfl) (by unfold maxLen; omega) (by omega) (by simp; omega) ?_))
                          intro v5 w5 ho5 hg5
                          have hob := own_block hq4.2.1
                          have hk5 : Mbox w5 w2.heap.size [v', u] := ((hq4.held.box 0).alloc _).keep (fun hl => hg5.block _ hl (fun c => by have := hob _ c.symm; omega))
                          have k5 := hk5.c 1
                          have f5 := hk5.f 1
                          have HW5 := Lib.hid (hq4.putU (f := [x, (vs.length : Int) + (p1 : Int), (vs.length : Int) + (Z.length : Int) + (k : Int), (vs.length : Int) + (p3 : Int)]) hge (fun p hp => hBS p hp) rfl hg5 ho5)
                          obtain ⟨A9, c9, rfl⟩ := own_shape ho5
                          clear ho5 hg5 hob hk5 hq4 k1 kf HW4 hqz
                          go_wp2_with fail
                          go_roundw
                          case rel => exact ⟨j + 1, _, _, by omega, by go_num, by rw [List.length_append, HPL.out]; rfl, by rw [List.map_append, HS.out, qdF_succ, ← List.append_assoc, HQD.out]; rfl, HW5.out⟩
                          case measure => simp [intOf]; omega
                        · have e : j = 4 := by omega
                          have HS4 : Hid (qs.map Prod.snd = qdTo vs.length Z fs (k + 1)) := Lib.hid (by rw [HS.out, e, HTS.out])
                          have HL4 : Hid (qs.length = 4 * (k + 1)) := Lib.hid (by rw [HPL.out, e]; omega)
                          have hw := HW.out
                          rw [HNV.out.1, HNV.out.2] at hw
                          have HW5 := Lib.hid hw
                          clear hw HW e
                          go_wp2_with fail
                          go_roundw
                          case rel => exact ⟨k + 1, v', u, qs, by omega, by go_num, HL4.out, HS4.out, HW5.out⟩
                          case measure => simp [intOf]; omega
                  · have e : k = fs.length := by omega
                    have hw := HW.out
                    have hpl : vs.length + Z.length + fs.length = (subP vs fs).length := by rw [subP_len, HZ.out]
                    have hfl : ps.length = (subF vs fs).length := by rw [subF_len, HPL.out, e]
                    have hsn : ps.map Prod.snd = subF vs fs := by rw [HSN.out, e, HSF.out]
                    rw [e, ← HP.out, hpl] at hw
                    obtain ⟨h1, h2, h3, h4, h5, h6, h7⟩ := hw
                    rw [hfl] at h2
                    obtain ⟨A8, c8, rfl⟩ := own_shape h1
                    obtain ⟨A9, c9, rfl⟩ := own_shape h2
                    have HO8 := Lib.hid (And.intro h1 (And.intro h2 (And.intro h3 h4)))
                    have HH := Lib.hid h5
                    have HSS := Lib.hid hsn
                    have k0 := (h5.box 0).c 0
                    have k1 := (h5.box 0).c 1
                    have r0 := (h5.box 1).c 0
                    have g0 := (h5.box 1).f 0
                    have r1 := (h5.box 1).c 1
                    have g1 := (h5.box 1).f 1
                    clear h1 h2 h3 h4 h5 h6 hsn hfl hpl HW HSN HPL e
                    go_wp2_with fail
                    have hgr : wr.grownBy ((wr.setCell ⟨w.heap.size + 1, 0, none⟩ (.slice A8 (subP vs fs).length c8)).setCell ⟨w.heap.size + 1, 1, none⟩ (.slice A9 (subF vs fs).length c9)) (some (w.heap.size + 1)) := gb_set (gb_set (gb_refl _ _) _) _
                    exact bodyPost_ret (v := .tuple #[mv A8 A9 (subP vs fs).length c8 (subF vs fs).length c9, .bool true]) (by simp [results, Tryz.results6, go_sem, r0, r1]) rfl (mesh_yes HSB.out ⟨A8, c8, A9, c9, ps, rfl, own_base (own_keep HO8.out.1 hgr (by omega)) (by omega), own_base (own_keep HO8.out.2.1 hgr (by omega)) (by omega), HSS.out, HO8.out.2.2.1.grown hgr (fun p hp c => by injection c with c; have := HO8.out.2.2.2 p hp; omega), fun p hp => by have := HO8.out.2.2.2 p hp; omega, bset2 HH.out.below (by omega)⟩)
      · have hd80 : decide ((vs.length : Int) + (Z.length : Int) + (fs.length : Int) > 80) = true := by simp; omega
        have HE : Hid (subOk vs fs = false) := Lib.hid (subOk_no fun h => h80 (by rw [HZ.out]; exact h.2.2))
        go_wp2_with fail
        exact bodyPost_ret (v := .tuple #[mv none none 0 0 0 0, .bool false]) (by simp [results, Tryz.results6, go_sem, r0, r1]) rfl (mesh_no HE.out ⟨none, 0, none, 0, [], rfl, World.ownsRow_nil _ _ _ _, World.ownsRow_nil _ _ _ _, rfl, LotT.nil _, (fun p h => by cases h), bset2 HT2.out.below (by omega)⟩)
    · have hd16 : decide ((fs.length : Int) > 16) = true := by simp; omega
      have HE : Hid (subOk vs fs = false) := Lib.hid (subOk_no fun h => h16 h.2.1)
      go_wp2_with fail
      exact bodyPost_ret (v := .tuple #[mv none none 0 0 0 0, .bool false]) (by simp [results, Tryz.results6, go_sem, r0, r1]) rfl (mesh_no HE.out ⟨none, 0, none, 0, [], rfl, World.ownsRow_nil _ _ _ _, World.ownsRow_nil _ _ _ _, rfl, LotT.nil _, (fun p h => by cases h), bset2 HT2.out.below (by omega)⟩)


end Go.Proofs.YtdefhepagpgnaaaGreat
