/- sortedPairs: the keys of a table, sorted; Edges. -/
import Derived.Test.YtdefhepagpgnaaaGreatProg
import Derived.Test.YtdefhepagpgnaaaGreatInts
import Derived.Test.YtdefhepagpgnaaaGreatVbox
import Derived.Test.YtdefhepagpgnaaaGreatVec
import Derived.Test.YtdefhepagpgnaaaGreatHeld
import Derived.Test.YtdefhepagpgnaaaGreatMem
import Derived.Test.YtdefhepagpgnaaaGreatRowC
import Derived.Test.YtdefhepagpgnaaaGreatIntS
import Derived.Test.YtdefhepagpgnaaaGreatVecS
import Derived.Test.YtdefhepagpgnaaaGreatSS
import Derived.Test.YtdefhepagpgnaaaGreatMkA
import Derived.Test.YtdefhepagpgnaaaGreatMkB
import Derived.Test.YtdefhepagpgnaaaGreatMkC
import Derived.Test.YtdefhepagpgnaaaGreatMkD
import Derived.Test.YtdefhepagpgnaaaGreatMF
import Derived.Test.YtdefhepagpgnaaaGreatMG
import Derived.Test.YtdefhepagpgnaaaGreatMH
import Derived.Test.YtdefhepagpgnaaaGreatMM
import Derived.Test.YtdefhepagpgnaaaGreatMN
import Derived.Test.YtdefhepagpgnaaaGreatMV
import Derived.Test.YtdefhepagpgnaaaGreatMW
import Derived.Test.YtdefhepagpgnaaaGreatMVF
import Derived.Test.YtdefhepagpgnaaaGreatMT
import Derived.Test.YtdefhepagpgnaaaGreatME
import Derived.Test.YtdefhepagpgnaaaGreatMSo
import Derived.WalkKit
import Derived.WalkSpells
import Derived.WalkLawsBesides
import Derived.Lib.Hide
import Derived.Deep.RegionHeld3
import Derived.Deep.QuietTactic
import Derived.BigQuiet
import Derived.Handy
import Derived.Deep.DeepCutAuto
import Derived.OwnWalk
import Derived.Maps.RangeWalk
import Derived.Maps.Ext
import Derived.Maps.OwnOps
import Derived.Maps.Views
import Derived.Maps.AppendAt
import Derived.WideKeyEntry
import Derived.DeepKeys5
import Derived.ChangeKeysEq
import Derived.WalkArith
import Derived.OpenShut
import Derived.Maps.RangeWalk
import Derived.Laws.IdiomRangeMap
import Derived.Deep.LoopGhost
namespace Go.Proofs.YtdefhepagpgnaaaGreat
open Go.RowKit Go.Maps Go.ChangeMaps


/-- block b is a map whose keys are the edges in Z -/
def KeysAre (w : World) (b n : Nat) (Z : List E2) : Prop :=
  ∃ D : DataW Value, w.ownsMap Tryz.prog 81 rawR b n D ∧ ∀ e, wfE e → has D (ek e) = decide (e ∈ Z)
theorem sameKey_ek {a b : E2} (ha : wfE a) (hb : wfE b) : (ek a).sameKey (ek b) = decide (a = b) := by
  by_cases h : a = b
  · subst h
    rw [WideAt.sameKey_self (ek_key a)]
    simp
  · cases hs : (ek a).sameKey (ek b)
    · simp [h]
    · exact absurd (ek_inj ha hb (WideAt.sameKey_eq hs)) h
theorem keyV_inj {a b : E2} (h : keyV a = keyV b) : a = b := by
  simp only [keyV, Value.agg.injEq, Array.mk.injEq, List.cons.injEq, Value.int.injEq, true_and, and_true] at h
  exact Prod.ext h.1 h.2
/-- the range over the edges is under way: those in L have come -/
def Going (wr : World) (b r n : Nat) (D : DataW Value) (Z L : List E2) (left : Lit → Bool) (cnt : Nat) : Prop :=
  wr.ranges Tryz.prog 81 rawR b r n D left cnt ∧ (∀ e, wfE e → left (ek e) = (decide (e ∈ Z) && !decide (e ∈ L))) ∧ L.Nodup ∧ (∀ e ∈ L, e ∈ Z) ∧ L.length + cnt ≤ n
theorem edOf_map {ps : Lot} {L : List E2} (h : ps.map Prod.snd = L.map pr) : ps.map edOf = L ∧ ∀ p ∈ ps, p.2 = pr (edOf p) := by
  have hm : ps.map edOf = L := by
    have h1 : ps.map edOf = (ps.map Prod.snd).map fun l => ((l.getD 0 0, l.getD 1 0) : E2) := by rw [List.map_map]; rfl
    rw [h1, h, List.map_map]
    conv => rhs; rw [← List.map_id L]
    rfl
  refine ⟨hm, fun p hp => ?_⟩
  have h1 : p.2 ∈ ps.map Prod.snd := List.mem_map.2 ⟨p, hp, rfl⟩
  rw [h] at h1
  obtain ⟨e, _, he⟩ := List.mem_map.1 h1
  unfold edOf
  rw [← he]
  rfl
set_option maxRecDepth 100000 in
set_option maxHeartbeats 8000000 in
theorem sortedPairs_any (b n : Nat) (Z : List E2) (w : World) (hK : KeysAre w b n Z) (hZ : UpE Z) (hwf : ∀ e ∈ Z, wfE e) (hn : n ≤ 1048576) :
    Calls Tryz.prog 57 #[.map (some b)] w (SSOut w (Z.map pr)) := by
  obtain ⟨D, hown, hhas⟩ := hK
  have hbl := hown.lt
  have HZ := Lib.hid hZ
  have HWF := Lib.hid hwf
  have HHAS := Lib.hid hhas
  have HSZ := Lib.hid hown.size_le
  have HNIL := Lib.hid (World.ownsRow_nil w (w.heap.size + 1) 45 1)
  clear hZ hwf hhas
  go_enter Tryz.func57, Tryz.ntmps57
  go_wp2_with (at_range; refine wpList_range_own _ rfl _ 72 rfl 81 45 mKeyed Tryz.underlying72 rawR b n _ rfl hown ?_; intro w0 hrg0 hg0 hs0)
  have hb0 : Below w.heap.size w w0 := below_own (Below.refl _ w) hg0 (Nat.le_refl _) (fun k h => by cases h)
  have HG0 : Hid (Going w0 b w.heap.size n D Z [] (has D) (Maps.size D)) := Lib.hid ⟨hrg0, fun e he => by rw [HHAS.out e he]; simp, List.nodup_nil, fun e h => (by cases h), by simpa using HSZ.out⟩
  have HO0 : Hid (w0.ownsRow (w.heap.size + 1) 45 1 (.slice none 0 0) 0 (([] : Lot).map hdr)) := Lib.hid (World.ownsRow_nil _ _ _ _)
  have HB0 := Lib.hid hb0
  clear hown hrg0 hg0 hs0 hb0 HNIL HSZ
  go_frame
  go_loopw [3] (fun v wr => ∃ (left : Lit → Bool) (cnt : Nat) (L : List E2) (ps : Lot), Going wr b w.heap.size n D Z L left cnt ∧ ps.map Prod.snd = L.map pr ∧ wr.ownsRow (w.heap.size + 1) 45 1 v ps.length (ps.map hdr) ∧ LotT wr ps ∧ (∀ p ∈ ps, w.heap.size < p.1) ∧ Below w.heap.size w wr)
    (fun _ wr => wr.rangeLeft b w.heap.size)
  case atStart => exact ⟨_, _, [], [], HG0.out, rfl, HO0.out, LotT.nil _, fun p hp => (by cases hp), HB0.out⟩
  case round =>
    clear HG0 HO0 HB0
    obtain ⟨left, cnt, L, ps, ⟨hrg, hleft, hnd, hsub, hlen⟩, hps, hown, hlots, hgt, hb⟩ := hrel
    have HL := Lib.hid hleft
    have HND := Lib.hid hnd
    have HSUB := Lib.hid hsub
    have HPS := Lib.hid hps
    have HO := Lib.hid hown
    have HLO := Lib.hid hlots
    have HGT := Lib.hid hgt
    have HB := Lib.hid hb
    have HLEQ : Hid (wr.rangeLeft b w.heap.size = cnt) := Lib.hid hrg.left_eq
    have HPL : Hid (ps.length = L.length) := Lib.hid (by have := congrArg List.length hps; simpa using this)
    clear hleft hnd hsub hps hown hlots hgt hb
    go_wp2_with (at_next; refine wpList_next_ranges _ rfl _ rfl 81 mKeyed rawR id id (fun key _ _ => ⟨key, rfl⟩) (fun v _ _ => ⟨v, rfl⟩) b w.heap.size n _ _ _ rfl hrg ?_ ?_)
    · intro h0 hl0
      have HZL : Hid (∀ e, e ∈ Z ↔ e ∈ L) := Lib.hid fun e => ⟨fun he => by
        have h1 := HL.out e (HWF.out e he)
        rw [hl0 (ek e)] at h1
        simpa [he] using h1, HSUB.out e⟩
      clear hrg hl0
      obtain ⟨hed, hpr⟩ := edOf_map HPS.out
      by_cases h1 : 0 < ps.length
      · obtain ⟨A5, c5, e5⟩ := own_shape HO.out
        have ho5 := HO.out
        rw [e5] at ho5
        obtain ⟨g5, rfl⟩ : ∃ g, A5 = some ⟨g, 0, none⟩ := by
          rcases ho5.2 with ⟨h, h0⟩ | ⟨g, cap, cur, h, _⟩
          · omega
          · injection h with h; exact ⟨g, h⟩
        have hS := sortPairs_any (w.heap.size + 1) g5 c5 ps wr hpr (by rw [hed]; exact HND.out) ho5 HLO.out h1 (by have := HPL.out; omega)
        have hge := own_block ho5 g5 rfl
        have HE5 := Lib.hid e5
        subst e5
        have HED := Lib.hid hed
        clear hed hpr ho5 HE5
        go_wp2_with fail
        refine hS.mono ?_
        rintro e w2 ⟨rfl, qs, hq, hup, ho2, hl2, hg2⟩
        have HFIN : Hid (SSOut w (Z.map pr) (.returned (.slice (some ⟨g5, 0, none⟩) ps.length c5)) w2) := Lib.hid ⟨_, qs, rfl, by rw [hq.length_eq]; exact own_base ho2 (by omega), by
          have hz : qs.map edOf = Z := upE_eq hup HZ.out fun e => by
            rw [HZL.out e, ← HED.out]
            exact (hq.map edOf).mem_iff
          have hq2 := fun p hp => (edOf_map HPS.out).2 p (hq.mem_iff.1 hp)
          rw [← hz, List.map_map]
          exact List.map_congr_left fun p hp => hq2 p hp, hl2, fun p hp => Nat.le_of_lt (HGT.out p (hq.mem_iff.1 hp)), gb_below hg2 HB.out.size (by omega) |> HB.out.trans⟩
        clear hS hq hup ho2 hl2 hg2 HO
        go_wp2_with fail
        go_ret
        exact HFIN.out
      · have hps0 : ps = [] := List.eq_nil_of_length_eq_zero (by omega)
        subst hps0
        obtain ⟨A5, c5, e5⟩ := own_shape HO.out
        have hS := Tryz.slices_SortFunc_none (α := Nat) A5 c5 (.func (.func 81) #[] #[]) wr
        have ho5 := HO.out
        have HFIN : Hid (SSOut w (Z.map pr) (.returned u3) wr) := Lib.hid ⟨_, [], rfl, own_base HO.out (by omega), by
          have hL : L = [] := List.eq_nil_of_length_eq_zero (by have := HPL.out; simpa using this.symm)
          have hz : Z = [] := List.eq_nil_iff_forall_not_mem.2 fun e he => by have := (HZL.out e).1 he; rw [hL] at this; cases this
          rw [hz]; rfl, LotT.nil _, fun p hp => (by cases hp), HB.out⟩
        simp only [List.length_nil] at e5
        subst e5
        clear hed hpr HO ho5
        go_wp2_with fail
        refine hS.mono ?_
        rintro e w2 ⟨rfl, rfl⟩
        clear hS
        go_wp2_with fail
        go_ret
        exact HFIN.out
    · intro x c kl yd yp w1 cnt1 hkey hlx hv hat hrg1 hlt hg1 hs1 hen
      obtain ⟨ed, hwf, hx, hkl⟩ := keyOf_edge_inv hkey
      try simp only [id] at hx
      subst hx
      subst hkl
      have HEN : Hid (ed ∈ Z ∧ ed ∉ L) := Lib.hid (by have := HL.out ed hwf; rw [hlx] at this; simpa using this.symm)
      have HL1 : Hid (∀ e, wfE e → (left (ek e) && !(ek e).sameKey (ek ed)) = (decide (e ∈ Z) && !decide (e ∈ L ++ [ed]))) := Lib.hid fun e he => by
        rw [HL.out e he, sameKey_ek he hwf]
        by_cases h : e = ed <;> simp [h]
      have HB1 : Hid (Below w.heap.size w w1) := Lib.hid (below_own HB.out hg1 HB.out.size (fun k h => by injection h with h; omega))
      have HO1 := Lib.hid (own_keep HO.out hg1 (by omega))
      have HLO1 := Lib.hid (HLO.out.grown hg1 (fun p hp e => by have := HGT.out p hp; injection e with e; omega))
      have HRG := Lib.hid hrg1
      have hwl : w.heap.size < w1.heap.size := hrg1.lt
      clear hkey hlx hv hat hrg1 hg1 hs1 HB HO HLO hrg
      have HGT1 := HGT
      obtain ⟨p, q⟩ := ed
      have HX : Hid (LotT (((w1.alloc (.cells #[.int .i64 p, .int .i64 q] 81)).alloc (.cells #[.int .i64 p, .int .i64 q] 3))) (ps ++ [(w1.heap.size + 1, pr (p, q))])) := Lib.hid (by
        have h := (HLO1.out.alloc (.cells #[.int .i64 p, .int .i64 q] 81)).new (pr (p, q)) #[.int .i64 p, .int .i64 q] rfl
        simpa using h)
      have HO2 : Hid (((w1.alloc (.cells #[.int .i64 p, .int .i64 q] 81)).alloc (.cells #[.int .i64 p, .int .i64 q] 3)).ownsRow (w.heap.size + 1) 45 1 u3 ps.length (ps.map hdr)) := Lib.hid ((HO1.out.alloc _).alloc _)
      have HRG2 := Lib.hid ((HRG.out.alloc (.cells #[.int .i64 p, .int .i64 q] 81)).alloc (.cells #[.int .i64 p, .int .i64 q] 3))
      have HB2 : Hid (Below w.heap.size w ((w1.alloc (.cells #[.int .i64 p, .int .i64 q] 81)).alloc (.cells #[.int .i64 p, .int .i64 q] 3))) := Lib.hid ((HB1.out.alloc HB1.out.size _).alloc (by simp; have := HB1.out.size; omega) _)
      clear HO1 HLO1 HRG HB1
      go_wp2_with (at_builtin; refine wpList_app1 _ rfl _ _ 23 rfl (w.heap.size + 1) 45 nilS 24 Tryz.underlying23 infoSS rfl _ _ _ (by rfl) HO2.out (.slice (some ⟨w1.heap.size + 1, 0, none⟩) 2 2) (by show Value.slice (some ⟨w1.heap.size + 1 + 1, 0, none⟩) 1 1 = _; simp) (by rfl) (by unfold maxLen; have := HPL.out; omega) (by have := HPL.out; omega) (by simp; omega) ?_)
      intro v5 w5 ho5 hg5
      have hge : ∀ k, u3.ownBlock = some k → w.heap.size + 1 ≤ k := own_block HO2.out
      have HRG5 := Lib.hid (HRG2.out.kept hg5 (fun c => by have := hge b c.symm; omega) (fun c => by have := hge _ c.symm; omega))
      have HLO5 := Lib.hid (HX.out.row HO2.out hg5)
      have HB5 := Lib.hid (below_own HB2.out hg5 HB2.out.size (fun k hk => by have := hge k hk; omega))
      have HO5 : Hid (w5.ownsRow (w.heap.size + 1) 45 1 v5 (ps ++ [(w1.heap.size + 1, pr (p, q))]).length ((ps ++ [(w1.heap.size + 1, pr (p, q))]).map hdr)) := Lib.hid (by simpa [hdr, pr] using ho5)
      have HLEQ5 : Hid (w5.rangeLeft b w.heap.size = cnt1) := Lib.hid HRG5.out.left_eq
      clear ho5 hg5 HO2 HX HRG2 HB2 hge
      go_wp2_with fail
      go_roundw
      case rel =>
        refine ⟨_, cnt1, L ++ [(p, q)], ps ++ [(w1.heap.size + 1, pr (p, q))], ⟨HRG5.out, HL1.out, ?_, ?_, ?_⟩, ?_, HO5.out, HLO5.out, ?_, HB5.out⟩
        · rw [List.nodup_append]
          exact ⟨HND.out, by simp, fun a ha c hc he => HEN.out.2 (by rw [List.mem_singleton] at hc; rw [← hc, ← he]; exact ha)⟩
        · intro e he
          rcases List.mem_append.1 he with h | h
          · exact HSUB.out e h
          · rw [List.mem_singleton] at h; rw [h]; exact HEN.out.1
        · simp; omega
        · rw [List.map_append, List.map_append, HPS.out]; rfl
        · intro x hx
          rcases List.mem_append.1 hx with h | h
          · exact HGT.out x h
          · rw [List.mem_singleton] at h; rw [h]; simp; omega
      case measure => rw [HLEQ5.out, HLEQ.out]; exact hlt


end Go.Proofs.YtdefhepagpgnaaaGreat
