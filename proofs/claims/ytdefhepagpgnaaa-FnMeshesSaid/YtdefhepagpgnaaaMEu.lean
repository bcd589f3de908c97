/- Contracts of EulerCharacteristic, in the program and in its model. -/
import Derived.Test.YtdefhepagpgnaaaProg
import Derived.Test.YtdefhepagpgnaaaInts
import Derived.Test.YtdefhepagpgnaaaVbox
import Derived.Test.YtdefhepagpgnaaaVec
import Derived.Test.YtdefhepagpgnaaaHeld
import Derived.Test.YtdefhepagpgnaaaMem
import Derived.Test.YtdefhepagpgnaaaRowC
import Derived.Test.YtdefhepagpgnaaaIntS
import Derived.Test.YtdefhepagpgnaaaVecS
import Derived.Test.YtdefhepagpgnaaaSS
import Derived.Test.YtdefhepagpgnaaaMkA
import Derived.Test.YtdefhepagpgnaaaMkB
import Derived.Test.YtdefhepagpgnaaaMkC
import Derived.Test.YtdefhepagpgnaaaMkD
import Derived.Test.YtdefhepagpgnaaaMF
import Derived.Test.YtdefhepagpgnaaaMG
import Derived.Test.YtdefhepagpgnaaaMH
import Derived.Test.YtdefhepagpgnaaaMM
import Derived.Test.YtdefhepagpgnaaaMN
import Derived.Test.YtdefhepagpgnaaaMV
import Derived.Test.YtdefhepagpgnaaaMW
import Derived.Test.YtdefhepagpgnaaaMVF
import Derived.Test.YtdefhepagpgnaaaMT
import Derived.Test.YtdefhepagpgnaaaME
import Derived.Test.YtdefhepagpgnaaaMSo
import Derived.Test.YtdefhepagpgnaaaMSP
import Derived.Test.YtdefhepagpgnaaaMP
import Derived.Test.YtdefhepagpgnaaaMEF
import Derived.Test.YtdefhepagpgnaaaMEd
import Derived.Test.YtdefhepagpgnaaaMLw
import Derived.Test.YtdefhepagpgnaaaMNb
import Derived.WalkKit
import Derived.WalkSpells
import Derived.WalkLawsBesides
import Derived.Lib.Hide
import Derived.Deep.RegionHeld3
import Derived.Deep.QuietTactic
import Derived.BigQuiet
import Derived.Handy
import Derived.Deep.DeepCutAuto
import Derived.OwnWalk
import Derived.Maps.RangeWalk
import Derived.Maps.Ext
import Derived.Maps.OwnOps
import Derived.Maps.Views
import Derived.Maps.AppendAt
import Derived.WideKeyEntry
import Derived.DeepKeys5
import Derived.ChangeKeysEq
import Derived.WalkArith
import Derived.OpenShut
namespace Go.Proofs.Ytdefhepagpgnaaa
open Go.RowKit Go.Maps Go.ChangeMaps


theorem len_sub {α : Type} [DecidableEq α] : ∀ {l m : List α}, l.Nodup → (∀ x ∈ l, x ∈ m) → l.length ≤ m.length
  | [], m, _, _ => Nat.zero_le _
  | a :: l, m, h, hs => by
    have h' := List.nodup_cons.1 h
    have ha := hs a List.mem_cons_self
    have h1 := len_sub (l := l) (m := m.erase a) h'.2 fun x hx => (List.mem_erase_of_ne (fun e => h'.1 (by rw [← e]; exact hx))).2 (hs x (List.mem_cons_of_mem _ hx))
    have h2 := List.length_erase_of_mem ha
    have h3 := List.length_pos_of_mem ha
    simp only [List.length_cons]
    omega
theorem len_same {α : Type} [DecidableEq α] {l m : List α} (h1 : l.Nodup) (h2 : m.Nodup) (h : ∀ x, x ∈ l ↔ x ∈ m) : l.length = m.length :=
  Nat.le_antisymm (len_sub h1 fun x hx => (h x).1 hx) (len_sub h2 fun x hx => (h x).2 hx)
theorem pre_list {α : Type} {f : α → Lit} {wf : α → Prop} {H : Type} : ∀ {es : List (Lit × DataW H)}, (∀ p ∈ es, ∃ a, wf a ∧ p.1 = f a) → ∃ zs : List α, es.map Prod.fst = zs.map f ∧ ∀ a ∈ zs, wf a
  | [], _ => ⟨[], rfl, fun a h => by cases h⟩
  | p :: es, h => by
    obtain ⟨a, ha, he⟩ := h p List.mem_cons_self
    obtain ⟨zs, h1, h2⟩ := pre_list (es := es) fun q hq => h q (List.mem_cons_of_mem _ hq)
    exact ⟨a :: zs, by rw [List.map_cons, List.map_cons, he, h1], fun b hb => by
      rcases List.mem_cons.1 hb with rfl | hb
      · exact ha
      · exact h2 b hb⟩
/-- how many entries a map has, by its keys -/
theorem size_of_keys {α : Type} [DecidableEq α] {P : Program} {k : TypeId} {R : Value → Option (DataW Value × List MemPlace)} {w : World} {b n : Nat} {D : DataW Value} (f : α → Lit) (wf : α → Prop) (hinv : ∀ key kl, keyOf P k key = some kl → ∃ a, wf a ∧ kl = f a)
    (hinj : ∀ a c, wf a → wf c → f a = f c → a = c) (hkl : ∀ a, WideAt.IsKeyLit (f a)) (K : Keyed P k) (hown : w.ownsMap P k R b n D) (Z : List α) (hZ : Z.Nodup) (hwf : ∀ a ∈ Z, wf a) (hhas : ∀ a, wf a → has D (f a) = decide (a ∈ Z)) : Maps.size D = Z.length := by
  obtain ⟨es, rfl, hap, _⟩ := hown.entries K
  have hk : ∀ p ∈ es, ∃ a, wf a ∧ p.1 = f a := fun p hp => by
    obtain ⟨es1, clock, hb, F, _, hD⟩ := hown
    have hD : es = (es1.toList.map (WideElems.rg P k R)).foldr DataW.insert [] := by injection hD
    rw [hD] at hp
    obtain ⟨v, hv⟩ := fit_keys F p (mem_sorted.1 hp)
    exact hinv v p.1 hv
  obtain ⟨zs, h1, h2⟩ := pre_list hk
  have hnd : zs.Nodup := by
    have h3 : (zs.map f).Pairwise (· ≠ ·) := by rw [← h1]; exact List.pairwise_map.2 hap
    exact (List.pairwise_map.1 h3).imp fun h e => h (by rw [e])
  have hl : Maps.size (DataW.map es) = zs.length := by
    rw [size_eq]
    have := congrArg List.length h1
    simpa using this
  rw [hl]
  refine len_same hnd hZ fun a => ⟨fun ha => ?_, fun ha => ?_⟩
  · have hm : f a ∈ es.map Prod.fst := by rw [h1]; exact List.mem_map.2 ⟨a, ha, rfl⟩
    obtain ⟨p, hp, hpa⟩ := List.mem_map.1 hm
    have : has (DataW.map es) (f a) = true := List.any_eq_true.2 ⟨p, hp, by rw [hpa]; exact WideAt.sameKey_self (hkl a)⟩
    rw [hhas a (h2 a ha)] at this
    simpa using this
  · have h3 : has (DataW.map es) (f a) = true := by rw [hhas a (hwf a ha)]; simpa using ha
    obtain ⟨p, hp, hs⟩ := List.any_eq_true.1 (show es.any (fun p => p.1.sameKey (f a)) = true from h3)
    have h4 : p.1 ∈ zs.map f := by rw [← h1]; exact List.mem_map.2 ⟨p, hp, rfl⟩
    obtain ⟨c, hc, hcp⟩ := List.mem_map.1 h4
    have h5 : f c = f a := hcp.trans (WideAt.sameKey_eq hs)
    have h6 : has (DataW.map es) (f c) = true := by rw [h5]; exact h3
    have hca : a ∈ Z := ha
    -- c and a are one
    exact Classical.byContradiction fun hna => by
      have hcz : c ∈ Z := by
        rw [hhas c (h2 c hc)] at h6
        simpa using h6
      exact hna (by
        have : c = a := hinj c a (h2 c hc) (hwf a ha) h5
        rw [← this]; exact hc)
/-- a map to bools, keyed by integers; the keys are those in L -/
def UsedAt (w : World) (b n : Nat) (L : List Int) : Prop :=
  ∃ D : DataW Value, w.ownsMap Try.prog 3 rawR b n D ∧ IsMap D ∧ ∀ x, wfI x → has D (.int .i64 x) = decide (x ∈ L)
theorem iKeyed : Keyed Try.prog 3 := int_keyed Try.underlying3
theorem UsedAt.made (w : World) : UsedAt (w.alloc (.map #[] 0)) w.heap.size 0 [] := ⟨.map [], World.ownsMap_made _ _ _ _, isMap_empty, fun _ _ => by simp [has]⟩
theorem UsedAt.kept {w w' : World} {row : Option Nat} {b n : Nat} {L : List Int} (h : UsedAt w b n L) (hg : w.grownBy w' row) (hne : some b ≠ row) : UsedAt w' b n L := by
  obtain ⟨D, h1, h2⟩ := h
  exact ⟨D, h1.kept hg hne, h2⟩
theorem UsedAt.later {w w' : World} {b n : Nat} {L : List Int} (h : UsedAt w b n L) (hb : Below w.heap.size w w') : UsedAt w' b n L := h.kept (gb_of_below hb (row := none)) (by simp)
theorem UsedAt.lt {w : World} {b n : Nat} {L : List Int} (h : UsedAt w b n L) : b < w.heap.size := by
  obtain ⟨D, h1, _⟩ := h
  exact h1.lt
theorem UsedAt.put {w : World} {b n : Nat} {L : List Int} (h : UsedAt w b n L) (hn : n < maxLen) (x : Int) (hx : wfI x) :
    ∃ w', (Instr.mapUpdate 69 (.map (some b)) (.int .i64 x) (.bool true)).run Try.prog w = .ok () w' ∧ UsedAt w' b (n + 1) (L ++ [x]) ∧ w.grownBy w' (some b) := by
  obtain ⟨D, h1, h2, h3⟩ := h
  obtain ⟨w', hr, ho, hg⟩ := h1.update iKeyed Try.underlying69 hn (val := .bool true) (keyOf_int_mk Try.underlying3 hx) (d := .held (.bool true)) (ps := []) rfl
  refine ⟨w', hr, ⟨_, ho, h2.put _ _, fun y hy => ?_⟩, hg⟩
  by_cases c : y = x
  · subst c
    rw [has_put_same h2 (show WideAt.IsKeyLit (.int .i64 y) from trivial)]
    simp
  · rw [has_put_other (fun h => c (by injection h)), h3 y hy]
    simp [c]
theorem UsedAt.len {w : World} {b n : Nat} {L : List Int} (h : UsedAt w b n L) (Z : List Int) (hZ : Z.Nodup) (hwf : ∀ x ∈ Z, wfI x) (hm : ∀ x, wfI x → (x ∈ L ↔ x ∈ Z)) (ty : TypeId) : (Builtin.len_ #[69] ty #[.map (some b)]).run Try.prog w = .ok (.int .i64 (Z.length : Nat)) w := by
  obtain ⟨D, h1, h2, h3⟩ := h
  have := h1.len Try.underlying69 ty
  rw [size_of_keys (fun x : Int => Lit.int .i64 x) wfI (fun key kl hk => by obtain ⟨x, _, h1, h2⟩ := keyOf_int_inv Try.underlying3 hk; exact ⟨x, h2, h1⟩) (fun a c _ _ h => by injection h) (fun _ => trivial) iKeyed h1 Z hZ hwf (fun x hx => by rw [h3 x hx]; simp only [hm x hx])] at this
  exact this
theorem TabOf.len {w : World} {base b n : Nat} {S : List (E2 × Int)} (h : TabOf w base b n S) (Z : List E2) (hZ : Z.Nodup) (hwf : ∀ e ∈ Z, wfE e) (hm : ∀ e, e ∈ Z ↔ e ∈ S.map Prod.fst) (ty : TypeId) : (Builtin.len_ #[64] ty #[.map (some b)]).run Try.prog w = .ok (.int .i64 (Z.length : Nat)) w := by
  obtain ⟨D, h1, h2⟩ := h.keys hm
  have := h1.len Try.underlying64 ty
  rw [size_of_keys ek wfE (fun key kl hk => by obtain ⟨e, h1, _, h2⟩ := keyOf_edge_inv hk; exact ⟨e, h1, h2⟩) (fun a c h1 h2 h => ek_inj h1 h2 h) ek_key mKeyed h1 Z hZ hwf (fun e he => (h2 e he).trans (decide_eq_decide.2 Iff.rfl))] at this
  exact this

theorem flat_succ (fs : List (List Int)) (k : Nat) (h : k < fs.length) : (fs.take (k + 1)).flatten = (fs.take k).flatten ++ fs[k] := by
  rw [List.take_succ_eq_append_getElem h, List.flatten_append]
  simp
/-- the vertices that a face holds, among the first k -/
def usedTo (fs : List (List Int)) (k : Nat) : List Int := ((List.range k).map fun i => ((i : Nat) : Int)).filter fun v => decide (v ∈ fs.flatten)
def usedL (vs : List V3) (fs : List (List Int)) : List Int := usedTo fs vs.length
theorem usedTo_succ (fs : List (List Int)) (k : Nat) : usedTo fs (k + 1) = usedTo fs k ++ (if decide (((k : Nat) : Int) ∈ fs.flatten) then [((k : Nat) : Int)] else []) := by
  unfold usedTo
  rw [List.range_succ, List.map_append, List.filter_append]
  congr 1
  simp only [List.map_cons, List.map_nil, List.filter_cons, List.filter_nil]
theorem usedTo_len (fs : List (List Int)) (k : Nat) : (usedTo fs k).length ≤ k := by
  unfold usedTo
  refine Nat.le_trans (List.length_filter_le _ _) (by simp)
theorem usedL_nodup (vs : List V3) (fs : List (List Int)) : (usedL vs fs).Nodup := by
  unfold usedL usedTo
  exact (List.pairwise_map.2 (List.nodup_range.imp fun h e => h (by omega))).filter _
theorem face_in {vs : List V3} {fs : List (List Int)} (hok : ∀ f ∈ fs, okFace vs.length f = true) : ∀ x ∈ fs.flatten, 0 ≤ x ∧ x < vs.length := by
  intro x hx
  obtain ⟨f, hf, hx⟩ := List.mem_flatten.1 hx
  obtain ⟨i, hi, rfl⟩ := List.getElem_of_mem hx
  have h1 := (okFace_at (hok f hf)).2 i hi
  unfold okAt at h1
  rw [gd f i 0 hi] at h1
  simp only [Bool.and_eq_true, decide_eq_true_eq] at h1
  exact ⟨h1.1.1, h1.1.2⟩
theorem usedL_iff {vs : List V3} {fs : List (List Int)} (hok : ∀ f ∈ fs, okFace vs.length f = true) (x : Int) : x ∈ fs.flatten ↔ x ∈ usedL vs fs := by
  unfold usedL usedTo
  rw [List.mem_filter, decide_eq_true_eq]
  constructor
  · intro h
    obtain ⟨h0, h1⟩ := face_in hok x h
    exact ⟨List.mem_map.2 ⟨x.toNat, List.mem_range.2 (by omega), by omega⟩, h⟩
  · exact fun h => h.2
theorem usedL_wf {vs : List V3} {fs : List (List Int)} (h80 : vs.length ≤ 80) : ∀ x ∈ usedL vs fs, wfI x := by
  intro x hx
  unfold usedL usedTo at hx
  obtain ⟨h1, _⟩ := List.mem_filter.1 hx
  obtain ⟨i, hi, rfl⟩ := List.mem_map.1 h1
  have := List.mem_range.1 hi
  exact wfI_of (by omega) (by omega)
/-- the Euler characteristic of a mesh -/
def eulerI (vs : List V3) (fs : List (List Int)) : Int := if okMesh vs fs then ((usedL vs fs).length : Int) - ((edL vs fs).length : Int) + (fs.length : Int) else 0
theorem vertF_iff {vs : List V3} {fs : List (List Int)} (hok : okMesh vs fs = true) (v : Int) : 0 < (vertF vs fs v).length ↔ v ∈ fs.flatten := by
  unfold vertF vF
  rw [hok, if_pos rfl, List.length_map]
  constructor
  · intro h
    obtain ⟨i, hi⟩ := List.exists_mem_of_length_pos h
    obtain ⟨h1, h2⟩ := List.mem_filter.1 hi
    have h1 := List.mem_range.1 h1
    rw [gd fs i [] h1] at h2
    exact List.mem_flatten.2 ⟨fs[i], List.getElem_mem h1, List.contains_iff_mem.1 h2⟩
  · intro h
    obtain ⟨f, hf, hv⟩ := List.mem_flatten.1 h
    obtain ⟨i, hi, rfl⟩ := List.getElem_of_mem hf
    exact List.length_pos_of_mem (List.mem_filter.2 ⟨List.mem_range.2 hi, by rw [gd fs i [] hi]; exact List.contains_iff_mem.2 hv⟩)
set_option maxRecDepth 100000 in
set_option maxHeartbeats 8000000 in
theorem euler_any (A1 A2 : Option Addr) (c1 c2 : Nat) (vs : List V3) (fs : List (List Int)) (w : World) (hR : MeshIn w A1 A2 vs fs) (hf : MeshFits vs fs) :
    Calls Try.prog 13 #[mv A1 A2 vs.length c1 fs.length c2] w fun e w' => e = .returned (.int .i64 (eulerI vs fs)) ∧ Below w.heap.size w w' := by
  have HIN := Lib.hid hR
  have HF := Lib.hid hf
  have HT0 : Held w (w.alloc (.cells #[.slice A1 vs.length c1, .slice A2 fs.length c2] 26)) [(w.heap.size, [.slice A1 vs.length c1, .slice A2 fs.length c2])] := by
    have h := (Held.nil w).new #[.slice A1 vs.length c1, .slice A2 fs.length c2] 26
    simpa only [World.size_alloc] using h
  have HI : ∀ {bs : List (Nat × List Value)} (W : World), Held w W bs → MeshIn W A1 A2 vs fs := fun W h => ⟨(HIN.out.1.below h.below).more h.size, (HIN.out.2.below h.below).more h.size⟩
  have HT := Lib.hid HT0
  clear hR hf HT0
  have HV := isValidMesh_any A1 A2 c1 c2 vs fs _ (HI _ HT.out) HF.out
  have HET : ∀ W, Held w W [(w.heap.size, [.slice A1 vs.length c1, .slice A2 fs.length c2])] → Calls Try.prog 40 #[mv A1 A2 vs.length c1 fs.length c2] W (TabOut W (tabL vs fs)) := fun W h => edgeTable_any A1 A2 c1 c2 vs fs _ (HI _ h) HF.out
  have c0' := (HT.out.box 0).c 0
  have c1' := (HT.out.box 0).c 1
  have HEU : Hid (eulerI vs fs = if okMesh vs fs then ((usedL vs fs).length : Int) - ((edL vs fs).length : Int) + (fs.length : Int) else 0) := Lib.hid rfl
  have HETH := Lib.hid HET
  obtain ⟨ok, hok⟩ : ∃ ok, ok = okMesh vs fs := ⟨_, rfl⟩
  have HOK := Lib.hid hok
  rw [← hok] at HV HEU
  clear hok HET
  have hmm := @run_makeMap Try.prog
  go_enter Try.func13, Try.ntmps13
  go_wp2_with fail
  refine HV.mono ?_
  rintro e w1 ⟨rfl, hb1⟩
  have HT1 := Lib.hid (HT.out.later hb1)
  clear hb1 HT HV c0' c1'
  cases ok
  · have HR : Hid (eulerI vs fs = 0) := Lib.hid (by rw [HEU.out]; rfl)
    go_wp2_with fail
    go_ret
    exact ⟨ret_int HR.out.symm, HT1.out.below⟩
  · have hok := ok_all HOK.out.symm
    have hlen := hok.2.1
    have HOF := Lib.hid hok.2.2
    have HVL := Lib.hid hok.1
    clear hok
    have HR : Hid (eulerI vs fs = ((usedL vs fs).length : Int) - ((edL vs fs).length : Int) + (fs.length : Int)) := Lib.hid (by rw [HEU.out]; rfl)
    have HU1 := Lib.hid (UsedAt.made w1)
    have HT2 := Lib.hid (HT1.out.alloc (.map #[] 0))
    have hw1 := (HT1.out.box 0).lt
    have c1' := (HT2.out.box 0).c 1
    obtain ⟨B, hB⟩ : ∃ B, B = w1.heap.size := ⟨_, rfl⟩
    have HBB := Lib.hid hB
    rw [← hB] at HU1 hw1
    clear HT1 hB HEU
    go_wp2
    rw [← HBB.out]
    go_loopw [15] (fun i wr => ∃ k : Nat, k ≤ fs.length ∧ i = .int .i64 k ∧ UsedAt wr B (4 * k) ((fs.take k).flatten) ∧ Held w wr [(w.heap.size, [.slice A1 vs.length c1, .slice A2 fs.length c2])]) (fun i _ => fs.length - (intOf i).toNat)
    case atStart => exact ⟨0, Nat.zero_le _, rfl, HU1.out, HT2.out⟩
    case round =>
      clear c1' HT2 HU1
      obtain ⟨k, hk, rfl, hu, ht⟩ := hrel
      have HU := Lib.hid hu
      have HT := Lib.hid ht
      clear hu ht
      by_cases hlt : k < fs.length
      · obtain ⟨b, o, a, cc, rfl, hbl, hc, hle, hcm, hrow⟩ := HIN.out.2.at hlt
        have hc' := (HT.out.below.cell (p := ⟨b, o + k, none⟩) hbl).trans hc
        have HFS := Lib.hid (flat_succ fs k hlt)
        have HFO := Lib.hid (HOF.out _ (List.getElem_mem hlt))
        obtain ⟨f, hf⟩ : ∃ f, f = fs[k] := ⟨_, rfl⟩
        rw [← hf] at hc' hrow
        simp only [← hf] at HFS HFO
        have HRW := Lib.hid hrow
        have HF4 := Lib.hid (okFace_at HFO.out).1
        have hf4 := HF4.out
        rw [hf4] at hc'
        clear hf hc hrow hle hcm hf4
        go_wp2
        go_loopw [21] (fun i wi => ∃ j : Nat, j ≤ 4 ∧ i = .int .i64 j ∧ UsedAt wi B (4 * k + j) ((fs.take k).flatten ++ f.take j) ∧ Held w wi [(w.heap.size, [.slice A1 vs.length c1, .slice (some ⟨b, o, none⟩) fs.length c2])]) (fun i _ => 4 - (intOf i).toNat)
        case atStart => exact ⟨0, by omega, rfl, by simpa using HU.out, HT.out⟩
        case round =>
          clear HU HT hc'
          obtain ⟨j, hj, rfl, hu, ht⟩ := hrel
          have HU := Lib.hid hu
          have HT := Lib.hid ht
          clear hu ht
          by_cases hjl : j < 4
          · have hjf : j < f.length := by rw [HF4.out]; exact hjl
            obtain ⟨b', o', rfl, hbl', hcell⟩ := HRW.out.at hjf
            have hcell' := (HT.out.below.cell (p := ⟨b', o' + j, none⟩) hbl').trans hcell
            have HTK := Lib.hid (List.take_succ_eq_append_getElem hjf)
            have hwx := wf_at (by have := HVL.out; omega) HFO.out j hjf
            obtain ⟨x, hx⟩ : ∃ x, x = f[j] := ⟨_, rfl⟩
            rw [← hx] at hcell' hwx
            simp only [← hx] at HTK
            obtain ⟨w5, hup, hu5, hg5⟩ := HU.out.put (by unfold maxLen; omega) x hwx
            have HU5 : Hid (UsedAt w5 B (4 * k + (j + 1)) ((fs.take k).flatten ++ f.take (j + 1))) := Lib.hid (by rw [HTK.out, ← List.append_assoc]; exact hu5)
            have HT5 := Lib.hid (heldGrown HT.out hg5 (fun q hq => by injection hq with hq; omega) (fun p hp c => by
              simp only [List.mem_singleton] at hp
              subst hp
              simp at c
              omega))
            clear hx hcell hu5 hg5 HU HT hjf hwx
            go_wp2_with fail
            go_roundw
            case rel => exact ⟨j + 1, by omega, by go_num, HU5.out, HT5.out⟩
            case measure => simp [intOf]; omega
          · have e4 : j = 4 := by omega
            subst e4
            have HU5 : Hid (UsedAt wr B (4 * (k + 1)) ((fs.take (k + 1)).flatten)) := Lib.hid (by
              have h := HU.out
              rw [List.take_of_length_le (l := f) (by rw [HF4.out]; omega), ← HFS.out] at h
              rw [Nat.mul_succ]; exact h)
            clear HU
            go_wp2
            go_roundw
            case rel => exact ⟨k + 1, by omega, by go_num, HU5.out, HT.out⟩
            case measure => simp [intOf]; omega
      · have e : k = fs.length := by omega
        have hu := HU.out
        rw [e, List.take_length] at hu
        have HUL : Hid (∀ W, Held wr W [] → ∀ ty, (Builtin.len_ #[69] ty #[.map (some B)]).run Try.prog W = .ok (.int .i64 ((usedL vs fs).length : Nat)) W) := Lib.hid fun W h ty => (hu.later h.below).len (usedL vs fs) (usedL_nodup vs fs) (usedL_wf HVL.out) (fun x _ => usedL_iff HOF.out x) ty
        have HTL : Hid (∀ W base b n, TabOf W base b n (tabL vs fs) → ∀ ty, (Builtin.len_ #[64] ty #[.map (some b)]).run Try.prog W = .ok (.int .i64 ((edL vs fs).length : Nat)) W) := Lib.hid fun W base b n h ty => h.len (edL vs fs) (upE_nodup (edgesL_up _)) (fun e he => tabL_wf e ((edgesL_mem _ _).1 he)) (edgesL_mem _) ty
        have hub : (usedL vs fs).length ≤ 80 := Nat.le_trans (usedTo_len _ _) HVL.out
        have hteb := edL_len vs fs
        obtain ⟨nu, hnu⟩ : ∃ n, n = (usedL vs fs).length := ⟨_, rfl⟩
        obtain ⟨ne, hne⟩ : ∃ n, n = (edL vs fs).length := ⟨_, rfl⟩
        rw [← hnu] at HR hub
        rw [← hne] at HR hteb
        simp only [← hnu] at HUL
        simp only [← hne] at HTL
        have HQ : Held wr wr [] := Held.nil wr
        have HTW : ∀ W, Held wr W [] → Held w W [(w.heap.size, [.slice A1 vs.length c1, .slice A2 fs.length c2])] := fun W h => HT.out.later h.below
        have HC : ∀ W, Held wr W [] → (W.cell? ⟨w.heap.size, 0, none⟩ = some (.slice A1 vs.length c1) ∧ W.cell? ⟨w.heap.size, 1, none⟩ = some (.slice A2 fs.length c2) ∧ (Builtin.len_ #[69] 3 #[.map (some B)]).run Try.prog W = .ok (.int .i64 (nu : Nat)) W) := fun W h => ⟨((HTW W h).box 0).c 0, ((HTW W h).box 0).c 1, HUL.out W h _⟩
        clear hu hnu hne HU e HUL
        have HCH := Lib.hid HC
        obtain ⟨k0, k1, k2⟩ := HC _ HQ
        have k2d := (HC _ HQ.drew).2.2
        clear HC
        go_wp2_with fail
        go_region_with (first | (go_at_call 40; refine (HETH.out _ (by first | with_reducible exact HTW _ HQ | with_reducible exact HTW _ HQ.drew)).mono ?_; rintro e w7 ⟨n7, rfl, hn7, ht7, hb7⟩; have hl7 : (Builtin.len_ #[64] 3 #[.map (some (wr.heap.size + 1))]).run Try.prog w7 = .ok (.int .i64 (ne : Nat)) w7 := HTL.out _ _ _ _ ht7 3; (first | (have HQ := HQ.later hb7) | (have HQ := HQ.drew.later hb7)); have k0' := (HCH.out _ HQ).1; have k1' := (HCH.out _ HQ).2.1; have k2' := (HCH.out _ HQ).2.2))
        all_goals
          have HB7 := Lib.hid (HTW _ HQ).below
          clear HQ HTW
          go_wp2_with fail
          go_ret
          exact ⟨ret_int (by rw [HR.out, wrap_in (a := (nu : Int) - (ne : Int)) ⟨by omega, by omega⟩, wrap_in ⟨by omega, by omega⟩]), HB7.out⟩



end Go.Proofs.Ytdefhepagpgnaaa
