/- Contracts of ParseInts, in the program and in its model, and of markIntS, heldIntS. -/
import Derived.Test.YtjbpfgaakkkaaaaDoorProg
import Derived.Test.YtjbpfgaakkkaaaaDoorMem
import Derived.Test.YtjbpfgaakkkaaaaDoorStrS
import Derived.Test.YtjbpfgaakkkaaaaDoorShelf
import Derived.Test.YtjbpfgaakkkaaaaDoorNumP
import Derived.Test.YtjbpfgaakkkaaaaDoorIn
import Derived.Test.YtjbpfgaakkkaaaaDoorFmt
import Derived.Test.YtjbpfgaakkkaaaaDoorBuilder
import Derived.Test.YtjbpfgaakkkaaaaDoorInts
import Derived.Test.YtjbpfgaakkkaaaaDoorIntS
import Derived.Test.YtjbpfgaakkkaaaaDoorSplit
import Derived.Test.YtjbpfgaakkkaaaaDoorParse
import Derived.Test.YtjbpfgaakkkaaaaDoorFmts
import Derived.WalkKit
import Derived.WalkSpells
import Derived.WalkLawsBesides
import Derived.Lib.Hide
import Derived.WalkSmall
import Derived.BigQuiet
import Derived.Deep.QuietTactic
namespace Go.Proofs.YtjbpfgaakkkaaaaDoor
open Go.RowKit

def dash : ByteArray := ⟨#[45]⟩
/-- s is what FormatInts writes of xs -/
def NumsOf (s : ByteArray) (xs : List Int) : Prop :=
  (s = dash ∧ xs = []) ∨ (s ≠ dash ∧ xs.length = (splitP s comma).length ∧ ∀ i, i < xs.length → IsNum ((splitP s comma).getD i ByteArray.empty) (xs.getD i 0))
theorem nums_inj {s : ByteArray} {xs ys : List Int} (h : NumsOf s xs) (h' : NumsOf s ys) : xs = ys := by
  rcases h with ⟨h1, rfl⟩ | ⟨h1, h2, h3⟩ <;> rcases h' with ⟨g1, rfl⟩ | ⟨g1, g2, g3⟩
  · rfl
  · exact absurd h1 g1
  · exact absurd g1 h1
  · refine List.ext_getElem (by omega) (fun i hi hj => ?_)
    have e := num_inj (h3 i hi) (g3 i hj)
    simpa [List.getD, hi, hj] using e
theorem parts_size (s sep : ByteArray) : ∀ p ∈ splitP s sep, p.size ≤ s.size := by
  have h : ∀ k, ∀ p ∈ (splitAt s sep k).1, p.size ≤ s.size := by
    intro k
    induction k with
    | zero => intro p hp; simp [splitAt] at hp
    | succ k ih =>
      intro p hp
      unfold splitAt at hp
      split at hp
      · split at hp
        · simp only [List.mem_append, List.mem_singleton] at hp
          rcases hp with hp | rfl
          · exact ih p hp
          · simp; omega
        · exact ih p hp
      · exact ih p hp
  intro p hp
  unfold splitP at hp
  simp only [List.mem_append, List.mem_singleton] at hp
  rcases hp with hp | rfl
  · exact h _ p hp
  · simp
theorem parts_len (s sep : ByteArray) : (splitP s sep).length ≤ s.size + 1 := by
  have := (splitAt_le s sep s.size).2
  unfold splitP; simp; omega
/-- what has been read of the first k parts -/
def Partly (ps : List ByteArray) (k : Nat) (xs : List Int) : Prop := xs.length = k ∧ ∀ i, i < k → IsNum (ps.getD i ByteArray.empty) (xs.getD i 0)
theorem partly_nil (ps : List ByteArray) : Partly ps 0 [] := ⟨rfl, fun i h => by omega⟩
theorem partly_snoc {ps : List ByteArray} {k : Nat} {xs : List Int} {m : Int} (h : Partly ps k xs) (hk : k < ps.length) (hm : IsNum ps[k] m) : Partly ps (k + 1) (xs ++ [m]) := by
  obtain ⟨rfl, h2⟩ := h
  refine ⟨by simp, fun i hi => ?_⟩
  rcases Nat.lt_or_ge i xs.length with hh | hh
  · have := h2 i hh
    simpa [List.getD, List.getElem?_append_left hh] using this
  · obtain rfl : i = xs.length := by omega
    simpa [List.getD, hk] using hm
theorem nums_of {s : ByteArray} (xs : List Int) (hs : s ≠ dash) (h : Partly (splitP s comma) (splitP s comma).length xs) : NumsOf s xs := .inr ⟨hs, h.1, fun i hi => h.2 i (by rw [← h.1]; exact hi)⟩
theorem nums_no {s : ByteArray} {k : Nat} (hs : s ≠ dash) (hk : k < (splitP s comma).length) (hno : ∀ m, ¬ IsNum (splitP s comma)[k] m) (ys : List Int) : ¬ NumsOf s ys := by
  rintro (⟨h, _⟩ | ⟨_, h2, h3⟩)
  · exact hs h
  · have := h3 k (by omega)
    have e : (splitP s comma).getD k ByteArray.empty = (splitP s comma)[k] := by simp [List.getD, hk]
    rw [e] at this
    exact hno _ this
theorem infoInt1 : (Tryd.prog.info? 3).map (fun i => (i.zero, i.size, i.bytes)) = some (some (.int .i64 0), 1, 8) := by kernel_rfl
/-- what ParseInts leaves -/
def NumsIn (s : ByteArray) (w : World) (e : Ending) (w' : World) : Prop :=
  ∃ (b : Bool) (xs : List Int) (A : Option Addr) (c : Nat), e = .returned (.tuple #[.slice A xs.length c, .bool b]) ∧ w'.ownsRow w.heap.size 3 1 (.slice A xs.length c) xs.length (xs.map I64) ∧
    (b = true → NumsOf s xs) ∧ (b = false → xs = [] ∧ ∀ ys, ¬ NumsOf s ys) ∧ xs.length ≤ 1048577 ∧ Below w.heap.size w w'
theorem dash_list : dash.toList = [45] := by rw [str_toList]; rfl
theorem str_eq_dash (s : ByteArray) : (s.toList == [45]) = decide (s = dash) := by rw [← dash_list]; exact str_beq s dash

set_option maxHeartbeats 2000000 in
theorem parses_any (s : ByteArray) (w : World) (hs : s.size ≤ 1048576) (hp : Pow w) (hE : Errs w) :
    Calls Tryd.prog 24 #[.string s] w (NumsIn s w) := by
  have HP := Lib.hid hp
  have HE := Lib.hid hE
  clear hp hE
  by_cases hd : s = dash
  · have hnum : NumsOf s [] := .inl ⟨hd, rfl⟩
    have HN := Lib.hid hnum
    have hbe : (s.toList == [45]) = true := by rw [str_eq_dash]; exact decide_eq_true hd
    clear hd hnum
    go_enter Tryd.func24, Tryd.ntmps24
    go_wp2_with fail
    go_ret2
    exact ⟨true, [], none, 0, rfl, World.ownsRow_nil _ _ _ _, (fun _ => HN.out), (fun h => by cases h), by simp, Below.refl _ _⟩
  · have hbe : (s.toList == [45]) = false := by
      have := str_eq_dash s
      rw [decide_eq_false hd] at this
      exact this
    have HD := Lib.hid hd
    clear hd
    have hsp := splitAny_any s comma w hs
    unfold comma at hsp
    have HSP := Lib.hid hsp
    clear hsp
    go_enter Tryd.func24, Tryd.ntmps24
    go_wp2_with fail
    refine HSP.out.mono ?_
    rintro e w1 ⟨Ap, cp, rfl, hop, hb1⟩
    have HOI : Hid (w1.ownsRow w.heap.size 3 1 (.slice none 0 0) 0 (([] : List Int).map I64)) := Lib.hid (World.ownsRow_nil _ _ _ _)
    have HB1 := Lib.hid hb1
    have hpl := parts_len s comma
    have hps := parts_size s comma
    have hno := @nums_no s
    have hof := fun xs => nums_of (s := s) xs
    unfold comma at hpl hps hno hof
    obtain ⟨ps, hpe⟩ : ∃ ps, ps = splitP s ⟨#[44]⟩ := ⟨_, rfl⟩
    rw [← hpe] at hop hpl hps hof ⊢
    have hno' : ∀ k, (hk : k < ps.length) → (∀ m, ¬ IsNum ps[k] m) → ∀ ys, ¬ NumsOf s ys := by subst hpe; exact fun k hk h ys => hno HD.out hk h ys
    have HOP := Lib.hid hop
    have HPS := Lib.hid hps
    have HNO := Lib.hid hno'
    have HOF := Lib.hid hof
    clear hop hps hno hno' hof hpe hb1
    go_wp2_with fail
    go_loopw [4, 14] (fun v i wr => ∃ (k : Nat) (xs : List Int), k ≤ ps.length ∧ i = .int .i64 k ∧ Partly ps k xs ∧ wr.ownsRow w.heap.size 9 1 (.slice Ap ps.length cp) ps.length (ps.map Str) ∧ wr.ownsRow w.heap.size 3 1 v xs.length (xs.map I64) ∧ Below w.heap.size w wr) (fun _ i _ => ps.length - (intOf i).toNat)
    case atStart => exact ⟨0, [], Nat.zero_le _, rfl, partly_nil ps, HOP.out, HOI.out, HB1.out⟩
    case round =>
      obtain ⟨k, xs, hk, rfl, hpa, hop, hoi, hb⟩ := hrel
      clear HOP HOI HB1
      have HPA := Lib.hid hpa
      have HOP := Lib.hid hop
      have HOI := Lib.hid hoi
      have HB := Lib.hid hb
      have hs0 : w.heap.size ≤ wr.heap.size := hb.size
      have hxl : xs.length = k := hpa.1
      have hxl' : xs.length ≤ 1048577 := by omega
      clear hpa hop hoi hb hxl
      by_cases hlt : k < ps.length
      · obtain ⟨b, o, rfl, hbl, hc⟩ := (Row.of_own HOP.out : Row Str wr wr.heap.size Ap ps).at hlt
        have hsz := HPS.out ps[k] (List.getElem_mem _)
        have HNK := Lib.hid (HNO.out k hlt)
        have HSN := Lib.hid (fun (m : Int) (hm : IsNum ps[k] m) => partly_snoc HPA.out hlt hm)
        obtain ⟨p, hp⟩ : ∃ p, p = ps[k] := ⟨_, rfl⟩
        rw [← hp] at hc hsz HNK HSN
        clear hp
        go_wp2_with fail
        refine (parse_any p _ (by omega) (HP.out.later HB.out) (HE.out.later HB.out)).mono ?_
        rintro e w2 ⟨m, bb, rfl, h1, h2, hb2⟩
        have HOP2 := Lib.hid (own_keep' HOP.out hb2)
        have HOI2 := Lib.hid (own_keep' HOI.out hb2)
        have HB2 := Lib.hid (HB.out.trans (hb2.mono HB.out.size))
        clear hb2
        cases bb
        · have hn := (h2 rfl).2
          have HN := Lib.hid (HNK.out hn)
          clear h1 h2 hn
          go_wp2_with fail
          go_ret2
          exact ⟨false, [], none, 0, rfl, World.ownsRow_nil _ _ _ _, (fun h => by cases h), (fun _ => ⟨rfl, HN.out⟩), by simp, HB2.out⟩
        · have HM := Lib.hid (HSN.out m (h1 rfl))
          clear h1 h2
          go_wp2_with (at_builtin; refine wpList_app1 w2 rfl _ _ 23 rfl w.heap.size 3 (.int .i64 0) 8 Tryd.underlying23 infoInt1 rfl _ _ _ (by rfl) HOI2.out _ (by rfl) (by rfl) (by unfold maxLen; omega) (by omega) HB2.out.size ?_)
          intro v' w4 ho4 hg4
          have HOI4 := Lib.hid ho4
          have HOP4 := Lib.hid (HOP2.out.kept hg4 (own_ne HOP2.out HOI2.out (by decide)))
          have HB4 := Lib.hid (HB2.out.grown hg4 HB2.out.size (own_block HOI2.out))
          clear ho4 hg4
          go_wp2_with fail
          go_roundw
          case rel => exact ⟨k + 1, xs ++ [m], by omega, by go_num, HM.out, HOP4.out, by simpa using HOI4.out, HB4.out⟩
          case measure => simp [intOf]; omega
      · obtain rfl : k = ps.length := by omega
        have HN := Lib.hid (HOF.out xs HD.out HPA.out)
        obtain ⟨A2, c2, rfl⟩ := own_shape HOI.out
        go_wp2_with fail
        go_ret2
        exact ⟨true, xs, A2, c2, rfl, HOI.out, (fun _ => HN.out), (fun h => by cases h), hxl', HB.out⟩

set_option maxHeartbeats 2000000 in
theorem sParses_any (s : ByteArray) (w : World) (hs : s.size ≤ 1048576) :
    Calls Tryd.prog 42 #[.string s] w (NumsIn s w) := by
  by_cases hd : s = dash
  · have hnum : NumsOf s [] := .inl ⟨hd, rfl⟩
    have HN := Lib.hid hnum
    have hbe : (s.toList == [45]) = true := by rw [str_eq_dash]; exact decide_eq_true hd
    clear hd hnum
    go_enter Tryd.func42, Tryd.ntmps42
    go_wp2_with fail
    go_ret2
    exact ⟨true, [], _, 0, rfl, World.ownsRow_made w #[] 0 (Nat.le_refl _) (by unfold maxLen; omega) rfl, (fun _ => HN.out), (fun h => by cases h), by simp, (Below.refl _ _).alloc (Nat.le_refl _) _⟩
  · have hbe : (s.toList == [45]) = false := by
      have := str_eq_dash s
      rw [decide_eq_false hd] at this
      exact this
    have HD := Lib.hid hd
    clear hd
    have hsp := sSplitAny_any s comma (w.alloc (.cells #[] 3)) hs (by decide)
    unfold comma at hsp
    have HSP := Lib.hid hsp
    have ho0 : (w.alloc (.cells #[] 3)).ownsRow w.heap.size 3 1 (.slice (some ⟨w.heap.size, 0, none⟩) 0 0) 0 (([] : List Int).map I64) := World.ownsRow_made w #[] 0 (Nat.le_refl _) (by unfold maxLen; omega) rfl
    have HO0 := Lib.hid ho0
    clear hsp ho0
    go_enter Tryd.func42, Tryd.ntmps42
    go_wp2_with fail
    refine HSP.out.mono ?_
    rintro e w1 ⟨Ap, cp, rfl, hop, hb1⟩
    have HOI := Lib.hid (own_keep' HO0.out hb1)
    have HB1 := Lib.hid (((Below.refl w.heap.size w).alloc (Nat.le_refl _) (.cells #[] 3)).trans (hb1.mono (by simp)))
    have hop := own_base hop (base' := w.heap.size) (by simp)
    have hpl := parts_len s comma
    have hps := parts_size s comma
    have hno := @nums_no s
    have hof := fun xs => nums_of (s := s) xs
    unfold comma at hpl hps hno hof
    obtain ⟨ps, hpe⟩ : ∃ ps, ps = splitP s ⟨#[44]⟩ := ⟨_, rfl⟩
    rw [← hpe] at hop hpl hps hof ⊢
    have hno' : ∀ k, (hk : k < ps.length) → (∀ m, ¬ IsNum ps[k] m) → ∀ ys, ¬ NumsOf s ys := by subst hpe; exact fun k hk h ys => hno HD.out hk h ys
    have HOP := Lib.hid hop
    have HPS := Lib.hid hps
    have HNO := Lib.hid hno'
    have HOF := Lib.hid hof
    clear hop hps hno hno' hof hpe hb1
    go_wp2_with fail
    go_loopw [4, 16] (fun v i wr => ∃ (k : Nat) (xs : List Int), k ≤ ps.length ∧ i = .int .i64 k ∧ Partly ps k xs ∧ wr.ownsRow w.heap.size 9 1 (.slice Ap ps.length cp) ps.length (ps.map Str) ∧ wr.ownsRow w.heap.size 3 1 v xs.length (xs.map I64) ∧ Below w.heap.size w wr) (fun _ i _ => ps.length - (intOf i).toNat)
    case atStart => exact ⟨0, [], Nat.zero_le _, rfl, partly_nil ps, HOP.out, HOI.out, HB1.out⟩
    case round =>
      obtain ⟨k, xs, hk, rfl, hpa, hop, hoi, hb⟩ := hrel
      clear HOP HOI HB1
      have HPA := Lib.hid hpa
      have HOP := Lib.hid hop
      have HOI := Lib.hid hoi
      have HB := Lib.hid hb
      have hs0 : w.heap.size ≤ wr.heap.size := hb.size
      have hxl : xs.length = k := hpa.1
      have hxl' : xs.length ≤ 1048577 := by omega
      clear hpa hop hoi hb hxl
      by_cases hlt : k < ps.length
      · obtain ⟨b, o, rfl, hbl, hc⟩ := (Row.of_own HOP.out : Row Str wr wr.heap.size Ap ps).at hlt
        have hsz := HPS.out ps[k] (List.getElem_mem _)
        have HNK := Lib.hid (HNO.out k hlt)
        have HSN := Lib.hid (fun (m : Int) (hm : IsNum ps[k] m) => partly_snoc HPA.out hlt hm)
        obtain ⟨p, hp⟩ : ∃ p, p = ps[k] := ⟨_, rfl⟩
        rw [← hp] at hc hsz HNK HSN
        clear hp
        go_wp2_with fail
        refine (sParse_any p _ (by omega)).mono ?_
        rintro e w2 ⟨m, bb, rfl, h1, h2, hb2⟩
        have HOP2 := Lib.hid (own_keep' HOP.out hb2)
        have HOI2 := Lib.hid (own_keep' HOI.out hb2)
        have HB2 := Lib.hid (HB.out.trans (hb2.mono HB.out.size))
        clear hb2
        cases bb
        · have hn := (h2 rfl).2
          have HN := Lib.hid (HNK.out hn)
          clear h1 h2 hn
          go_wp2_with fail
          go_ret2
          exact ⟨false, [], none, 0, rfl, World.ownsRow_nil _ _ _ _, (fun h => by cases h), (fun _ => ⟨rfl, HN.out⟩), by simp, HB2.out⟩
        · have HM := Lib.hid (HSN.out m (h1 rfl))
          clear h1 h2
          go_wp2_with (at_builtin; refine wpList_app1 w2 rfl _ _ 23 rfl w.heap.size 3 (.int .i64 0) 8 Tryd.underlying23 infoInt1 rfl _ _ _ (by rfl) HOI2.out _ (by rfl) (by rfl) (by unfold maxLen; omega) (by omega) HB2.out.size ?_)
          intro v' w4 ho4 hg4
          have HOI4 := Lib.hid ho4
          have HOP4 := Lib.hid (HOP2.out.kept hg4 (own_ne HOP2.out HOI2.out (by decide)))
          have HB4 := Lib.hid (HB2.out.grown hg4 HB2.out.size (own_block HOI2.out))
          clear ho4 hg4
          go_wp2_with fail
          go_roundw
          case rel => exact ⟨k + 1, xs ++ [m], by omega, by go_num, HM.out, HOP4.out, by simpa using HOI4.out, HB4.out⟩
          case measure => simp [intOf]; omega
      · obtain rfl : k = ps.length := by omega
        have HN := Lib.hid (HOF.out xs HD.out HPA.out)
        obtain ⟨A2, c2, rfl⟩ := own_shape HOI.out
        go_wp2_with fail
        go_ret2
        exact ⟨true, xs, A2, c2, rfl, HOI.out, (fun _ => HN.out), (fun h => by cases h), hxl', HB.out⟩

def ups (k n : Nat) : List Int := (List.range n).map fun i => ((k + i : Nat) : Int)
theorem ups_len (k n : Nat) : (ups k n).length = n := by simp [ups]
theorem ups_at (k n i : Nat) (h : i < (ups k n).length) : (ups k n)[i] = ((k + i : Nat) : Int) := by simp [ups]
def upsIn (k i : Nat) (xs : List Int) : List Int := ups k i ++ xs.drop i
theorem upsIn_zero (k : Nat) (xs : List Int) : upsIn k 0 xs = xs := by simp [upsIn, ups]
theorem upsIn_all (k : Nat) (xs : List Int) : upsIn k xs.length xs = ups k xs.length := by simp [upsIn]
theorem upsIn_len (k i : Nat) (xs : List Int) (h : i ≤ xs.length) : (upsIn k i xs).length = xs.length := by simp [upsIn, ups_len]; omega
theorem upsIn_step (k i : Nat) (xs : List Int) (h : i < xs.length) : (upsIn k i xs).set i ((k + i : Nat) : Int) = upsIn k (i + 1) xs := by
  unfold upsIn
  rw [List.set_append_right _ _ (by rw [ups_len]; omega), ups_len, Nat.sub_self, List.drop_eq_getElem_cons h, List.set_cons_zero]
  have e : ups k (i + 1) = ups k i ++ [((k + i : Nat) : Int)] := by simp [ups, List.range_succ]
  rw [e, List.append_assoc, List.singleton_append]
set_option maxHeartbeats 1000000 in
theorem markIntS_any (A : Option Addr) (c base k : Nat) (xs : List Int) (w : World) (ho : w.ownsRow base 3 1 (.slice A xs.length c) xs.length (xs.map I64)) (hk2 : k + xs.length ≤ 4611686018427387904) :
    Calls Tryd.prog 43 #[.slice A xs.length c, .int .i64 k] w fun e w' => e = .returned (.int .i64 ((k + xs.length : Nat) : Int)) ∧ w'.ownsRow base 3 1 (.slice A xs.length c) xs.length ((ups k xs.length).map I64) ∧ Below base w w' := by
  have HO := Lib.hid ho
  clear ho
  go_enter Tryd.func43, Tryd.ntmps43
  go_wp2
  go_loopw [1, 5] (fun m i wr => ∃ j : Nat, j ≤ xs.length ∧ i = .int .i64 j ∧ m = .int .i64 ((k + j : Nat) : Int) ∧ wr.ownsRow base 3 1 (.slice A xs.length c) xs.length ((upsIn k j xs).map I64) ∧ Below base w wr) (fun _ i _ => xs.length - (intOf i).toNat)
  case atStart => exact ⟨0, Nat.zero_le _, rfl, rfl, by rw [upsIn_zero]; exact HO.out, Below.refl _ _⟩
  case round =>
    obtain ⟨j, hj, rfl, rfl, hown, hb⟩ := hrel
    clear HO
    have HO := Lib.hid hown
    have HB := Lib.hid hb
    clear hown hb
    by_cases hlt : j < xs.length
    · obtain ⟨A0, hA⟩ : ∃ g, A = some ⟨g, 0, none⟩ := by
        rcases HO.out.2 with ⟨h, h0⟩ | ⟨g, cap, cur, h, _⟩
        · omega
        · injection h with h; exact ⟨g, h⟩
      subst hA
      have hge := own_block HO.out A0 rfl
      have hlh : j < (upsIn k j xs).length := by rw [upsIn_len _ _ _ hj]; exact hlt
      have hd := HO.out.cellAt j (by omega)
      have hf := HO.out.frozenAt j
      rw [List.getElem?_map, List.getElem?_eq_getElem hlh, Option.map_some] at hd
      obtain ⟨y, hy⟩ : ∃ y, y = (upsIn k j xs)[j] := ⟨_, rfl⟩
      rw [← hy] at hd
      have hs := (HO.out.stored j (I64 ((k + j : Nat) : Int))).1
      rw [← List.map_set, upsIn_step _ _ _ hlt] at hs
      have hs' := HB.out.setCell (p := ⟨A0, j, none⟩) hge (I64 ((k + j : Nat) : Int))
      have e : ((k + j : Nat) : Int) = (k : Int) + (j : Int) := by omega
      rw [e] at hs hs'
      have HS := Lib.hid hs
      have HS' := Lib.hid hs'
      clear hy hs hs' hlh e
      go_wp2
      go_roundw
      case rel => exact ⟨j + 1, by omega, by go_num, by go_num, HS.out, HS'.out⟩
      case measure => simp [intOf]; omega
    · have e : j = xs.length := by omega
      have HO2 : Hid (wr.ownsRow base 3 1 (.slice A xs.length c) xs.length ((ups k xs.length).map I64)) := by have := HO.out; rw [e, upsIn_all] at this; exact this
      have HE := Lib.hid e
      clear e HO
      go_wp2
      go_ret
      exact ⟨ret_int' (by have := HE.out; omega), HO2.out, HB.out⟩

set_option maxHeartbeats 1000000 in
theorem heldIntS_any (A : Option Addr) (c k n : Nat) (w : World) (hR : Row I64 w w.heap.size A (ups k n)) (hk2 : k + n ≤ 4611686018427387904) :
    Calls Tryd.prog 44 #[.slice A n c, .int .i64 k] w fun e w' => e = .returned (.int .i64 ((k + n : Nat) : Int)) ∧ Below w.heap.size w w' := by
  go_enter Tryd.func44, Tryd.ntmps44
  go_wp2
  go_loopw [1, 5] (fun m i wr => ∃ j : Nat, j ≤ n ∧ i = .int .i64 j ∧ m = .int .i64 ((k + j : Nat) : Int) ∧ Below w.heap.size w wr) (fun _ i _ => n - (intOf i).toNat)
  case atStart => exact ⟨0, Nat.zero_le _, rfl, rfl, Below.refl _ _⟩
  case round =>
    obtain ⟨j, hj, rfl, rfl, hb⟩ := hrel
    have HB := Lib.hid hb
    clear hb
    by_cases hlt : j < n
    · obtain ⟨b, o, rfl, hbl, hc⟩ := hR.at (k := j) (by rw [ups_len]; exact hlt)
      have hc := (HB.out.cell hbl).trans hc
      rw [ups_at] at hc
      have e : ((k + j : Nat) : Int) = (k : Int) + (j : Int) := by omega
      rw [e] at hc
      have hlt' : (j : Int) < (n : Int) := by omega
      have hge' : (0 : Int) ≤ (j : Int) := by omega
      clear hR e
      go_wp2
      go_roundw
      case rel => exact ⟨j + 1, by omega, by go_num, by go_num, HB.out⟩
      case measure => simp [intOf]; omega
    · have HE : Hid (j = n) := Lib.hid (by omega)
      clear hR
      go_wp2
      go_ret
      exact ⟨ret_int' (by have := HE.out; omega), HB.out⟩

end Go.Proofs.YtjbpfgaakkkaaaaDoor
