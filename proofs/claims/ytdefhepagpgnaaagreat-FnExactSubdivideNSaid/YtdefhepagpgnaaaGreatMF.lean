/- Faces and their directed edges: values; the contracts of the helpers of chapter 7 on one face. -/
import Derived.Test.YtdefhepagpgnaaaGreatProg
import Derived.Test.YtdefhepagpgnaaaGreatInts
import Derived.Test.YtdefhepagpgnaaaGreatVbox
import Derived.Test.YtdefhepagpgnaaaGreatVec
import Derived.Test.YtdefhepagpgnaaaGreatHeld
import Derived.Test.YtdefhepagpgnaaaGreatMem
import Derived.Test.YtdefhepagpgnaaaGreatRowC
import Derived.Test.YtdefhepagpgnaaaGreatIntS
import Derived.Test.YtdefhepagpgnaaaGreatVecS
import Derived.Test.YtdefhepagpgnaaaGreatSS
import Derived.Test.YtdefhepagpgnaaaGreatMkA
import Derived.Test.YtdefhepagpgnaaaGreatMkB
import Derived.WalkKit
import Derived.WalkSpells
import Derived.WalkLawsBesides
import Derived.Lib.Hide
import Derived.Deep.RegionHeld3
import Derived.Deep.QuietTactic
import Derived.BigQuiet
import Derived.Handy
import Derived.Deep.DeepCutAuto
import Derived.OwnWalk
namespace Go.Proofs.YtdefhepagpgnaaaGreat
open Go.RowKit


abbrev E2 := Int × Int
theorem retB {a b : Bool} (h : a = b) : Ending.returned (.bool a) = Ending.returned (.bool b) := by rw [h]
/-- the directed edge that starts at place k of a face -/
def stepAt (f : List Int) (k : Nat) : E2 := (f.getD k 0, f.getD ((k + 1) % f.length) 0)
def stepsL (f : List Int) : List E2 := (List.range f.length).map (stepAt f)
theorem stepsL_len (f : List Int) : (stepsL f).length = f.length := by simp [stepsL]
theorem range_take_map {β : Type} (g : Nat → β) (k : Nat) : (List.range (k + 1)).map g = (List.range k).map g ++ [g k] := by rw [List.range_succ, List.map_append]; rfl
def pr (e : E2) : List Int := [e.1, e.2]
def eg (e : E2) : List Value := [.int .i64 e.1, .int .i64 e.2]
theorem eg_len (e : E2) : (eg e).length = 2 := rfl
theorem gd {α : Type} (f : List α) (k : Nat) (d : α) (h : k < f.length) : f.getD k d = f[k] := by simp [List.getD, h]
/-- place i of a face holds an index in range that no place before it holds -/
def okAt (n : Nat) (f : List Int) (i : Nat) : Bool := decide (0 ≤ f.getD i 0) && decide (f.getD i 0 < n) && !((f.take i).contains (f.getD i 0))
def okFace (n : Nat) (f : List Int) : Bool := decide (f.length = 4) && (List.range f.length).all (okAt n f)
def okV3 (v : V3) : Bool := okB v.1 v.2.1 v.2.2
/-- is a mesh valid? -/
def okMesh (vs : List V3) (fs : List (List Int)) : Bool := decide (vs.length ≤ 80) && decide (fs.length ≤ 64) && vs.all okV3 && fs.all (okFace vs.length) && decide (fs.flatMap stepsL).Nodup
theorem okFace_no_at {n : Nat} {f : List Int} {i : Nat} (h : i < f.length) (hn : okAt n f i = false) : okFace n f = false := by
  unfold okFace
  rw [show (List.range f.length).all (okAt n f) = false from List.all_eq_false.2 ⟨i, List.mem_range.2 h, by simp [hn]⟩]
  simp
theorem okFace_no_len {n : Nat} {f : List Int} (h : f.length ≠ 4) : okFace n f = false := by simp [okFace, h]
theorem okFace_yes {n : Nat} {f : List Int} (h4 : f.length = 4) (h : ∀ i, i < f.length → okAt n f i = true) : okFace n f = true := by
  unfold okFace
  rw [show (List.range f.length).all (okAt n f) = true from List.all_eq_true.2 fun i hi => h i (List.mem_range.1 hi)]
  simp [h4]
theorem okFace_at {n : Nat} {f : List Int} (h : okFace n f = true) : f.length = 4 ∧ ∀ i, i < f.length → okAt n f i = true := by
  simp only [okFace, Bool.and_eq_true, decide_eq_true_eq, List.all_eq_true, List.mem_range] at h
  exact h
theorem okFace_eq {n : Nat} {f : List Int} (h : ∀ i, i < f.length → okAt n f i = true) : okFace n f = decide (f.length = 4) := by
  unfold okFace
  rw [show (List.range f.length).all (okAt n f) = true from List.all_eq_true.2 fun i hi => h i (List.mem_range.1 hi)]
  simp
/-- rows in blocks of integers: so none of them is the block of a slice of slices -/
def LotT (w : World) (ps : Lot) : Prop := Lots w ps ∧ ∀ p ∈ ps, ∃ cs fz, w.heap[p.1]? = some (.cells cs 3 fz)
section
variable {w w' : World} {ps qs : Lot}
theorem LotT.nil (w : World) : LotT w [] := ⟨Lots.nil w, fun p h => by cases h⟩
theorem LotT.keep (h : LotT w ps) (hs : w.heap.size ≤ w'.heap.size) (hb : ∀ p ∈ ps, w'.heap[p.1]? = w.heap[p.1]?) : LotT w' ps :=
  ⟨h.1.keep hs hb, fun p hp => by rw [hb p hp]; exact h.2 p hp⟩
theorem LotT.later (h : LotT w ps) (hb : Below w.heap.size w w') : LotT w' ps := h.keep hb.size fun p hp => hb.block _ (h.1.2 p hp).2
theorem LotT.alloc (h : LotT w ps) (o : Obj) : LotT (w.alloc o) ps := h.keep (by simp) fun p hp => Below.heap_alloc w o _ (h.1.2 p hp).2
theorem LotT.drew (h : LotT w ps) : LotT w.drew ps := h
theorem LotT.grown {row : Option Nat} (h : LotT w ps) (hg : w.grownBy w' row) (hr : ∀ p ∈ ps, some p.1 ≠ row) : LotT w' ps := h.keep hg.size fun p hp => hg.block _ (h.1.2 p hp).2 (hr p hp)
theorem LotT.ne {base m n : Nat} {v : Value} {xs : List Value} (h : LotT w ps) (ho : w.ownsRow base 45 m v n xs) : ∀ p ∈ ps, some p.1 ≠ v.ownBlock := fun p hp e => by
  obtain ⟨cs, fz, hc⟩ := h.2 p hp
  rcases ho.2 with ⟨rfl, _⟩ | ⟨g, cap, cur, rfl, _, hh, _⟩
  · simp [Value.ownBlock] at e
  · simp only [Value.ownBlock, Option.some.injEq] at e
    rw [e, hh] at hc
    injection hc with hc
    injection hc with _ ht
    exact absurd ht (by decide)
theorem LotT.row {base m n : Nat} {v : Value} {xs : List Value} (h : LotT w ps) (ho : w.ownsRow base 45 m v n xs) (hg : w.grownBy w' v.ownBlock) : LotT w' ps := h.grown hg (h.ne ho)
theorem LotT.new (h : LotT w ps) (xs : List Int) (cs : Array Value) (hc : cs.toList = xs.map (Value.int .i64)) : LotT (w.alloc (.cells cs 3)) (ps ++ [(w.heap.size, xs)]) :=
  ⟨h.1.new xs cs hc _, fun p hp => by
    rcases List.mem_append.1 hp with hp | hp
    · rw [Below.heap_alloc w _ _ (h.1.2 p hp).2]; exact h.2 p hp
    · rw [List.mem_singleton] at hp
      subst hp
      exact ⟨cs, (0, 0), (MapKept.heap_alloc w _).1⟩⟩
theorem LotT.app (h : LotT w ps) (k : LotT w qs) {B : Nat} (hp : ∀ p ∈ ps, p.1 < B) (hq : ∀ p ∈ qs, B ≤ p.1) : LotT w (ps ++ qs) := by
  refine ⟨⟨?_, fun p hm => ?_⟩, fun p hm => ?_⟩
  · rw [List.map_append, List.nodup_append]
    refine ⟨h.1.1, k.1.1, fun a ha b hb e => ?_⟩
    obtain ⟨p, hp', rfl⟩ := List.mem_map.1 ha
    obtain ⟨q, hq', rfl⟩ := List.mem_map.1 hb
    have := hp p hp'
    have := hq q hq'
    omega
  · rcases List.mem_append.1 hm with hm | hm
    · exact h.1.2 p hm
    · exact k.1.2 p hm
  · rcases List.mem_append.1 hm with hm | hm
    · exact h.2 p hm
    · exact k.2 p hm
end
/-- a new slice of slices of integers -/
def SSOut (w : World) (xss : List (List Int)) (e : Ending) (w' : World) : Prop :=
  ∃ v ps, e = .returned v ∧ w'.ownsRow w.heap.size 45 1 v ps.length (ps.map hdr) ∧ ps.map Prod.snd = xss ∧ LotT w' ps ∧ (∀ p ∈ ps, w.heap.size ≤ p.1) ∧ Below w.heap.size w w'
theorem infoSS' : (Tryz.prog.info? 45).map (fun i => (i.zero, i.size, i.bytes)) = some (some (.slice none 0 0), 1, 24) := by kernel_rfl
theorem infoE : (Tryz.prog.info? 81).map (fun i => (i.zero, i.size, i.bytes)) = some (some (.agg #[.int .i64 0, .int .i64 0]), 2, 16) := by kernel_rfl

set_option maxHeartbeats 1000000 in
theorem index_any (A : Option Addr) (c : Nat) (xs : List Int) (x : Int) (w : World) (B : Nat) (hR : Row I64 w B A xs) (hl : xs.length ≤ 1152921504606846976) :
    Calls Tryz.prog 87 #[.slice A xs.length c, .int .i64 x] w fun e w' => e = .returned (.int .i64 (if xs.contains x then ((xs.idxOf x : Nat) : Int) else -1)) ∧ w = w' := by
  obtain ⟨R, hRR⟩ : ∃ R : Int, R = if xs.contains x then ((xs.idxOf x : Nat) : Int) else -1 := ⟨_, rfl⟩
  rw [← hRR]
  have HRR := Lib.hid hRR
  have HR := Lib.hid hR
  clear hRR hR
  go_enter Tryz.func87, Tryz.ntmps87
  go_wp2
  go_loop [8] (fun i => ∃ k : Nat, k ≤ xs.length ∧ i = .int .i64 k ∧ x ∉ xs.take k) (fun i => xs.length - (intOf i).toNat)
  case atStart => exact ⟨0, Nat.zero_le _, rfl, by simp⟩
  case round =>
    obtain ⟨k, hk, rfl, hno⟩ := hrel
    have HN := Lib.hid hno
    clear hno
    by_cases hlt : k < xs.length
    · obtain ⟨b, o, rfl, _, hc⟩ := HR.out.at hlt
      have HT := Lib.hid (List.take_succ_eq_append_getElem hlt)
      have HI : Hid (x = xs[k] → R = (k : Int)) := Lib.hid fun e => by
        rw [HRR.out, if_pos (by rw [e]; simp)]
        have h1 : xs.idxOf x = k := by
          have h2 : xs = xs.take k ++ (xs[k] :: xs.drop (k + 1)) := by rw [← List.drop_eq_getElem_cons hlt, List.take_append_drop]
          rw [h2, List.idxOf_append, if_neg HN.out, ← e, List.idxOf_cons_self]
          simp; omega
        rw [h1]
      obtain ⟨y, hy⟩ : ∃ y, y = xs[k] := ⟨_, rfl⟩
      rw [← hy] at hc HT HI
      clear hy
      by_cases he : x = y
      · have HI := Lib.hid (HI.out he)
        go_wp2
        go_ret
        exact ⟨ret_int HI.out.symm, rfl⟩
      · have HE := Lib.hid he
        go_wp2
        go_round
        case rel => exact ⟨k + 1, by omega, by go_num, by rw [HT.out]; simp [HN.out, HE.out]⟩
        case measure => simp [intOf]; omega
    · have e : k = xs.length := by omega
      have HE : Hid ((-1 : Int) = R) := Lib.hid (by rw [HRR.out, if_neg]; have := HN.out; rw [e, List.take_length] at this; simpa using this)
      clear e
      go_wp2
      go_ret
      exact ⟨ret_int HE.out, rfl⟩

set_option maxHeartbeats 1000000 in
theorem contains_any (A : Option Addr) (c : Nat) (xs : List Int) (x : Int) (w : World) (B : Nat) (hR : Row I64 w B A xs) (hl : xs.length ≤ 1152921504606846976) :
    Calls Tryz.prog 79 #[.slice A xs.length c, .int .i64 x] w fun e w' => e = .returned (.bool (xs.contains x)) ∧ w = w' := by
  have HI := index_any A c xs x w B hR hl
  obtain ⟨b, hb⟩ : ∃ b, b = xs.contains x := ⟨_, rfl⟩
  rw [← hb] at HI ⊢
  obtain ⟨j, hj⟩ : ∃ j, j = xs.idxOf x := ⟨_, rfl⟩
  rw [← hj] at HI
  clear hR hb hj
  cases b
  · go_enter Tryz.func79, Tryz.ntmps79
    go_wp2_with fail
    refine HI.mono ?_
    rintro e w' ⟨rfl, rfl⟩
    go_wp2_with fail
    go_ret
    exact ⟨rfl, rfl⟩
  · go_enter Tryz.func79, Tryz.ntmps79
    go_wp2_with fail
    refine HI.mono ?_
    rintro e w' ⟨rfl, rfl⟩
    have hj0 : (0 : Int) ≤ (j : Int) := by omega
    go_wp2_with fail
    go_ret
    exact ⟨rfl, rfl⟩

set_option maxHeartbeats 2000000 in
theorem isValidFace_any (A : Option Addr) (c n : Nat) (f : List Int) (w : World) (hR : Row I64 w w.heap.size A f) (hc : f.length ≤ c) (hcm : c ≤ maxLen) :
    Calls Tryz.prog 55 #[.slice A f.length c, .int .i64 n] w fun e w' => e = .returned (.bool (okFace n f)) ∧ w = w' := by
  have HR := Lib.hid hR
  obtain ⟨R, hRR⟩ : ∃ R, R = okFace n f := ⟨_, rfl⟩
  rw [← hRR]
  have HRR := Lib.hid hRR
  have hcm' : (c : Int) ≤ 9223372036854775807 := by unfold maxLen at hcm; omega
  clear hR hRR hcm
  by_cases h4 : f.length = 4
  · obtain ⟨m, hm⟩ : ∃ m, m = f.length := ⟨_, rfl⟩
    have HM := Lib.hid hm
    rw [← hm] at hc h4 ⊢
    clear hm
    subst h4
    go_enter Tryz.func55, Tryz.ntmps55
    go_wp2
    go_loop [12] (fun i => ∃ k : Nat, k ≤ 4 ∧ i = .int .i64 k ∧ ∀ i < k, okAt n f i = true) (fun i => 4 - (intOf i).toNat)
    case atStart => exact ⟨0, Nat.zero_le _, rfl, fun i h => by omega⟩
    case round =>
      obtain ⟨k, hk, rfl, hok⟩ := hrel
      have HK := Lib.hid hok
      clear hok
      by_cases hlt : k < 4
      · have hlt' : k < f.length := by have := HM.out; omega
        obtain ⟨b, o, rfl, hbl, hcell⟩ := HR.out.at hlt'
        have HRT : Hid (Row I64 w w.heap.size (some ⟨b, o, none⟩) (f.take k)) := Lib.hid fun h0 => by
          obtain ⟨b1, o1, e1, hb1, hc1⟩ := HR.out (by omega)
          refine ⟨b1, o1, e1, hb1, fun j hj => ?_⟩
          simp at hj
          rw [hc1 j (by omega), List.getElem_take]
        have HD := Lib.hid (gd f k 0 hlt')
        have HTL : Hid ((f.take k).length = k) := Lib.hid (by simp; omega)
        have HNO : Hid (okAt n f k = false → false = R) := Lib.hid fun h => by rw [HRR.out, okFace_no_at hlt' h]
        obtain ⟨x, hx⟩ : ∃ x, x = f[k] := ⟨_, rfl⟩
        rw [← hx] at hcell HD
        have HOK : Hid (okAt n f k = (decide (0 ≤ x) && decide (x < n) && !((f.take k).contains x))) := Lib.hid (by unfold okAt; rw [HD.out])
        obtain ⟨q, hq⟩ : ∃ q, q = (f.take k).contains x := ⟨_, rfl⟩
        have HCT : Calls Tryz.prog 79 #[.slice (some ⟨b, o, none⟩) k c, .int .i64 x] w fun e w' => e = .returned (.bool q) ∧ w = w' := by
          have h := contains_any (some ⟨b, o, none⟩) c (f.take k) x w w.heap.size HRT.out (by have := HTL.out; omega)
          rwa [HTL.out, ← hq] at h
        rw [← hq] at HOK
        clear hq hx HRT hlt'
        have hkc : (k : Int) ≤ (c : Int) := by omega
        by_cases h0 : x < 0
        · have HF : Hid (false = R) := Lib.hid (HNO.out (by rw [HOK.out]; simp; omega))
          have hb0 : decide (x < 0) = true := by simpa using h0
          clear HCT
          go_wp2_with fail
          go_ret
          exact ⟨retB HF.out, rfl⟩
        · have hb0 : decide (x < 0) = false := by simpa using h0
          by_cases h1 : x < n
          · have hb1 : decide (x ≥ (n : Int)) = false := by simpa using h1
            cases q
            · have HG : Hid (okAt n f k = true) := Lib.hid (by rw [HOK.out]; simp; omega)
              go_wp2_with fail
              refine HCT.mono ?_
              rintro e w' ⟨rfl, rfl⟩
              clear HCT
              go_wp2_with fail
              go_round
              case rel => exact ⟨k + 1, by omega, by go_num, fun i hi => by
                by_cases e : i = k
                · rw [e]; exact HG.out
                · exact HK.out i (by omega)⟩
              case measure => simp [intOf]; omega
            · have HF : Hid (false = R) := Lib.hid (HNO.out (by rw [HOK.out]; simp))
              go_wp2_with fail
              refine HCT.mono ?_
              rintro e w' ⟨rfl, rfl⟩
              clear HCT
              go_wp2_with fail
              go_ret
              exact ⟨retB HF.out, rfl⟩
          · have hb1 : decide (x ≥ (n : Int)) = true := by simpa using h1
            have HF : Hid (false = R) := Lib.hid (HNO.out (by rw [HOK.out]; simp; omega))
            clear HCT
            go_wp2_with fail
            go_ret
            exact ⟨retB HF.out, rfl⟩
      · have e : k = 4 := by omega
        have HF : Hid (true = R) := Lib.hid (by rw [HRR.out, okFace_yes HM.out.symm (fun i hi => HK.out i (by have := HM.out; omega))])
        clear e
        go_wp2
        go_ret
        exact ⟨retB HF.out, rfl⟩
  · have h4' : ¬ ((f.length : Int) = 4) := by omega
    have HF : Hid (false = R) := Lib.hid (by rw [HRR.out, okFace_no_len h4])
    clear h4
    go_enter Tryz.func55, Tryz.ntmps55
    go_wp2_with fail
    go_ret
    exact ⟨retB HF.out, rfl⟩

end Go.Proofs.YtdefhepagpgnaaaGreat
