/- Contracts of strings.Builder's WriteString, of joinWith and Join. -/
import Derived.Test.YtjbpfgaakkkaaaaDoorProg
import Derived.Test.YtjbpfgaakkkaaaaDoorMem
import Derived.Test.YtjbpfgaakkkaaaaDoorStrS
import Derived.Test.YtjbpfgaakkkaaaaDoorShelf
import Derived.WalkKit
import Derived.WalkSpells
import Derived.WalkLawsBesides
import Derived.Lib.Hide
import Derived.Lib.Builder
import Derived.Lib.AppendStr
import Derived.Lib.UnsafeStr
import Derived.Lib.Walk
import Derived.Laws.Externs
namespace Go.Proofs.YtjbpfgaakkkaaaaDoor
open Go.RowKit

theorem sizeBuilder : (Tryd.prog.info? 87).map (·.size) = some 2 := by kernel_rfl
theorem liesBuilder : liesAt Tryd.prog Tryd.prog.depth 87 (2 / Tryd.prog.cellsOf 87) 0 87 1 = true := by kernel_rfl
theorem infoByte : (Tryd.prog.info? 5).map (fun i => (i.zero, i.size, i.bytes)) = some (some (.int .u8 0), 1, 1) := by kernel_rfl
set_option maxHeartbeats 1000000 in
set_option maxRecDepth 100000 in
theorem copyCheck_used (b : Nat) (w : World) (h0 : w.cell? ⟨b, 0, none⟩ = some (.pointer (some ⟨b, 0, none⟩))) :
    Calls Tryd.prog 79 #[.pointer (some ⟨b, 0, none⟩)] w fun e w' => e = .returned (.tuple #[]) ∧ w' = w := by
  obtain ⟨j, hj, _⟩ := Option.map_eq_some_iff.1 sizeBuilder
  go_enter Tryd.func79, Tryd.ntmps79
  go_wp2
  rw [Lib.run_neq_ptr_same w _ Tryd.underlying85 hj]
  go_wp2
  go_end0
  exact ⟨rfl, rfl⟩
set_option maxHeartbeats 1000000 in
set_option maxRecDepth 100000 in
theorem copyCheck_fresh (b : Nat) (w : World) (h0 : w.cell? ⟨b, 0, none⟩ = some (.pointer none)) (hsh : w.shape? b = some (87, 2)) (hfz : w.frozen? ⟨b, 0, none⟩ = false) :
    Calls Tryd.prog 79 #[.pointer (some ⟨b, 0, none⟩)] w fun e w' => e = .returned (.tuple #[]) ∧ w' = w.setCell ⟨b, 0, none⟩ (.pointer (some ⟨b, 0, none⟩)) := by
  obtain ⟨j, hj, hjs⟩ := Option.map_eq_some_iff.1 sizeBuilder
  go_enter Tryd.func79, Tryd.ntmps79
  go_wp2
  rw [Lib.run_to_unsafe w ⟨b, 0, none⟩ Tryd.underlying85 Tryd.underlying109 hj (by rw [hjs]; decide) hsh (Nat.zero_lt_succ 1)]
  simp only [Result.andThen]
  rw [Oper.upon_value]
  go_wp2
  rw [run_callFunc_extern Tryd.func86 (by kernel_rfl) (by kernel_rfl) (by kernel_rfl) (e := Extern.AbiNoEscape.same) (by kernel_rfl)]
  rw [Lib.run_noEscape]
  simp only [Result.andThen]
  rw [Oper.upon_value]
  go_wp2
  rw [Lib.run_from_unsafe w ⟨b, 0, none⟩ Tryd.underlying109 Tryd.underlying85 hj hsh liesBuilder]
  simp only [Result.andThen]
  rw [Oper.upon_value]
  go_wp2
  go_end0
  exact ⟨rfl, rfl⟩
theorem copyCheck_any (B b : Nat) (bs : List Value) (w : World) (h : Lib.IsBuilder 87 5 B b bs w) :
    Calls Tryd.prog 79 #[.pointer (some ⟨b, 0, none⟩)] w fun e w' => e = .returned (.tuple #[]) ∧ (Lib.BuilderAt 87 5 B b (.pointer (some ⟨b, 0, none⟩)) bs w' ∧ Below B w w') := by
  rcases h with h | h
  · refine (copyCheck_fresh b w h.cell0 h.shape h.frozen0).mono ?_
    rintro e w' ⟨rfl, rfl⟩
    exact ⟨rfl, h.used _, (Below.refl B w).setCell (p := ⟨b, 0, none⟩) h.1 _⟩
  · refine (copyCheck_used b w h.cell0).mono ?_
    rintro e w' ⟨rfl, rfl⟩
    exact ⟨rfl, h, Below.refl B _⟩
set_option maxHeartbeats 1000000 in
theorem writeString_any (B b : Nat) (bs : List Value) (s : ByteArray) (w : World) (h : Lib.IsBuilder 87 5 B b bs w) (hlen : bs.length + s.size ≤ 140737488355328) (hBw : B ≤ w.heap.size) :
    Calls Tryd.prog 68 #[.pointer (some ⟨b, 0, none⟩), .string s] w fun e w' => e = .returned (.tuple #[.int .i64 s.size, .nilIface]) ∧ (Lib.IsBuilder 87 5 B b (bs ++ Lib.strCells s) w' ∧ Below B w w') := by
  obtain ⟨i0, hi, hz0, hz1, hz2⟩ := info_parts infoByte
  go_enter Tryd.func68, Tryd.ntmps68
  go_wp2_with fail
  refine (copyCheck_any B b bs _ h).mono ?_
  rintro e w1 ⟨rfl, h1, hb1⟩
  obtain ⟨hB, v, hbk, hown, hne⟩ := h1
  have c0 : w1.cell? ⟨b, 0, none⟩ = some (.pointer (some ⟨b, 0, none⟩)) := by rw [Lib.cell_of_heap hbk]; rfl
  have c1 : w1.cell? ⟨b, 1, none⟩ = some v := by rw [Lib.cell_of_heap hbk]; rfl
  have hs1 := hb1.size
  have HBK := Lib.hid hbk
  have HO := Lib.hid hown
  have HB1 := Lib.hid hb1
  have HNE := Lib.hid hne
  clear hbk hown hb1 h hne
  go_wp2_with (at_builtin; refine Lib.wpList_append_own_string _ rfl _ _ 22 9 rfl B 5 i0 Tryd.underlying22 Tryd.underlying9 hi hz0 hz1 hz2 _ _ _ rfl HO.out s rfl (by unfold maxLen; omega) (by omega) (by omega) ?_)
  intro v' w2 hown' hgrow _
  have hlt : b < w1.heap.size := by
    rcases Nat.lt_or_ge b w1.heap.size with h' | h'
    · exact h'
    · have := HBK.out; simp [Array.getElem?_eq_none h'] at this
  have hb2 : w2.heap[b]? = some (.cells #[.pointer (some ⟨b, 0, none⟩), v] 87 (0, 0)) := by
    rw [hgrow.block b hlt (fun e => HNE.out e.symm)]
    exact HBK.out
  have d0 : w2.cell? ⟨b, 0, none⟩ = some (.pointer (some ⟨b, 0, none⟩)) := by rw [Lib.cell_of_heap hb2]; rfl
  have d1 : w2.cell? ⟨b, 1, none⟩ = some v := by rw [Lib.cell_of_heap hb2]; rfl
  have f1 : w2.frozen? ⟨b, 1, none⟩ = false := Lib.frozen_of_heap hb2 1
  obtain ⟨ao, cap, rfl⟩ := own_shape hown'
  have HB2 := Lib.hid (HB1.out.grown hgrow (by omega) (own_block HO.out))
  have HBK2 := Lib.hid hb2
  have HO2 := Lib.hid hown'
  clear hown' hgrow hb2
  go_wp2
  go_ret2
  exact ⟨rfl, .inr (Lib.BuilderAt.put (T := 87) (e := 5) hB HBK2.out (bs' := bs ++ Lib.strCells s) (by simpa [Lib.strCells_length] using HO2.out) (by decide)), HB2.out.setCell (p := ⟨b, 1, none⟩) hB _⟩

/-- the bytes of the first k parts, the separator between them -/
def joinN (sep : ByteArray) (xs : List ByteArray) : Nat → List UInt8
  | 0 => []
  | k + 1 => joinN sep xs k ++ (if k = 0 then [] else sep.data.toList) ++ (xs.getD k ByteArray.empty).data.toList
def sizeN (xs : List ByteArray) : Nat → Nat
  | 0 => 0
  | k + 1 => sizeN xs k + (xs.getD k ByteArray.empty).size
def joinP (xs : List ByteArray) (sep : ByteArray) : ByteArray := strOf (joinN sep xs xs.length)
theorem joinN_len (sep : ByteArray) (xs : List ByteArray) (k : Nat) : (joinN sep xs k).length ≤ k * sep.size + sizeN xs k := by
  induction k with
  | zero => simp [joinN]
  | succ k ih =>
    unfold joinN sizeN
    rw [List.length_append, List.length_append, Nat.succ_mul]
    have e : (if k = 0 then [] else sep.data.toList).length ≤ sep.size := by
      split
      · simp
      · rw [Array.length_toList]; exact Nat.le_refl _
    have e2 : (xs.getD k ByteArray.empty).data.toList.length = (xs.getD k ByteArray.empty).size := by rw [Array.length_toList]; rfl
    omega
theorem joinN_step (sep : ByteArray) (xs : List ByteArray) (k : Nat) (h : k < xs.length) : joinN sep xs (k + 1) = joinN sep xs k ++ (if k = 0 then [] else sep.data.toList) ++ xs[k].data.toList := by
  rw [joinN]; simp [h]
theorem sizeN_mono (xs : List ByteArray) (k n : Nat) (h : k ≤ n) : sizeN xs k ≤ sizeN xs n := by
  induction n with
  | zero => obtain rfl : k = 0 := by omega
            exact Nat.le_refl _
  | succ n ih =>
    rcases Nat.lt_or_ge k (n + 1) with hh | hh
    · have := ih (by omega)
      rw [sizeN]; omega
    · obtain rfl : k = n + 1 := by omega
      exact Nat.le_refl _
theorem strOf_add (l : List UInt8) (s : ByteArray) : strOf l ++ s = strOf (l ++ s.data.toList) := by
  apply ByteArray.ext
  simp [strOf]
theorem byteCells_add (l : List UInt8) (s : ByteArray) : Lib.byteCells l ++ Lib.strCells s = Lib.byteCells (l ++ s.data.toList) := by simp [Lib.byteCells, Lib.strCells]

set_option maxHeartbeats 1000000 in
theorem sJoin_any (A : Option Addr) (c : Nat) (xs : List ByteArray) (sep : ByteArray) (w : World) (B : Nat) (hR : Row Str w B A xs) (hl : xs.length ≤ 1048576) (hsep : sep.size ≤ 1048576) (hsz : sizeN xs xs.length ≤ 1099511627776) :
    Calls Tryd.prog 62 #[.slice A xs.length c, .string sep] w fun e w' => e = .returned (.string (joinP xs sep)) ∧ w = w' := by
  have hbd : ∀ k, k ≤ xs.length → (joinN sep xs k).length ≤ 2199023255552 := fun k hk => by
    have h1 := joinN_len sep xs k
    have h2 := sizeN_mono xs k xs.length hk
    have h3 : k * sep.size ≤ 1048576 * 1048576 := Nat.mul_le_mul (by omega) hsep
    omega
  have HBD := Lib.hid hbd
  clear hbd
  go_enter Tryd.func62, Tryd.ntmps62
  go_wp2
  go_loop [5, 10] (fun v i => ∃ k : Nat, k ≤ xs.length ∧ i = .int .i64 k ∧ v = .string (strOf (joinN sep xs k))) (fun _ i => xs.length - (intOf i).toNat)
  case atStart => exact ⟨0, Nat.zero_le _, rfl, rfl⟩
  case round =>
    obtain ⟨k, hk, rfl, rfl⟩ := hrel
    by_cases hlt : k < xs.length
    · obtain ⟨b, o, rfl, _, hc⟩ := hR.at hlt
      have hst := joinN_step sep xs k hlt
      have hb1 := HBD.out (k + 1) (by omega)
      rw [hst] at hb1
      rw [List.length_append, List.length_append] at hb1
      obtain ⟨x, hx⟩ : ∃ x, x = xs[k] := ⟨_, rfl⟩
      obtain ⟨l, hl'⟩ : ∃ l, l = joinN sep xs k := ⟨_, rfl⟩
      rw [← hx] at hc hst hb1
      rw [← hl'] at hst hb1 ⊢
      have HST := Lib.hid hst
      have hl1 : (strOf l).size = l.length := strOf_size l
      have hx1 : x.data.toList.length = x.size := by rw [Array.length_toList]; rfl
      have hs1 : sep.data.toList.length = sep.size := by rw [Array.length_toList]; rfl
      by_cases h0 : k = 0
      · subst h0
        rw [if_pos rfl] at hb1
        rw [Nat.add_zero] at hc
        have hz : (strOf l).size + x.size ≤ 2199023255552 := by simp only [List.length_nil] at hb1; omega
        clear hst hb1 hx hl' hl1 hx1 hs1 hR
        go_wp2
        go_round
        case rel => exact ⟨1, by omega, rfl, by rw [HST.out, strOf_add]; simp⟩
        case measure => simp [intOf]; omega
      · rw [if_neg h0] at hb1
        have HE := Lib.hid (if_neg h0 : (if k = 0 then ([] : List UInt8) else sep.data.toList) = sep.data.toList)
        have h0' : (0 : Int) < (k : Int) := by omega
        have hz0 : (strOf l).size + sep.size ≤ 2199023255552 := by omega
        have hz : (strOf l ++ sep).size + x.size ≤ 2199023255552 := by rw [strOf_add, strOf_size, List.length_append]; omega
        clear hst hb1 hx hl' hl1 hx1 hs1 hR
        go_wp2
        go_round
        case rel => exact ⟨k + 1, by omega, by go_num, by rw [HST.out, HE.out, strOf_add, strOf_add]⟩
        case measure => simp [intOf]; omega
    · go_wp2
      go_ret
      exact ⟨ret_str (by unfold joinP; rw [show k = xs.length by omega]), rfl⟩

set_option maxHeartbeats 1000000 in
theorem joinWith_any (A : Option Addr) (c : Nat) (xs : List ByteArray) (sep : ByteArray) (w : World) (hR : Row Str w w.heap.size A xs) (hl : xs.length ≤ 1048576) (hsep : sep.size ≤ 1048576) (hsz : sizeN xs xs.length ≤ 1099511627776) :
    Calls Tryd.prog 55 #[.string sep, .slice A xs.length c] w fun e w' => e = .returned (.string (joinP xs sep)) ∧ Below w.heap.size w w' := by
  have hbd : ∀ k, k ≤ xs.length → (joinN sep xs k).length ≤ 2199023255552 := fun k hk => by
    have h1 := joinN_len sep xs k
    have h2 := sizeN_mono xs k xs.length hk
    have h3 : k * sep.size ≤ 1048576 * 1048576 := Nat.mul_le_mul (by omega) hsep
    omega
  have HBD := Lib.hid hbd
  have h0B : Lib.IsBuilder 87 5 w.heap.size w.heap.size (Lib.byteCells (joinN sep xs 0)) (w.alloc (.cells #[.pointer none, .slice none 0 0] 87)) :=
    .inl ⟨Nat.le_refl _, .slice none 0 0, heap_alloc_new w _, World.ownsRow_nil _ _ _ _, by simp [Value.ownBlock]⟩
  have HB0 := Lib.hid h0B
  clear hbd h0B
  go_enter Tryd.func55, Tryd.ntmps55
  go_wp2
  go_loopw [10] (fun i wr => ∃ k : Nat, k ≤ xs.length ∧ i = .int .i64 k ∧ Lib.IsBuilder 87 5 w.heap.size w.heap.size (Lib.byteCells (joinN sep xs k)) wr ∧ Below w.heap.size w wr) (fun i _ => xs.length - (intOf i).toNat)
  case atStart => exact ⟨0, Nat.zero_le _, rfl, HB0.out, (Below.refl _ _).alloc (Nat.le_refl _) _⟩
  case round =>
    obtain ⟨k, hk, rfl, hbu, hb⟩ := hrel
    clear HB0
    have HBU := Lib.hid hbu
    have HB := Lib.hid hb
    have hs0 : w.heap.size ≤ wr.heap.size := hb.size
    clear hbu hb
    by_cases hlt : k < xs.length
    · obtain ⟨b, o, rfl, hbl, hc⟩ := hR.at hlt
      have hc := (HB.out.cell hbl).trans hc
      have hst := joinN_step sep xs k hlt
      have hb1 := HBD.out (k + 1) (by omega)
      rw [hst] at hb1
      rw [List.length_append, List.length_append] at hb1
      obtain ⟨x, hx⟩ : ∃ x, x = xs[k] := ⟨_, rfl⟩
      obtain ⟨l, hl'⟩ : ∃ l, l = joinN sep xs k := ⟨_, rfl⟩
      rw [← hx] at hc hst hb1
      rw [← hl'] at hst hb1 HBU
      have HST := Lib.hid hst
      have hx1 : x.data.toList.length = x.size := by rw [Array.length_toList]; rfl
      have hs1 : sep.data.toList.length = sep.size := by rw [Array.length_toList]; rfl
      by_cases h0 : k = 0
      · subst h0
        rw [if_pos rfl] at hb1
        rw [Nat.add_zero] at hc
        have hz : (Lib.byteCells l).length + x.size ≤ 140737488355328 := by simp only [List.length_nil] at hb1; rw [Lib.byteCells_length]; omega
        clear hst hb1 hx hl' hx1 hs1 hR
        go_wp2_with fail
        refine (writeString_any w.heap.size w.heap.size _ x _ HBU.out hz hs0).mono ?_
        rintro e w1 ⟨rfl, hbu1, hb1⟩
        have HBU1 := Lib.hid hbu1
        have HB1 := Lib.hid (HB.out.trans hb1)
        clear hbu1 hb1
        go_wp2_with fail
        go_roundw
        case rel => exact ⟨1, by omega, rfl, by rw [HST.out]; simpa [byteCells_add] using HBU1.out, HB1.out⟩
        case measure => simp [intOf]; omega
      · rw [if_neg h0] at hb1
        have HE := Lib.hid (if_neg h0 : (if k = 0 then ([] : List UInt8) else sep.data.toList) = sep.data.toList)
        have h0' : (0 : Int) < (k : Int) := by omega
        have hz0 : (Lib.byteCells l).length + sep.size ≤ 140737488355328 := by rw [Lib.byteCells_length]; omega
        have hz : (Lib.byteCells (l ++ sep.data.toList)).length + x.size ≤ 140737488355328 := by rw [Lib.byteCells_length, List.length_append]; omega
        clear hst hb1 hx hl' hx1 hs1 hR
        go_wp2_with fail
        refine (writeString_any w.heap.size w.heap.size _ sep _ HBU.out hz0 hs0).mono ?_
        rintro e w1 ⟨rfl, hbu1, hb1⟩
        rw [byteCells_add] at hbu1
        have HBU1 := Lib.hid hbu1
        have HB1 := Lib.hid (HB.out.trans hb1)
        have hs1 : w.heap.size ≤ w1.heap.size := HB1.out.size
        clear hbu1 hb1
        go_wp2_with fail
        refine (writeString_any w.heap.size w.heap.size _ x _ HBU1.out hz hs1).mono ?_
        rintro e w2 ⟨rfl, hbu2, hb2⟩
        rw [byteCells_add] at hbu2
        have HBU2 := Lib.hid hbu2
        have HB2 := Lib.hid (HB1.out.trans hb2)
        clear hbu2 hb2
        go_wp2_with fail
        go_roundw
        case rel => exact ⟨k + 1, by omega, by go_num, by rw [HST.out, HE.out]; exact HBU2.out, HB2.out⟩
        case measure => simp [intOf]; omega
    · clear hR
      go_wp2_with fail
      refine (Tryd.Builder_String_any w.heap.size w.heap.size _ _ HBU.out hs0).mono ?_
      rintro e w1 ⟨rfl, hb1⟩
      have HB1 := Lib.hid (HB.out.trans hb1)
      clear hb1
      go_wp2_with fail
      go_ret
      exact ⟨ret_str (by unfold joinP strOf; rw [show k = xs.length by omega]), HB1.out⟩


end Go.Proofs.YtjbpfgaakkkaaaaDoor
