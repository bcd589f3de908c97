/- A map from names to bools; isUniformOver of the program. -/
import Derived.Test.YtpcdlehicdepaaaProg
import Derived.Test.YtpcdlehicdepaaaInts
import Derived.Test.YtpcdlehicdepaaaVbox
import Derived.Test.YtpcdlehicdepaaaHeld
import Derived.Test.YtpcdlehicdepaaaMem
import Derived.Test.YtpcdlehicdepaaaFlat
import Derived.Test.YtpcdlehicdepaaaRowC
import Derived.Test.YtpcdlehicdepaaaKS
import Derived.Test.YtpcdlehicdepaaaStrS
import Derived.Test.YtpcdlehicdepaaaIntS
import Derived.Test.YtpcdlehicdepaaaSS
import Derived.Test.YtpcdlehicdepaaaPg
import Derived.Test.YtpcdlehicdepaaaPh
import Derived.Test.YtpcdlehicdepaaaPi
import Derived.Test.YtpcdlehicdepaaaIdent
import Derived.Test.YtpcdlehicdepaaaPn
import Derived.Test.YtpcdlehicdepaaaQa
import Derived.Test.YtpcdlehicdepaaaQb
import Derived.Test.YtpcdlehicdepaaaQd
import Derived.Test.YtpcdlehicdepaaaQe
import Derived.Test.YtpcdlehicdepaaaSa
import Derived.Test.YtpcdlehicdepaaaSb
import Derived.Test.YtpcdlehicdepaaaSc
import Derived.Test.YtpcdlehicdepaaaSh
import Derived.Test.YtpcdlehicdepaaaSi
import Derived.Test.YtpcdlehicdepaaaSm
import Derived.WalkKit
import Derived.WalkSpells
import Derived.WalkLawsBesides
import Derived.Lib.Hide
import Derived.Deep.RegionHeld3
import Derived.Deep.QuietTactic
import Derived.BigQuiet
import Derived.Handy
import Derived.Deep.DeepCutAuto
import Derived.OwnWalk
import Derived.Shelf.Abstract
import Derived.Maps.RangeWalk
import Derived.Maps.Ext
import Derived.Maps.OwnOps
import Derived.Maps.Views
import Derived.Maps.Keyed
import Derived.StringKeys
import Derived.OpenShut
namespace Go.Proofs.Ytpcdlehicdepaaa
open Go.RowKit Go.Shelf Go.Maps

abbrev BoolU : Bool → Value := Value.bool
/-- a map's element read as the value that it is -/
def rawU (v : Value) : Option (DataW Value × List MemPlace) := some (.held v, [])
theorem rawU_inv {v : Value} {z : DataW Value × List MemPlace} (h : rawU v = some z) : z = (.held v, []) := by unfold rawU at h; injection h with h; exact h.symm
def keyU (s : ByteArray) : Lit := .string s.data.toList
theorem keyU_inj {s u : ByteArray} (h : keyU s = keyU u) : s = u := by
  unfold keyU at h
  injection h with h
  cases s
  cases u
  congr 1
  exact Array.toList_inj.1 h
/-- block b is a map that tells of each name what f tells -/
def NmMap (w : World) (b n : Nat) (f : ByteArray → Bool) : Prop :=
  ∃ D : DataW Value, w.ownsMap Try.prog 9 rawU b n D ∧ IsMap D ∧ ∀ s : ByteArray, s.size ≤ maxLen → D.atKey (keyU s) (.held (.bool false)) = .held (.bool (f s))
theorem NmMap.made (w : World) : NmMap (w.alloc (.map #[] 0)) w.heap.size 0 (fun _ => false) :=
  ⟨.map [], World.ownsMap_made _ _ _ _, isMap_empty, fun _ _ => rfl⟩
theorem NmMap.kept {w w' : World} {row : Option Nat} {b n : Nat} {f : ByteArray → Bool} (h : NmMap w b n f) (hg : w.grownBy w' row) (hne : some b ≠ row) : NmMap w' b n f := by
  obtain ⟨D, h1, h2⟩ := h
  exact ⟨D, h1.kept hg hne, h2⟩
theorem NmMap.later {w w' : World} {b n : Nat} {f : ByteArray → Bool} (h : NmMap w b n f) (hb : Below w.heap.size w w') : NmMap w' b n f := h.kept (gb_of_below hb (row := none)) (by simp)
theorem NmMap.lt {w : World} {b n : Nat} {f : ByteArray → Bool} (h : NmMap w b n f) : b < w.heap.size := by
  obtain ⟨D, h1, _⟩ := h
  exact h1.lt
theorem NmMap.look {w : World} {b n : Nat} {f : ByteArray → Bool} (h : NmMap w b n f) (s : ByteArray) (hs : s.size ≤ maxLen) :
    (Instr.lookup 85 (.map (some b)) (.string s) false).run Try.prog w = .ok (.bool (f s)) w := by
  obtain ⟨D, h1, _, h3⟩ := h
  obtain ⟨v, ps, hr, hv⟩ := h1.lookup (Maps.string_keyed Try.underlying9) Try.underlying85 (z := .bool false) (by kernel_rfl) (zd := .held (.bool false)) rfl (WideMaps.keyOf_string_mk Try.underlying9 hs)
  have h4 := h3 s hs
  unfold keyU at h4
  rw [h4] at hv
  have h5 := rawU_inv hv
  simp only [Prod.mk.injEq, DataW.held.injEq] at h5
  rw [hr, ← h5.1]
theorem NmMap.put {w : World} {b n : Nat} {f : ByteArray → Bool} (h : NmMap w b n f) (hn : n < maxLen) (s : ByteArray) (hs : s.size ≤ maxLen) (x : Bool) :
    ∃ w', (Instr.mapUpdate 85 (.map (some b)) (.string s) (.bool x)).run Try.prog w = .ok () w' ∧ NmMap w' b (n + 1) (fun u => if u = s then x else f u) ∧ w.grownBy w' (some b) := by
  obtain ⟨D, h1, h2, h3⟩ := h
  obtain ⟨w', hr, ho, hg⟩ := h1.update (Maps.string_keyed Try.underlying9) Try.underlying85 hn (val := .bool x) (WideMaps.keyOf_string_mk Try.underlying9 hs) (d := .held (.bool x)) (ps := []) rfl
  refine ⟨w', hr, ⟨_, ho, h2.put _ _, fun u hu => ?_⟩, hg⟩
  by_cases c : u = s
  · subst c
    show (D.put (keyU u) _).atKey (keyU u) _ = _
    rw [atKey_put_same h2 (by unfold keyU; trivial)]
    simp
  · show (D.put (keyU s) _).atKey (keyU u) _ = _
    rw [atKey_put_other (fun h => c (keyU_inj h)), h3 u hu]
    simp [c]
/-- what isUniformOver answers -/
def uOver (v0 : Int) (v1 : ByteArray) (v3 : List Int) (us : List Bool) (f : ByteArray → Bool) : Bool :=
  if v0 = 2 then f v1 else if v0 = 8 ∧ v1 = ⟨#[116, 101, 120]⟩ then false else v3.all fun a => us.getD a.toNat false

set_option maxRecDepth 100000 in
set_option maxHeartbeats 8000000 in
theorem over_any (v0 : Int) (v1 : ByteArray) (a : Option Addr) (ca : Nat) (v3 : List Int) (AU : Option Addr) (cu : Nat) (us : List Bool) (bm nm : Nat) (f : ByteArray → Bool) (w : World)
    (hsz : v1.size ≤ maxLen) (h0 : v0 = 1 → v3 = []) (h3 : v3.length ≤ 1048576) (hin : ∀ x ∈ v3, 0 ≤ x ∧ x.toNat < us.length) (hR : Row I64 w w.heap.size a v3) (hW : Row BoolU w w.heap.size AU us) (hM : NmMap w bm nm f) :
    Calls Try.prog 67 #[exV v0 v1 (.slice a v3.length ca), .slice AU us.length cu, .map (some bm)] w fun e w' => e = .returned (.bool (uOver v0 v1 v3 us f)) ∧ Below w.heap.size w w' := by
  by_cases h2 : v0 = 2
  · subst h2
    have hX : exV 2 v1 (.slice a v3.length ca) = .iface 95 (.agg #[.string v1]) := by simp [exV]
    have HV : Hid (uOver 2 v1 v3 us f = f v1) := Lib.hid (by simp [uOver])
    rw [hX]
    have ta := is_var v1
    have hb : Below w.heap.size w (w.alloc (.cells #[.string v1] 95)) := by go_grown
    have M := Mbox.new w #[.string v1] 95
    have hlk := (hM.later hb).look v1 hsz
    obtain ⟨W1, hW1⟩ : ∃ W, W = w.alloc (.cells #[.string v1] 95) := ⟨_, rfl⟩
    rw [← hW1] at M hb hlk
    have HB := Lib.hid hb
    obtain ⟨q, hq⟩ : ∃ q, q = f v1 := ⟨_, rfl⟩
    rw [← hq] at hlk HV
    have m0 := M.c 0
    clear hX hb M hR hW hM hq hin
    go_enter Try.func67, Try.ntmps67
    go_upto_region 4 with fail
    rw [← hW1]
    clear hW1
    go_wp2_with fail
    go_ret
    exact ⟨by rw [HV.out]; rfl, HB.out⟩
  by_cases h8 : v0 = 8
  · subst h8
    have hX : exV 8 v1 (.slice a v3.length ca) = .iface 99 (.agg #[.slice a v3.length ca, .string v1]) := by simp [exV]
    rw [hX]
    have ta := not_var 99 (.agg #[.slice a v3.length ca, .string v1]) (by decide)
    have tb := is_call a v3.length ca v1
    have hb : Below w.heap.size w (w.alloc (.cells #[.slice a v3.length ca, .string v1] 99)) := by go_grown
    have M := Mbox.new w #[.slice a v3.length ca, .string v1] 99
    have hR1 := hR.later hb
    have hW1' := hW.later hb
    obtain ⟨W1, hW1⟩ : ∃ W, W = w.alloc (.cells #[.slice a v3.length ca, .string v1] 99) := ⟨_, rfl⟩
    rw [← hW1] at M hb hR1 hW1'
    have HB1 := Lib.hid hb
    have HRO1 := Lib.hid hR1
    have HRW1 := Lib.hid hW1'
    have HIN := Lib.hid hin
    have m1 := M.c 1
    clear hX hb M hR hW hM hR1 hW1' hin
    by_cases hx : v1 = ⟨#[116, 101, 120]⟩
    · have bx : (v1.toList == [116, 101, 120]) = true := by rw [str_isQ]; exact decide_eq_true hx
      have HV : Hid (uOver 8 v1 v3 us f = false) := Lib.hid (by unfold uOver; rw [if_neg (by omega), if_pos ⟨rfl, hx⟩])
      clear hx
      go_enter Try.func67, Try.ntmps67
      go_upto_region 7 with fail
      rw [← hW1]
      clear hW1
      go_wp2_with fail
      go_ret
      exact ⟨by rw [HV.out]; rfl, HB1.out⟩
    · have bx : (v1.toList == [116, 101, 120]) = false := str_nots hx
      have HUO : Hid (uOver 8 v1 v3 us f = v3.all fun a => us.getD a.toNat false) := Lib.hid (by unfold uOver; rw [if_neg (by omega), if_neg (fun h => hx h.2)])
      obtain ⟨v0, hv0⟩ : ∃ v0 : Int, v0 = 8 := ⟨_, rfl⟩
      rw [← hv0] at HUO ⊢
      clear hx hv0
      go_enter Try.func67, Try.ntmps67
      go_upto_region 7 with fail
      rw [← hW1]
      clear hW1
      go_wp2_with fail
      refine (oops_any a v3.length ca W1).mono ?_
      rintro e w1 ⟨rfl, hb1⟩
      have HB := Lib.hid (HB1.out.trans (hb1.mono HB1.out.size))
      have HRO := Lib.hid (HRO1.out.later hb1)
      have HRW := Lib.hid (HRW1.out.later hb1)
      clear hb1 m1
      go_wp2_with fail
      go_loopw [28] (fun i wr => ∃ k : Nat, k ≤ v3.length ∧ i = .int .i64 k ∧ wr = w1 ∧ ∀ j (h : j < v3.length), j < k → us.getD (v3[j]).toNat false = true) (fun i _ => v3.length - (intOf i).toNat)
      case atStart => exact ⟨0, Nat.zero_le _, rfl, rfl, fun j _ h => by omega⟩
      case round =>
        obtain ⟨k, hk, rfl, rfl, hno⟩ := hrel
        have HNO := Lib.hid hno
        clear hno
        by_cases hlt : k < v3.length
        · obtain ⟨b, o, rfl, _, hc⟩ := HRO.out.at hlt
          have hin := HIN.out _ (List.getElem_mem hlt)
          obtain ⟨m, hm⟩ : ∃ m : Nat, v3[k] = (m : Int) := ⟨(v3[k]).toNat, by omega⟩
          have e2 : ((m : Int)).toNat = m := by omega
          rw [hm] at hc hin
          rw [e2] at hin
          have hmu : m < us.length := hin.2
          obtain ⟨b2, o2, rfl, _, hd⟩ := HRW.out.at hmu
          obtain ⟨u, hu⟩ : ∃ u, u = us[m] := ⟨_, rfl⟩
          rw [← hu] at hd
          have HU : Hid (us.getD (v3[k]).toNat false = u) := Lib.hid (by rw [hm, e2, getD_at hmu]; exact hu.symm)
          have hlt' : (k : Int) < (v3.length : Int) := by omega
          have hge' : (0 : Int) ≤ (k : Int) := by omega
          have hmlt : (m : Int) < (us.length : Int) := by omega
          have hmge : (0 : Int) ≤ (m : Int) := by omega
          clear hm hin e2 hu hmu
          cases u with
          | false =>
            have HV : Hid (uOver v0 v1 v3 us f = false) := Lib.hid (by
              rw [HUO.out, List.all_eq_false]
              exact ⟨v3[k], List.getElem_mem hlt, by rw [HU.out]; simp⟩)
            go_wp2_with fail
            go_ret
            exact ⟨by rw [HV.out]; rfl, HB.out⟩
          | true =>
            have HN2 : Hid (∀ j (h : j < v3.length), j < k + 1 → us.getD (v3[j]).toNat false = true) := Lib.hid (fun j h hj => by
              by_cases e : j = k
              · subst e
                exact HU.out
              · exact HNO.out j h (by omega))
            go_wp2_with fail
            go_roundw
            case rel => exact ⟨k + 1, by omega, by go_num, by first | rfl | trivial, HN2.out⟩
            case measure => simp [intOf]; omega
        · obtain rfl : k = v3.length := by omega
          have HV : Hid (uOver v0 v1 v3 us f = true) := Lib.hid (by
            rw [HUO.out, List.all_eq_true]
            intro a ha
            obtain ⟨j, hj, rfl⟩ := List.getElem_of_mem ha
            exact HNO.out j hj hj)
          have hge2 : ¬ ((v3.length : Nat) : Int) < ((v3.length : Nat) : Int) := by omega
          go_wp2_with fail
          go_ret
          exact ⟨by rw [HV.out]; rfl, HB.out⟩
  · have HUO : Hid (uOver v0 v1 v3 us f = v3.all fun a => us.getD a.toNat false) := Lib.hid (by unfold uOver; rw [if_neg h2, if_neg (fun h => h8 h.1)])
    by_cases h1 : v0 = 1
    · have hX : exV v0 v1 (.slice a v3.length ca) = .iface 93 (.agg #[]) := by simp [exV, h1]
      rw [hX]
      have ta := not_var 93 (.agg #[]) (by decide)
      have tb := not_call 93 (.agg #[]) (by decide)
      have HV : Hid (uOver v0 v1 v3 us f = true) := Lib.hid (by rw [HUO.out, h0 h1]; rfl)
      clear hX h2 h8 h1 h0 hR hW hM hin
      go_enter Try.func67, Try.ntmps67
      go_wp2_with fail
      refine (cops_any w).mono ?_
      rintro e w1 ⟨rfl, hb1⟩
      have HB := Lib.hid hb1
      clear hb1
      go_wp2_with fail
      go_loopw [28] (fun i wr => i = .int .i64 0 ∧ wr = w1) (fun i _ => 0)
      case atStart => exact ⟨rfl, rfl⟩
      case round =>
        obtain ⟨rfl, rfl⟩ := hrel
        go_wp2_with fail
        go_ret
        exact ⟨by rw [HV.out]; rfl, HB.out⟩
    · have hX : exV v0 v1 (.slice a v3.length ca) = .iface 97 (.agg #[.slice a v3.length ca]) := by simp [exV, h1, h2, h8]
      rw [hX]
      have ta := not_var 97 (.agg #[.slice a v3.length ca]) (by decide)
      have tb := not_call 97 (.agg #[.slice a v3.length ca]) (by decide)
      have HRO1 := Lib.hid hR
      have HRW1 := Lib.hid hW
      have HIN := Lib.hid hin
      clear hX h2 h8 h1 h0 hR hW hM hin
      go_enter Try.func67, Try.ntmps67
      go_wp2_with fail
      refine (oops_any a v3.length ca w).mono ?_
      rintro e w1 ⟨rfl, hb1⟩
      have HB := Lib.hid hb1
      have HRO := Lib.hid (HRO1.out.later hb1)
      have HRW := Lib.hid (HRW1.out.later hb1)
      clear hb1
      go_wp2_with fail
      go_loopw [28] (fun i wr => ∃ k : Nat, k ≤ v3.length ∧ i = .int .i64 k ∧ wr = w1 ∧ ∀ j (h : j < v3.length), j < k → us.getD (v3[j]).toNat false = true) (fun i _ => v3.length - (intOf i).toNat)
      case atStart => exact ⟨0, Nat.zero_le _, rfl, rfl, fun j _ h => by omega⟩
      case round =>
        obtain ⟨k, hk, rfl, rfl, hno⟩ := hrel
        have HNO := Lib.hid hno
        clear hno
        by_cases hlt : k < v3.length
        · obtain ⟨b, o, rfl, _, hc⟩ := HRO.out.at hlt
          have hin := HIN.out _ (List.getElem_mem hlt)
          obtain ⟨m, hm⟩ : ∃ m : Nat, v3[k] = (m : Int) := ⟨(v3[k]).toNat, by omega⟩
          have e2 : ((m : Int)).toNat = m := by omega
          rw [hm] at hc hin
          rw [e2] at hin
          have hmu : m < us.length := hin.2
          obtain ⟨b2, o2, rfl, _, hd⟩ := HRW.out.at hmu
          obtain ⟨u, hu⟩ : ∃ u, u = us[m] := ⟨_, rfl⟩
          rw [← hu] at hd
          have HU : Hid (us.getD (v3[k]).toNat false = u) := Lib.hid (by rw [hm, e2, getD_at hmu]; exact hu.symm)
          have hlt' : (k : Int) < (v3.length : Int) := by omega
          have hge' : (0 : Int) ≤ (k : Int) := by omega
          have hmlt : (m : Int) < (us.length : Int) := by omega
          have hmge : (0 : Int) ≤ (m : Int) := by omega
          clear hm hin e2 hu hmu
          cases u with
          | false =>
            have HV : Hid (uOver v0 v1 v3 us f = false) := Lib.hid (by
              rw [HUO.out, List.all_eq_false]
              exact ⟨v3[k], List.getElem_mem hlt, by rw [HU.out]; simp⟩)
            go_wp2_with fail
            go_ret
            exact ⟨by rw [HV.out]; rfl, HB.out⟩
          | true =>
            have HN2 : Hid (∀ j (h : j < v3.length), j < k + 1 → us.getD (v3[j]).toNat false = true) := Lib.hid (fun j h hj => by
              by_cases e : j = k
              · subst e
                exact HU.out
              · exact HNO.out j h (by omega))
            go_wp2_with fail
            go_roundw
            case rel => exact ⟨k + 1, by omega, by go_num, by first | rfl | trivial, HN2.out⟩
            case measure => simp [intOf]; omega
        · obtain rfl : k = v3.length := by omega
          have HV : Hid (uOver v0 v1 v3 us f = true) := Lib.hid (by
            rw [HUO.out, List.all_eq_true]
            intro a ha
            obtain ⟨j, hj, rfl⟩ := List.getElem_of_mem ha
            exact HNO.out j hj hj)
          have hge2 : ¬ ((v3.length : Nat) : Int) < ((v3.length : Nat) : Int) := by omega
          go_wp2_with fail
          go_ret
          exact ⟨by rw [HV.out]; rfl, HB.out⟩
end Go.Proofs.Ytpcdlehicdepaaa
