/- The text of a program of the shading language as a value; nothing of the program. -/
import Derived.Test.YtkbdnjhgcoihhaaDoorKS
import Derived.Test.YtkbdnjhgcoihhaaDoorPg
import Derived.Test.YtkbdnjhgcoihhaaDoorPn
import Derived.Test.YtkbdnjhgcoihhaaDoorBuilder
import Derived.Test.YtkbdnjhgcoihhaaDoorFn
namespace Go.Proofs.YtkbdnjhgcoihhaaDoor

theorem numT_size' (n d : Nat) (hn : n ≤ 2559999) (hd : Dg (n % 256) d) : (numT n d).size ≤ 16 := by
  have h1 := digits_len (n / 256) (by omega)
  have h2 := dl_len _ d hd.1 (lf_lt (by omega) hd)
  have h3 : d ≤ 3 := hd.2.1
  have e : ∀ l : List UInt8, (strOf l).size = l.length := fun l => by
    show l.toArray.size = _
    simp
  unfold numT
  split
  · rw [e]
    omega
  · rw [e]
    unfold padZ
    simp only [List.length_append, List.length_cons, List.length_replicate]
    omega
/-- a number's text -/
noncomputable def numZ (n : Int) : ByteArray := numT n.toNat (Classical.choose (dg_ex (n.toNat % 256)))
theorem numZ_dg (n : Int) : Dg (n.toNat % 256) (Classical.choose (dg_ex (n.toNat % 256))) := Classical.choose_spec (dg_ex (n.toNat % 256))
theorem numZ_size (n : Int) (h1 : n ≤ 2559999) : (numZ n).size ≤ 16 := numT_size' _ _ (by omega) (numZ_dg n)
theorem cat_assoc (a b c : ByteArray) : a ++ b ++ c = a ++ (b ++ c) := by
  apply ByteArray.ext
  simp
def opS (o : Int) : ByteArray := if o = 4 then ⟨#[43]⟩ else if o = 5 then ⟨#[45]⟩ else if o = 6 then ⟨#[42]⟩ else ⟨#[47]⟩
theorem opS_size (o : Int) : (opS o).size = 1 := by
  unfold opS
  split
  · rfl
  split
  · rfl
  split <;> rfl
def nd0 : Nd := (0, ByteArray.empty, 0, [])
/-- a node's text, its arguments' texts given -/
noncomputable def bodyT (v : Nd) (ws : List ByteArray) : ByteArray :=
  if v.1 = 1 then numZ v.2.2.1 else if v.1 = 2 then v.2.1 else if v.1 = 3 then ⟨#[40, 45]⟩ ++ ws.getD 0 ByteArray.empty ++ ⟨#[41]⟩
  else if v.1 = 8 then v.2.1 ++ ⟨#[40]⟩ ++ joinP ws ⟨#[44, 32]⟩ ++ ⟨#[41]⟩
  else ⟨#[40]⟩ ++ ws.getD 0 ByteArray.empty ++ ⟨#[32]⟩ ++ opS v.1 ++ ⟨#[32]⟩ ++ ws.getD 1 ByteArray.empty ++ ⟨#[41]⟩
noncomputable def txt (xs : List Nd) : Nat → Nat → ByteArray
  | 0, _ => ByteArray.empty
  | f + 1, i => bodyT (xs.getD i nd0) ((xs.getD i nd0).2.2.2.map fun a => txt xs f a.toNat)
/-- how many nodes stand below a node, it among them -/
def wt (xs : List Nd) : Nat → Nat → Nat
  | 0, _ => 0
  | f + 1, i => 1 + ((xs.getD i nd0).2.2.2.map fun a => wt xs f a.toNat).sum
def argsOk (xs : List Nd) : Prop := ∀ i (h : i < xs.length), argsIn i (xs[i]).2.2.2
theorem getD_arg {xs : List Nd} (h : argsOk xs) (i : Nat) : ∀ a ∈ (xs.getD i nd0).2.2.2, 0 ≤ a ∧ a ≤ (i : Int) - 1 := by
  intro a ha
  by_cases hi : i < xs.length
  · have e : xs.getD i nd0 = xs[i] := by simp [hi]
    rw [e] at ha
    exact h i hi a ha
  · have e : xs.getD i nd0 = nd0 := by simp [List.getD, List.getElem?_eq_none (Nat.le_of_not_lt hi)]
    rw [e] at ha
    cases ha
theorem wt_stable {xs : List Nd} (h : argsOk xs) : ∀ (f g i : Nat), i < f → i < g → wt xs f i = wt xs g i := by
  intro f
  induction f with
  | zero => intro g i hf; omega
  | succ f ih =>
    intro g i hf hg
    obtain ⟨g, rfl⟩ : ∃ k, g = k + 1 := ⟨g - 1, by omega⟩
    unfold wt
    congr 2
    refine List.map_congr_left fun a ha => ?_
    have := getD_arg h i a ha
    exact ih g a.toNat (by omega) (by omega)
theorem txt_stable {xs : List Nd} (h : argsOk xs) : ∀ (f g i : Nat), i < f → i < g → txt xs f i = txt xs g i := by
  intro f
  induction f with
  | zero => intro g i hf; omega
  | succ f ih =>
    intro g i hf hg
    obtain ⟨g, rfl⟩ : ∃ k, g = k + 1 := ⟨g - 1, by omega⟩
    unfold txt
    congr 1
    refine List.map_congr_left fun a ha => ?_
    have := getD_arg h i a ha
    exact ih g a.toNat (by omega) (by omega)
/-- node i's text and weight -/
noncomputable def txN (xs : List Nd) (i : Nat) : ByteArray := txt xs (i + 1) i
def wtN (xs : List Nd) (i : Nat) : Nat := wt xs (i + 1) i
theorem txN_eq {xs : List Nd} (h : argsOk xs) {i : Nat} (hi : i < xs.length) : txN xs i = bodyT xs[i] ((xs[i]).2.2.2.map fun a => txN xs a.toNat) := by
  have e : xs.getD i nd0 = xs[i] := by simp [hi]
  have ha := getD_arg h i
  unfold txN
  rw [txt, e] at *
  congr 1
  refine List.map_congr_left fun a hm => ?_
  have := ha a hm
  exact txt_stable h _ _ _ (by omega) (by omega)
theorem wtN_eq {xs : List Nd} (h : argsOk xs) {i : Nat} (hi : i < xs.length) : wtN xs i = 1 + ((xs[i]).2.2.2.map fun a => wtN xs a.toNat).sum := by
  have e : xs.getD i nd0 = xs[i] := by simp [hi]
  have ha := getD_arg h i
  unfold wtN
  rw [wt, e] at *
  congr 2
  refine List.map_congr_left fun a hm => ?_
  have := ha a hm
  exact wt_stable h _ _ _ (by omega) (by omega)
theorem sum_le_of {α : Type} (f g : α → Nat) (l : List α) (h : ∀ a ∈ l, f a ≤ 32 * g a) : (l.map f).sum ≤ 32 * (l.map g).sum := by
  induction l with
  | nil => simp
  | cons x l ih =>
    have h1 := h x (by simp)
    have h2 := ih fun a ha => h a (by simp [ha])
    simp only [List.map_cons, List.sum_cons]
    omega
theorem mem_sum {α : Type} (f : α → Nat) (l : List α) {a : α} (h : a ∈ l) : f a ≤ (l.map f).sum := by
  induction l with
  | nil => cases h
  | cons x l ih =>
    simp only [List.map_cons, List.sum_cons]
    rcases List.mem_cons.1 h with rfl | h
    · omega
    · have := ih h
      omega
theorem sizeN_sum (ws : List ByteArray) : ∀ k, k ≤ ws.length → sizeN ws k = ((ws.take k).map ByteArray.size).sum := by
  intro k
  induction k with
  | zero => intro _; simp [sizeN]
  | succ k ih =>
    intro hk
    rw [sizeN, ih (by omega), List.take_succ_eq_append_getElem (show k < ws.length by omega), List.map_append, List.sum_append]
    have e : ws.getD k ByteArray.empty = ws[k] := by simp [show k < ws.length by omega]
    rw [e]
    rfl
theorem sizeN_all (ws : List ByteArray) : sizeN ws ws.length = (ws.map ByteArray.size).sum := by
  rw [sizeN_sum ws _ (Nat.le_refl _), List.take_length]
theorem joinP_size (ws : List ByteArray) (sep : ByteArray) : (joinP ws sep).size ≤ ws.length * sep.size + (ws.map ByteArray.size).sum := by
  have h := joinN_len sep ws ws.length
  rw [sizeN_all] at h
  have e : (joinP ws sep).size = (joinN sep ws ws.length).length := by
    show (joinN sep ws ws.length).toArray.size = _
    simp
  omega
theorem bodyT_size {v : Nd} {ws : List ByteArray} (hs : shapeN v) (hl : ws.length = v.2.2.2.length) : (bodyT v ws).size ≤ 32 + (ws.map ByteArray.size).sum := by
  have s1 : ByteArray.size ⟨#[40]⟩ = 1 := rfl
  have s2 : ByteArray.size ⟨#[41]⟩ = 1 := rfl
  have s3 : ByteArray.size ⟨#[40, 45]⟩ = 2 := rfl
  have s4 : ByteArray.size ⟨#[44, 32]⟩ = 2 := rfl
  have s5 : ByteArray.size ⟨#[32]⟩ = 1 := rfl
  unfold bodyT
  rcases hs with ⟨h1, _, h2, h3, h4⟩ | ⟨h1, h2, h3, h4⟩ | ⟨h1, h2, h3, h4⟩ | ⟨h1, h1', h2, h3, h4⟩ | ⟨h1, h2, h3, h4⟩
  · rw [if_pos h1]
    have := numZ_size v.2.2.1 h3
    omega
  · rw [if_neg (by omega), if_pos h1]
    have := h2.2.1
    omega
  · rw [if_neg (by omega), if_neg (by omega), if_pos h1]
    match ws, hl.trans h4 with
    | [a], _ =>
      simp only [ByteArray.size_append, List.getD_cons_zero, List.map_cons, List.map_nil, List.sum_cons, List.sum_nil]
      omega
  · rw [if_neg (by omega), if_neg (by omega), if_neg (by omega), if_neg (by omega)]
    match ws, hl.trans h4 with
    | [a, b], _ =>
      simp only [ByteArray.size_append, List.getD_cons_zero, List.getD_cons_succ, List.map_cons, List.map_nil, List.sum_cons, List.sum_nil, opS_size]
      omega
  · rw [if_neg (by omega), if_neg (by omega), if_neg (by omega), if_pos h1]
    have := joinP_size ws ⟨#[44, 32]⟩
    have h5 := h2.2.1
    have h6 : ws.length * ByteArray.size ⟨#[44, 32]⟩ ≤ 6 := by rw [s4]; omega
    simp only [ByteArray.size_append]
    omega
theorem txN_size {xs : List Nd} (h : ∀ i (h : i < xs.length), okN i xs[i]) : ∀ (i : Nat), i < xs.length → (txN xs i).size ≤ 32 * wtN xs i := by
  intro i
  induction i using Nat.strongRecOn with
  | ind i ih =>
    intro hi
    have ha : argsOk xs := fun i hi => (h i hi).2
    rw [txN_eq ha hi, wtN_eq ha hi]
    have h1 := bodyT_size (ws := (xs[i]).2.2.2.map fun a => txN xs a.toNat) (h i hi).1 (by simp)
    rw [List.map_map] at h1
    have h2 := sum_le_of (ByteArray.size ∘ fun a : Int => txN xs a.toNat) (fun a => wtN xs a.toNat) (xs[i]).2.2.2 (fun a hm => by
      have := (h i hi).2 a hm
      exact ih a.toNat (by omega) (by omega))
    omega
theorem wt_child {xs : List Nd} (h : argsOk xs) {i : Nat} (hi : i < xs.length) {a : Int} (ha : a ∈ (xs[i]).2.2.2) : wtN xs a.toNat ≤ wtN xs i := by
  rw [wtN_eq h hi]
  have := mem_sum (fun a : Int => wtN xs a.toNat) _ ha
  omega
theorem sum_perm {l l' : List Int} (h : l.Perm l') (f : Int → Nat) : (l.map f).sum = (l'.map f).sum := by
  induction h with
  | nil => rfl
  | cons x _ ih => simp only [List.map_cons, List.sum_cons, ih]
  | swap x y l => simp only [List.map_cons, List.sum_cons]; omega
  | trans _ _ h1 h2 => exact h1.trans h2
theorem sum_upZ (n : Nat) (f : Int → Nat) : ((upZ (n + 1)).map f).sum = ((upZ n).map f).sum + f n := by
  unfold upZ
  rw [List.range_succ]
  simp
theorem wt_all {xs : List Nd} (h : argsOk xs) : ∀ k, k ≤ xs.length → ((upZ k).map fun a => wtN xs a.toNat).sum = k + ((argsL (xs.take k)).map fun a => wtN xs a.toNat).sum := by
  intro k
  induction k with
  | zero => intro _; simp [upZ, argsL]
  | succ k ih =>
    intro hk
    rw [sum_upZ, ih (by omega), args_step xs k (by omega), List.map_append, List.sum_append]
    have e := wtN_eq h (show k < xs.length by omega)
    show _ + wtN xs ((k : Int)).toNat = _
    rw [Int.toNat_natCast, e]
    omega
theorem wt_roots {xs : List Nd} {ys : List As} (h : okPr xs ys) : ((rtsZ ys).map fun a => wtN xs a.toNat).sum = xs.length := by
  have ha : argsOk xs := fun i hi => (h.2.1 i hi).2
  have h1 := sum_perm h.2.2.2 (fun a => wtN xs a.toNat)
  have h2 := wt_all ha xs.length (Nat.le_refl _)
  rw [List.take_length] at h2
  unfold refsP at h1
  rw [List.map_append, List.sum_append, h2] at h1
  omega
theorem wt_root {xs : List Nd} {ys : List As} (h : okPr xs ys) {j : Nat} (hj : j < ys.length) : wtN xs (ys[j]).2.toNat ≤ 60 := by
  have h1 := wt_roots h
  have h2 := mem_sum (fun a : Int => wtN xs a.toNat) (rtsZ ys) (a := (ys[j]).2) (List.mem_map.2 ⟨_, List.getElem_mem hj, rfl⟩)
  have := h.1
  omega
theorem roots_len {xs : List Nd} {ys : List As} (h : okPr xs ys) : ys.length ≤ 60 := by
  have h1 := perm_len h.2.2.2
  unfold refsP rtsZ at h1
  rw [List.length_append, List.length_map] at h1
  have := h.1
  omega
noncomputable def lineT (xs : List Nd) (y : As) : ByteArray := y.1 ++ ⟨#[32, 61, 32]⟩ ++ txN xs y.2.toNat ++ ⟨#[59, 10]⟩
/-- the text of the first k assignments -/
noncomputable def progT (xs : List Nd) (ys : List As) : Nat → ByteArray
  | 0 => ⟨#[]⟩
  | k + 1 => progT xs ys k ++ lineT xs (ys.getD k (ByteArray.empty, 0))
theorem lineT_size {xs : List Nd} {ys : List As} (h : okPr xs ys) {j : Nat} (hj : j < ys.length) : (lineT xs ys[j]).size ≤ 2000 := by
  have h1 := okPr_root h hj
  have h2 := txN_size h.2.1 (ys[j]).2.toNat (by omega)
  have h3 := wt_root h hj
  have h4 := (h.2.2.1 j hj).2.1
  have s1 : ByteArray.size ⟨#[32, 61, 32]⟩ = 3 := rfl
  have s2 : ByteArray.size ⟨#[59, 10]⟩ = 2 := rfl
  unfold lineT
  simp only [ByteArray.size_append]
  omega
theorem progT_step (xs : List Nd) (ys : List As) (k : Nat) (h : k < ys.length) : progT xs ys (k + 1) = progT xs ys k ++ lineT xs ys[k] := by
  rw [progT]
  simp [h]
theorem progT_size {xs : List Nd} {ys : List As} (h : okPr xs ys) : ∀ k, k ≤ ys.length → (progT xs ys k).size ≤ 2000 * k := by
  intro k
  induction k with
  | zero => intro _; simp [progT, ByteArray.size]
  | succ k ih =>
    intro hk
    rw [progT_step _ _ _ (by omega), ByteArray.size_append]
    have := ih (by omega)
    have := lineT_size h (show k < ys.length by omega)
    omega
theorem join_one (a sep : ByteArray) : joinP [a] sep = a := by
  apply ByteArray.ext
  simp [joinP, joinN, strOf]
theorem join_two (a b sep : ByteArray) : joinP [a, b] sep = a ++ sep ++ b := by
  apply ByteArray.ext
  simp [joinP, joinN, strOf]
end Go.Proofs.YtkbdnjhgcoihhaaDoor
