/- Chapter 8's slots as data: what is valid, where an interrupt is, what a call that changes one slot answers. No program's text. -/
import Derived.Test.YtadpjkghfgnbbaaDoorSltD
namespace Go.Proofs.YtadpjkghfgnbbaaDoor.L8
open Go Go.Proofs.YtadpjkghfgnbbaaDoor.Own
/-- a slot as the document asks it -/
def Ok (x : Slt) : Prop := (x.st = 0 ∧ x.iq = 0 ∧ x.pr = 0) ∨ ((x.st = 1 ∨ x.st = 2 ∨ x.st = 3) ∧ (0 ≤ x.iq ∧ x.iq < 8) ∧ (0 ≤ x.pr ∧ x.pr < 16))
instance (x : Slt) : Decidable (Ok x) := by unfold Ok; infer_instance
def nul : Slt := ⟨0, 0, 0⟩
/-- holds an interrupt -/
def has (q : Int) (x : Slt) : Bool := x.st != 0 && x.iq == q
/-- where the first slot with a property is, or -1 -/
def ixOf (p : Slt → Bool) (xs : List Slt) : Int := if xs.any p = true then ((xs.findIdx p : Nat) : Int) else -1
theorem ixOf_at {p : Slt → Bool} {xs : List Slt} {k : Nat} {x : Slt} (h : xs[k]? = some x) (h0 : (xs.take k).any p = false) (hx : p x = true) : ixOf p xs = k := by
  have hk : k < xs.length := (List.getElem?_eq_some_iff.1 h).1
  have h1 : xs.any p = true := List.any_eq_true.2 ⟨x, List.mem_of_getElem? h, hx⟩
  unfold ixOf
  rw [if_pos h1]
  congr 1
  rw [List.findIdx_eq hk]
  refine ⟨?_, fun j hj => ?_⟩
  · rw [(List.getElem?_eq_some_iff.1 h).2]; exact hx
  · have h2 := List.any_eq_false.1 h0 xs[j] (by rw [List.mem_take_iff_getElem]; exact ⟨j, by omega, rfl⟩)
    simpa using h2
theorem ixOf_no {p : Slt → Bool} {xs : List Slt} (h : xs.any p = false) : ixOf p xs = -1 := by
  unfold ixOf
  rw [h]
  rfl
theorem any_takeS {xs : List Slt} {p : Slt → Bool} {k : Nat} {x : Slt} (h : xs[k]? = some x) : (xs.take (k + 1)).any p = ((xs.take k).any p || p x) := by
  rw [List.take_add_one, h, List.any_append]
  simp
theorem ixOf_cases (p : Slt → Bool) (xs : List Slt) : (ixOf p xs = -1 ∧ xs.any p = false) ∨ ∃ (k : Nat) (x : Slt), ixOf p xs = (k : Int) ∧ k < xs.length ∧ xs[k]? = some x ∧ p x = true ∧ (xs.take k).any p = false := by
  cases h : xs.any p with
  | false => exact .inl ⟨ixOf_no h, rfl⟩
  | true =>
    right
    obtain ⟨x, hx, hp⟩ := List.any_eq_true.1 h
    have hk : xs.findIdx p < xs.length := List.findIdx_lt_length.2 ⟨x, hx, hp⟩
    refine ⟨xs.findIdx p, xs[xs.findIdx p], by unfold ixOf; rw [if_pos h], hk, List.getElem?_eq_getElem hk, List.findIdx_getElem, ?_⟩
    rw [List.any_eq_false]
    intro y hy
    rw [List.mem_take_iff_getElem] at hy
    obtain ⟨j, hj, rfl⟩ := hy
    have h3 := List.not_of_lt_findIdx (p := p) (xs := xs) (i := j) (by omega)
    simpa using h3
theorem ixOf_lo (p : Slt → Bool) (xs : List Slt) : -1 ≤ ixOf p xs := by
  rcases ixOf_cases p xs with ⟨h, _⟩ | ⟨k, x, h, _⟩ <;> omega
/-- where an interrupt is -/
def fnd (xs : List Slt) (q : Int) : Int := ixOf (has q) xs
/-- where the first empty slot is -/
def fre (xs : List Slt) : Int := ixOf (fun x => x.st == 0) xs
/-- what is asked of the slot j, those ahead of it given -/
def atB (xs : List Slt) (j : Nat) : Bool := match xs[j]? with | none => true | some x => decide (Ok x) && (x.st == 0 || !(xs.take j).any (has x.iq))
theorem atB_eq {xs : List Slt} {j : Nat} {x : Slt} (h : xs[j]? = some x) : atB xs j = (decide (Ok x) && (x.st == 0 || !(xs.take j).any (has x.iq))) := by
  unfold atB
  rw [h]
def upB (xs : List Slt) (k : Nat) : Bool := (List.range k).all (atB xs)
theorem upB_succ (xs : List Slt) (k : Nat) : upB xs (k + 1) = (upB xs k && atB xs k) := by
  unfold upB
  rw [List.range_succ, List.all_append]
  simp
theorem upB_le {xs : List Slt} {j k : Nat} (h : atB xs j = false) (hj : j < k) : upB xs k = false := by
  unfold upB
  rw [List.all_eq_false]
  exact ⟨j, List.mem_range.2 hj, by rw [h]; simp⟩
def okB (xs : List Slt) : Bool := decide (xs.length = 4) && upB xs xs.length
theorem okB_len {xs : List Slt} (h : okB xs = true) : xs.length = 4 := by
  unfold okB at h
  simp only [Bool.and_eq_true, decide_eq_true_eq] at h
  exact h.1
theorem okB_at {xs : List Slt} (h : okB xs = true) {j : Nat} (hj : j < 4) : atB xs j = true := by
  have h4 := okB_len h
  unfold okB at h
  simp only [Bool.and_eq_true, decide_eq_true_eq] at h
  have h2 := h.2
  rw [h4] at h2
  exact List.all_eq_true.1 h2 j (List.mem_range.2 hj)
theorem okB_ok {xs : List Slt} (h : okB xs = true) {j : Nat} {x : Slt} (hx : xs[j]? = some x) : Ok x := by
  have hj : j < xs.length := (List.getElem?_eq_some_iff.1 hx).1
  rw [okB_len h] at hj
  have h1 := okB_at h hj
  rw [atB_eq hx] at h1
  simp only [Bool.and_eq_true, decide_eq_true_eq] at h1
  exact h1.1
theorem okB_no {xs : List Slt} (h : okB xs = true) {j : Nat} {x : Slt} (hx : xs[j]? = some x) (h0 : x.st ≠ 0) : (xs.take j).any (has x.iq) = false := by
  have hj : j < xs.length := (List.getElem?_eq_some_iff.1 hx).1
  rw [okB_len h] at hj
  have h1 := okB_at h hj
  rw [atB_eq hx] at h1
  simp only [Bool.and_eq_true, Bool.or_eq_true, beq_iff_eq, Bool.not_eq_true'] at h1
  rcases h1.2 with h2 | h2
  · exact absurd h2 h0
  · exact h2
/-- no two slots hold one interrupt -/
theorem okB_one {xs : List Slt} (h : okB xs = true) {i j : Nat} {x y : Slt} (hx : xs[i]? = some x) (hy : xs[j]? = some y) (h0 : x.st ≠ 0) (h1 : y.st ≠ 0) (he : x.iq = y.iq) : i = j := by
  have key : ∀ {i j : Nat} {x y : Slt}, xs[i]? = some x → xs[j]? = some y → x.st ≠ 0 → y.st ≠ 0 → x.iq = y.iq → ¬ i < j := by
    intro i j x y hx hy h0 h1 he hij
    have h2 := okB_no h hy h1
    have h3 := List.any_eq_false.1 h2 x (by
      rw [List.mem_take_iff_getElem]
      have hi := List.getElem?_eq_some_iff.1 hx
      have hi1 := hi.1
      exact ⟨i, by omega, hi.2⟩)
    exact h3 (by simp [has, h0, he])
  have a := key hx hy h0 h1 he
  have b := key hy hx h1 h0 he.symm
  omega
/-- an interrupt that a slot holds is found there -/
theorem fnd_self {xs : List Slt} (h : okB xs = true) {j : Nat} {x : Slt} (hx : xs[j]? = some x) (h0 : x.st ≠ 0) : fnd xs x.iq = j :=
  ixOf_at hx (okB_no h hx h0) (by simp [has, h0])
theorem getD_atS {xs : List Slt} {j : Nat} {x : Slt} (h : xs[j]? = some x) : xs.getD j default = x := by rw [List.getD, h]; rfl
theorem at_getD {xs : List Slt} {j : Nat} (h : j < xs.length) : xs[j]? = some (xs.getD j default) := by rw [List.getD, List.getElem?_eq_getElem h]; rfl
/-- what a slot becomes when its interrupt is put once more -/
def again (x : Slt) : Slt := { x with st := if x.st = 2 then 3 else x.st }
/-- what l8Put answers -/
def putOf (xs : List Slt) (q p : Int) : List Slt × Bool :=
  if 0 ≤ fnd xs q then (xs.set (fnd xs q).toNat (again (xs.getD (fnd xs q).toNat default)), true)
  else if 0 ≤ fre xs then (xs.set (fre xs).toNat ⟨1, q, p⟩, true) else ([], false)
def putAns (xs : List Slt) (q p : Int) : List Slt × Bool := if okB xs = true ∧ (0 ≤ q ∧ q < 8) ∧ (0 ≤ p ∧ p < 16) then putOf xs q p else ([], false)
theorem putOf_at {xs : List Slt} {q p : Int} {k : Nat} {x : Slt} (h : fnd xs q = k) (hx : xs[k]? = some x) : putOf xs q p = (xs.set k (again x), true) := by
  unfold putOf
  rw [h, if_pos (by omega), Int.toNat_natCast, getD_atS hx]
theorem putOf_new {xs : List Slt} {q p : Int} {k : Nat} (h : fnd xs q = -1) (hf : fre xs = k) : putOf xs q p = (xs.set k ⟨1, q, p⟩, true) := by
  unfold putOf
  rw [h, if_neg (by omega), hf, if_pos (by omega), Int.toNat_natCast]
theorem putOf_no {xs : List Slt} {q p : Int} (h : fnd xs q = -1) (hf : fre xs = -1) : putOf xs q p = ([], false) := by
  unfold putOf
  rw [h, if_neg (by omega), hf, if_neg (by omega)]
/-- what l8End answers -/
def endOf (xs : List Slt) (q : Int) : List Slt × Bool :=
  if fnd xs q < 0 then ([], false)
  else if (xs.getD (fnd xs q).toNat default).st = 1 then ([], false)
  else if (xs.getD (fnd xs q).toNat default).st = 2 then (xs.set (fnd xs q).toNat nul, true)
  else (xs.set (fnd xs q).toNat { (xs.getD (fnd xs q).toNat default) with st := 1 }, true)
def endAns (xs : List Slt) (q : Int) : List Slt × Bool := if okB xs = true ∧ (0 ≤ q ∧ q < 8) then endOf xs q else ([], false)
theorem endOf_no {xs : List Slt} {q : Int} (h : fnd xs q = -1) : endOf xs q = ([], false) := by
  unfold endOf
  rw [h, if_pos (by omega)]
theorem endOf_1 {xs : List Slt} {q : Int} {k : Nat} {x : Slt} (h : fnd xs q = k) (hx : xs[k]? = some x) (h1 : x.st = 1) : endOf xs q = ([], false) := by
  unfold endOf
  rw [h, if_neg (by omega), Int.toNat_natCast, getD_atS hx, if_pos h1]
theorem endOf_2 {xs : List Slt} {q : Int} {k : Nat} {x : Slt} (h : fnd xs q = k) (hx : xs[k]? = some x) (h1 : x.st = 2) : endOf xs q = (xs.set k nul, true) := by
  unfold endOf
  rw [h, if_neg (by omega), Int.toNat_natCast, getD_atS hx, if_neg (by omega), if_pos h1]
theorem endOf_3 {xs : List Slt} {q : Int} {k : Nat} {x : Slt} (h : fnd xs q = k) (hx : xs[k]? = some x) (h1 : x.st ≠ 1) (h2 : x.st ≠ 2) : endOf xs q = (xs.set k { x with st := 1 }, true) := by
  unfold endOf
  rw [h, if_neg (by omega), Int.toNat_natCast, getD_atS hx, if_neg h1, if_neg h2]
/-- out of range, nothing is found in valid slots -/
theorem fnd_out {xs : List Slt} {q : Int} (h : okB xs = true) (hq : ¬ (0 ≤ q ∧ q < 8)) : fnd xs q = -1 := by
  rcases ixOf_cases (has q) xs with h1 | ⟨k, x, h1, hk, hx, hp, _⟩
  · exact h1.1
  · exfalso
    have h2 := okB_ok h hx
    simp only [has, Bool.and_eq_true, bne_iff_ne, ne_eq, beq_iff_eq] at hp
    rcases h2 with h3 | h3
    · exact hp.1 h3.1
    · rw [hp.2] at h3; exact hq h3.2.1
theorem endAns_eq {xs : List Slt} {q : Int} (h : okB xs = true) : endAns xs q = endOf xs q := by
  unfold endAns
  by_cases hq : 0 ≤ q ∧ q < 8
  · rw [if_pos ⟨h, hq⟩]
  · rw [if_neg (fun hh => hq hh.2), endOf_no (fnd_out h hq)]
/-- what EmptySlots, FindSlot answer -/
def emp (xs : List Slt) : Nat := xs.countP fun x => x.st == 0
theorem emp_take {xs : List Slt} {k : Nat} {x : Slt} (h : xs[k]? = some x) : emp (xs.take (k + 1)) = emp (xs.take k) + (if x.st = 0 then 1 else 0) := by
  unfold emp
  rw [List.take_add_one, h, List.countP_append]
  simp [List.countP_cons]
theorem emp_le (xs : List Slt) : emp xs ≤ xs.length := List.countP_le_length
def emAns (xs : List Slt) : Int × Bool := if okB xs = true then ((emp xs : Int), true) else (0, false)
def fdAns (xs : List Slt) (q : Int) : Int × Bool := if okB xs = true ∧ 0 ≤ fnd xs q then (fnd xs q, true) else (0, false)
theorem putAns_len (xs : List Slt) (q p : Int) : (putAns xs q p).1.length ≤ 4 := by
  unfold putAns
  split
  · rename_i h
    unfold putOf
    have := okB_len h.1
    split
    · simp [this]
    · split <;> simp [this]
  · simp
theorem endAns_len (xs : List Slt) (q : Int) : (endAns xs q).1.length ≤ 4 := by
  unfold endAns
  split
  · rename_i h
    unfold endOf
    have := okB_len h.1
    split
    · simp
    · split
      · simp
      · split <;> simp [this]
  · simp
end Go.Proofs.YtadpjkghfgnbbaaDoor.L8
