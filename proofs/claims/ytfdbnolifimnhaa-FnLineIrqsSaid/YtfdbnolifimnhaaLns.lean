/- Chapter 7's lines as data. No program's text. -/
import Derived.Test.YtfdbnolifimnhaaLinD
namespace Go.Proofs.Ytfdbnolifimnhaa.L7
open Go Go.Proofs.Ytfdbnolifimnhaa.Own
/-- a line as the document asks it -/
def Ok (x : Lin) : Prop := (x.ki = 0 ∨ x.ki = 1) ∧ (0 ≤ x.iq ∧ x.iq < 8) ∧ (x.ki = 1 → x.ra = x.hi)
instance (x : Lin) : Decidable (Ok x) := by unfold Ok; infer_instance
def OkL (xs : List Lin) : Prop := xs.length ≤ 6 ∧ ∀ x ∈ xs, Ok x
instance (xs : List Lin) : Decidable (OkL xs) := by unfold OkL; infer_instance
/-- driven -/
def drv (x : Lin) (h : Bool) : Lin := ⟨x.ki, x.iq, h, if x.ki = 1 then h else (x.ra || (h && !x.hi))⟩
/-- taken -/
def tak (x : Lin) : Lin := ⟨x.ki, x.iq, x.hi, x.ra && decide (x.ki = 1)⟩
theorem drv_ok {x : Lin} {h : Bool} (hx : Ok x) : Ok (drv x h) := by
  refine ⟨hx.1, hx.2.1, fun hk => ?_⟩
  have hk2 : x.ki = 1 := hk
  simp [drv, hk2]
theorem tak_ok {x : Lin} (hx : Ok x) : Ok (tak x) := by
  refine ⟨hx.1, hx.2.1, fun hk => ?_⟩
  have hk2 : x.ki = 1 := hk
  have := hx.2.2 hk2
  simp [tak, hk2, this]
def noLin : Lin := ⟨0, 0, false, false⟩
/-- what DriveLine, TakeLine answer -/
def drAns (x : Lin) (h : Bool) : Lin × Bool := if Ok x then (drv x h, true) else (noLin, false)
def tkAns (x : Lin) : Lin × Bool × Bool := if Ok x then (tak x, x.ra, true) else (noLin, false, false)
/-- what DriveLines answers -/
def dlAns (xs : List Lin) (hs : List Bool) : List Lin × Bool := if OkL xs ∧ hs.length = xs.length then (List.zipWith drv xs hs, true) else ([], false)
/-- the lines that lead to an interrupt -/
def toI (xs : List Lin) (j : Nat) : List Lin := xs.filter fun x => decide (x.iq = (j : Int))
/-- the interrupts below k whose lines are as asked for -/
def irqs (p : List Lin → Bool) (xs : List Lin) (k : Nat) : List Nat := (List.range k).filter fun j => p (toI xs j)
def iqAns (p : List Lin → Bool) (xs : List Lin) : List Nat × Bool := if OkL xs then (irqs p xs 8, true) else ([], false)
def pRa (l : List Lin) : Bool := l.any fun x => x.ra
def pSh (l : List Lin) : Bool := decide (2 ≤ l.length)
def hasKi (z : Int) (l : List Lin) : Bool := l.any fun x => decide (x.ki = z)
def pMx (l : List Lin) : Bool := hasKi 0 l && hasKi 1 l
/-- what TakeLines answers -/
def tlL (xs : List Lin) (i : Int) : List Lin := xs.map fun x => if x.iq = i then tak x else x
def tlN (xs : List Lin) (i : Int) : Nat := (xs.filter fun x => decide (x.iq = i) && x.ra).length
def tlAns (xs : List Lin) (i : Int) : List Lin × Int × Bool := if OkL xs ∧ (0 ≤ i ∧ i < 8) then (tlL xs i, (tlN xs i : Int), true) else ([], 0, false)
/-- a pulse: the line behind it, and whether it became raised -/
def pulse (x : Lin) : Lin := drv (drv x true) false
def rose (x : Lin) : Nat := if (drv x true).ra && !x.ra then 1 else 0
def pulN (x : Lin) : Nat → Lin × Nat
  | 0 => (x, 0)
  | k + 1 => (pulse (pulN x k).1, (pulN x k).2 + rose (pulN x k).1)
def plAns (xs : List Lin) (i t : Int) : List Lin × Int × Bool :=
  if OkL xs ∧ (0 ≤ i ∧ i < (xs.length : Int)) ∧ (0 ≤ t ∧ t < 101) then (xs.set i.toNat (pulN (xs.getD i.toNat default) t.toNat).1, ((pulN (xs.getD i.toNat default) t.toNat).2 : Int), true) else ([], 0, false)
theorem pulN_le (x : Lin) (k : Nat) : (pulN x k).2 ≤ k := by
  induction k with
  | zero => exact Nat.le_refl _
  | succ k ih =>
    have : rose (pulN x k).1 ≤ 1 := by unfold rose; split <;> omega
    simp only [pulN]
    omega
theorem getD_at {xs : List Lin} {j : Nat} {x : Lin} (h : xs[j]? = some x) : xs.getD j default = x := by rw [List.getD, h]; rfl
theorem irqs_succ (p : List Lin → Bool) (xs : List Lin) (k : Nat) : irqs p xs (k + 1) = irqs p xs k ++ (if p (toI xs k) = true then [k] else []) := by
  unfold irqs
  rw [List.range_succ, List.filter_append]
  congr 1
  by_cases h : p (toI xs k) = true
  · rw [if_pos h, List.filter_cons, if_pos h]; rfl
  · rw [if_neg h, List.filter_cons, if_neg h]; rfl
theorem irqs_len (p : List Lin → Bool) (xs : List Lin) (k : Nat) : (irqs p xs k).length ≤ k := by
  have := List.length_filter_le (fun j => p (toI xs j)) (List.range k)
  simpa [irqs] using this
theorem iqAns_len {p : List Lin → Bool} {xs : List Lin} {l : List Nat} {b : Bool} (h : iqAns p xs = (l, b)) : l.length ≤ 8 := by
  unfold iqAns at h
  split at h
  · have h2 := congrArg Prod.fst h; simp only at h2; rw [← h2]; exact irqs_len p xs 8
  · have h2 := congrArg Prod.fst h; simp only at h2; rw [← h2]; simp
theorem iqAns_yes {p : List Lin → Bool} {xs : List Lin} {l : List Nat} {b : Bool} (h : iqAns p xs = (l, b)) (ho : OkL xs) : l = irqs p xs 8 ∧ b = true := by
  unfold iqAns at h
  rw [if_pos ho] at h
  exact ⟨(congrArg Prod.fst h).symm, (congrArg Prod.snd h).symm⟩
theorem iqAns_no {p : List Lin → Bool} {xs : List Lin} {l : List Nat} {b : Bool} (h : iqAns p xs = (l, b)) (ho : ¬ OkL xs) : l = [] ∧ b = false := by
  unfold iqAns at h
  rw [if_neg ho] at h
  exact ⟨(congrArg Prod.fst h).symm, (congrArg Prod.snd h).symm⟩
/-- places as numbers -/
def ints (l : List Nat) : List Int := l.map fun j : Nat => (j : Int)
theorem ints_len (l : List Nat) : (ints l).length = l.length := by simp [ints]
theorem mem_irqs {p : List Lin → Bool} {xs : List Lin} {k j : Nat} : j ∈ irqs p xs k ↔ j < k ∧ p (toI xs j) = true := by simp [irqs]
/-- a number put into a filtered range where it goes -/
theorem ins_range (p : Nat → Bool) (n j : Nat) (hj : j < n) (hp : p j = false) :
    (List.range n).filter (fun i => p i || decide (i = j)) = ((List.range n).filter p).take ((List.range j).filter p).length ++ j :: ((List.range n).filter p).drop ((List.range j).filter p).length ∧
    (∀ a z, a < ((List.range j).filter p).length → ((List.range n).filter p)[a]? = some z → z < j) ∧ (∀ z, ((List.range n).filter p)[((List.range j).filter p).length]? = some z → j < z) ∧ ((List.range j).filter p).length ≤ ((List.range n).filter p).length := by
  have hn : List.range n = List.range j ++ j :: List.range' (j + 1) (n - j - 1) := by
    obtain ⟨m, rfl⟩ : ∃ m, n = j + (m + 1) := ⟨n - j - 1, by omega⟩
    rw [show j + (m + 1) - j - 1 = m by omega, List.range_eq_range', List.range_eq_range', ← List.range'_append_1 (s := 0) (m := j) (n := m + 1), Nat.zero_add, List.range'_succ]
  have h1 : (List.range n).filter p = (List.range j).filter p ++ (List.range' (j + 1) (n - j - 1)).filter p := by
    rw [hn, List.filter_append, List.filter_cons, if_neg (by simp [hp])]
  have h2 : (List.range n).filter (fun i => p i || decide (i = j)) = (List.range j).filter p ++ j :: (List.range' (j + 1) (n - j - 1)).filter p := by
    rw [hn, List.filter_append, List.filter_cons, if_pos (by simp)]
    congr 1
    · refine List.filter_congr fun i hi => ?_
      have : i < j := List.mem_range.1 hi
      simp; omega
    · congr 1
      refine List.filter_congr fun i hi => ?_
      have := (List.mem_range'_1.1 hi).1
      simp; omega
  refine ⟨?_, ?_, ?_, ?_⟩
  · rw [h1, h2, List.take_left, List.drop_left]
  · intro a z ha hz
    rw [h1, List.getElem?_append_left ha] at hz
    exact List.mem_range.1 (List.mem_filter.1 (List.mem_of_getElem? hz)).1
  · intro z hz
    rw [h1, List.getElem?_append_right (Nat.le_refl _)] at hz
    have := List.mem_range'_1.1 (List.mem_filter.1 (List.mem_of_getElem? hz)).1
    omega
  · rw [h1, List.length_append]; omega
/-- raised by the first i of the lines -/
theorem toI_any (xs : List Lin) (j : Nat) : pRa (toI xs j) = xs.any fun x => decide (x.iq = (j : Int)) && x.ra := by
  unfold pRa toI
  induction xs with
  | nil => rfl
  | cons x xs ih =>
    rw [List.any_cons, ← ih, List.filter_cons]
    by_cases h : x.iq = (j : Int)
    · rw [if_pos (by simpa using h), List.any_cons]; simp [h]
    · rw [if_neg (by simpa using h)]; simp [h]
theorem toI_snoc (xs : List Lin) (x : Lin) (j : Nat) : toI (xs ++ [x]) j = toI xs j ++ (if x.iq = (j : Int) then [x] else []) := by
  unfold toI
  rw [List.filter_append, List.filter_cons]
  by_cases h : x.iq = (j : Int)
  · simp [h]
  · simp [h]
end Go.Proofs.Ytfdbnolifimnhaa.L7
