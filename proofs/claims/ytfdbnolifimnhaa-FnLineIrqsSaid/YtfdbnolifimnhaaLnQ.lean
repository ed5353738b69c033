/- Chapter 7's lines as data: what the model's loops leave. No program's text. -/
import Derived.Test.YtfdbnolifimnhaaLns
namespace Go.Proofs.Ytfdbnolifimnhaa.L7
open Go Go.Proofs.Ytfdbnolifimnhaa.Own
theorem pRa_toI (xs : List Lin) (x : Lin) (i j j0 : Nat) (hx : xs[i]? = some x) (hj : x.iq = (j0 : Int)) : pRa (toI (xs.take (i + 1)) j) = (pRa (toI (xs.take i) j) || (decide (j = j0) && x.ra)) := by
  rw [List.take_add_one, hx]
  show pRa (toI (xs.take i ++ [x]) j) = _
  rw [toI_snoc]
  by_cases h : j = j0
  · subst h
    rw [if_pos hj]
    simp [pRa]
  · rw [if_neg (by omega)]
    simp [pRa, h]
/-- the interrupts that the first i lines raise -/
def rsd (xs : List Lin) (i : Nat) : List Nat := irqs pRa (xs.take i) 8
theorem rsd_zero (xs : List Lin) : rsd xs 0 = [] := by simp [rsd, irqs, toI, pRa]
theorem rsd_skip {xs : List Lin} {x : Lin} {i j0 : Nat} (hx : xs[i]? = some x) (hj : x.iq = (j0 : Int)) (h : x.ra = false ∨ j0 ∈ rsd xs i) : rsd xs (i + 1) = rsd xs i := by
  unfold rsd irqs
  refine List.filter_congr fun j hj8 => ?_
  rw [pRa_toI xs x i j j0 hx hj]
  rcases h with h | h
  · simp [h]
  · by_cases e : j = j0
    · subst e
      rw [(mem_irqs.1 h).2]; rfl
    · simp [e]
theorem rsd_put {xs : List Lin} {x : Lin} {i j0 : Nat} (hx : xs[i]? = some x) (hj : x.iq = (j0 : Int)) (h8 : j0 < 8) (hr : x.ra = true) (h : ¬ j0 ∈ rsd xs i) :
    ∃ k, k ≤ (rsd xs i).length ∧ rsd xs (i + 1) = (rsd xs i).take k ++ j0 :: (rsd xs i).drop k ∧ (∀ a z, a < k → (rsd xs i)[a]? = some z → z < j0) ∧ (∀ z, (rsd xs i)[k]? = some z → j0 < z) := by
  have hp : pRa (toI (xs.take i) j0) = false := by
    rcases hq : pRa (toI (xs.take i) j0) with _ | _
    · rfl
    · exact absurd (mem_irqs.2 ⟨h8, hq⟩) h
  obtain ⟨h1, h2, h3, h4⟩ := ins_range (fun j => pRa (toI (xs.take i) j)) 8 j0 h8 hp
  refine ⟨_, h4, ?_, h2, h3⟩
  unfold rsd irqs
  rw [← h1]
  refine List.filter_congr fun j _ => ?_
  rw [pRa_toI xs x i j j0 hx hj, hr, Bool.and_true]
theorem rsd_len (xs : List Lin) (i : Nat) : (rsd xs i).length ≤ 8 := irqs_len _ _ _
theorem rsd_all (xs : List Lin) (n : Nat) (h : xs.length = n) : rsd xs n = irqs pRa xs 8 := by
  unfold rsd
  rw [List.take_of_length_le (by omega)]
theorem ints_put (l : List Nat) (k j : Nat) : ints (l.take k ++ j :: l.drop k) = (ints l).take k ++ (j : Int) :: (ints l).drop k := by simp [ints, List.map_take, List.map_drop]
theorem ints_at {l : List Nat} {k : Nat} {z : Int} (h : (ints l)[k]? = some z) : ∃ j : Nat, l[k]? = some j ∧ z = j := by
  simp only [ints, List.getElem?_map, Option.map_eq_some_iff] at h
  obtain ⟨j, h1, h2⟩ := h
  exact ⟨j, h1, h2.symm⟩
theorem mem_ints {l : List Nat} {j : Nat} : (j : Int) ∈ ints l ↔ j ∈ l := by
  unfold ints
  rw [List.mem_map]
  exact ⟨fun ⟨a, h, e⟩ => by rw [← Int.ofNat.inj e]; exact h, fun h => ⟨j, h, rfl⟩⟩
/-- how many lines of a kind lead to an interrupt -/
def cntK (xs : List Lin) (i z : Int) : Nat := (xs.filter fun x => decide (x.iq = i) && decide (x.ki = z)).length
theorem cntK_succ {xs : List Lin} {x : Lin} {k : Nat} (i z : Int) (hx : xs[k]? = some x) : cntK (xs.take (k + 1)) i z = cntK (xs.take k) i z + (if x.iq = i ∧ x.ki = z then 1 else 0) := by
  unfold cntK
  rw [List.take_add_one, hx]
  show ((xs.take k ++ [x]).filter _).length = _
  rw [List.filter_append, List.length_append]
  by_cases h : x.iq = i ∧ x.ki = z
  · simp [h.1, h.2]
  · rw [if_neg h]
    rw [List.filter_cons, if_neg (by simpa using h)]; rfl
theorem cntK_le (xs : List Lin) (i z : Int) : cntK xs i z ≤ xs.length := List.length_filter_le _ _
theorem cntK_toI (xs : List Lin) (j : Nat) (z : Int) : decide (0 < cntK xs j z) = hasKi z (toI xs j) := by
  unfold cntK hasKi toI
  rw [Bool.eq_iff_iff, decide_eq_true_eq, List.any_eq_true, List.length_pos_iff_exists_mem]
  constructor
  · rintro ⟨x, hx⟩
    simp at hx
    exact ⟨x, by simp [hx.1, hx.2.1], by simp [hx.2.2]⟩
  · rintro ⟨x, hx, hk⟩
    simp at hx hk
    exact ⟨x, by simp [hx.1, hx.2, hk]⟩
theorem cntK_two (xs : List Lin) (j : Nat) (h : ∀ x ∈ xs, x.ki = 0 ∨ x.ki = 1) : cntK xs j 0 + cntK xs j 1 = (toI xs j).length := by
  unfold cntK toI
  induction xs with
  | nil => rfl
  | cons x xs ih =>
    have h1 := ih (fun y hy => h y (List.mem_cons_of_mem _ hy))
    rw [List.filter_cons, List.filter_cons, List.filter_cons]
    by_cases hj : x.iq = (j : Int)
    · rcases h x List.mem_cons_self with hk | hk
      · simp [hj, hk]; omega
      · simp [hj, hk]; omega
    · simp [hj]; omega
/-- the place of the interrupt's lines taken so far -/
def tlK (xs : List Lin) (i : Int) (k : Nat) : List Lin := tlL (xs.take k) i ++ xs.drop k
theorem tlK_zero (xs : List Lin) (i : Int) : tlK xs i 0 = xs := by simp [tlK, tlL]
theorem tlK_all (xs : List Lin) (i : Int) (n : Nat) (h : xs.length = n) : tlK xs i n = tlL xs i := by
  unfold tlK
  rw [List.take_of_length_le (by omega), List.drop_of_length_le (by omega), List.append_nil]
theorem tlK_len (xs : List Lin) (i : Int) (k : Nat) : (tlK xs i k).length = xs.length := by simp [tlK, tlL]; omega
theorem tlK_at {xs : List Lin} {x : Lin} {i : Int} {k : Nat} (hx : xs[k]? = some x) : (tlK xs i k)[k]? = some x := by
  have hk : k < xs.length := (List.getElem?_eq_some_iff.1 hx).1
  unfold tlK
  rw [List.getElem?_append_right (by simp [tlL]; omega)]
  have : (tlL (xs.take k) i).length = k := by simp [tlL]; omega
  rw [this, Nat.sub_self, List.getElem?_drop, Nat.add_zero, hx]
theorem tlK_succ {xs : List Lin} {x : Lin} {i : Int} {k : Nat} (hx : xs[k]? = some x) : tlK xs i (k + 1) = (tlK xs i k).set k (if x.iq = i then tak x else x) := by
  have hk : k < xs.length := (List.getElem?_eq_some_iff.1 hx).1
  have hl : (tlL (xs.take k) i).length = k := by simp [tlL]; omega
  unfold tlK
  rw [List.set_append_right _ _ (by omega), hl, Nat.sub_self]
  have hd : xs.drop k = x :: xs.drop (k + 1) := by rw [List.drop_eq_getElem_cons hk]; rw [List.getElem?_eq_getElem hk] at hx; rw [Option.some.inj hx]
  rw [hd, List.set_cons_zero, List.take_add_one, hx]
  simp [tlL]
theorem tlN_succ {xs : List Lin} {x : Lin} {k : Nat} (i : Int) (hx : xs[k]? = some x) : tlN (xs.take (k + 1)) i = tlN (xs.take k) i + (if x.iq = i ∧ x.ra = true then 1 else 0) := by
  unfold tlN
  rw [List.take_add_one, hx]
  show ((xs.take k ++ [x]).filter _).length = _
  rw [List.filter_append, List.length_append]
  by_cases h : x.iq = i ∧ x.ra = true
  · simp [h.1, h.2]
  · rw [if_neg h]
    rw [List.filter_cons, if_neg (by simpa using h)]; rfl
theorem tlN_le (xs : List Lin) (i : Int) : tlN xs i ≤ xs.length := List.length_filter_le _ _
/-- the lines driven so far -/
def dlK (xs : List Lin) (hs : List Bool) (k : Nat) : List Lin := List.zipWith drv (xs.take k) (hs.take k) ++ xs.drop k
theorem dlK_zero (xs : List Lin) (hs : List Bool) : dlK xs hs 0 = xs := by simp [dlK]
theorem dlK_all (xs : List Lin) (hs : List Bool) (n : Nat) (h : xs.length = n) (h2 : hs.length = n) : dlK xs hs n = List.zipWith drv xs hs := by
  unfold dlK
  rw [List.take_of_length_le (by omega), List.take_of_length_le (by omega), List.drop_of_length_le (by omega), List.append_nil]
theorem dlK_len {xs : List Lin} {hs : List Bool} (h : hs.length = xs.length) (k : Nat) : (dlK xs hs k).length = xs.length := by simp [dlK, h]; omega
theorem zip_len {xs : List Lin} {hs : List Bool} (h : hs.length = xs.length) : (List.zipWith drv xs hs).length = xs.length := by simp [h]
theorem dlK_at {xs : List Lin} {hs : List Bool} {x : Lin} {k : Nat} (h : hs.length = xs.length) (hx : xs[k]? = some x) : (dlK xs hs k)[k]? = some x := by
  have hk : k < xs.length := (List.getElem?_eq_some_iff.1 hx).1
  have hl : (List.zipWith drv (xs.take k) (hs.take k)).length = k := by simp; omega
  unfold dlK
  rw [List.getElem?_append_right (by omega), hl, Nat.sub_self, List.getElem?_drop, Nat.add_zero, hx]
theorem zip_snoc {xs : List Lin} {hs : List Bool} {x : Lin} {g : Bool} {k : Nat} (hx : xs[k]? = some x) (hg : hs[k]? = some g) : List.zipWith drv (xs.take (k + 1)) (hs.take (k + 1)) = List.zipWith drv (xs.take k) (hs.take k) ++ [drv x g] := by
  have hk : k < xs.length := (List.getElem?_eq_some_iff.1 hx).1
  have hk2 : k < hs.length := (List.getElem?_eq_some_iff.1 hg).1
  rw [List.take_add_one, List.take_add_one, hx, hg]
  show List.zipWith drv (xs.take k ++ [x]) (hs.take k ++ [g]) = _
  rw [List.zipWith_append (by simp; omega)]
  rfl
theorem dlK_succ {xs : List Lin} {hs : List Bool} {x : Lin} {g : Bool} {k : Nat} (hx : xs[k]? = some x) (hg : hs[k]? = some g) : dlK xs hs (k + 1) = (dlK xs hs k).set k (drv x g) := by
  have hk : k < xs.length := (List.getElem?_eq_some_iff.1 hx).1
  have hk2 : k < hs.length := (List.getElem?_eq_some_iff.1 hg).1
  have hl : (List.zipWith drv (xs.take k) (hs.take k)).length = k := by simp; omega
  unfold dlK
  rw [List.set_append_right _ _ (by omega), hl, Nat.sub_self, zip_snoc hx hg]
  have hd : xs.drop k = x :: xs.drop (k + 1) := by rw [List.drop_eq_getElem_cons hk]; rw [List.getElem?_eq_getElem hk] at hx; rw [Option.some.inj hx]
  rw [hd, List.set_cons_zero]
  simp
/-- what the answers are -/
theorem dlAns_len {xs : List Lin} {hs : List Bool} {l : List Lin} {b : Bool} (h : dlAns xs hs = (l, b)) : l.length ≤ 6 := by
  unfold dlAns at h
  split at h
  · rename_i h1
    have h2 := congrArg Prod.fst h
    simp only at h2
    rw [← h2, zip_len h1.2]
    exact h1.1.1
  · have h2 := congrArg Prod.fst h; simp only at h2; rw [← h2]; simp
theorem dlAns_yes {xs : List Lin} {hs : List Bool} {l : List Lin} {b : Bool} (h : dlAns xs hs = (l, b)) (h1 : OkL xs) (h2 : hs.length = xs.length) : l = List.zipWith drv xs hs ∧ b = true := by
  unfold dlAns at h
  rw [if_pos ⟨h1, h2⟩] at h
  exact ⟨(congrArg Prod.fst h).symm, (congrArg Prod.snd h).symm⟩
theorem dlAns_no {xs : List Lin} {hs : List Bool} {l : List Lin} {b : Bool} (h : dlAns xs hs = (l, b)) (hn : ¬ (OkL xs ∧ hs.length = xs.length)) : l = [] ∧ b = false := by
  unfold dlAns at h
  rw [if_neg hn] at h
  exact ⟨(congrArg Prod.fst h).symm, (congrArg Prod.snd h).symm⟩
theorem tlAns_yes {xs : List Lin} {i : Int} {l : List Lin} {z : Int} {b : Bool} (h : tlAns xs i = (l, z, b)) (h1 : OkL xs) (h2 : 0 ≤ i ∧ i < 8) : l = tlL xs i ∧ z = (tlN xs i : Int) ∧ b = true := by
  unfold tlAns at h
  rw [if_pos ⟨h1, h2⟩] at h
  simp only [Prod.mk.injEq] at h
  exact ⟨h.1.symm, h.2.1.symm, h.2.2.symm⟩
theorem tlAns_no {xs : List Lin} {i : Int} {l : List Lin} {z : Int} {b : Bool} (h : tlAns xs i = (l, z, b)) (hn : ¬ (OkL xs ∧ (0 ≤ i ∧ i < 8))) : l = [] ∧ z = 0 ∧ b = false := by
  unfold tlAns at h
  rw [if_neg hn] at h
  simp only [Prod.mk.injEq] at h
  exact ⟨h.1.symm, h.2.1.symm, h.2.2.symm⟩
theorem tlAns_len {xs : List Lin} {i : Int} {l : List Lin} {z : Int} {b : Bool} (h : tlAns xs i = (l, z, b)) : l.length ≤ 6 := by
  by_cases hn : OkL xs ∧ (0 ≤ i ∧ i < 8)
  · rw [(tlAns_yes h hn.1 hn.2).1]
    simp only [tlL, List.length_map]
    exact hn.1.1
  · rw [(tlAns_no h hn).1]; simp
theorem plAns_yes {xs : List Lin} {k t : Nat} {x : Lin} {l : List Lin} {z : Int} {b : Bool} (h : plAns xs k t = (l, z, b)) (h1 : OkL xs) (hx : xs[k]? = some x) (ht : t < 101) : l = xs.set k (pulN x t).1 ∧ z = ((pulN x t).2 : Int) ∧ b = true := by
  have hk : k < xs.length := (List.getElem?_eq_some_iff.1 hx).1
  unfold plAns at h
  have e : ((k : Int)).toNat = k := by omega
  have e2 : ((t : Int)).toNat = t := by omega
  rw [e, e2, getD_at hx, if_pos ⟨h1, by omega, by omega⟩] at h
  simp only [Prod.mk.injEq] at h
  exact ⟨h.1.symm, h.2.1.symm, h.2.2.symm⟩
theorem plAns_no {xs : List Lin} {i t : Int} {l : List Lin} {z : Int} {b : Bool} (h : plAns xs i t = (l, z, b)) (hn : ¬ (OkL xs ∧ (0 ≤ i ∧ i < (xs.length : Int)) ∧ (0 ≤ t ∧ t < 101))) : l = [] ∧ z = 0 ∧ b = false := by
  unfold plAns at h
  rw [if_neg hn] at h
  simp only [Prod.mk.injEq] at h
  exact ⟨h.1.symm, h.2.1.symm, h.2.2.symm⟩
theorem plAns_len {xs : List Lin} {i t : Int} {l : List Lin} {z : Int} {b : Bool} (h : plAns xs i t = (l, z, b)) : l.length ≤ 6 := by
  unfold plAns at h
  split at h
  · rename_i h1
    simp only [Prod.mk.injEq] at h
    rw [← h.1, List.length_set]
    exact h1.1.1
  · simp only [Prod.mk.injEq] at h
    rw [← h.1]; simp
theorem pulN_ok {x : Lin} (h : Ok x) (k : Nat) : Ok (pulN x k).1 := by
  induction k with
  | zero => exact h
  | succ k ih => exact drv_ok (drv_ok ih)
end Go.Proofs.Ytfdbnolifimnhaa.L7
