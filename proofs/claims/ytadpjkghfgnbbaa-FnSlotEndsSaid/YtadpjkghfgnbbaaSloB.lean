/- The most and the least urgent of the pending slots, as data. No program's text. -/
import Derived.Test.YtadpjkghfgnbbaaSlo
namespace Go.Proofs.Ytadpjkghfgnbbaa.L8
open Go Go.Proofs.Ytadpjkghfgnbbaa.Own
/-- more urgent -/
def more (x y : Slt) : Bool := decide (x.pr < y.pr ∨ (x.pr = y.pr ∧ x.iq < y.iq))
/-- more urgent, or less, as asked -/
def mr (m : Bool) (x y : Slt) : Bool := if m then more x y else more y x
theorem mr_irr (m : Bool) (x : Slt) : mr m x x = false := by cases m <;> simp [mr, more]
theorem mr_trans {m : Bool} {x y z : Slt} (h1 : mr m x y = true) (h2 : mr m y z = true) : mr m x z = true := by
  cases m <;> simp only [mr, more, if_true, if_false, Bool.false_eq_true, decide_eq_true_eq] at * <;> omega
theorem mr_ntrans {m : Bool} {x y z : Slt} (h1 : mr m x y = false) (h2 : mr m y z = false) : mr m x z = false := by
  cases m <;> simp only [mr, more, if_true, if_false, Bool.false_eq_true, decide_eq_false_iff_not] at * <;> omega
theorem mr_eq {m : Bool} {x y : Slt} (h1 : mr m x y = false) (h2 : mr m y x = false) : x.pr = y.pr ∧ x.iq = y.iq := by
  cases m <;> simp only [mr, more, if_true, if_false, Bool.false_eq_true, decide_eq_false_iff_not] at * <;> omega
/-- the best pending slot of the first k, or -1 -/
def bst (m : Bool) (xs : List Slt) : Nat → Int
  | 0 => -1
  | k + 1 => if (xs.getD k default).st = 1 ∧ (bst m xs k < 0 ∨ mr m (xs.getD k default) (xs.getD (bst m xs k).toNat default) = true) then (k : Int) else bst m xs k
theorem bst_no {m : Bool} {xs : List Slt} {k : Nat} (h : (xs.getD k default).st ≠ 1) : bst m xs (k + 1) = bst m xs k := by
  rw [bst, if_neg (fun hh => h hh.1)]
theorem bst_first {m : Bool} {xs : List Slt} {k : Nat} (h : (xs.getD k default).st = 1) (hb : bst m xs k = -1) : bst m xs (k + 1) = k := by
  rw [bst, if_pos ⟨h, .inl (by omega)⟩]
theorem bst_more {m : Bool} {xs : List Slt} {k j : Nat} (h : (xs.getD k default).st = 1) (hb : bst m xs k = j) (hm : mr m (xs.getD k default) (xs.getD j default) = true) : bst m xs (k + 1) = k := by
  rw [bst, if_pos ⟨h, .inr (by rw [hb, Int.toNat_natCast]; exact hm)⟩]
theorem bst_keep {m : Bool} {xs : List Slt} {k j : Nat} (hb : bst m xs k = j) (hm : mr m (xs.getD k default) (xs.getD j default) = false) : bst m xs (k + 1) = j := by
  rw [bst, if_neg, hb]
  rintro ⟨_, h | h⟩
  · omega
  · rw [hb, Int.toNat_natCast, hm] at h; cases h
structure IsB (m : Bool) (xs : List Slt) (k : Nat) (j : Nat) : Prop where
  lt : j < k
  one : (xs.getD j default).st = 1
  all : ∀ i, i < k → (xs.getD i default).st = 1 → mr m (xs.getD i default) (xs.getD j default) = false
def NoB (xs : List Slt) (k : Nat) : Prop := ∀ i, i < k → (xs.getD i default).st ≠ 1
theorem bst_is (m : Bool) (xs : List Slt) (k : Nat) : (bst m xs k = -1 ∧ NoB xs k) ∨ ∃ j : Nat, bst m xs k = j ∧ IsB m xs k j := by
  induction k with
  | zero => exact .inl ⟨rfl, fun i hi => absurd hi (Nat.not_lt_zero _)⟩
  | succ k ih =>
    by_cases h1 : (xs.getD k default).st = 1
    · rcases ih with ⟨hb, hn⟩ | ⟨j, hb, hj⟩
      · refine .inr ⟨k, bst_first h1 hb, Nat.lt_succ_self _, h1, fun i hi hi1 => ?_⟩
        by_cases e : i = k
        · rw [e]; exact mr_irr _ _
        · exact absurd hi1 (hn i (by omega))
      · cases hm : mr m (xs.getD k default) (xs.getD j default) with
        | true =>
          refine .inr ⟨k, bst_more h1 hb hm, Nat.lt_succ_self _, h1, fun i hi hi1 => ?_⟩
          by_cases e : i = k
          · rw [e]; exact mr_irr _ _
          · have h3 := hj.all i (by omega) hi1
            cases h4 : mr m (xs.getD i default) (xs.getD k default) with
            | false => rfl
            | true => rw [mr_trans h4 hm] at h3; cases h3
        | false =>
          refine .inr ⟨j, bst_keep hb hm, Nat.lt_succ_of_lt hj.lt, hj.one, fun i hi hi1 => ?_⟩
          by_cases e : i = k
          · rw [e]; exact hm
          · exact hj.all i (by omega) hi1
    · rw [bst_no h1]
      rcases ih with ⟨hb, hn⟩ | ⟨j, hb, hj⟩
      · refine .inl ⟨hb, fun i hi => ?_⟩
        by_cases e : i = k
        · rw [e]; exact h1
        · exact hn i (by omega)
      · refine .inr ⟨j, hb, Nat.lt_succ_of_lt hj.lt, hj.one, fun i hi hi1 => ?_⟩
        by_cases e : i = k
        · rw [e] at hi1; exact absurd hi1 h1
        · exact hj.all i (by omega) hi1
theorem IsB.uniq {m : Bool} {xs : List Slt} (h : okB xs = true) {i j : Nat} (hi : IsB m xs 4 i) (hj : IsB m xs 4 j) : i = j := by
  have h4 := okB_len h
  have h1 := hi.all j hj.lt hj.one
  have h2 := hj.all i hi.lt hi.one
  exact okB_one h (at_getD (by rw [h4]; exact hi.lt)) (at_getD (by rw [h4]; exact hj.lt)) (by rw [hi.one]; decide) (by rw [hj.one]; decide) (mr_eq h2 h1).2
theorem IsB.bst {m : Bool} {xs : List Slt} (h : okB xs = true) {j : Nat} (hj : IsB m xs 4 j) : bst m xs 4 = j := by
  rcases bst_is m xs 4 with ⟨_, hn⟩ | ⟨i, hb, hi⟩
  · exact absurd hj.one (hn j hj.lt)
  · rw [hb, hi.uniq h hj]
theorem NoB.bst {m : Bool} {xs : List Slt} (hn : NoB xs 4) : bst m xs 4 = -1 := by
  rcases bst_is m xs 4 with ⟨h, _⟩ | ⟨i, _, hi⟩
  · exact h
  · exact absurd hi.one (hn i hi.lt)
/-- the first k slots that are pending, in their order -/
def pend (xs : List Slt) (k : Nat) : List Nat := (List.range k).filter fun j => (xs.getD j default).st == 1
theorem pend_succ (xs : List Slt) (k : Nat) : pend xs (k + 1) = pend xs k ++ (if (xs.getD k default).st = 1 then [k] else []) := by
  unfold pend
  rw [List.range_succ, List.filter_append]
  congr 1
  by_cases h : (xs.getD k default).st = 1
  · rw [if_pos h, List.filter_cons, if_pos (by simpa using h)]; rfl
  · rw [if_neg h, List.filter_cons, if_neg (by simpa using h)]; rfl
theorem mem_pend {xs : List Slt} {k j : Nat} : j ∈ pend xs k ↔ j < k ∧ (xs.getD j default).st = 1 := by simp [pend]
theorem pend_len (xs : List Slt) (k : Nat) : (pend xs k).length ≤ k := by
  have := List.length_filter_le (fun j => (xs.getD j default).st == 1) (List.range k)
  simpa [pend] using this
/-- the order of the sort -/
def leS (xs : List Slt) (a b : Nat) : Bool := !more (xs.getD b default) (xs.getD a default)
theorem leS_trans {xs : List Slt} (a b c : Nat) (h1 : leS xs a b = true) (h2 : leS xs b c = true) : leS xs a c = true := by
  simp only [leS, more, Bool.not_eq_true', decide_eq_false_iff_not] at *
  omega
theorem leS_total {xs : List Slt} (a b : Nat) : (leS xs a b || leS xs b a) = true := by
  simp only [leS, more, Bool.or_eq_true, Bool.not_eq_true', decide_eq_false_iff_not]
  omega
def pnd (xs : List Slt) : List Nat := (pend xs 4).mergeSort (leS xs)
theorem pnd_perm (xs : List Slt) : (pnd xs).Perm (pend xs 4) := List.mergeSort_perm _ _
theorem pnd_sorted (xs : List Slt) : (pnd xs).Pairwise fun a b => leS xs a b = true := List.pairwise_mergeSort leS_trans leS_total _
theorem mem_pnd {xs : List Slt} {j : Nat} : j ∈ pnd xs ↔ j < 4 ∧ (xs.getD j default).st = 1 := by rw [(pnd_perm xs).mem_iff, mem_pend]
theorem pnd_len_eq (xs : List Slt) : (pnd xs).length = (pend xs 4).length := (pnd_perm xs).length_eq
theorem pnd_len (xs : List Slt) : (pnd xs).length ≤ 4 := by rw [pnd_len_eq]; exact pend_len xs 4
theorem pnd_nil {m : Bool} {xs : List Slt} (h : pnd xs = []) : bst m xs 4 = -1 := by
  refine NoB.bst fun i hi h1 => ?_
  have := mem_pnd.2 ⟨hi, h1⟩
  rw [h] at this
  cases this
theorem pnd_head {xs : List Slt} (ho : okB xs = true) {j : Nat} (h : (pnd xs)[0]? = some j) : bst true xs 4 = j := by
  have hm := mem_pnd.1 (List.mem_of_getElem? h)
  refine IsB.bst ho ⟨hm.1, hm.2, fun i hi hi1 => ?_⟩
  obtain ⟨a, ha, hia⟩ := List.mem_iff_getElem.1 (mem_pnd.2 ⟨hi, hi1⟩)
  have h0 := List.getElem?_eq_some_iff.1 h
  by_cases e : a = 0
  · subst e
    rw [h0.2] at hia
    rw [hia]
    exact mr_irr _ _
  · have h2 := List.pairwise_iff_getElem.1 (pnd_sorted xs) 0 a h0.1 ha (by omega)
    rw [h0.2, hia] at h2
    simp only [leS, Bool.not_eq_true'] at h2
    exact h2
theorem pnd_last {xs : List Slt} (ho : okB xs = true) {j n : Nat} (hn : (pnd xs).length = n + 1) (h : (pnd xs)[n]? = some j) : bst false xs 4 = j := by
  have hm := mem_pnd.1 (List.mem_of_getElem? h)
  refine IsB.bst ho ⟨hm.1, hm.2, fun i hi hi1 => ?_⟩
  obtain ⟨a, ha, hia⟩ := List.mem_iff_getElem.1 (mem_pnd.2 ⟨hi, hi1⟩)
  have h0 := List.getElem?_eq_some_iff.1 h
  by_cases e : a = n
  · subst e
    rw [h0.2] at hia
    rw [hia]
    exact mr_irr _ _
  · have h2 := List.pairwise_iff_getElem.1 (pnd_sorted xs) a n ha h0.1 (by omega)
    rw [h0.2, hia] at h2
    simp only [leS, Bool.not_eq_true'] at h2
    exact h2
/-- what TakeSlot, EvictSlot answer -/
def tkOf (xs : List Slt) (lim : Int) : List Slt × Int × Bool :=
  if bst true xs 4 < 0 then ([], 0, false)
  else if lim ≤ (xs.getD (bst true xs 4).toNat default).pr then ([], 0, false)
  else (xs.set (bst true xs 4).toNat { (xs.getD (bst true xs 4).toNat default) with st := 2 }, (xs.getD (bst true xs 4).toNat default).iq, true)
def tkAns (xs : List Slt) (lim : Int) : List Slt × Int × Bool := if okB xs = true ∧ (0 ≤ lim ∧ lim < 17) then tkOf xs lim else ([], 0, false)
theorem tkOf_no {xs : List Slt} {lim : Int} (h : bst true xs 4 = -1) : tkOf xs lim = ([], 0, false) := by
  unfold tkOf
  rw [if_pos (by omega)]
theorem tkOf_hi {xs : List Slt} {lim : Int} {k : Nat} {x : Slt} (h : bst true xs 4 = k) (hx : xs[k]? = some x) (hp : lim ≤ x.pr) : tkOf xs lim = ([], 0, false) := by
  unfold tkOf
  rw [h, if_neg (by omega), Int.toNat_natCast, getD_atS hx, if_pos hp]
theorem tkOf_yes {xs : List Slt} {lim : Int} {k : Nat} {x : Slt} (h : bst true xs 4 = k) (hx : xs[k]? = some x) (hp : x.pr < lim) : tkOf xs lim = (xs.set k { x with st := 2 }, x.iq, true) := by
  unfold tkOf
  rw [h, if_neg (by omega), Int.toNat_natCast, getD_atS hx, if_neg (by omega)]
def evAns (xs : List Slt) : List Slt × Slt × Bool := if okB xs = true ∧ 0 ≤ bst false xs 4 then (xs.set (bst false xs 4).toNat nul, xs.getD (bst false xs 4).toNat default, true) else ([], nul, false)
theorem evAns_no {xs : List Slt} (h : okB xs = false ∨ bst false xs 4 = -1) : evAns xs = ([], nul, false) := by
  unfold evAns
  rw [if_neg]
  rintro ⟨h1, h2⟩
  rcases h with h | h
  · rw [h] at h1; cases h1
  · omega
theorem evAns_yes {xs : List Slt} {k : Nat} {x : Slt} (ho : okB xs = true) (h : bst false xs 4 = k) (hx : xs[k]? = some x) : evAns xs = (xs.set k nul, x, true) := by
  unfold evAns
  rw [h, if_pos ⟨ho, by omega⟩, Int.toNat_natCast, getD_atS hx]
theorem tkAns_len (xs : List Slt) (lim : Int) : (tkAns xs lim).1.length ≤ 4 := by
  unfold tkAns
  split
  · rename_i h
    unfold tkOf
    have := okB_len h.1
    split
    · simp
    · split <;> simp [this]
  · simp
theorem evAns_len (xs : List Slt) : (evAns xs).1.length ≤ 4 := by
  unfold evAns
  split
  · rename_i h
    have := okB_len h.1
    simp [this]
  · simp
/-- the active interrupts, sorted as spec's program does -/
def isAc (x : Slt) : Bool := x.st == 2 || x.st == 3
def acs (xs : List Slt) (k : Nat) : List Int := ((xs.take k).filter isAc).map fun x => x.iq
theorem acs_succ {xs : List Slt} {k : Nat} {x : Slt} (h : xs[k]? = some x) : acs xs (k + 1) = acs xs k ++ (if isAc x = true then [x.iq] else []) := by
  unfold acs
  rw [List.take_add_one, h, List.filter_append, List.map_append]
  congr 1
  by_cases h1 : isAc x = true
  · simp [h1]
  · simp [h1]
def leZ (a b : Int) : Bool := decide (a ≤ b)
def act (xs : List Slt) (k : Nat) : List Int := (acs xs k).mergeSort leZ
theorem act_perm (xs : List Slt) (k : Nat) : (act xs k).Perm (acs xs k) := List.mergeSort_perm _ _
theorem act_sorted (xs : List Slt) (k : Nat) : (act xs k).Pairwise fun a b => leZ a b = true :=
  List.pairwise_mergeSort (fun a b c h1 h2 => by simp only [leZ, decide_eq_true_eq] at *; omega) (fun a b => by simp only [leZ, Bool.or_eq_true, decide_eq_true_eq]; omega) _
theorem act_eq {xs : List Slt} {k : Nat} {l : List Int} (hp : l.Perm (acs xs k)) (hs : l.Pairwise fun a b => leZ a b = true) : l = act xs k :=
  List.Perm.eq_of_pairwise (fun a b _ _ h1 h2 => by simp only [leZ, decide_eq_true_eq] at *; omega) hs (act_sorted xs k) (hp.trans (act_perm xs k).symm)
theorem acs_len (xs : List Slt) (k : Nat) : (acs xs k).length ≤ k := by
  unfold acs
  rw [List.length_map]
  have := List.length_filter_le isAc (xs.take k)
  rw [List.length_take] at this
  omega
theorem act_len (xs : List Slt) (k : Nat) : (act xs k).length = (acs xs k).length := (act_perm xs k).length_eq
/-- one more, put at its place -/
theorem act_put {xs : List Slt} {k m : Nat} {x : Slt} (h : xs[k]? = some x) (ha : isAc x = true) (hm : m ≤ (act xs k).length) (h1 : ∀ a z, a < m → (act xs k)[a]? = some z → z < x.iq) (h2 : ∀ z, (act xs k)[m]? = some z → x.iq < z) :
    (act xs k).take m ++ x.iq :: (act xs k).drop m = act xs (k + 1) := by
  refine act_eq ?_ ?_
  · rw [acs_succ h, if_pos ha]
    have h3 : ((act xs k).take m ++ x.iq :: (act xs k).drop m).Perm (x.iq :: ((act xs k).take m ++ (act xs k).drop m)) := List.perm_middle
    rw [List.take_append_drop] at h3
    exact h3.trans ((List.Perm.cons _ (act_perm xs k)).trans (List.perm_append_singleton _ _).symm)
  · have hs := act_sorted xs k
    have hfull := hs
    rw [← List.take_append_drop m (act xs k), List.pairwise_append] at hs
    have hd : ∀ z ∈ (act xs k).drop m, x.iq < z := by
      intro z hz
      obtain ⟨a, ha', rfl⟩ := List.mem_iff_getElem.1 hz
      rw [List.length_drop] at ha'
      have hm' : m < (act xs k).length := by omega
      have h5 := h2 _ (List.getElem?_eq_getElem hm')
      rw [List.getElem_drop]
      by_cases e : a = 0
      · subst e; simpa using h5
      · have h6 := List.pairwise_iff_getElem.1 hfull m (m + a) hm' (by omega) (by omega)
        simp only [leZ, decide_eq_true_eq] at h6
        omega
    rw [List.pairwise_append]
    refine ⟨hs.1, List.pairwise_cons.2 ⟨fun z hz => ?_, hs.2.1⟩, fun a ha' b hb' => ?_⟩
    · have := hd z hz
      simp only [leZ, decide_eq_true_eq]; omega
    · rw [List.mem_take_iff_getElem] at ha'
      obtain ⟨i, hi, rfl⟩ := ha'
      have h5 := h1 i _ (by omega) (List.getElem?_eq_getElem (by omega))
      rcases List.mem_cons.1 hb' with rfl | hb'
      · simp only [leZ, decide_eq_true_eq]; omega
      · have := hd b hb'
        simp only [leZ, decide_eq_true_eq]; omega
/-- where it belongs -/
theorem act_spot (xs : List Slt) (k : Nat) (q : Int) (hq : q ∉ acs xs k) : ∃ m, m ≤ (act xs k).length ∧ (∀ a z, a < m → (act xs k)[a]? = some z → z < q) ∧ (∀ z, (act xs k)[m]? = some z → q < z) := by
  have hs := act_sorted xs k
  have hn : ∀ z ∈ act xs k, z ≠ q := fun z hz e => hq ((act_perm xs k).mem_iff.1 (e ▸ hz))
  revert hs hn
  generalize act xs k = l
  intro hs hn
  induction l with
  | nil => exact ⟨0, Nat.le_refl _, fun a z ha => absurd ha (Nat.not_lt_zero _), fun z hz => by simp at hz⟩
  | cons y l ih =>
    rw [List.pairwise_cons] at hs
    by_cases hy : y < q
    · obtain ⟨m, hm, h1, h2⟩ := ih hs.2 (fun z hz => hn z (List.mem_cons_of_mem _ hz))
      refine ⟨m + 1, by simp; omega, fun a z ha hz => ?_, fun z hz => by simpa using h2 z (by simpa using hz)⟩
      cases a with
      | zero => simp at hz; omega
      | succ a => exact h1 a z (by omega) (by simpa using hz)
    · refine ⟨0, Nat.zero_le _, fun a z ha => absurd ha (Nat.not_lt_zero _), fun z hz => ?_⟩
      simp at hz
      have := hn y List.mem_cons_self
      omega
theorem acs_no {xs : List Slt} (h : okB xs = true) {k : Nat} {x : Slt} (hx : xs[k]? = some x) (ha : isAc x = true) : x.iq ∉ acs xs k := by
  intro hm
  unfold acs at hm
  rw [List.mem_map] at hm
  obtain ⟨y, hy, he⟩ := hm
  rw [List.mem_filter] at hy
  have h0 : x.st ≠ 0 := by intro e; simp [isAc, e] at ha
  have h1 : y.st ≠ 0 := by intro e; simp [isAc, e] at hy
  have h2 := List.any_eq_false.1 (okB_no h hx h0) y hy.1
  exact h2 (by simp [has, h1, he])
def acAns (xs : List Slt) : List Int × Bool := if okB xs = true then (act xs 4, true) else ([], false)
theorem acAns_len (xs : List Slt) : (acAns xs).1.length ≤ 4 := by
  unfold acAns
  split
  · simp only [act_len]; exact acs_len xs 4
  · simp
end Go.Proofs.Ytadpjkghfgnbbaa.L8
