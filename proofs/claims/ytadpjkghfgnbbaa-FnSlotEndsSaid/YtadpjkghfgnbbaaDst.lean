/- Chapter 6's interrupts as data: what is ready, in which order, what is left when all are served. No program's text. -/
import Derived.Test.YtadpjkghfgnbbaaIrqD
namespace Go.Proofs.Ytadpjkghfgnbbaa.L6
open Go Go.Proofs.Ytadpjkghfgnbbaa.Own
/-- an interrupt's element as the document asks it -/
def Ok (x : Irq) : Prop := (0 ≤ x.pr ∧ x.pr < 16) ∧ (0 ≤ x.tg ∧ x.tg < 4)
instance (x : Irq) : Decidable (Ok x) := by unfold Ok; infer_instance
def OkL (xs : List Irq) : Prop := xs.length = 8 ∧ ∀ x ∈ xs, Ok x
instance (xs : List Irq) : Decidable (OkL xs) := by unfold OkL; infer_instance
/-- the elements a call that changes one of them answers -/
def chAns (xs : List Irq) (i : Int) (c : Irq → Bool) (f : Irq → Irq) : List Irq × Bool :=
  if OkL xs ∧ (0 ≤ i ∧ i < 8) ∧ c (xs.getD i.toNat default) = true then (xs.set i.toNat (f (xs.getD i.toNat default)), true) else ([], false)
theorem chAns_len {xs : List Irq} {i : Int} {c : Irq → Bool} {f : Irq → Irq} {l : List Irq} {b : Bool} (h : chAns xs i c f = (l, b)) : l.length ≤ 8 := by
  unfold chAns at h
  split at h
  · rename_i h1
    have h2 := congrArg Prod.fst h
    simp only at h2
    rw [← h2, List.length_set, h1.1.1]
    exact Nat.le_refl _
  · have h2 := congrArg Prod.fst h
    simp only at h2
    rw [← h2]
    simp
/-- ready for a processor -/
def isRdy (cpu : Int) (x : Irq) : Bool := x.en && (x.pe && (!x.ac && decide (x.tg = cpu)))
def prio (xs : List Irq) (k : Nat) : Int := (xs.getD k default).pr
/-- as urgent as, or more -/
def le (xs : List Irq) (a b : Nat) : Bool := decide (prio xs a < prio xs b ∨ (prio xs a = prio xs b ∧ a ≤ b))
theorem le_trans {xs : List Irq} (a b c : Nat) (h1 : le xs a b = true) (h2 : le xs b c = true) : le xs a c = true := by
  simp only [le, decide_eq_true_eq] at *
  omega
theorem le_total {xs : List Irq} (a b : Nat) : (le xs a b || le xs b a) = true := by
  simp only [le, Bool.or_eq_true, decide_eq_true_eq]
  omega
theorem le_anti {xs : List Irq} (a b : Nat) (h1 : le xs a b = true) (h2 : le xs b a = true) : a = b := by
  simp only [le, decide_eq_true_eq] at *
  omega
/-- the first k interrupts that are ready, in their order -/
def cand (xs : List Irq) (cpu : Int) (k : Nat) : List Nat := (List.range k).filter fun j => isRdy cpu (xs.getD j default)
/-- the ready ones among the first k, the most urgent first -/
def rdy (xs : List Irq) (cpu : Int) (k : Nat) : List Nat := (cand xs cpu k).mergeSort (le xs)
structure IsRd (xs : List Irq) (cpu : Int) (k : Nat) (l : List Nat) : Prop where
  perm : l.Perm (cand xs cpu k)
  sorted : l.Pairwise fun a b => le xs a b = true
theorem rdy_is (xs : List Irq) (cpu : Int) (k : Nat) : IsRd xs cpu k (rdy xs cpu k) :=
  ⟨List.mergeSort_perm _ _, List.pairwise_mergeSort le_trans le_total _⟩
theorem IsRd.eq {xs : List Irq} {cpu : Int} {k : Nat} {l : List Nat} (h : IsRd xs cpu k l) : l = rdy xs cpu k :=
  List.Perm.eq_of_pairwise (fun a b _ _ h1 h2 => le_anti a b h1 h2) h.sorted (rdy_is xs cpu k).sorted (h.perm.trans (rdy_is xs cpu k).perm.symm)
theorem cand_nodup (xs : List Irq) (cpu : Int) (k : Nat) : (cand xs cpu k).Nodup := List.Pairwise.filter _ List.nodup_range
theorem IsRd.nodup {xs : List Irq} {cpu : Int} {k : Nat} {l : List Nat} (h : IsRd xs cpu k l) : l.Nodup := h.perm.nodup_iff.2 (cand_nodup xs cpu k)
theorem mem_cand {xs : List Irq} {cpu : Int} {k j : Nat} : j ∈ cand xs cpu k ↔ j < k ∧ isRdy cpu (xs.getD j default) = true := by simp [cand]
theorem IsRd.mem {xs : List Irq} {cpu : Int} {k j : Nat} {l : List Nat} (h : IsRd xs cpu k l) : j ∈ l ↔ j < k ∧ isRdy cpu (xs.getD j default) = true := by rw [h.perm.mem_iff, mem_cand]
theorem cand_len (xs : List Irq) (cpu : Int) (k : Nat) : (cand xs cpu k).length ≤ k := by
  have := List.length_filter_le (fun j => isRdy cpu (xs.getD j default)) (List.range k)
  simpa [cand] using this
theorem IsRd.len {xs : List Irq} {cpu : Int} {k : Nat} {l : List Nat} (h : IsRd xs cpu k l) : l.length ≤ k := by rw [h.perm.length_eq]; exact cand_len xs cpu k
theorem cand_succ (xs : List Irq) (cpu : Int) (k : Nat) : cand xs cpu (k + 1) = cand xs cpu k ++ (if isRdy cpu (xs.getD k default) = true then [k] else []) := by
  unfold cand
  rw [List.range_succ, List.filter_append]
  congr 1
  by_cases h : isRdy cpu (xs.getD k default) = true
  · rw [if_pos h, List.filter_cons, if_pos h]; rfl
  · rw [if_neg h, List.filter_cons, if_neg h]; rfl
theorem IsRd.skip {xs : List Irq} {cpu : Int} {k : Nat} {l : List Nat} (h : IsRd xs cpu k l) (hn : isRdy cpu (xs.getD k default) = false) : IsRd xs cpu (k + 1) l :=
  ⟨by rw [cand_succ, hn]; simpa using h.perm, h.sorted⟩
/-- the next one is put where all ahead are as urgent and all behind are not -/
theorem IsRd.put {xs : List Irq} {cpu : Int} {k m : Nat} {l : List Nat} (h : IsRd xs cpu k l) (hn : isRdy cpu (xs.getD k default) = true) (hm : m ≤ l.length)
    (ha : ∀ a, m = a + 1 → ∀ j, l[a]? = some j → prio xs j ≤ prio xs k) (hb : ∀ a, m ≤ a → ∀ j, l[a]? = some j → prio xs k < prio xs j) :
    IsRd xs cpu (k + 1) (l.take m ++ k :: l.drop m) := by
  refine ⟨?_, ?_⟩
  · rw [cand_succ, hn, if_pos rfl]
    have h1 : (l.take m ++ k :: l.drop m).Perm (k :: (l.take m ++ l.drop m)) := List.perm_middle
    rw [List.take_append_drop] at h1
    exact h1.trans ((List.Perm.cons k h.perm).trans (List.perm_append_singleton k _).symm)
  · have hall : ∀ j ∈ l.take m, le xs j k = true := by
      intro j hj
      obtain ⟨a, hal, hja⟩ := List.mem_iff_getElem.1 hj
      rw [List.length_take] at hal
      have hja' : l[a]'(by omega) = j := by simpa using hja
      have hjl : j ∈ l := List.mem_of_mem_take hj
      have hjk := (h.mem.1 hjl).1
      have hm1 : m = (m - 1) + 1 := by omega
      have hlt : m - 1 < l.length := by omega
      have h2 := ha (m - 1) hm1 (l[m - 1]'hlt) (List.getElem?_eq_getElem hlt)
      rcases Nat.lt_or_ge a (m - 1) with hlt2 | hge
      · have h3 := (List.pairwise_iff_getElem.1 h.sorted) a (m - 1) (by omega) hlt hlt2
        rw [hja'] at h3
        simp only [le, decide_eq_true_eq] at *
        omega
      · have : a = m - 1 := by omega
        subst this
        rw [hja'] at h2
        simp only [le, decide_eq_true_eq]
        omega
    have hbeh : ∀ j ∈ l.drop m, le xs k j = true := by
      intro j hj
      obtain ⟨a, hal, hja⟩ := List.mem_iff_getElem.1 hj
      rw [List.length_drop] at hal
      have hja' : l[m + a]'(by omega) = j := by simpa using hja
      have h2 := hb (m + a) (by omega) j (by rw [List.getElem?_eq_getElem (by omega), hja'])
      simp only [le, decide_eq_true_eq]
      omega
    have hs := h.sorted
    rw [← List.take_append_drop m l, List.pairwise_append] at hs
    rw [List.pairwise_append]
    refine ⟨hs.1, List.pairwise_cons.2 ⟨hbeh, hs.2.1⟩, fun a ha' b hb' => ?_⟩
    rcases List.mem_cons.1 hb' with rfl | hb'
    · exact hall a ha'
    · exact hs.2.2 a ha' b hb'
/-- what ReadyIrqs answers -/
def rdAns (xs : List Irq) (cpu : Int) : List Nat × Bool := if OkL xs ∧ (0 ≤ cpu ∧ cpu < 4) then (rdy xs cpu 8, true) else ([], false)
theorem rdy_len (xs : List Irq) (cpu : Int) (k : Nat) : (rdy xs cpu k).length ≤ k := (rdy_is xs cpu k).len
theorem rdy_lt {xs : List Irq} {cpu : Int} {k j : Nat} (h : j ∈ rdy xs cpu k) : j < k := ((rdy_is xs cpu k).mem.1 h).1
theorem rdAns_len {xs : List Irq} {cpu : Int} {l : List Nat} {b : Bool} (h : rdAns xs cpu = (l, b)) : l.length ≤ 8 := by
  unfold rdAns at h
  split at h
  · have h2 := congrArg Prod.fst h; simp only at h2; rw [← h2]; exact rdy_len xs cpu 8
  · have h2 := congrArg Prod.fst h; simp only at h2; rw [← h2]; simp
/-- an element that is ready no more leaves the list; nothing else turns -/
theorem rdy_set {xs : List Irq} {cpu : Int} {n j : Nat} {l : List Nat} {y : Irq} (h : rdy xs cpu n = j :: l) (hn : n ≤ xs.length) (hy : isRdy cpu y = false) (hp : y.pr = (xs.getD j default).pr) : rdy (xs.set j y) cpu n = l := by
  have hi := rdy_is xs cpu n
  rw [h] at hi
  have hj : j < n := (hi.mem.1 List.mem_cons_self).1
  have hpr : ∀ a, prio (xs.set j y) a = prio xs a := by
    intro a
    unfold prio
    by_cases e : j = a
    · subst e
      rw [← hp]
      simp [List.getD, List.getElem?_set_self (show j < xs.length by omega)]
    · simp [List.getD, List.getElem?_set_ne e]
  have hle : ∀ a b, le (xs.set j y) a b = le xs a b := by intro a b; unfold le; rw [hpr, hpr]
  have hnd := hi.nodup
  refine (IsRd.eq ⟨?_, ?_⟩).symm
  · refine (List.perm_ext_iff_of_nodup (List.nodup_cons.1 hnd).2 (cand_nodup _ _ _)).2 fun a => ?_
    rw [mem_cand]
    by_cases e : j = a
    · subst e
      have h1 : ¬ j ∈ l := (List.nodup_cons.1 hnd).1
      simp [List.getD, List.getElem?_set_self (show j < xs.length by omega), h1, hy]
    · have h2 := hi.mem (j := a)
      rw [List.mem_cons] at h2
      have h3 : (xs.set j y).getD a default = xs.getD a default := by simp [List.getD, List.getElem?_set_ne e]
      rw [h3, ← h2]
      constructor
      · exact fun h => .inr h
      · rintro (h | h)
        · exact absurd h.symm e
        · exact h
  · have := (List.pairwise_cons.1 hi.sorted).2
    refine this.imp fun {a b} hab => ?_
    rw [hle]
    exact hab
/-- no more pending -/
def quit (x : Irq) : Irq := { x with pe := false }
/-- the elements at these places are pending no more -/
def clr (xs : List Irq) (l : List Nat) : List Irq := l.foldl (fun ys j => ys.set j (quit (ys.getD j default))) xs
theorem clr_snoc (xs : List Irq) (l : List Nat) (j : Nat) : clr xs (l ++ [j]) = (clr xs l).set j (quit ((clr xs l).getD j default)) := by simp [clr, List.foldl_append]
theorem clr_len (xs : List Irq) (l : List Nat) : (clr xs l).length = xs.length := by
  unfold clr
  induction l generalizing xs with
  | nil => rfl
  | cons j l ih => rw [List.foldl_cons, ih, List.length_set]
theorem quit_not (cpu : Int) (x : Irq) : isRdy cpu (quit x) = false := by simp [isRdy, quit]
/-- what is left to serve -/
theorem rdy_clr (xs : List Irq) (cpu : Int) (n : Nat) (hn : n ≤ xs.length) (k : Nat) (hk : k ≤ (rdy xs cpu n).length) : rdy (clr xs ((rdy xs cpu n).take k)) cpu n = (rdy xs cpu n).drop k := by
  induction k with
  | zero => rfl
  | succ k ih =>
    have h1 := ih (by omega)
    have hlt : k < (rdy xs cpu n).length := by omega
    rw [List.drop_eq_getElem_cons hlt] at h1
    rw [List.take_succ_eq_append_getElem hlt, clr_snoc]
    exact rdy_set h1 (by rw [clr_len]; exact hn) (quit_not _ _) rfl
theorem quit_ok {x : Irq} (h : Ok x) : Ok (quit x) := h
theorem set_ok {xs : List Irq} {j : Nat} {y : Irq} (h : OkL xs) (hy : Ok y) : OkL (xs.set j y) :=
  ⟨by rw [List.length_set]; exact h.1, fun x hx => by
    rcases List.mem_or_eq_of_mem_set hx with h1 | rfl
    · exact h.2 x h1
    · exact hy⟩
theorem getD_mem {xs : List Irq} {j : Nat} (h : j < xs.length) : xs.getD j default ∈ xs := by
  rw [List.getD, List.getElem?_eq_getElem h]
  exact List.getElem_mem h
theorem getD_at {xs : List Irq} {j : Nat} {x : Irq} (h : xs[j]? = some x) : xs.getD j default = x := by rw [List.getD, h]; rfl
theorem clr_ok {xs : List Irq} (h : OkL xs) (l : List Nat) (hl : ∀ j ∈ l, j < 8) : OkL (clr xs l) := by
  unfold clr
  induction l generalizing xs with
  | nil => exact h
  | cons j l ih =>
    rw [List.foldl_cons]
    refine ih (set_ok h (quit_ok (h.2 _ (getD_mem ?_)))) fun a ha => hl a (List.mem_cons_of_mem _ ha)
    rw [h.1]
    exact hl j List.mem_cons_self
/-- what ServeAll answers -/
def svAns (xs : List Irq) (cpu : Int) : List Nat × List Irq × Bool := if OkL xs ∧ (0 ≤ cpu ∧ cpu < 4) then (rdy xs cpu 8, clr xs (rdy xs cpu 8), true) else ([], [], false)
/-- what PriorityMask answers -/
def pmAns (xs : List Irq) (cpu mask : Int) : List Nat × Bool := if OkL xs ∧ (0 ≤ cpu ∧ cpu < 4) ∧ (0 ≤ mask ∧ mask < 17) then ((rdy xs cpu 8).filter fun j => decide (prio xs j < mask), true) else ([], false)
/-- what MostUrgent answers -/
def muAns (xs : List Irq) (cpu : Int) : Int × Bool := if OkL xs ∧ (0 ≤ cpu ∧ cpu < 4) then (match rdy xs cpu 8 with | [] => (-1 : Int) | j :: _ => (j : Int), true) else (0, false)
/-- places as numbers -/
def ints (l : List Nat) : List Int := l.map fun j : Nat => (j : Int)
theorem ints_len (l : List Nat) : (ints l).length = l.length := by simp [ints]
theorem ints_at {l : List Nat} {k j : Nat} (h : l[k]? = some j) : (ints l)[k]? = some (j : Int) := by simp [ints, List.getElem?_map, h]
end Go.Proofs.Ytadpjkghfgnbbaa.L6
