/- Tables that a call has made: every block of theirs lies between two bounds. No program's text. -/
import Derived.Test.YtaamjnpknmimmabTab
import Derived.Test.YtaamjnpknmimmabRow
namespace Go.Proofs.Ytaamjnpknmimmab.L4
open Go Go.RowKit Go.Proofs.Ytaamjnpknmimmab.Mem Go.Proofs.Ytaamjnpknmimmab.Own
/-- the leaves' own rows -/
structure Inn (w : World) (lo hi : Nat) (vs : List Value) (xss : List (List Ent)) : Prop where
  len : vs.length = xss.length
  row : ∀ (i : Nat) v xs, vs[i]? = some v → xss[i]? = some xs → Row w lo hi 70 2 v xs.length (FL xs)
  apart : ∀ (i j : Nat) u v, i < j → vs[i]? = some u → vs[j]? = some v → Apart u v
/-- an owned slice of leaves -/
def OwnL (w : World) (lo hi : Nat) (v : Value) (m : Nat) (xss : List (List Ent)) : Prop := ∃ vs, Row w lo hi 74 1 v m vs ∧ Inn w lo hi vs xss
structure OwnT (w : World) (lo hi : Nat) (A : Option Addr) (n c : Nat) (D : Option Addr) (m d : Nat) (t : Tab) : Prop where
  dirs : Row w lo hi 3 1 (.slice A n c) n (I t.dirs)
  leaves : OwnL w lo hi (.slice D m d) m t.leaves
section
variable {w w' w2 : World} {lo lo' hi hi' size n m c d : Nat} {e : TypeId} {u v : Value} {xs : List Value} {vs : List Value} {xss : List (List Ent)} {A D : Option Addr} {t : Tab}
theorem Inn.below (h : Inn w lo hi vs xss) (hb : Below w.heap.size w w') : Inn w' lo hi vs xss := ⟨h.len, fun i v xs h1 h2 => (h.row i v xs h1 h2).below hb, h.apart⟩
theorem Inn.mono (h : Inn w lo hi vs xss) (h1 : lo' ≤ lo) (h2 : hi ≤ hi') : Inn w lo' hi' vs xss := ⟨h.len, fun i v xs k1 k2 => (h.row i v xs k1 k2).mono h1 h2, h.apart⟩
theorem Inn.nil : Inn w lo hi [] [] := ⟨rfl, fun i v xs h _ => by simp at h, fun i j u v _ h _ => by simp at h⟩
/-- a row of another type is changed -/
theorem Inn.away {b n2 s2 : Nat} {e2 : TypeId} {ys : List Value} (h : Inn w lo hi vs xss) (ho : w.ownsRow b e2 s2 u n2 ys) (he : e2 ≠ 70) (hg : w.grownBy w' u.ownBlock) : Inn w' lo hi vs xss :=
  ⟨h.len, fun i v xs h1 h2 => (h.row i v xs h1 h2).away hg (apart_types ho (h.row i v xs h1 h2).own he), h.apart⟩
/-- one more leaf, made behind all others -/
theorem Inn.snoc {xs : List Ent} (h : Inn w lo hi vs xss) (hh : hi ≤ w.heap.size) (hb : Below w.heap.size w w') (hv : w'.ownsRow w.heap.size 70 2 v xs.length (FL xs)) (hl : lo ≤ w.heap.size) : Inn w' lo w'.heap.size (vs ++ [v]) (xss ++ [xs]) := by
  have h' := h.below hb
  have hs := hb.size
  have hlen := h.len
  refine ⟨by simp [h.len], fun i u ys h1 h2 => ?_, fun i j u1 u2 hij h1 h2 => ?_⟩
  · rcases Nat.lt_or_ge i vs.length with hi' | hi'
    · rw [List.getElem?_append_left hi'] at h1
      rw [List.getElem?_append_left (by omega)] at h2
      exact (h'.row i u ys h1 h2).mono (Nat.le_refl _) (by omega)
    · have hil : i < (vs ++ [v]).length := (List.getElem?_eq_some_iff.1 h1).1
      simp at hil
      have e1 : i - vs.length = 0 := by omega
      have e2 : i - xss.length = 0 := by omega
      rw [List.getElem?_append_right hi', e1] at h1
      rw [List.getElem?_append_right (by omega), e2] at h2
      simp at h1 h2
      subst h1 h2
      exact (Row.of hv).mono hl (Nat.le_refl _)
  · have hjl : j < (vs ++ [v]).length := (List.getElem?_eq_some_iff.1 h2).1
    simp at hjl
    rw [List.getElem?_append_left (by omega)] at h1
    rcases Nat.lt_or_ge j vs.length with hj' | hj'
    · rw [List.getElem?_append_left hj'] at h2
      exact h.apart i j u1 u2 hij h1 h2
    · have e1 : j - vs.length = 0 := by omega
      rw [List.getElem?_append_right hj', e1] at h2
      simp at h2
      subst h2
      intro k hk hv'
      have q1 := (h.row i u1 _ h1 (List.getElem?_eq_getElem (show i < xss.length by omega))).lt k hk
      have q2 := (hv.lt k hv').1
      omega
theorem Inn.rows (h : Inn w lo hi vs xss) : Rows w w.heap.size vs xss := by
  refine ⟨h.len, fun i v xs h1 h2 => ?_⟩
  have hr := h.row i v xs h1 h2
  obtain ⟨A, c, rfl, h3, h4⟩ := own_form hr.own
  exact ⟨A, _, c, rfl, h3, h4, hr.reads⟩
theorem OwnL.reads (h : OwnL w lo hi (.slice D m d) m xss) : ReadsL w w.heap.size D m xss := by
  obtain ⟨vs, h1, h2⟩ := h
  exact ⟨vs, h1.reads, h2.rows⟩
theorem OwnL.below (h : OwnL w lo hi v m xss) (hb : Below w.heap.size w w') : OwnL w' lo hi v m xss := by
  obtain ⟨vs, h1, h2⟩ := h
  exact ⟨vs, h1.below hb, h2.below hb⟩
theorem OwnL.mono (h : OwnL w lo hi v m xss) (h1 : lo' ≤ lo) (h2 : hi ≤ hi') : OwnL w lo' hi' v m xss := by
  obtain ⟨vs, k1, k2⟩ := h
  exact ⟨vs, k1.mono h1 h2, k2.mono h1 h2⟩
theorem Inn.low (h : Inn w lo hi vs xss) {g j : Nat} (z : Value) (hg : g < lo) : Inn (w.setCell ⟨g, j, none⟩ z) lo hi vs xss := ⟨h.len, fun i v xs h1 h2 => (h.row i v xs h1 h2).low z hg, h.apart⟩
theorem OwnL.low (h : OwnL w lo hi v m xss) {g j : Nat} (z : Value) (hg : g < lo) : OwnL (w.setCell ⟨g, j, none⟩ z) lo hi v m xss := by
  obtain ⟨vs, k1, k2⟩ := h
  exact ⟨vs, k1.low z hg, k2.low z hg⟩
theorem OwnT.reads (h : OwnT w lo hi A n c D m d t) : ReadsT w w.heap.size A n D m t := ⟨h.dirs.reads, h.leaves.reads⟩
theorem OwnT.below (h : OwnT w lo hi A n c D m d t) (hb : Below w.heap.size w w') : OwnT w' lo hi A n c D m d t := ⟨h.dirs.below hb, h.leaves.below hb⟩
theorem OwnT.mono (h : OwnT w lo hi A n c D m d t) (h1 : lo' ≤ lo) (h2 : hi ≤ hi') : OwnT w lo' hi' A n c D m d t := ⟨h.dirs.mono h1 h2, h.leaves.mono h1 h2⟩
end
end Go.Proofs.Ytaamjnpknmimmab.L4
