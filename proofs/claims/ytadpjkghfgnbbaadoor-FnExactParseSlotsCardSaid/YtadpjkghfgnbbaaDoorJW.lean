/- Words that do not hold a byte, joined by it, are the parts of the text. No program's text. -/
import Derived.Test.YtadpjkghfgnbbaaDoorCuts
import Derived.Test.YtadpjkghfgnbbaaDoorJB
namespace Go.Proofs.YtadpjkghfgnbbaaDoor.L1
open Go Go.RowKit Go.Proofs.YtadpjkghfgnbbaaDoor.Mem
theorem app_one {c : UInt8} : ∀ {x x' t t' : List UInt8}, c ∉ x → c ∉ x' → (t = [] ∨ ∃ r, t = c :: r) → (t' = [] ∨ ∃ r, t' = c :: r) → x ++ t = x' ++ t' → x = x' ∧ t = t' := by
  intro x
  induction x with
  | nil =>
    intro x' t t' _ hx' ht ht' h
    cases x' with
    | nil => exact ⟨rfl, h⟩
    | cons b x' =>
      exfalso
      simp only [List.nil_append, List.cons_append] at h
      rcases ht with rfl | ⟨r, rfl⟩
      · cases h
      · injection h with h1 _
        exact hx' (by simp [h1])
  | cons a x ih =>
    intro x' t t' hx hx' ht ht' h
    cases x' with
    | nil =>
      exfalso
      simp only [List.nil_append, List.cons_append] at h
      rcases ht' with rfl | ⟨r, rfl⟩
      · cases h
      · injection h with h1 _
        exact hx (by simp [h1])
    | cons b x' =>
      simp only [List.cons_append] at h
      injection h with h1 h2
      obtain ⟨h3, h4⟩ := ih (fun hm => hx (by simp [hm])) (fun hm => hx' (by simp [hm])) ht ht' h2
      exact ⟨by rw [h1, h3], h4⟩
theorem tail_form (c : UInt8) (r : List (List UInt8)) : Lib.joinTail [c] r = [] ∨ ∃ l, Lib.joinTail [c] r = c :: l := by
  cases r with
  | nil => exact .inl rfl
  | cons y r => exact .inr ⟨y ++ Lib.joinTail [c] r, by simp [Lib.joinTail]⟩
theorem tail_one {c : UInt8} : ∀ {L M : List (List UInt8)}, (∀ x ∈ L, c ∉ x) → (∀ x ∈ M, c ∉ x) → Lib.joinTail [c] L = Lib.joinTail [c] M → L = M := by
  intro L
  induction L with
  | nil =>
    intro M _ _ h
    cases M with
    | nil => rfl
    | cons m M => simp [Lib.joinTail] at h
  | cons a L ih =>
    intro M hL hM h
    cases M with
    | nil => simp [Lib.joinTail] at h
    | cons m M =>
      have e : ∀ (y : List UInt8) (r : List (List UInt8)), Lib.joinTail [c] (y :: r) = c :: (y ++ Lib.joinTail [c] r) := fun y r => by simp [Lib.joinTail]
      rw [e, e] at h
      injection h with _ h
      obtain ⟨h1, h2⟩ := app_one (hL a (by simp)) (hM m (by simp)) (tail_form c L) (tail_form c M) h
      rw [h1, ih (fun x hx => hL x (by simp [hx])) (fun x hx => hM x (by simp [hx])) h2]
theorem join_one_way {c : UInt8} {L M : List (List UInt8)} (hl : L ≠ []) (hm : M ≠ []) (hL : ∀ x ∈ L, c ∉ x) (hM : ∀ x ∈ M, c ∉ x) (h : Lib.join L [c] = Lib.join M [c]) : L = M := by
  cases L with
  | nil => exact absurd rfl hl
  | cons a L =>
    cases M with
    | nil => exact absurd rfl hm
    | cons m M =>
      rw [Lib.join_cons, Lib.join_cons] at h
      obtain ⟨h1, h2⟩ := app_one (hL a (by simp)) (hM m (by simp)) (tail_form c L) (tail_form c M) h
      rw [h1, tail_one (fun x hx => hL x (by simp [hx])) (fun x hx => hM x (by simp [hx])) h2]
theorem parts_of_jb (ws : List ByteArray) (c : UInt8) (hne : ws ≠ []) (hc : ∀ y ∈ ws, c ∉ y.data.toList) : Parts (JB ws ⟨#[c]⟩) c = ws := by
  obtain ⟨h1, h2, h3⟩ := cuts_inv (JB ws ⟨#[c]⟩) c (JB ws ⟨#[c]⟩).size (Nat.le_refl _)
  have hj : Lib.join ((Parts (JB ws ⟨#[c]⟩) c).map (·.data.toList)) [c] = (JB ws ⟨#[c]⟩).data.toList := by
    unfold Parts
    rw [h3]
    exact List.take_of_length_le (Nat.le_refl _)
  have hw : (JB ws ⟨#[c]⟩).data.toList = Lib.join (ws.map (·.data.toList)) [c] := List.toList_toArray
  have he := join_one_way (c := c) (L := (Parts (JB ws ⟨#[c]⟩) c).map (·.data.toList)) (M := ws.map (·.data.toList)) (by unfold Parts; simp) (by simpa using hne)
    (fun u hu => by
      obtain ⟨y, hy, rfl⟩ := List.mem_map.1 hu
      unfold Parts at hy
      have h4 : y.data.toList.contains c = false := by
        rcases List.mem_append.1 hy with hy | hy
        · exact h1 y hy
        · rw [List.mem_singleton] at hy; rw [hy]; exact h2
      simpa using h4)
    (fun u hu => by
      obtain ⟨y, hy, rfl⟩ := List.mem_map.1 hu
      exact hc y hy) (hj.trans hw)
  refine (List.map_inj_right (f := fun b : ByteArray => b.data.toList) (fun a b hab => ?_)).1 he
  exact ByteArray.ext (Array.toList_inj.1 hab)
end Go.Proofs.YtadpjkghfgnbbaaDoor.L1
