/- ParseSlots as data: from the answers to the words to the answer to the text. -/
import Derived.Test.YtadpjkghfgnbbaaDoorPsW
import Derived.Test.YtadpjkghfgnbbaaDoorPJn
namespace Go.Proofs.YtadpjkghfgnbbaaDoor.L8
open Go Go.RowKit Go.Proofs.YtadpjkghfgnbbaaDoor.Mem Go.Proofs.YtadpjkghfgnbbaaDoor.Own Go.Proofs.YtadpjkghfgnbbaaDoor.L1
theorem txs_small {xs : List Slt} (h : okB xs = true) : (txs xs).size ≤ 171 := by
  have hl := okB_len h
  have ho : ∀ (j : Nat) (x : Slt), xs[j]? = some x → Ok x := fun j x hx => okB_ok h hx
  match xs, hl with
  | [a, b, c, d], _ =>
    have ha := tx_size (ho 0 a rfl)
    have hb := tx_size (ho 1 b rfl)
    have hc := tx_size (ho 2 c rfl)
    have hd := tx_size (ho 3 d rfl)
    have h1 := jb_one ([a, b, c, d].map tx) spc (tx a) rfl
    have h2 := jb_succ ([a, b, c, d].map tx) spc (tx b) 1 (by omega) rfl
    have h3 := jb_succ ([a, b, c, d].map tx) spc (tx c) 2 (by omega) rfl
    have h4 := jb_succ ([a, b, c, d].map tx) spc (tx d) 3 (by omega) rfl
    have hs : spc.size = 1 := rfl
    have he : txs [a, b, c, d] = JB (([a, b, c, d].map tx).take 4) spc := rfl
    rw [he, show (4 : Nat) = 3 + 1 from rfl, h4, show (3 : Nat) = 2 + 1 from rfl, h3, show (2 : Nat) = 1 + 1 from rfl, h2, h1]
    simp only [ByteArray.size_append]
    omega
theorem txs_pt {xs : List Slt} {s : ByteArray} (h : okB xs = true) (ht : txs xs = s) : Parts s 32 = xs.map tx ∧ xs.length = 4 := by
  have hl := okB_len h
  refine ⟨?_, hl⟩
  rw [← ht]
  exact txs_parts (by intro e; rw [e] at hl; simp at hl)
theorem ps_long {s : ByteArray} (h : 4000 < s.size) : PsIs s [] false :=
  .inr ⟨rfl, rfl, fun xs h1 h2 => by have := txs_small h1; rw [h2] at this; omega⟩
theorem ps_count {s : ByteArray} (h : (Parts s 32).length ≠ 4) : PsIs s [] false :=
  .inr ⟨rfl, rfl, fun xs h1 h2 => by obtain ⟨e, hl⟩ := txs_pt h1 h2; rw [e, List.length_map] at h; exact h hl⟩
theorem ps_word {s p : ByteArray} {j : Nat} {x : Slt} (hp : (Parts s 32)[j]? = some p) (h : PwIs p x false) : PsIs s [] false := by
  refine .inr ⟨rfl, rfl, fun xs h1 h2 => ?_⟩
  obtain ⟨e, hl⟩ := txs_pt h1 h2
  rw [e, List.getElem?_map, Option.map_eq_some_iff] at hp
  obtain ⟨y, hy, rfl⟩ := hp
  rcases h with ⟨h, _⟩ | ⟨_, h⟩
  · cases h
  · exact h y (okB_ok h1 hy) rfl
theorem nul_ok : Ok nul := .inl ⟨rfl, rfl, rfl⟩
theorem pw_eq {s : ByteArray} {x y : Slt} (h : PwIs s x true) (hy : Ok y) (e : tx y = s) : x = y := by
  rcases h with ⟨_, ⟨h1, rfl⟩ | ⟨h1, h2⟩⟩ | ⟨h, _⟩
  · refine tx_inj nul_ok hy ?_
    rw [e, h1]
    rfl
  · have h0 : y.st ≠ 0 := by
      intro h0
      have h3 : tx y = ⟨#[45]⟩ := by unfold tx; rw [if_pos h0]
      rw [h3, h2] at e
      exact fo_dash _ _ _ e.symm
    rw [tx_fo h0, h2] at e
    have h4 := st_ofT hy
    obtain ⟨e1, e2, e3⟩ := fo_inj (by omega) h1 e
    obtain ⟨a, b, c⟩ := x
    obtain ⟨a', b', c'⟩ := y
    simp only at e1 e2 e3
    rw [e1, e2, e3]
  · cases h
theorem pw_tx {s : ByteArray} {x : Slt} (h : PwIs s x true) : tx x = s := by
  rcases h with ⟨_, ⟨h1, rfl⟩ | ⟨h1, h2⟩⟩ | ⟨h, _⟩
  · rw [h1]; rfl
  · rw [h2, tx_fo (by omega)]
  · cases h
/-- all four words are read: the slots are the answer if they are valid -/
theorem ps_all {s : ByteArray} {ys : List Slt} (hl : ys.length = 4) (hp : (Parts s 32).length = 4) (h : ∀ (j : Nat) (p : ByteArray) (x : Slt), (Parts s 32)[j]? = some p → ys[j]? = some x → PwIs p x true)
    {b : Bool} (ho : okB ys = b) : PsIs s (if b = true then ys else []) b := by
  have hm : Parts s 32 = ys.map tx := by
    apply List.ext_getElem?
    intro i
    by_cases hi : i < 4
    · have h1 := List.getElem?_eq_getElem (l := Parts s 32) (i := i) (by omega)
      have h2 := List.getElem?_eq_getElem (l := ys) (i := i) (by omega)
      rw [List.getElem?_map, h2, h1, Option.map_some, pw_tx (h i _ _ h1 h2)]
    · rw [List.getElem?_eq_none (by omega), List.getElem?_eq_none (by rw [List.length_map]; omega)]
  cases b
  · refine .inr ⟨rfl, rfl, fun xs h1 h2 => ?_⟩
    obtain ⟨e, hx⟩ := txs_pt h1 h2
    have : ys = xs := by
      apply List.ext_getElem?
      intro i
      by_cases hi : i < 4
      · have k1 := List.getElem?_eq_getElem (l := ys) (i := i) (by omega)
        have k2 := List.getElem?_eq_getElem (l := xs) (i := i) (by omega)
        have k3 : (Parts s 32)[i]? = some (tx xs[i]) := by rw [e, List.getElem?_map, k2]; rfl
        rw [k1, k2, pw_eq (h i _ _ k3 k1) (okB_ok h1 k2) rfl]
      · rw [List.getElem?_eq_none (by omega), List.getElem?_eq_none (by omega)]
    rw [this, h1] at ho
    cases ho
  · refine .inl ⟨rfl, ho, ?_⟩
    show txs ys = s
    unfold txs
    rw [← hm]
    exact parts_join s 32
end Go.Proofs.YtadpjkghfgnbbaaDoor.L8
