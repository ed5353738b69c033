/- What impl.parseSlot answers: the slot that a word is the text of, if there is one. -/
import Derived.Test.YtadpjkghfgnbbaaDoorPsP
import Derived.Test.YtadpjkghfgnbbaaDoorPrI
import Derived.Lib.IndexMore
import Derived.Lib.IndexBytes
namespace Go.Proofs.YtadpjkghfgnbbaaDoor.L8
open Go Go.RowKit Go.Proofs.YtadpjkghfgnbbaaDoor.Mem Go.Proofs.YtadpjkghfgnbbaaDoor.Own Go.Proofs.YtadpjkghfgnbbaaDoor.L1
/-- the first c of a text cuts it -/
theorem cut_cases (c : UInt8) : ∀ l : List UInt8, (Lib.indexByte l c = -1 ∧ c ∉ l) ∨ ∃ a b, l = a ++ c :: b ∧ c ∉ a ∧ Lib.indexByte l c = (a.length : Int)
  | [] => .inl ⟨rfl, by simp⟩
  | x :: l => by
    by_cases hx : x = c
    · subst hx
      exact .inr ⟨[], l, rfl, by simp, by simp [Lib.indexByte]⟩
    · have hb : (x == c) = false := by simpa using hx
      rcases cut_cases c l with ⟨h1, h2⟩ | ⟨a, b, h1, h2, h3⟩
      · refine .inl ⟨by simp [Lib.indexByte, hb, h1], ?_⟩
        intro hm
        rcases List.mem_cons.1 hm with rfl | hm
        · exact hx rfl
        · exact h2 hm
      · refine .inr ⟨x :: a, b, by rw [h1]; rfl, ?_, ?_⟩
        · intro hm
          rcases List.mem_cons.1 hm with rfl | hm
          · exact hx rfl
          · exact h2 hm
        · have h4 : (Lib.indexByte l c == -1) = false := by rw [h3, beq_eq_false_iff_ne]; omega
          have h5 : Lib.indexByte (x :: l) c = Lib.indexByte l c + 1 := by simp [Lib.indexByte, hb, h4]
          rw [h5, h3]
          simp
theorem cut_of (c : UInt8) (l : List UInt8) : (c ∉ l ∧ Lib.cut l [c] = (l, [], false)) ∨ ∃ a b, l = a ++ c :: b ∧ c ∉ a ∧ Lib.cut l [c] = (a, b, true) := by
  rcases cut_cases c l with ⟨h1, h2⟩ | ⟨a, b, h1, h2, h3⟩
  · refine .inl ⟨h2, ?_⟩
    unfold Lib.cut
    rw [Lib.index_one, h1, if_neg (by omega)]
  · refine .inr ⟨a, b, h1, h2, ?_⟩
    unfold Lib.cut
    rw [Lib.index_one, h3, if_pos (by omega), h1]
    have e1 : ((a.length : Int)).toNat = a.length := by omega
    have e2 : (a ++ c :: b).drop (a.length + [c].length) = b := by
      rw [List.drop_append]
      simp
    rw [e1, e2, List.take_left]
theorem cut_app {c : UInt8} {a b : List UInt8} (h : c ∉ a) : Lib.cut (a ++ c :: b) [c] = (a, b, true) := by
  rcases cut_of c (a ++ c :: b) with ⟨h1, _⟩ | ⟨a', b', h1, h2, h3⟩
  · exact absurd (by simp) h1
  · obtain ⟨e1, e2⟩ := app_one (c := c) h h2 (.inr ⟨b, rfl⟩) (.inr ⟨b', rfl⟩) h1
    injection e2 with _ e2
    rw [h3, e1, e2]
theorem fo_list (st i p : Int) : (fo st i p).data.toList = (mkS st ++ NumB i).data.toList ++ 58 :: (NumB p).data.toList := by
  unfold fo
  rw [toList_app, toList_app, List.append_assoc]
  rfl
theorem fo_no (st i : Int) : (58 : UInt8) ∉ (mkS st ++ NumB i).data.toList := by
  rw [toList_app, List.mem_append]
  rintro (h | h)
  · exact mkS_not st 58 (by decide) h
  · exact num_digits i 58 (by decide) h
theorem cut_fo (st i p : Int) : Lib.cut (fo st i p).data.toList [58] = ((mkS st ++ NumB i).data.toList, (NumB p).data.toList, true) := by
  rw [fo_list, cut_app (fo_no st i)]
/-- what parseSlot answers to a word -/
def PwIs (s : ByteArray) (x : Slt) (b : Bool) : Prop :=
  (b = true ∧ ((s = ⟨#[45]⟩ ∧ x = nul) ∨ ((x.st = 1 ∨ x.st = 2 ∨ x.st = 3) ∧ s = fo x.st x.iq x.pr))) ∨ (b = false ∧ ∀ y, Ok y → tx y ≠ s)
/-- the text of a slot that stands at a word that is no "-" -/
theorem tx_form {s : ByteArray} (hd : s ≠ ⟨#[45]⟩) {y : Slt} (hy : Ok y) (h : tx y = s) : (y.st = 1 ∨ y.st = 2 ∨ y.st = 3) ∧ (0 ≤ y.iq ∧ y.iq ≤ 7) ∧ (0 ≤ y.pr ∧ y.pr ≤ 15) ∧ s = fo y.st y.iq y.pr := by
  have h1 := st_ofT hy
  have h2 := bndT hy
  by_cases h0 : y.st = 0
  · exfalso
    unfold tx at h
    rw [if_pos h0] at h
    exact hd h.symm
  · exact ⟨by omega, h2.1, h2.2, by rw [← h, tx_fo h0]⟩
theorem pw_none {s : ByteArray} (hd : s ≠ ⟨#[45]⟩) {b : List UInt8} {f : Bool} (hc : Lib.cut s.data.toList [58] = ([], b, f)) (x : Slt) : PwIs s x false := by
  refine .inr ⟨rfl, fun y hy h => ?_⟩
  obtain ⟨_, _, _, h4⟩ := tx_form hd hy h
  rw [h4, cut_fo] at hc
  have h5 := congrArg Prod.fst hc
  simp only [toList_app, mkS_list, List.cons_append] at h5
  cases h5
def mkI (m : UInt8) : Int := Lib.indexByte [112, 97, 98] m
theorem mkI_cases (m : UInt8) : (mkI m = -1 ∧ ∀ st : Int, (mkS st).data.toList ≠ [m]) ∨ (0 ≤ mkI m ∧ mkI m ≤ 2 ∧ (mkS (1 + mkI m)).data.toList = [m]) := by
  by_cases h1 : m = 112
  · subst h1; exact .inr (by decide +kernel)
  by_cases h2 : m = 97
  · subst h2; exact .inr (by decide +kernel)
  by_cases h3 : m = 98
  · subst h3; exact .inr (by decide +kernel)
  refine .inl ⟨?_, fun st h => ?_⟩
  · have e1 : ((112 : UInt8) == m) = false := by simpa using Ne.symm h1
    have e2 : ((97 : UInt8) == m) = false := by simpa using Ne.symm h2
    have e3 : ((98 : UInt8) == m) = false := by simpa using Ne.symm h3
    simp [mkI, Lib.indexByte, e1, e2, e3]
  · rw [mkS_list, List.cons.injEq] at h
    have h := h.1
    split at h
    · exact h1 h.symm
    · split at h
      · exact h2 h.symm
      · exact h3 h.symm
theorem num_ne (n : Int) : (NumB n).data.toList ≠ [] := by
  by_cases h : n < 0
  · rw [numB_neg h]; simp
  · rw [numB_pos (by omega)]
    have := Lib.decDigits_length n.natAbs
    intro h0
    have h1 := Lib.nDigits_pos n.natAbs
    rw [h0] at this
    simp at this
    omega
theorem read_yes {s : ByteArray} {r : Int} (h : ReadIs s r true) : NumB r = s := by
  rcases h with ⟨_, _, _, h⟩ | ⟨h, _⟩
  · exact h
  · cases h
/-- a word cut in two, its first byte a mark, both others read -/
theorem pw_of {s : ByteArray} (hd : s ≠ ⟨#[45]⟩) {m : UInt8} {r b : List UInt8} {f : Bool} (hc : Lib.cut s.data.toList [58] = (m :: r, b, f)) {i p : Int} {hi hp : Bool}
    (h1 : ReadIs ⟨r.toArray⟩ i hi) (h2 : ReadIs ⟨b.toArray⟩ p hp) : PwIs s ⟨1 + mkI m, i, p⟩ (decide (0 ≤ mkI m) && hi && hp) := by
  by_cases hall : (decide (0 ≤ mkI m) && hi && hp) = true
  · refine .inl ⟨hall, .inr ?_⟩
    rw [Bool.and_eq_true, Bool.and_eq_true, decide_eq_true_iff] at hall
    obtain ⟨⟨h3, rfl⟩, rfl⟩ := hall
    rcases mkI_cases m with ⟨h4, _⟩ | ⟨_, h5, h6⟩
    · omega
    have h7 := read_yes h1
    have h8 := read_yes h2
    refine ⟨by simp only; omega, ?_⟩
    apply ByteArray.ext
    rw [← Array.toList_inj]
    simp only
    rw [fo_list, toList_app, h6, h7, h8]
    rcases cut_of 58 s.data.toList with ⟨_, h9⟩ | ⟨a', b', h9, _, h10⟩
    · exfalso
      rw [h9] at hc
      have := congrArg (fun t => t.2.1) hc
      simp only at this
      have h11 := num_ne p
      rw [h8, ← this] at h11
      exact h11 rfl
    · rw [h10] at hc
      have e1 := congrArg Prod.fst hc
      have e2 := congrArg (fun t => t.2.1) hc
      simp only at e1 e2
      rw [h9, e1, e2]
      rfl
  · have hb : (decide (0 ≤ mkI m) && hi && hp) = false := Bool.eq_false_iff.2 hall
    refine .inr ⟨hb, fun y hy h => ?_⟩
    obtain ⟨g1, g2, g3, g4⟩ := tx_form hd hy h
    rw [g4, cut_fo] at hc
    have e1 := congrArg Prod.fst hc
    have e2 := congrArg (fun t => t.2.1) hc
    simp only [toList_app] at e1 e2
    have e3 : (mkS y.st).data.toList = [m] ∧ (NumB y.iq).data.toList = r := by
      rw [mkS_list] at e1 ⊢
      rw [List.cons_append, List.nil_append, List.cons.injEq] at e1
      exact ⟨by rw [e1.1], e1.2⟩
    have k1 : decide (0 ≤ mkI m) = true := by
      rcases mkI_cases m with ⟨_, h4⟩ | ⟨h4, _⟩
      · exact absurd e3.1 (h4 y.st)
      · exact decide_eq_true h4
    have k2 : hi = true := by
      rcases h1 with ⟨h, _⟩ | ⟨_, _, h⟩
      · exact h
      · exact absurd (by rw [← e3.2]) (h y.iq (by omega) (by omega))
    have k3 : hp = true := by
      rcases h2 with ⟨h, _⟩ | ⟨_, _, h⟩
      · exact h
      · exact absurd (by rw [← e2]) (h y.pr (by omega) (by omega))
    rw [k1, k2, k3] at hb
    cases hb
end Go.Proofs.YtadpjkghfgnbbaaDoor.L8
