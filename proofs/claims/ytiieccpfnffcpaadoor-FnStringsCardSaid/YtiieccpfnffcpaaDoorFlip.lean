/- A sealed text with one byte changed is sealed no more. -/
import Derived.Test.YtiieccpfnffcpaaDoorVerify
import Derived.Test.YtiieccpfnffcpaaDoorRead0
namespace Go.Proofs.YtiieccpfnffcpaaDoor.L1
open Go.RowKit
/-- the bytes of a sealed text -/
theorem sealB_list (x : ByteArray) : (SealB x).data.toList = x.data.toList ++ 35 :: Lib.decDigits (csum x.data.toList).toNat := by
  have hb := csum_bd x.data.toList
  have h := numB_pos (n := csum x.data.toList) hb.1
  rw [show (csum x.data.toList).natAbs = (csum x.data.toList).toNat from by omega] at h
  simp only [SealB, ByteArray.data_append, Array.toList_append, h]
  simp
theorem step_inj {h h' : Int} {c : UInt8} (e : cstep h c = cstep h' c) : h % 999979 = h' % 999979 := by
  unfold cstep at e
  have h1 : (41 * (h - h')) % 999979 = 0 := by omega
  obtain ⟨k, hk⟩ := Int.dvd_of_emod_eq_zero h1
  have h3 : h - h' = 999979 * (k * 365846 - 15 * (h - h')) := by omega
  omega
theorem fold_ne : ∀ (l : List UInt8) (h h' : Int), 0 ≤ h → h < 999979 → 0 ≤ h' → h' < 999979 → h ≠ h' → l.foldl cstep h ≠ l.foldl cstep h'
  | [], _, _, _, _, _, _, hne => hne
  | c :: l, h, h', a1, a2, a3, a4, hne => by
    have b1 := cstep_bd h c
    have b2 := cstep_bd h' c
    refine fold_ne l _ _ b1.1 (by omega) b2.1 (by omega) (fun e => hne ?_)
    have := step_inj e
    omega
theorem csum_flip (a b : List UInt8) (u v : UInt8) (huv : u ≠ v) : csum (a ++ u :: b) ≠ csum (a ++ v :: b) := by
  unfold csum
  rw [List.foldl_append, List.foldl_append, List.foldl_cons, List.foldl_cons]
  have b1 := cstep_bd (a.foldl cstep 7) u
  have b2 := cstep_bd (a.foldl cstep 7) v
  refine fold_ne b _ _ b1.1 (by omega) b2.1 (by omega) (fun e => huv ?_)
  unfold cstep at e
  have h1 := u.toNat_lt
  have h2 := v.toNat_lt
  apply UInt8.toNat_inj.1
  omega
theorem tw_stop (c : UInt8) : ∀ (p q : List UInt8), (∀ x ∈ p, x ≠ c) → (p ++ c :: q).takeWhile (· != c) = p
  | [], q, _ => by simp
  | a :: p, q, h => by
    have ha : (a != c) = true := by simpa using h a (by simp)
    rw [List.cons_append, List.takeWhile_cons, if_pos ha, tw_stop c p q (fun x hx => h x (by simp [hx]))]
theorem dd_free (n : Nat) : ∀ x ∈ Lib.decDigits n, x ≠ 35 := by
  intro x hx e
  have := dd_digits n x hx
  rw [e] at this
  simp at this
/-- the plain form: Y is sealed of x, one byte of it is changed -/
theorem flip_list (x A B : List UInt8) (u v : UInt8) (hx : ∀ b ∈ x, b ≠ 35) (hY : A ++ u :: B = x ++ 35 :: Lib.decDigits (csum x).toNat) (huv : u ≠ v)
    (hs : A ++ v :: B = (A ++ v :: B).takeWhile (· != 35) ++ 35 :: Lib.decDigits (csum ((A ++ v :: B).takeWhile (· != 35))).toNat) : False := by
  have hD := dd_free (csum x).toNat
  rcases List.append_eq_append_iff.1 hY with ⟨a', h1, h2⟩ | ⟨c', h1, h2⟩
  · cases a' with
    | nil =>
      simp only [List.nil_append, List.cons.injEq] at h2
      obtain ⟨rfl, rfl⟩ := h2
      simp only [List.append_nil] at h1
      subst h1
      have hm : (35 : UInt8) ∈ x ++ v :: Lib.decDigits (csum x).toNat := by rw [hs]; simp
      rcases List.mem_append.1 hm with h | h
      · exact hx _ h rfl
      · rcases List.mem_cons.1 h with h | h
        · exact huv h
        · exact hD _ h rfl
    | cons w b =>
      simp only [List.cons_append, List.cons.injEq] at h2
      obtain ⟨rfl, rfl⟩ := h2
      subst h1
      by_cases hv : v = 35
      · subst hv
        have ht := tw_stop 35 A (b ++ 35 :: Lib.decDigits (csum (A ++ u :: b)).toNat) (fun y hy => hx y (by simp [hy]))
        rw [ht] at hs
        have h3 := List.append_cancel_left hs
        simp only [List.cons.injEq, true_and] at h3
        have : (35 : UInt8) ∈ Lib.decDigits (csum A).toNat := by rw [← h3]; simp
        exact dd_free _ _ this rfl
      · have hfree : ∀ y ∈ A ++ v :: b, y ≠ 35 := by
          intro y hy
          rcases List.mem_append.1 hy with hy | hy
          · exact hx y (by simp [hy])
          · rcases List.mem_cons.1 hy with hy | hy
            · rw [hy]; exact hv
            · exact hx y (by simp [hy])
        have ht := tw_stop 35 (A ++ v :: b) (Lib.decDigits (csum (A ++ u :: b)).toNat) hfree
        rw [List.append_assoc, List.cons_append] at ht
        rw [ht] at hs
        have h3 : (A ++ v :: b) ++ 35 :: Lib.decDigits (csum (A ++ u :: b)).toNat = (A ++ v :: b) ++ 35 :: Lib.decDigits (csum (A ++ v :: b)).toNat := by
          rw [List.append_assoc, List.cons_append]; exact hs
        have h4 := List.append_cancel_left h3
        simp only [List.cons.injEq, true_and] at h4
        have h5 := congrArg (dval 0) h4
        rw [dval_dd, dval_dd] at h5
        have b1 := csum_bd (A ++ u :: b)
        have b2 := csum_bd (A ++ v :: b)
        exact csum_flip A b u v huv (by omega)
  · cases c' with
    | nil =>
      simp only [List.nil_append, List.cons.injEq] at h2
      obtain ⟨rfl, h2⟩ := h2
      simp only [List.append_nil] at h1
      subst h1
      subst h2
      have hm : (35 : UInt8) ∈ A ++ v :: Lib.decDigits (csum A).toNat := by rw [hs]; simp
      rcases List.mem_append.1 hm with h | h
      · exact hx _ h rfl
      · rcases List.mem_cons.1 h with h | h
        · exact huv h
        · exact hD _ h rfl
    | cons w d =>
      simp only [List.cons_append, List.cons.injEq] at h2
      obtain ⟨rfl, h2⟩ := h2
      subst h1
      have e1 : x ++ 35 :: d ++ v :: B = x ++ 35 :: (d ++ v :: B) := by simp
      have ht := tw_stop 35 x (d ++ v :: B) hx
      rw [e1, ht] at hs
      have h3 := List.append_cancel_left hs
      simp only [List.cons.injEq, true_and] at h3
      rw [h2] at h3
      have h4 := List.append_cancel_left h3
      simp only [List.cons.injEq] at h4
      exact huv h4.1.symm
theorem flip_not (x : ByteArray) (hx : x.data.toList.contains 35 = false) (k : Nat) (hk : k < (SealB x).size) (v : UInt8) (hv : (SealB x)[k] ≠ v) : ¬ Sealed ⟨((SealB x).data.toList.set k v).toArray⟩ := by
  rintro ⟨_, h⟩
  have hl : (SealB x).data.toList.length = (SealB x).size := rfl
  have hk' : k < (SealB x).data.toList.length := by omega
  have hsplit : (SealB x).data.toList = (SealB x).data.toList.take k ++ (SealB x)[k] :: (SealB x).data.toList.drop (k + 1) := by
    conv => lhs; rw [← List.take_append_drop k (SealB x).data.toList, List.drop_eq_getElem_cons hk']
    rfl
  have hset : (SealB x).data.toList.set k v = (SealB x).data.toList.take k ++ v :: (SealB x).data.toList.drop (k + 1) := List.set_eq_take_append_cons_drop.trans (by rw [if_pos hk'])
  obtain ⟨Y', hY'⟩ : ∃ Y', (SealB x).data.toList.set k v = Y' := ⟨_, rfl⟩
  rw [hY'] at h
  have h2 := congrArg (fun b : ByteArray => b.data.toList) h
  simp only [sealB_list, Fst] at h2
  rw [← hY', hset] at h2
  refine flip_list x.data.toList _ _ _ v (fun b hb e => ?_) (by rw [← hsplit, sealB_list]) hv h2.symm
  simp only [List.contains_eq_mem, decide_eq_false_iff_not] at hx
  exact hx (by rw [← e]; exact hb)
end Go.Proofs.YtiieccpfnffcpaaDoor.L1
