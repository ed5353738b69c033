/- The words of an instruction's text, and what is read out of words: as data. -/
import Derived.Test.YtfdbnolifimnhabDoorCuts
import Derived.Test.YtfdbnolifimnhabDoorAsmI
import Derived.Test.YtfdbnolifimnhabDoorRead0
namespace Go.Proofs.YtfdbnolifimnhabDoor.L3
open Go Go.RowKit Go.Proofs.YtfdbnolifimnhabDoor.L1
/-- a register's word -/
def rg (n : Int) : ByteArray := ⟨#[114]⟩ ++ NumB n
/-- the words of an instruction's text -/
def wordsOf (x : Ins) : List ByteArray :=
  opName x.op.toNat :: ((if 1 < cntA x.op then [rg x.a] else []) ++ ((if 1 < cntB x.op then [rg x.b] else []) ++ (if 0 < mostN x.op then [NumB x.n] else [])))
theorem words_join (x : Ins) : Lib.join ((wordsOf x).map (·.data.toList)) [32] = (asmOf x).data.toList := by
  unfold wordsOf asmOf
  simp only [List.map_cons, Lib.join_cons, Lib.joinTail]
  split <;> split <;> split <;> simp [rg, sp, spr]
theorem name_clean (k : Nat) : (32 : UInt8) ∉ (opName k).data.toList := by
  unfold opName
  split <;> decide
theorem num_clean {n : Int} (h : 0 ≤ n) : (32 : UInt8) ∉ (NumB n).data.toList := by
  rw [numB_pos h]
  intro hm
  have h1 := dd_digits n.natAbs 32 hm
  have h2 : (32 : UInt8).toNat = 32 := rfl
  omega
theorem words_clean {x : Ins} (h : Ok x) : ∀ u ∈ wordsOf x, (32 : UInt8) ∉ u.data.toList := by
  obtain ⟨ha, hb, hn⟩ := ok_bnd h
  have hr : ∀ n : Int, 0 ≤ n → (32 : UInt8) ∉ (rg n).data.toList := by
    intro n h0
    unfold rg
    rw [ByteArray.data_append, Array.toList_append, List.mem_append]
    rintro (h1 | h1)
    · simp at h1
    · exact num_clean h0 h1
  intro u hu
  unfold wordsOf at hu
  rcases List.mem_cons.1 hu with rfl | hu
  · exact name_clean _
  · rcases List.mem_append.1 hu with hu | hu
    · split at hu
      · rw [List.mem_singleton] at hu; subst hu; exact hr _ ha.1
      · simp at hu
    · rcases List.mem_append.1 hu with hu | hu
      · split at hu
        · rw [List.mem_singleton] at hu; subst hu; exact hr _ hb.1
        · simp at hu
      · split at hu
        · rw [List.mem_singleton] at hu; subst hu; exact num_clean hn.1
        · simp at hu
theorem app_one {c : UInt8} : ∀ {x x' t t' : List UInt8}, c ∉ x → c ∉ x' → (t = [] ∨ ∃ r, t = c :: r) → (t' = [] ∨ ∃ r, t' = c :: r) → x ++ t = x' ++ t' → x = x' ∧ t = t' := by
  intro x
  induction x with
  | nil =>
    intro x' t t' _ hx' ht ht' h
    cases x' with
    | nil => exact ⟨rfl, h⟩
    | cons b x' =>
      exfalso
      simp only [List.nil_append, List.cons_append] at h
      rcases ht with rfl | ⟨r, rfl⟩
      · cases h
      · injection h with h1 _
        exact hx' (by simp [h1])
  | cons a x ih =>
    intro x' t t' hx hx' ht ht' h
    cases x' with
    | nil =>
      exfalso
      simp only [List.nil_append, List.cons_append] at h
      rcases ht' with rfl | ⟨r, rfl⟩
      · cases h
      · injection h with h1 _
        exact hx (by simp [h1])
    | cons b x' =>
      simp only [List.cons_append] at h
      injection h with h1 h2
      obtain ⟨h3, h4⟩ := ih (fun hm => hx (by simp [hm])) (fun hm => hx' (by simp [hm])) ht ht' h2
      exact ⟨by rw [h1, h3], h4⟩
theorem tail_form (c : UInt8) (r : List (List UInt8)) : Lib.joinTail [c] r = [] ∨ ∃ l, Lib.joinTail [c] r = c :: l := by
  cases r with
  | nil => exact .inl rfl
  | cons y r => exact .inr ⟨y ++ Lib.joinTail [c] r, by simp [Lib.joinTail]⟩
theorem tail_one {c : UInt8} : ∀ {L M : List (List UInt8)}, (∀ x ∈ L, c ∉ x) → (∀ x ∈ M, c ∉ x) → Lib.joinTail [c] L = Lib.joinTail [c] M → L = M := by
  intro L
  induction L with
  | nil =>
    intro M _ _ h
    cases M with
    | nil => rfl
    | cons m M => simp [Lib.joinTail] at h
  | cons a L ih =>
    intro M hL hM h
    cases M with
    | nil => simp [Lib.joinTail] at h
    | cons m M =>
      have e : ∀ (y : List UInt8) (r : List (List UInt8)), Lib.joinTail [c] (y :: r) = c :: (y ++ Lib.joinTail [c] r) := fun y r => by simp [Lib.joinTail]
      rw [e, e] at h
      injection h with _ h
      obtain ⟨h1, h2⟩ := app_one (hL a (by simp)) (hM m (by simp)) (tail_form c L) (tail_form c M) h
      rw [h1, ih (fun x hx => hL x (by simp [hx])) (fun x hx => hM x (by simp [hx])) h2]
theorem join_one_way {c : UInt8} {L M : List (List UInt8)} (hl : L ≠ []) (hm : M ≠ []) (hL : ∀ x ∈ L, c ∉ x) (hM : ∀ x ∈ M, c ∉ x) (h : Lib.join L [c] = Lib.join M [c]) : L = M := by
  cases L with
  | nil => exact absurd rfl hl
  | cons a L =>
    cases M with
    | nil => exact absurd rfl hm
    | cons m M =>
      rw [Lib.join_cons, Lib.join_cons] at h
      obtain ⟨h1, h2⟩ := app_one (hL a (by simp)) (hM m (by simp)) (tail_form c L) (tail_form c M) h
      rw [h1, tail_one (fun x hx => hL x (by simp [hx])) (fun x hx => hM x (by simp [hx])) h2]
/-- the words of the text are the parts of it -/
theorem parts_asm {x : Ins} (h : Ok x) : Parts (asmOf x) 32 = wordsOf x := by
  obtain ⟨h1, h2, h3⟩ := cuts_inv (asmOf x) 32 (asmOf x).size (Nat.le_refl _)
  have hj : Lib.join ((Parts (asmOf x) 32).map (·.data.toList)) [32] = (asmOf x).data.toList := by
    unfold Parts
    rw [h3]
    exact List.take_of_length_le (Nat.le_refl _)
  have he := join_one_way (c := 32) (L := (Parts (asmOf x) 32).map (·.data.toList)) (M := (wordsOf x).map (·.data.toList)) (by unfold Parts; simp) (by unfold wordsOf; simp)
    (fun u hu => by
      obtain ⟨y, hy, rfl⟩ := List.mem_map.1 hu
      unfold Parts at hy
      have h4 : y.data.toList.contains 32 = false := by
        rcases List.mem_append.1 hy with hy | hy
        · exact h1 y hy
        · rw [List.mem_singleton] at hy; rw [hy]; exact h2
      simpa using h4)
    (fun u hu => by
      obtain ⟨y, hy, rfl⟩ := List.mem_map.1 hu
      exact words_clean h y hy) (hj.trans (words_join x).symm)
  refine (List.map_inj_right (f := fun b : ByteArray => b.data.toList) (fun a b hab => ?_)).1 he
  exact ByteArray.ext (Array.toList_inj.1 hab)
/-- the first word, read -/
def hd (f : ByteArray → Int) : List ByteArray → Int
  | [] => 0
  | w :: _ => f w
/-- what an instruction's words say, from the operation on: f reads registers, g numbers -/
def cand (f g : ByteArray → Int) (op : Int) (r0 : List ByteArray) : Ins :=
  let r1 := if 1 < cntA op then r0.tail else r0
  let r2 := if 1 < cntB op then r1.tail else r1
  ⟨op, if 1 < cntA op then hd f r0 else 0, if 1 < cntB op then hd f r1 else 0, if 0 < mostN op then hd g r2 else 0⟩
theorem cand_words {x : Ins} (h : Ok x) (f g : ByteArray → Int) (hf : ∀ n : Int, 0 ≤ n → n ≤ 3 → f (rg n) = n) (hg : ∀ n : Int, 0 ≤ n → n ≤ 65535 → g (NumB n) = n) : cand f g x.op (wordsOf x).tail = x := by
  obtain ⟨ha, hb, hn⟩ := ok_bnd h
  obtain ⟨h0, h1, h2, h3⟩ := h
  obtain ⟨op, a, b, n⟩ := x
  simp only at h0 h1 h2 h3 ha hb hn ⊢
  unfold cand wordsOf
  simp only [List.tail_cons]
  by_cases c1 : 1 < cntA op <;> by_cases c2 : 1 < cntB op <;> by_cases c3 : 0 < mostN op <;> simp [c1, c2, c3, hd, hf _ ha.1 ha.2, hf _ hb.1 hb.2, hg _ hn.1 hn.2] <;> omega
/-- a text's number -/
noncomputable def rdv (s : ByteArray) : Int := Classical.choose (readIs_ex s)
theorem rdv_is (s : ByteArray) : ∃ b, ReadIs s (rdv s) b := Classical.choose_spec (readIs_ex s)
theorem rdv_num {n : Int} (h0 : 0 ≤ n) (h1 : n ≤ 65535) : rdv (NumB n) = n := by
  obtain ⟨b, h⟩ := rdv_is (NumB n)
  rcases h with ⟨_, _, _, h⟩ | ⟨_, _, h⟩
  · exact numB_inj h
  · exact absurd rfl (h n (by omega) (by omega))
/-- the answer of ParseAssembly -/
def AsmRead (s : ByteArray) (x : Ins) (b : Bool) : Prop := (b = true ∧ Ok x ∧ asmOf x = s) ∨ (b = false ∧ x = ⟨0, 0, 0, 0⟩ ∧ ∀ y, Ok y → asmOf y ≠ s)
theorem asmRead_ex (s : ByteArray) : ∃ x b, AsmRead s x b := by
  by_cases h : ∃ y, Ok y ∧ asmOf y = s
  · obtain ⟨y, h1, h2⟩ := h
    exact ⟨y, true, .inl ⟨rfl, h1, h2⟩⟩
  · exact ⟨_, false, .inr ⟨rfl, rfl, fun y h1 h2 => h ⟨y, h1, h2⟩⟩⟩
theorem name_inj {a b : Int} (h0 : 0 ≤ a) (h1 : a ≤ 9) (h2 : 0 ≤ b) (h3 : b ≤ 9) (h : opName a.toNat = opName b.toNat) : a = b := by
  have key : ∀ i j : _root_.Fin 10, opName i.val = opName j.val → i = j := by decide
  have := key ⟨a.toNat, by omega⟩ ⟨b.toNat, by omega⟩ h
  have := congrArg Fin.val this
  simp only at this
  omega
theorem words_head (x : Ins) : (wordsOf x)[0]? = some (opName x.op.toNat) := rfl
end Go.Proofs.YtfdbnolifimnhabDoor.L3
