/- What spec.l2Of, impl.framesWith, spec.l1Own, impl.copyOwners, impl.withOwner answer. -/
import Derived.Test.YtajjmgmjkjnlpaaFr1
import Derived.Laws.CopyOwn
import Derived.Laws.AppendOwnNone
import Derived.Deep.Cut
namespace Go.Proofs.Ytajjmgmjkjnlpaa.Fra
open Go.RowKit Go.Proofs.Ytajjmgmjkjnlpaa.Mem Go.Proofs.Ytajjmgmjkjnlpaa.Own Go.Proofs.Ytajjmgmjkjnlpaa.L1
/-- the places below k at which o stands -/
def fr (zs : List Int) (o : Int) : Nat → List Int
  | 0 => []
  | k + 1 => if zs[k]? = some o then fr zs o k ++ [(k : Int)] else fr zs o k
theorem fr_hit {zs : List Int} {o : Int} {k : Nat} (h : zs[k]? = some o) : fr zs o (k + 1) = fr zs o k ++ [(k : Int)] := by rw [fr, if_pos h]
theorem fr_miss {zs : List Int} {o z : Int} {k : Nat} (h : zs[k]? = some z) (hz : z ≠ o) : fr zs o (k + 1) = fr zs o k := by
  rw [fr, if_neg]
  intro e
  rw [h] at e
  exact hz (Option.some.inj e)
theorem fr_len (zs : List Int) (o : Int) (k : Nat) : (fr zs o k).length ≤ k := by
  induction k with
  | zero => simp [fr]
  | succ k ih =>
    rw [fr]
    split
    · simp; omega
    · omega
theorem fr_mem {zs : List Int} {o f : Int} {k : Nat} : f ∈ fr zs o k ↔ ∃ j : Nat, j < k ∧ f = j ∧ zs[j]? = some o := by
  induction k with
  | zero => simp [fr]
  | succ k ih =>
    rw [fr]
    split
    · rename_i h
      rw [List.mem_append, ih]
      constructor
      · rintro (⟨j, h1, h2, h3⟩ | h1)
        · exact ⟨j, by omega, h2, h3⟩
        · simp at h1; exact ⟨k, by omega, h1, h⟩
      · rintro ⟨j, h1, h2, h3⟩
        by_cases hjk : j = k
        · subst hjk; right; simp [h2]
        · left; exact ⟨j, by omega, h2, h3⟩
    · rename_i h
      rw [ih]
      constructor
      · rintro ⟨j, h1, h2, h3⟩; exact ⟨j, by omega, h2, h3⟩
      · rintro ⟨j, h1, h2, h3⟩
        by_cases hjk : j = k
        · subst hjk; exact absurd h3 h
        · exact ⟨j, by omega, h2, h3⟩
/-- the owners where o has the told frames -/
def put (zs : List Int) (o : Int) (fs : List Int) : List Int := fs.foldl (fun l f => l.set f.toNat o) zs
theorem put_len (zs : List Int) (o : Int) (fs : List Int) : (put zs o fs).length = zs.length := by
  unfold put
  induction fs generalizing zs with
  | nil => rfl
  | cons f fs ih => rw [List.foldl_cons, ih, List.length_set]
theorem put_snoc (zs : List Int) (o : Int) (fs : List Int) (q : Nat) (f : Int) (h : fs[q]? = some f) : put zs o (fs.take (q + 1)) = (put zs o (fs.take q)).set f.toNat o := by
  unfold put
  rw [List.take_add_one, h]
  simp
set_option maxHeartbeats 1000000 in
theorem l2Of_any (A : Option Addr) (n c B : Nat) (zs : List Int) (o : Int) (w : World) (hr : Reads w B 1 A n (I zs)) (hB : B ≤ w.heap.size) (hn : n ≤ 1048576) :
    Calls Try.prog 69 #[.slice A n c, .int .i64 o] w fun e w' => ∃ v, e = .returned v ∧ w'.ownsRow w.heap.size 3 1 v (fr zs o n).length (I (fr zs o n)) ∧ Below w.heap.size w w' := by
  obtain ⟨i0, hi, hz0, hz1, hz2⟩ := info_parts intInfo
  go_enter Try.func69, Try.ntmps69
  go_wp2_with fail
  have hown0 : (w.alloc (.cells #[] 3)).ownsRow w.heap.size 3 1 (.slice (some ⟨w.heap.size, 0, none⟩) 0 0) 0 [] :=
    World.ownsRow_made w #[] 0 (Nat.le_refl _) (Nat.zero_le _) rfl
  have hbel0 : Below w.heap.size w (w.alloc (.cells #[] 3)) := (Below.refl _ _).alloc (Nat.le_refl _) _
  go_loopw [5, 6] (fun v i wr => ∃ (k : Nat) (d : List Int), i = .int .i64 k ∧ k ≤ n ∧ d.length ≤ k ∧ Hid (d = fr zs o k) ∧ wr.ownsRow w.heap.size 3 1 v d.length (I d) ∧ Below w.heap.size w wr) (fun _ i _ => n - (intOf i).toNat)
  case atStart => exact ⟨0, [], rfl, Nat.zero_le _, Nat.le_refl _, Lib.hid rfl, hown0, hbel0⟩
  case round =>
    clear hown0 hbel0
    obtain ⟨k, d, rfl, hk, hd, HD, hown, hbel⟩ := hrel
    by_cases hlt : k < n
    · have hrr : Reads wr B 1 A n (I zs) := hr.keep fun p hp => by rw [hbel.cell (by omega)]
      obtain ⟨b1, o1, z, rfl, _, hu, hc⟩ := hrr.int_at hlt
      by_cases he : z = o
      · subst he
        have HD2 : Hid (d ++ [(k : Int)] = fr zs z (k + 1)) := Lib.hid (by rw [fr_hit hu, HD.out])
        have hsz := hbel.size
        clear hrr hu
        go_wp2_with (at_builtin; refine wpList_append_own _ rfl _ _ 24 rfl w.heap.size 3 i0 (.int .i64 0) 1 8 Try.underlying24 hi hz0 hz1 hz2 rfl (by decide) _ _ _ rfl (hown.alloc _) ⟨wr.heap.size, 0, none⟩ 1 1 [.int .i64 k] rfl rfl (cell_one_new _ _ _) (fun x hx => by simp at hx; subst hx; rfl) (by unfold maxLen; omega) (by omega) (by simp; omega) ?_; intro v' w1 hown1 hgrow1 _)
        have hbel1 : Below w.heap.size w w1 := (hbel.alloc hsz _).grown hgrow1 (by simp; omega) (fun q hq => (hown.lt q hq).1)
        go_roundw
        case rel => exact ⟨k + 1, d ++ [(k : Int)], by go_num, by omega, by simp; omega, HD2, by simpa [I] using hown1, hbel1⟩
        case measure => simp [intOf]; omega
      · have HD2 : Hid (d = fr zs o (k + 1)) := Lib.hid (by rw [fr_miss hu he, HD.out])
        have t1 : (z == o) = false := by simpa using he
        clear hrr hu
        go_wp2
        go_roundw
        case rel => exact ⟨k + 1, d, by go_num, by omega, by omega, HD2, hown, hbel⟩
        case measure => simp [intOf]; omega
    · have hkn : k = n := by omega
      have HD2 : Hid (fr zs o n = d) := Lib.hid (by rw [HD.out, hkn])
      clear hkn
      go_wp2
      go_ret
      exact ⟨_, rfl, by rw [HD2.out]; exact hown, hbel⟩
set_option maxHeartbeats 1000000 in
theorem framesWith_any (A : Option Addr) (n c B : Nat) (zs : List Int) (o : Int) (w : World) (hr : Reads w B 1 A n (I zs)) (hB : B ≤ w.heap.size) (hn : n ≤ 1048576) :
    Calls Try.prog 68 #[.slice A n c, .int .i64 o] w fun e w' => ∃ v, e = .returned v ∧ w'.ownsRow w.heap.size 3 1 v (fr zs o n).length (I (fr zs o n)) ∧ Below w.heap.size w w' := by
  obtain ⟨i0, hi, hz0, hz1, hz2⟩ := info_parts intInfo
  go_enter Try.func68, Try.ntmps68
  go_wp2_with fail
  have hown0 : w.ownsRow w.heap.size 3 1 (.slice none 0 0) 0 [] := World.ownsRow_nil _ _ _ _
  go_loopw [5, 10] (fun v i wr => ∃ (k : Nat) (d : List Int), i = .int .i64 k ∧ k ≤ n ∧ d.length ≤ k ∧ Hid (d = fr zs o k) ∧ wr.ownsRow w.heap.size 3 1 v d.length (I d) ∧ Below w.heap.size w wr) (fun _ i _ => n - (intOf i).toNat)
  case atStart => exact ⟨0, [], rfl, Nat.zero_le _, Nat.le_refl _, Lib.hid rfl, hown0, Below.refl _ _⟩
  case round =>
    clear hown0
    obtain ⟨k, d, rfl, hk, hd, HD, hown, hbel⟩ := hrel
    by_cases hlt : k < n
    · have hrr : Reads wr B 1 A n (I zs) := hr.keep fun p hp => by rw [hbel.cell (by omega)]
      obtain ⟨b1, o1, z, rfl, _, hu, hc⟩ := hrr.int_at hlt
      by_cases he : z = o
      · subst he
        have HD2 : Hid (d ++ [(k : Int)] = fr zs z (k + 1)) := Lib.hid (by rw [fr_hit hu, HD.out])
        have hsz := hbel.size
        clear hrr hu
        go_wp2_with (at_builtin; refine wpList_append_own _ rfl _ _ 24 rfl w.heap.size 3 i0 (.int .i64 0) 1 8 Try.underlying24 hi hz0 hz1 hz2 rfl (by decide) _ _ _ rfl (hown.alloc _) ⟨wr.heap.size, 0, none⟩ 1 1 [.int .i64 k] rfl rfl (cell_one_new _ _ _) (fun x hx => by simp at hx; subst hx; rfl) (by unfold maxLen; omega) (by omega) (by simp; omega) ?_; intro v' w1 hown1 hgrow1 _)
        have hbel1 : Below w.heap.size w w1 := (hbel.alloc hsz _).grown hgrow1 (by simp; omega) (fun q hq => (hown.lt q hq).1)
        go_roundw
        case rel => exact ⟨k + 1, d ++ [(k : Int)], by go_num, by omega, by simp; omega, HD2, by simpa [I] using hown1, hbel1⟩
        case measure => simp [intOf]; omega
      · have HD2 : Hid (d = fr zs o (k + 1)) := Lib.hid (by rw [fr_miss hu he, HD.out])
        have t1 : (z == o) = false := by simpa using he
        clear hrr hu
        go_wp2
        go_roundw
        case rel => exact ⟨k + 1, d, by go_num, by omega, by omega, HD2, hown, hbel⟩
        case measure => simp [intOf]; omega
    · have hkn : k = n := by omega
      have HD2 : Hid (fr zs o n = d) := Lib.hid (by rw [HD.out, hkn])
      clear hkn
      go_wp2
      go_ret
      exact ⟨_, rfl, by rw [HD2.out]; exact hown, hbel⟩
set_option maxHeartbeats 1000000 in
theorem l1Own_any (A : Option Addr) (n c B : Nat) (xs : List Int) (w : World) (hr : Reads w B 1 A n (I xs)) (hc0 : A = none → n = 0 ∧ c = 0) (hn : n ≤ 1048576) :
    Calls Try.prog 64 #[.slice A n c] w fun e w' => ∃ v, e = .returned v ∧ w'.ownsRow w.heap.size 3 1 v n (I xs) ∧ Below w.heap.size w w' := by
  obtain ⟨i0, hi, hz0, hz1, hz2⟩ := info_parts intInfo
  have hown0 : (w.alloc (.cells #[] 3)).ownsRow w.heap.size 3 1 (.slice (some ⟨w.heap.size, 0, none⟩) 0 0) 0 [] :=
    World.ownsRow_made w #[] 0 (Nat.le_refl _) (Nat.zero_le _) rfl
  have hbel0 : Below w.heap.size w (w.alloc (.cells #[] 3)) := (Below.refl _ _).alloc (Nat.le_refl _) _
  have hl : xs.length = n := by have := hr.len; simpa [I] using this
  cases A with
  | none =>
    obtain ⟨rfl, rfl⟩ := hc0 rfl
    obtain rfl : xs = [] := List.eq_nil_of_length_eq_zero hl
    clear hr
    go_enter Try.func64, Try.ntmps64
    go_wp2_with (at_builtin; refine wpList_append_own_none rfl _ _ 24 rfl w.heap.size 3 i0 1 Try.underlying24 hi _ _ _ rfl hown0 rfl ?_)
    go_ret
    exact ⟨_, rfl, hown0, hbel0⟩
  | some a =>
    have hcells : ∀ j u, (I xs)[j]? = some u → (w.alloc (.cells #[] 3)).cell? (a.add j) = some u := by
      intro j u hu
      have hj : j < n := by have := (List.getElem?_eq_some_iff.1 hu).1; rw [I_len] at this; omega
      obtain ⟨b, off, e, hb, hc⟩ := hr.2 (by omega)
      obtain rfl := Option.some.inj e
      rw [Go.WideShapes.add_plain, World.cell?_alloc_lt _ _ _ (World.block_lt_of_cell? w _ (hc j u hu))]
      exact hc j u hu
    have h1 := I_one xs
    have hl2 : (I xs).length = n * 1 := by rw [I_len]; omega
    obtain ⟨L, hL⟩ : ∃ L, L = I xs := ⟨_, rfl⟩
    rw [← hL] at hcells h1 hl2
    rw [← hL]
    have HL := Lib.hid hL
    clear hL hr hl hc0
    go_enter Try.func64, Try.ntmps64
    go_wp2_with (at_builtin; refine wpList_append_own _ rfl _ _ 24 rfl w.heap.size 3 i0 (.int .i64 0) 1 8 Try.underlying24 hi hz0 hz1 hz2 rfl (by decide) _ _ _ rfl hown0 a n c L rfl hl2 hcells h1 (by unfold maxLen; omega) (by omega) (by simp) ?_; intro v' w1 hown1 hgrow1 _)
    have hbel1 : Below w.heap.size w w1 := hbel0.grown hgrow1 (by simp) (fun q hq => (hown0.lt q hq).1)
    go_ret
    exact ⟨_, rfl, by simpa using hown1, hbel1⟩
theorem splice_zeros {α : Type} (L M : List α) (h : L.length = M.length) : splice L 0 M = M := by
  unfold splice
  rw [List.drop_eq_nil_of_le (by omega)]
  simp
set_option maxHeartbeats 1000000 in
theorem copyOwners_any (A : Option Addr) (n c B : Nat) (zs : List Int) (w : World) (hr : Reads w B 1 A n (I zs)) (hB : B ≤ w.heap.size) (hn : n ≤ 1048576) :
    Calls Try.prog 65 #[.slice A n c] w fun e w' => ∃ g, e = .returned (.slice (some ⟨g, 0, none⟩) n n) ∧ w'.ownsRow w.heap.size 3 1 (.slice (some ⟨g, 0, none⟩) n n) n (I zs) ∧ Below w.heap.size w w' := by
  obtain ⟨i0, hi, hz0, hz1, hz2⟩ := info_parts intInfo
  have hl : (I zs).length = n := hr.len
  go_enter Try.func65, Try.ntmps65
  go_upto_region 2 with (at_make; refine wpList_make_full _ rfl _ _ 24 rfl w.heap.size 3 i0 (.int .i64 0) 1 Try.underlying24 hi hz0 hz1 .i64 .i64 _ _ n rfl rfl rfl rfl (by rw [hz2]; omega) (by unfold maxLen; omega) (Nat.le_refl _) ?_; intro w1 hown1 hg1)
  have hbm : Below w.heap.size w w1 := (Below.refl _ _).grown hg1 (Nat.le_refl _) (by simp)
  have hr1 : Reads w1 B 1 A n (I zs) := hr.keep fun p hp => hbm.cell (by omega)
  obtain ⟨Z, hZ⟩ : ∃ Z, Z = (madeCells (Value.int .i64 0).cells (n * 1)).toList := ⟨_, rfl⟩
  have hZl : Z.length = n := by rw [hZ]; simp [madeCells]
  rw [← hZ] at hown1
  have hh := (heap_of_full hown1).1
  have h1 := I_one zs
  obtain ⟨L, hL⟩ : ∃ L, L = I zs := ⟨_, rfl⟩
  rw [← hL] at hr1 h1 hl
  have HL := Lib.hid hL
  have hpos : Hid (0 < L.length → (some (⟨w.heap.size, 0, none⟩ : Addr)) = some ⟨w.heap.size, 0, none⟩ ∧ ∃ ad, A = some ad ∧ ∀ j v, L[j]? = some v → w1.cell? (ad.add j) = some v) := by
    refine Lib.hid fun hp => ?_
    obtain ⟨b, off, e, hb, hc⟩ := hr1.2 (by omega)
    exact ⟨rfl, _, e, fun j v hv => by rw [Go.WideShapes.add_plain]; exact hc j v hv⟩
  clear hZ hr hL
  go_wp2_with (with_reducible refine wpList_copy_splice rfl (.tmp 7) (.tmp 8) _ _ rfl 3 Try.underlying24 (by kernel_rfl) _ A n n n c rfl rfl w.heap.size 0 Z 3 hh L (by simp [hl]) hpos.out (by omega) h1 w.heap.size w hbm (Nat.le_refl _) ?_; intro w2 HG2 hB2)
  go_ret
  have hg2 := HG2.out
  rw [splice_zeros _ _ (by omega)] at hg2
  exact ⟨_, rfl, by rw [← HL.out]; exact full_of_heap hg2 hl (Nat.le_refl _) (by unfold maxLen; omega), hB2⟩
set_option maxHeartbeats 1000000 in
theorem withOwner_any (A F : Option Addr) (n c m cf B : Nat) (zs fs : List Int) (o : Int) (w : World) (hr : Reads w B 1 A n (I zs)) (hf : Reads w B 1 F m (I fs)) (hB : B ≤ w.heap.size) (hn : n ≤ 1048576) (hm : m ≤ 1048576) (hfs : ∀ f ∈ fs, 0 ≤ f ∧ f < n) :
    Calls Try.prog 59 #[.slice A n c, .int .i64 o, .slice F m cf] w fun e w' => ∃ g, e = .returned (.slice (some ⟨g, 0, none⟩) n n) ∧ w'.ownsRow w.heap.size 3 1 (.slice (some ⟨g, 0, none⟩) n n) n (I (put zs o fs)) ∧ Below w.heap.size w w' := by
  have HL : Hid (zs.length = n) := Lib.hid (by have := hr.len; simpa [I] using this)
  have HM : Hid (fs.length = m) := Lib.hid (by have := hf.len; simpa [I] using this)
  have HC := Lib.hid (copyOwners_any A n c B zs w hr hB hn)
  clear hr
  go_enter Try.func59, Try.ntmps59
  go_wp2_with fail
  refine HC.out.mono ?_
  rintro e w1 ⟨g, rfl, hown, hb⟩
  clear HC
  go_wp2_with fail
  go_loopw [14] (fun i wr => ∃ (q : Nat) (L : List Value), i = .int .i64 q ∧ q ≤ m ∧ Hid (L = I (put zs o (fs.take q))) ∧ wr.ownsRow w.heap.size 3 1 (.slice (some ⟨g, 0, none⟩) n n) n L ∧ Below w.heap.size w wr) (fun i _ => m - (intOf i).toNat)
  case atStart => exact ⟨0, _, rfl, Nat.zero_le _, Lib.hid (by simp [put]), hown, hb⟩
  case round =>
    clear hown hb
    obtain ⟨q, L, rfl, hq, HQ, hown, hbel⟩ := hrel
    by_cases hlt : q < m
    · have hff : Reads wr B 1 F m (I fs) := hf.keep fun p hp => by rw [hbel.cell (by omega)]
      obtain ⟨b1, o1, f, rfl, _, hu, hc⟩ := hff.int_at hlt
      obtain ⟨j, rfl⟩ : ∃ j : Nat, f = j := ⟨f.toNat, by have := (hfs f (List.mem_of_getElem? hu)).1; omega⟩
      have hj : j < n := by have := (hfs _ (List.mem_of_getElem? hu)).2; omega
      have HQ2 : Hid (L.set j (.int .i64 o) = I (put zs o (fs.take (q + 1)))) := Lib.hid (by rw [put_snoc zs o fs q _ hu, HQ.out, I_set]; rfl)
      have hst := Lib.hid (hown.stored j (.int .i64 o)).1
      have hfz := hown.frozenAt j
      have hLl : L.length = n := by have := hown.1; omega
      obtain ⟨z, hz⟩ : ∃ z, wr.cell? ⟨g, j, none⟩ = some z := ⟨_, (hown.cellAt j (by omega)).trans (List.getElem?_eq_getElem (by omega))⟩
      have hgb := (hown.lt g rfl).1
      have hbel2 : Below w.heap.size w (wr.setCell ⟨g, j, none⟩ (.int .i64 o)) := hbel.setCell (p := ⟨g, j, none⟩) hgb _
      clear hff hu hown HQ
      go_wp2
      go_roundw
      case rel => exact ⟨q + 1, _, by go_num, by omega, HQ2, hst.out, hbel2⟩
      case measure => simp [intOf]; omega
    · have hqm : q = m := by omega
      have HQ2 : Hid (I (put zs o fs) = L) := Lib.hid (by rw [HQ.out, List.take_of_length_le (by rw [HM.out]; omega)])
      clear hqm HQ
      go_wp2
      go_ret
      exact ⟨_, rfl, by rw [HQ2.out]; exact hown, hbel⟩
end Go.Proofs.Ytajjmgmjkjnlpaa.Fra
