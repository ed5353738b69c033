/- What CountCauses answers, of spec and impl. -/
import Derived.Test.YtaamjnpknmimmaaDoorTrpS
import Derived.Test.YtaamjnpknmimmaaDoorTrpA
import Derived.Test.YtaamjnpknmimmaaDoorInf
namespace Go.Proofs.YtaamjnpknmimmaaDoor.L5
open Go Go.RowKit Go.Proofs.YtaamjnpknmimmaaDoor.Mem Go.Proofs.YtaamjnpknmimmaaDoor.Own Go.Proofs.YtaamjnpknmimmaaDoor.L1
theorem countOf_len (ts : List Trp) : (countOf ts).length = 5 := by simp [countOf]
theorem countOf_at (ts : List Trp) {j : Nat} (h : j < 5) : (countOf ts)[j]? = some ((ts.filter fun t => t.cause = (j : Int) + 1).length : Int) := by
  simp [countOf, h]
theorem countOf_snoc (ts : List Trp) (t : Trp) {j : Nat} (hj : t.cause = (j : Int) + 1) (h : j < 5) :
    countOf (ts ++ [t]) = (countOf ts).set j (((ts.filter fun t => t.cause = (j : Int) + 1).length : Int) + 1) := by
  apply List.ext_getElem?
  intro i
  by_cases hi : i < 5
  · rw [countOf_at _ hi]
    by_cases e : j = i
    · subst e
      rw [List.getElem?_set_self (by rw [countOf_len]; exact h), List.filter_append]
      simp [hj]
    · rw [List.getElem?_set_ne e, countOf_at _ hi, List.filter_append]
      have : ¬ t.cause = (i : Int) + 1 := by rw [hj]; omega
      simp [this]
  · rw [List.getElem?_eq_none (by rw [countOf_len]; omega), List.getElem?_eq_none (by rw [List.length_set, countOf_len]; omega)]
def cntAns (ts : List Trp) : List Int × Bool := if OkTs ts then (countOf ts, true) else ([], false)
theorem countOf_nil : (madeCells (Value.int .i64 0).cells (5 * 1)).toList = I (countOf []) := by first | rfl | (simp [madeCells, I, countOf, List.range_succ]; done) | (simp [madeCells, I, countOf]; intro a _; simp [Value.cells, Nat.mod_one])
theorem cnt_le (ts : List Trp) (k : Nat) (p : Trp → Bool) (h : k ≤ 50) : (((ts.take k).filter p).length : Int) ≤ 50 := by
  have h1 := List.length_filter_le p (ts.take k)
  have h2 : (ts.take k).length ≤ k := List.length_take_le _ _
  omega
/-- what CountCauses leaves: its answer is its own -/
def CntPost (w : World) (l : List Int) (b : Bool) (e : Ending) (w' : World) : Prop :=
  ∃ A' c', e = .returned (.tuple #[.slice A' l.length c', .bool b]) ∧ w'.ownsRow w.heap.size 3 1 (.slice A' l.length c') l.length (I l) ∧ Below w.heap.size w w'
set_option maxRecDepth 100000 in
set_option maxHeartbeats 4000000 in
theorem specCnt_small (A : Option Addr) (n c : Nat) (ts : List Trp) (w : World) (hr : Reads w w.heap.size 5 A n (FL ts)) (hn : n ≤ 50) (l : List Int) (b : Bool) (h : cntAns ts = (l, b)) :
    Calls Tryd.prog 20 #[.slice A n c] w (CntPost w l b) := by
  obtain ⟨i0, hi, hz0, hz1, hz2⟩ := info_parts intInfo
  have HL : Hid (ts.length = n) := Lib.hid (reads_len hr)
  have HT : Hid ((∀ t ∈ ts, Ok t) → countOf ts = l ∧ b = true) := Lib.hid (fun hx => by
    unfold cntAns at h
    rw [if_pos ⟨by rw [HL.out]; exact hn, hx⟩] at h
    exact ⟨congrArg Prod.fst h, (congrArg Prod.snd h).symm⟩)
  have HF : Hid (¬ (∀ t ∈ ts, Ok t) → l = [] ∧ b = false) := Lib.hid (fun hx => by
    unfold cntAns at h
    rw [if_neg (fun h => hx h.2)] at h
    exact ⟨(congrArg Prod.fst h).symm, (congrArg Prod.snd h).symm⟩)
  clear h
  go_enter Tryd.func20, Tryd.ntmps20
  go_wp2_with (at_make; refine wpList_make_full _ rfl _ _ 42 rfl w.heap.size 3 i0 (.int .i64 0) 1 Tryd.underlying42 hi hz0 hz1 .i64 .i64 _ _ 5 rfl rfl rfl rfl (by rw [hz2]; omega) (by unfold maxLen; omega) (Nat.le_refl _) ?_; intro w1 hown1 hg1)
  have hb1 : Below w.heap.size w w1 := (Below.refl _ _).grown hg1 (Nat.le_refl _) (by simp)
  rw [countOf_nil] at hown1
  go_loopw [5] (fun i wr => ∃ (k : Nat), i = .int .i64 k ∧ k ≤ n ∧ Hid (∀ t ∈ ts.take k, Ok t) ∧ wr.ownsRow w.heap.size 3 1 (.slice (some ⟨w.heap.size, 0, none⟩) 5 5) 5 (I (countOf (ts.take k))) ∧ Below w.heap.size w wr) (fun i _ => n - (intOf i).toNat)
  case atStart => exact ⟨0, rfl, Nat.zero_le _, Lib.hid (by simp), by rw [List.take_zero]; exact hown1, hb1⟩
  case round =>
    clear hown1 hg1 hb1
    obtain ⟨k, rfl, hk, HK, hown, hbel⟩ := hrel
    by_cases hlt : k < n
    · obtain ⟨b1, o1, x, rfl, hbB, hu, c0, c1, c2, c3, c4⟩ := trp_at (hr.below hbel) hlt
      have HU := Lib.hid hu
      have HO := Lib.hid hown
      have HB := Lib.hid hbel
      have hlb : w.heap.size ≤ wr.heap.size := hbel.size
      clear hu hown hbel
      by_cases hx : Ok x
      · have HX := Lib.hid (decide_eq_true hx)
        have hb5 := (ok_bounds hx).1
        obtain ⟨j, hj⟩ : ∃ j : Nat, x.cause = (j : Int) + 1 := ⟨(x.cause - 1).toNat, by omega⟩
        have hj5 : j < 5 := by omega
        have HS := Lib.hid (countOf_snoc (ts.take k) x hj hj5)
        have hzle := cnt_le ts k (fun t => t.cause = (j : Int) + 1) (by omega)
        have HZ := Lib.hid (countOf_at (ts.take k) hj5)
        obtain ⟨z, hz⟩ : ∃ z : Nat, ((ts.take k).filter fun t => t.cause = (j : Int) + 1).length = z := ⟨_, rfl⟩
        rw [hz] at HS HZ hzle
        have HTK : Hid (ts.take (k + 1) = ts.take k ++ [x]) := Lib.hid (by rw [List.take_add_one, HU.out]; rfl)
        have HK2 : Hid (∀ t ∈ ts.take (k + 1), Ok t) := Lib.hid (fun t ht => by
          rw [HTK.out] at ht
          rcases List.mem_append.1 ht with h | h
          · exact HK.out t h
          · rw [List.mem_singleton.1 h]; exact hx)
        obtain ⟨cz, wd, s, r, i⟩ := x
        simp only at hj c0 c1 c2 c3 c4
        subst hj
        have j5 : (j : Int) < 5 := by omega
        clear hx hz hb5
        go_wp2_with fail
        refine (l5Good_c _ wd s r i _ true HX.out).mono ?_
        rintro e w2 ⟨rfl, hb⟩
        have HO2 := own_below HO.out hb
        have HB2 := Lib.hid (below_then HB.out hb)
        have f0 := HO2.frozenAt j
        have d0 : w2.cell? ⟨w.heap.size, j, none⟩ = some (.int .i64 (z : Int)) := (HO2.cellAt j (by omega)).trans (I_at HZ.out)
        have e0 : w2.cell? ⟨b1, o1 + k * 5, none⟩ = some (.int .i64 ((j : Int) + 1)) := (hb.cell (p := ⟨b1, o1 + k * 5, none⟩) (by show b1 < _; omega)).trans c0
        have s0 := (HO2.stored j (.int .i64 ((z : Int) + 1))).1
        rw [Own.I_set, ← HS.out, ← HTK.out] at s0
        have HN := Lib.hid s0
        have HW := Lib.hid (below_set HB2.out (Nat.le_refl w.heap.size) (j := j) (.int .i64 ((z : Int) + 1)))
        clear hb HO2 HB2 s0 c0 c1 c2 c3 c4 HO HB HS
        go_wp2_with fail
        go_roundw
        case rel => exact ⟨k + 1, by go_num, by omega, HK2, HN.out, HW.out⟩
        case measure => simp [intOf]; omega
      · obtain ⟨rfl, rfl⟩ := HF.out (fun h => hx (h x (List.mem_of_getElem? HU.out)))
        have HX := Lib.hid (decide_eq_false hx)
        clear hx HF HT
        obtain ⟨cz, wd, s, r, i⟩ := x
        simp only at c0 c1 c2 c3 c4
        go_wp2_with fail
        refine (l5Good_c _ wd s r i _ false HX.out).mono ?_
        rintro e w2 ⟨rfl, hb⟩
        have HW := Lib.hid (below_then HB.out hb)
        clear hb
        go_wp2_with fail
        go_ret2
        exact ⟨_, 0, rfl, World.ownsRow_made w2 #[] 0 HW.out.size (Nat.zero_le _) rfl, below_more HW.out _⟩
    · have hkn : k = n := by omega
      have hall := HK.out
      rw [List.take_of_length_le (by rw [HL.out]; omega)] at hall hown
      obtain ⟨rfl, rfl⟩ := HT.out hall
      clear hall
      have HO := Lib.hid hown
      clear hown
      subst hkn
      go_wp2_with fail
      go_ret2
      exact ⟨some ⟨w.heap.size, 0, none⟩, 5, by rw [countOf_len]; rfl, by rw [countOf_len]; exact HO.out, hbel⟩
set_option maxHeartbeats 2000000 in
theorem specCnt_any (A : Option Addr) (n c : Nat) (ts : List Trp) (w : World) (hr : Reads w w.heap.size 5 A n (FL ts)) (hn : n ≤ 1048576) (l : List Int) (b : Bool) (h : cntAns ts = (l, b)) :
    Calls Tryd.prog 20 #[.slice A n c] w (CntPost w l b) := by
  by_cases h5 : n ≤ 50
  · exact specCnt_small A n c ts w hr h5 l b h
  have hno : ¬ OkTs ts := fun h' => by have h1 := h'.1; rw [reads_len hr] at h1; exact h5 h1
  unfold cntAns at h
  rw [if_neg hno] at h
  obtain ⟨rfl, rfl⟩ : [] = l ∧ false = b := ⟨congrArg Prod.fst h, congrArg Prod.snd h⟩
  have h6 : 50 < n := by omega
  clear h hno h5
  obtain ⟨i0, hi, hz0, hz1, hz2⟩ := info_parts intInfo
  go_enter Tryd.func20, Tryd.ntmps20
  go_wp2_with (at_make; refine wpList_make_full _ rfl _ _ 42 rfl w.heap.size 3 i0 (.int .i64 0) 1 Tryd.underlying42 hi hz0 hz1 .i64 .i64 _ _ 5 rfl rfl rfl rfl (by rw [hz2]; omega) (by unfold maxLen; omega) (Nat.le_refl _) ?_; intro w1 hown1 hg1)
  have hb1 : Below w.heap.size w w1 := (Below.refl _ _).grown hg1 (Nat.le_refl _) (by simp)
  go_ret2
  exact ⟨_, 0, rfl, World.ownsRow_made w1 #[] 0 hb1.size (Nat.zero_le _) rfl, below_more hb1 _⟩
set_option maxRecDepth 100000 in
set_option maxHeartbeats 4000000 in
theorem implCnt_small (A : Option Addr) (n c : Nat) (ts : List Trp) (w : World) (hr : Reads w w.heap.size 5 A n (FL ts)) (hn : n ≤ 50) (l : List Int) (b : Bool) (h : cntAns ts = (l, b)) :
    Calls Tryd.prog 19 #[.slice A n c] w (CntPost w l b) := by
  obtain ⟨i0, hi, hz0, hz1, hz2⟩ := info_parts intInfo
  have HL : Hid (ts.length = n) := Lib.hid (reads_len hr)
  have HT : Hid ((∀ t ∈ ts, Ok t) → countOf ts = l ∧ b = true) := Lib.hid (fun hx => by
    unfold cntAns at h
    rw [if_pos ⟨by rw [HL.out]; exact hn, hx⟩] at h
    exact ⟨congrArg Prod.fst h, (congrArg Prod.snd h).symm⟩)
  have HF : Hid (¬ (∀ t ∈ ts, Ok t) → l = [] ∧ b = false) := Lib.hid (fun hx => by
    unfold cntAns at h
    rw [if_neg (fun h => hx h.2)] at h
    exact ⟨(congrArg Prod.fst h).symm, (congrArg Prod.snd h).symm⟩)
  clear h
  go_enter Tryd.func19, Tryd.ntmps19
  go_wp2_with (at_make; refine wpList_make_full _ rfl _ _ 42 rfl w.heap.size 3 i0 (.int .i64 0) 1 Tryd.underlying42 hi hz0 hz1 .i64 .i64 _ _ 5 rfl rfl rfl rfl (by rw [hz2]; omega) (by unfold maxLen; omega) (Nat.le_refl _) ?_; intro w1 hown1 hg1)
  have hb1 : Below w.heap.size w w1 := (Below.refl _ _).grown hg1 (Nat.le_refl _) (by simp)
  rw [countOf_nil] at hown1
  go_loopw [13] (fun i wr => ∃ (k : Nat), i = .int .i64 k ∧ k ≤ n ∧ Hid (∀ t ∈ ts.take k, Ok t) ∧ wr.ownsRow w.heap.size 3 1 (.slice (some ⟨w.heap.size, 0, none⟩) 5 5) 5 (I (countOf (ts.take k))) ∧ Below w.heap.size w wr) (fun i _ => n - (intOf i).toNat)
  case atStart => exact ⟨0, rfl, Nat.zero_le _, Lib.hid (by simp), by rw [List.take_zero]; exact hown1, hb1⟩
  case round =>
    clear hown1 hg1 hb1
    obtain ⟨k, rfl, hk, HK, hown, hbel⟩ := hrel
    by_cases hlt : k < n
    · obtain ⟨b1, o1, x, rfl, hbB, hu, c0, c1, c2, c3, c4⟩ := trp_at (hr.below hbel) hlt
      have HU := Lib.hid hu
      have HO := Lib.hid hown
      have HB := Lib.hid hbel
      have hlb : w.heap.size ≤ wr.heap.size := hbel.size
      clear hu hown hbel
      by_cases hx : Ok x
      · have HX := Lib.hid (decide_eq_true hx)
        have hb5 := (ok_bounds hx).1
        obtain ⟨j, hj⟩ : ∃ j : Nat, x.cause = (j : Int) + 1 := ⟨(x.cause - 1).toNat, by omega⟩
        have hj5 : j < 5 := by omega
        have HS := Lib.hid (countOf_snoc (ts.take k) x hj hj5)
        have hzle := cnt_le ts k (fun t => t.cause = (j : Int) + 1) (by omega)
        have HZ := Lib.hid (countOf_at (ts.take k) hj5)
        obtain ⟨z, hz⟩ : ∃ z : Nat, ((ts.take k).filter fun t => t.cause = (j : Int) + 1).length = z := ⟨_, rfl⟩
        rw [hz] at HS HZ hzle
        have HTK : Hid (ts.take (k + 1) = ts.take k ++ [x]) := Lib.hid (by rw [List.take_add_one, HU.out]; rfl)
        have HK2 : Hid (∀ t ∈ ts.take (k + 1), Ok t) := Lib.hid (fun t ht => by
          rw [HTK.out] at ht
          rcases List.mem_append.1 ht with h | h
          · exact HK.out t h
          · rw [List.mem_singleton.1 h]; exact hx)
        obtain ⟨cz, wd, s, r, i⟩ := x
        simp only at hj c0 c1 c2 c3 c4
        subst hj
        have j5 : (j : Int) < 5 := by omega
        clear hx hz hb5
        go_wp2_with fail
        refine (implIs_c _ wd s r i _ true HX.out).mono ?_
        rintro e w2 ⟨rfl, hb⟩
        have hP := Blk.kept hb (Blk.new wr #[.int .i64 ((j : Int) + 1), .int .i64 wd, .bool s, .int .i64 r, .int .i64 i] 26)
        have p0 := hP.cell 0 _ rfl
        have hb' := below_then (below_more (Below.refl wr.heap.size wr) (.cells #[.int .i64 ((j : Int) + 1), .int .i64 wd, .bool s, .int .i64 r, .int .i64 i] 26)) hb
        have HO2 := own_below HO.out hb'
        have HB2 := Lib.hid (below_then HB.out hb')
        have f0 := HO2.frozenAt j
        have d0 : w2.cell? ⟨w.heap.size, j, none⟩ = some (.int .i64 (z : Int)) := (HO2.cellAt j (by omega)).trans (I_at HZ.out)
        have s0 := (HO2.stored j (.int .i64 ((z : Int) + 1))).1
        rw [Own.I_set, ← HS.out, ← HTK.out] at s0
        have HN := Lib.hid s0
        have HW := Lib.hid (below_set HB2.out (Nat.le_refl w.heap.size) (j := j) (.int .i64 ((z : Int) + 1)))
        clear hb hb' hP HO2 HB2 s0 c0 c1 c2 c3 c4 HO HB HS
        go_wp2_with fail
        go_roundw
        case rel => exact ⟨k + 1, by go_num, by omega, HK2, HN.out, HW.out⟩
        case measure => simp [intOf]; omega
      · obtain ⟨rfl, rfl⟩ := HF.out (fun h => hx (h x (List.mem_of_getElem? HU.out)))
        have HX := Lib.hid (decide_eq_false hx)
        clear hx HF HT
        obtain ⟨cz, wd, s, r, i⟩ := x
        simp only at c0 c1 c2 c3 c4
        go_wp2_with fail
        refine (implIs_c _ wd s r i _ false HX.out).mono ?_
        rintro e w2 ⟨rfl, hb⟩
        have HW := Lib.hid (below_then (below_more HB.out _) hb)
        clear hb
        go_wp2_with fail
        go_ret2
        exact ⟨none, 0, rfl, World.ownsRow_nil _ _ _ _, HW.out⟩
    · have hkn : k = n := by omega
      have hall := HK.out
      rw [List.take_of_length_le (by rw [HL.out]; omega)] at hall hown
      obtain ⟨rfl, rfl⟩ := HT.out hall
      clear hall
      have HO := Lib.hid hown
      clear hown
      subst hkn
      go_wp2_with fail
      go_ret2
      exact ⟨some ⟨w.heap.size, 0, none⟩, 5, by rw [countOf_len]; rfl, by rw [countOf_len]; exact HO.out, hbel⟩
set_option maxHeartbeats 2000000 in
theorem implCnt_any (A : Option Addr) (n c : Nat) (ts : List Trp) (w : World) (hr : Reads w w.heap.size 5 A n (FL ts)) (hn : n ≤ 1048576) (l : List Int) (b : Bool) (h : cntAns ts = (l, b)) :
    Calls Tryd.prog 19 #[.slice A n c] w (CntPost w l b) := by
  by_cases h5 : n ≤ 50
  · exact implCnt_small A n c ts w hr h5 l b h
  have hno : ¬ OkTs ts := fun h' => by have h1 := h'.1; rw [reads_len hr] at h1; exact h5 h1
  unfold cntAns at h
  rw [if_neg hno] at h
  obtain ⟨rfl, rfl⟩ : [] = l ∧ false = b := ⟨congrArg Prod.fst h, congrArg Prod.snd h⟩
  have h6 : 50 < n := by omega
  clear h hno h5
  go_enter Tryd.func19, Tryd.ntmps19
  go_wp2_with fail
  go_ret2
  exact ⟨none, 0, rfl, World.ownsRow_nil _ _ _ _, Below.refl _ _⟩
theorem cntAns_len {ts : List Trp} {l : List Int} {b : Bool} (h : cntAns ts = (l, b)) : l.length ≤ 5 := by
  unfold cntAns at h
  split at h
  · obtain ⟨rfl, rfl⟩ : countOf ts = l ∧ true = b := ⟨congrArg Prod.fst h, congrArg Prod.snd h⟩
    rw [countOf_len]
    exact Nat.le_refl _
  · obtain ⟨rfl, rfl⟩ : [] = l ∧ false = b := ⟨congrArg Prod.fst h, congrArg Prod.snd h⟩
    exact Nat.zero_le _
end Go.Proofs.YtaamjnpknmimmaaDoor.L5
