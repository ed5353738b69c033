/- What ParseOwners of spec and impl answers. -/
import Derived.Test.YtajjmgmjkjnlpaaFr7
namespace Go.Proofs.Ytajjmgmjkjnlpaa.Fra
open Go.RowKit Go.Proofs.Ytajjmgmjkjnlpaa.Mem Go.Proofs.Ytajjmgmjkjnlpaa.Own Go.Proofs.Ytajjmgmjkjnlpaa.L1
/-- the number that spec reads in a byte -/
def dvs (c : UInt8) : Int := if c = 46 then 0 else (c.toNat : Int) - 48
/-- the number that impl reads in a byte -/
def dvi (c : UInt8) : Int := if c = 46 then 0 else ((c - 48).toNat : Int)
theorem dv_mkb {z : Int} (h0 : 0 ≤ z) (h4 : z ≤ 4) : dvs (mkb z) = z ∧ dvi (mkb z) = z := by
  rcases small_cases h0 h4 with rfl | rfl | rfl | rfl | rfl <;> decide
theorem map_back {f : UInt8 → Int} (hf : ∀ z : Int, 0 ≤ z → z ≤ 4 → f (mkb z) = z) {ys : List Int} (h : ∀ z ∈ ys, 0 ≤ z ∧ z ≤ 4) : (Txt ys).data.toList.map f = ys := by
  unfold Txt
  rw [List.toList_toArray, List.map_map]
  conv => rhs; rw [← List.map_id ys]
  exact List.map_congr_left fun z hz => hf z (h z hz).1 (h z hz).2
theorem row1_from {xs : List Int} {b : Bool} {w w1 w' : World} {e : Ending} (h : Row1 xs b w1 e w') (hb : Below w.heap.size w w1) : Row1 xs b w e w' := by
  obtain ⟨A, c, rfl, h1, h4⟩ := h
  exact ⟨A, c, rfl, own_mono h1 hb.size, hb.trans (h4.mono hb.size)⟩
def ParseIs (s : ByteArray) (xs : List Int) (b : Bool) : Prop := (GoodOw xs ∧ s = Txt xs ∧ b = true) ∨ ((∀ ys, GoodOw ys → s ≠ Txt ys) ∧ xs = [] ∧ b = false)
theorem parseIs_ex (s : ByteArray) : ∃ xs b, ParseIs s xs b ∧ xs.length ≤ 16 := by
  by_cases h : ∃ ys, GoodOw ys ∧ s = Txt ys
  · obtain ⟨ys, h1, h2⟩ := h
    exact ⟨ys, true, .inl ⟨h1, h2, rfl⟩, h1.2.2⟩
  · exact ⟨[], false, .inr ⟨fun ys h1 h2 => h ⟨ys, h1, h2⟩, rfl, rfl⟩, by simp⟩
/-- what the first k bytes read as -/
def rd (f : UInt8 → Int) (s : ByteArray) (k : Nat) : List Int := (s.data.toList.take k).map f
theorem rd_succ (f : UInt8 → Int) (s : ByteArray) (k : Nat) (h : k < s.size) : rd f s (k + 1) = rd f s k ++ [f s[k]] := by
  unfold rd
  rw [take_snoc s k h, List.map_append]
  rfl
theorem rd_len (f : UInt8 → Int) (s : ByteArray) (k : Nat) (h : k ≤ s.size) : (rd f s k).length = k := by
  unfold rd
  rw [List.length_map, List.length_take, Array.length_toList]
  exact Nat.min_eq_left h
/-- whether what was read is what it says, parted for the walk -/
theorem parse_part {f : UInt8 → Int} (hf : ∀ z : Int, 0 ≤ z → z ≤ 4 → f (mkb z) = z) {s : ByteArray} {xs : List Int} {b : Bool} (h : ParseIs s xs b) {k : Nat} (hk2 : s.size ≤ 16 → k = s.size) :
    (GoodOw (rd f s k) ∧ Txt (rd f s k) = s ∧ xs = rd f s k ∧ b = true) ∨ (GoodOw (rd f s k) ∧ Txt (rd f s k) ≠ s ∧ xs = [] ∧ b = false) ∨ (¬ GoodOw (rd f s k) ∧ xs = [] ∧ b = false) := by
  rcases h with ⟨h1, h2, rfl⟩ | ⟨h1, rfl, rfl⟩
  · left
    have hs : s.size ≤ 16 := by rw [h2, txt_size]; exact h1.2.2
    have he : rd f s k = xs := by
      rw [hk2 hs]
      unfold rd
      rw [List.take_of_length_le (by rw [Array.length_toList]; exact Nat.le_refl _), h2]
      exact map_back hf h1.1
    rw [he]
    exact ⟨h1, h2.symm, rfl, rfl⟩
  · right
    by_cases hg : GoodOw (rd f s k)
    · exact .inl ⟨hg, fun e => h1 _ hg e.symm, rfl, rfl⟩
    · exact .inr ⟨hg, rfl, rfl⟩
theorem beq_txt {a b : ByteArray} (h : a = b) : (a.toList == b.toList) = true := by rw [h]; simp
theorem bne_txt {a b : ByteArray} (h : a ≠ b) : (a.toList == b.toList) = false := toList_ne h
set_option maxHeartbeats 2000000 in
theorem specParseOwners_any (s : ByteArray) (xs : List Int) (b : Bool) (h : ParseIs s xs b) (hs : s.size ≤ 1048576) (w : World) :
    Calls Try.prog 47 #[.string s] w (Row1 xs b w) := by
  obtain ⟨i0, hi, hz0, hz1, hz2⟩ := info_parts intInfo
  have HP := Lib.hid fun (k : Nat) (hk2 : s.size ≤ 16 → k = s.size) => parse_part (f := dvs) (fun z h0 h4 => (dv_mkb h0 h4).1) h hk2
  clear h
  go_enter Try.func47, Try.ntmps47
  go_wp2_with fail
  have hown0 : (w.alloc (.cells #[] 3)).ownsRow w.heap.size 3 1 (.slice (some ⟨w.heap.size, 0, none⟩) 0 0) 0 [] :=
    World.ownsRow_made w #[] 0 (Nat.le_refl _) (Nat.zero_le _) rfl
  have hbel0 : Below w.heap.size w (w.alloc (.cells #[] 3)) := (Below.refl _ _).alloc (Nat.le_refl _) _
  go_loopw [4, 5] (fun v i wr => ∃ (k : Nat) (d : List Int), i = .int .i64 k ∧ k ≤ s.size ∧ k ≤ 17 ∧ d.length = k ∧ Hid (d = rd dvs s k) ∧ wr.ownsRow w.heap.size 3 1 v d.length (I d) ∧ Below w.heap.size w wr) (fun _ i _ => 17 - (intOf i).toNat)
  case atStart => exact ⟨0, [], rfl, Nat.zero_le _, by omega, rfl, Lib.hid (by simp [rd]), hown0, hbel0⟩
  case round =>
    clear hown0 hbel0
    obtain ⟨k, d, rfl, hk, hk17, hd, HD, hown, hbel⟩ := hrel
    by_cases hlt : k < s.size ∧ k ≤ 16
    · have hlt1 := hlt.1
      have hlt2 := hlt.2
      by_cases he : s[k] = 46
      · have HD2 : Hid (d ++ [(0 : Int)] = rd dvs s (k + 1)) := Lib.hid (by rw [rd_succ dvs s k hlt1, HD.out]; simp [dvs, he])
        have t1 : ((s[k].toNat : Int) == 46) = true := by rw [he]; rfl
        have hsz := hbel.size
        clear he hlt
        go_wp2_with (at_builtin; refine wpList_append_own _ rfl _ _ 24 rfl w.heap.size 3 i0 (.int .i64 0) 1 8 Try.underlying24 hi hz0 hz1 hz2 rfl (by decide) _ _ _ rfl (hown.alloc _) ⟨wr.heap.size, 0, none⟩ 1 1 [.int .i64 0] rfl rfl (cell_one_new _ _ _) (fun x hx => by simp at hx; subst hx; rfl) (by unfold maxLen; omega) (by omega) (by simp; omega) ?_; intro v' w1 hown1 hgrow1 _)
        have hbel1 : Below w.heap.size w w1 := (hbel.alloc hsz _).grown hgrow1 (by simp; omega) (fun q hq => (hown.lt q hq).1)
        go_roundw
        case rel => exact ⟨k + 1, d ++ [(0 : Int)], by go_num, by omega, by omega, by simp; omega, HD2, by simpa [I] using hown1, hbel1⟩
        case measure => simp [intOf]; omega
      · have HD2 : Hid (d ++ [(s[k].toNat : Int) - 48] = rd dvs s (k + 1)) := Lib.hid (by rw [rd_succ dvs s k hlt1, HD.out]; simp [dvs, he])
        have t1 : ((s[k].toNat : Int) == 46) = false := by
          simp only [beq_eq_false_iff_ne, ne_eq]
          intro h; exact he (UInt8.toNat_inj.1 (by have h46 : (46 : UInt8).toNat = 46 := rfl; omega))
        have hsz := hbel.size
        have hb8 := s[k].toNat_lt
        clear he hlt
        go_wp2_with (at_builtin; refine wpList_append_own _ rfl _ _ 24 rfl w.heap.size 3 i0 (.int .i64 0) 1 8 Try.underlying24 hi hz0 hz1 hz2 rfl (by decide) _ _ _ rfl (hown.alloc _) ⟨wr.heap.size, 0, none⟩ 1 1 [.int .i64 ((s[k].toNat : Int) - 48)] rfl rfl (cell_one_new _ _ _) (fun x hx => by simp at hx; subst hx; rfl) (by unfold maxLen; omega) (by omega) (by simp; omega) ?_; intro v' w1 hown1 hgrow1 _)
        have hbel1 : Below w.heap.size w w1 := (hbel.alloc hsz _).grown hgrow1 (by simp; omega) (fun q hq => (hown.lt q hq).1)
        go_roundw
        case rel => exact ⟨k + 1, d ++ [(s[k].toNat : Int) - 48], by go_num, by omega, by omega, by simp; omega, HD2, by simpa [I] using hown1, hbel1⟩
        case measure => simp [intOf]; omega
    · subst hd
      have hp := HP.out d.length (fun h => by omega)
      rw [← HD.out] at hp
      obtain ⟨A1, c1, rfl, _, _⟩ := own_form hown
      have hr := Reads.of_own hown
      have HO := Lib.hid hown
      have HB := Lib.hid hbel
      have HXE := Lib.hid (row1_empty false wr)
      have hdl : d.length ≤ 1048576 := by omega
      have hc : s.size ≤ d.length ∨ (d.length < s.size ∧ 16 < d.length) := by omega
      clear HD HP hown hbel hlt
      rcases hp with ⟨h1, h2, rfl, rfl⟩ | ⟨h1, h2, rfl, rfl⟩ | ⟨h1, rfl, rfl⟩
      · have HG := Lib.hid (l2Good_any A1 _ c1 _ xs wr hr hdl true (decide_eq_true h1))
        have HT := Lib.hid (l2Text_any A1 _ c1 _ xs wr hr h1.1 hdl)
        have t1 := beq_txt h2
        have t2 : ((Txt xs).toList != s.toList) = false := by simp only [bne, t1, Bool.not_true]
        clear h1 h2 hr
        rcases hc with hc | ⟨hc, hc2⟩
        all_goals
          go_wp2_with (first | (go_at_call 56; with_reducible refine HG.out.mono ?_; rintro e w1 ⟨rfl, rfl⟩) | (go_at_call 72; with_reducible refine HT.out.mono ?_; rintro e w1 ⟨rfl, rfl⟩))
          go_ret2
          exact row1_of HO.out HB.out
      · have HG := Lib.hid (l2Good_any A1 _ c1 _ d wr hr hdl true (decide_eq_true h1))
        have HT := Lib.hid (l2Text_any A1 _ c1 _ d wr hr h1.1 hdl)
        have t1 := bne_txt h2
        have t2 : ((Txt d).toList != s.toList) = true := by simp only [bne, t1, Bool.not_false]
        clear h1 h2 hr
        rcases hc with hc | ⟨hc, hc2⟩
        all_goals
          go_wp2_with (first | (go_at_call 56; with_reducible refine HG.out.mono ?_; rintro e w1 ⟨rfl, rfl⟩) | (go_at_call 72; with_reducible refine HT.out.mono ?_; rintro e w1 ⟨rfl, rfl⟩))
          go_ret2
          exact row1_from HXE.out HB.out
      · have HG := Lib.hid (l2Good_any A1 _ c1 _ d wr hr hdl false (decide_eq_false h1))
        clear h1 hr
        rcases hc with hc | ⟨hc, hc2⟩
        all_goals
          go_wp2_with (go_at_call 56; with_reducible refine HG.out.mono ?_; rintro e w1 ⟨rfl, rfl⟩)
          go_ret2
          exact row1_from HXE.out HB.out
theorem wrap_dvi (c : UInt8) (h : c ≠ 46) : IntKind.u8.wrap ((c.toNat : Int) - 48) = dvi c := by
  unfold dvi
  rw [if_neg h]
  have hc := c.toNat_lt
  have e : ((c - 48).toNat : Int) = ((c.toNat : Int) - 48) % 256 := by
    rw [UInt8.toNat_sub]
    have h48 : (48 : UInt8).toNat = 48 := rfl
    rw [h48]
    omega
  rw [e]
  simp [IntKind.wrap, IntKind.bits, IntKind.signed]
theorem dvi_bd (c : UInt8) : 0 ≤ dvi c ∧ dvi c ≤ 255 := by
  unfold dvi
  split
  · omega
  · have := (c - 48).toNat_lt; omega
/-- the first k bytes read, zeros behind them -/
def pad (s : ByteArray) (k : Nat) : List Int := rd dvi s k ++ List.replicate (s.size - k) 0
theorem pad_end (s : ByteArray) : pad s s.size = rd dvi s s.size := by simp [pad]
theorem pad_dot (s : ByteArray) (k : Nat) (h : k < s.size) (he : s[k] = 46) : pad s k = pad s (k + 1) := by
  unfold pad
  rw [rd_succ dvi s k h, show s.size - k = (s.size - (k + 1)) + 1 from by omega, List.replicate_succ]
  simp [dvi, he]
theorem pad_set (s : ByteArray) (k : Nat) (h : k < s.size) : (pad s k).set k (dvi s[k]) = pad s (k + 1) := by
  unfold pad
  have hl := rd_len dvi s k (by omega)
  rw [rd_succ dvi s k h, show s.size - k = (s.size - (k + 1)) + 1 from by omega, List.replicate_succ, List.set_append_right _ _ (by omega), hl, Nat.sub_self]
  simp
set_option maxHeartbeats 2000000 in
theorem implParseOwners_any (s : ByteArray) (xs : List Int) (b : Bool) (h : ParseIs s xs b) (hs : s.size ≤ 1048576) (w : World) :
    Calls Try.prog 48 #[.string s] w (Row1 xs b w) := by
  obtain ⟨i0, hi, hz0, hz1, hz2⟩ := info_parts intInfo
  by_cases h16 : 16 < s.size
  · have hx : Row1 xs b w (.returned (.tuple #[.slice none 0 0, .bool false])) w := by
      rcases h with ⟨h1, h2, rfl⟩ | ⟨_, rfl, rfl⟩
      · have := h1.2.2
        rw [h2, txt_size] at h16
        omega
      · exact row1_nil false w
    clear h
    go_enter Try.func48, Try.ntmps48
    go_wp2_with fail
    go_ret2
    exact hx
  · have hp := Lib.hid (parse_part (f := dvi) (fun z h0 h4 => (dv_mkb h0 h4).2) h (k := s.size) (fun _ => rfl))
    clear h
    go_enter Try.func48, Try.ntmps48
    go_wp2_with (at_make; refine wpList_make_full _ rfl _ _ 24 rfl w.heap.size 3 i0 (.int .i64 0) 1 Try.underlying24 hi hz0 hz1 .i64 .i64 _ _ s.size rfl rfl rfl rfl (by rw [hz2]; omega) (by unfold maxLen; omega) (Nat.le_refl _) ?_; intro w1 hown1 hg1)
    have hb1 : Below w.heap.size w w1 := (Below.refl _ _).grown hg1 (Nat.le_refl _) (by simp)
    have hP0 : Hid ((madeCells (Value.int .i64 0).cells (s.size * 1)).toList = I (pad s 0)) := Lib.hid (by
      rw [show (Value.int IntKind.i64 0).cells = #[Value.int .i64 0] from rfl, Nat.mul_one, toList_madeCells_one]
      simp [I, pad, rd])
    go_loopw [16] (fun i wr => ∃ (k : Nat) (ys : List Value), i = .int .i64 k ∧ k ≤ s.size ∧ Hid (ys = I (pad s k)) ∧ wr.ownsRow w.heap.size 3 1 (.slice (some ⟨w.heap.size, 0, none⟩) s.size s.size) s.size ys ∧ Below w.heap.size w wr) (fun i _ => s.size - (intOf i).toNat)
    case atStart => exact ⟨0, _, rfl, Nat.zero_le _, hP0, hown1, hb1⟩
    case round =>
      clear hown1 hg1 hP0 hb1
      obtain ⟨k, ys, rfl, hk, HY, hown, hbel⟩ := hrel
      by_cases hlt : k < s.size
      · by_cases he : s[k] = 46
        · have HY2 : Hid (ys = I (pad s (k + 1))) := Lib.hid (by rw [HY.out, pad_dot s k hlt he])
          have t1 : ((s[k].toNat : Int) == 46) = true := by rw [he]; rfl
          have t2 : ((s[k].toNat : Int) != 46) = false := by simp only [bne, t1, Bool.not_true]
          clear he
          go_wp2
          go_roundw
          case rel => exact ⟨k + 1, _, by go_num, by omega, HY2, hown, hbel⟩
          case measure => simp [intOf]; omega
        · have t1 : ((s[k].toNat : Int) == 46) = false := by
            simp only [beq_eq_false_iff_ne, ne_eq]
            intro h; exact he (UInt8.toNat_inj.1 (by have h46 : (46 : UInt8).toNat = 46 := rfl; omega))
          have t2 : ((s[k].toNat : Int) != 46) = true := by simp only [bne, t1, Bool.not_false]
          have hwr := wrap_dvi s[k] he
          obtain ⟨v0, v1⟩ := dvi_bd s[k]
          have HY2 : Hid (ys.set k (.int .i64 (dvi s[k])) = I (pad s (k + 1))) := Lib.hid (by rw [HY.out, I_set, pad_set s k hlt])
          obtain ⟨v, hv⟩ : ∃ v, dvi s[k] = v := ⟨_, rfl⟩
          rw [hv] at hwr v0 v1 HY2
          have hst := Lib.hid (hown.stored k (.int .i64 v)).1
          have hfz := hown.frozenAt k
          have hyl : ys.length = s.size := by have := hown.1; omega
          obtain ⟨x, hx⟩ : ∃ x, wr.cell? ⟨w.heap.size, k, none⟩ = some x := ⟨_, (hown.cellAt k (by omega)).trans (List.getElem?_eq_getElem (by omega))⟩
          have hbel2 : Below w.heap.size w (wr.setCell ⟨w.heap.size, k, none⟩ (.int .i64 v)) := hbel.setCell (p := ⟨w.heap.size, k, none⟩) (Nat.le_refl _) _
          clear he hown hv HY hyl
          go_wp2
          go_roundw
          case rel => exact ⟨k + 1, _, by go_num, by omega, HY2, hst.out, hbel2⟩
          case measure => simp [intOf]; omega
      · have hkn : k = s.size := by omega
        have HY2 : Hid (ys = I (rd dvi s s.size)) := Lib.hid (by rw [HY.out, hkn, pad_end])
        rw [HY2.out] at hown
        have hpl : (rd dvi s s.size).length = s.size := rd_len _ _ _ (Nat.le_refl _)
        obtain ⟨d, hd⟩ : ∃ d, rd dvi s s.size = d := ⟨_, rfl⟩
        rw [hd] at hown hp hpl
        have HO := Lib.hid hown
        have HR := Lib.hid (Reads.of_own hown)
        have HB := Lib.hid hbel
        have HL := Lib.hid hpl
        have hX := Lib.hid (row1_nil false wr)
        have hn1 : s.size ≤ 1048576 := hs
        clear HY HY2 hown hbel hd hpl hkn
        rcases hp.out with ⟨h1, h2, rfl, rfl⟩ | ⟨h1, h2, rfl, rfl⟩ | ⟨h1, rfl, rfl⟩
        · have HC := Lib.hid (implOwnersText_any (some ⟨w.heap.size, 0, none⟩) s.size s.size xs s true (.inl ⟨h1, h2.symm, rfl⟩) hn1 wr HR.out)
          have t1 := beq_txt (rfl : s = s)
          have t2 : (s.toList != s.toList) = false := by simp only [bne, t1, Bool.not_true]
          clear h1 h2 hp
          go_wp2_with (go_at_call 46; with_reducible refine HC.out.mono ?_; rintro e w3 ⟨rfl, hb3⟩)
          go_ret2
          refine row1_of ?_ (HB.out.trans (hb3.mono HB.out.size))
          rw [HL.out]
          exact own_below HO.out hb3
        · have HC := Lib.hid (implOwnersText_any (some ⟨w.heap.size, 0, none⟩) s.size s.size d (Txt d) true (.inl ⟨h1, rfl, rfl⟩) hn1 wr HR.out)
          have t1 := bne_txt h2
          have t2 : ((Txt d).toList != s.toList) = true := by simp only [bne, t1, Bool.not_false]
          clear h1 h2 hp hX
          go_wp2_with (go_at_call 46; with_reducible refine HC.out.mono ?_; rintro e w3 ⟨rfl, hb3⟩)
          go_ret2
          exact row1_from (row1_nil false w3) (HB.out.trans (hb3.mono HB.out.size))
        · have HC := Lib.hid (implOwnersText_any (some ⟨w.heap.size, 0, none⟩) s.size s.size d ByteArray.empty false (.inr ⟨h1, rfl, rfl⟩) hn1 wr HR.out)
          clear h1 hp hX
          go_wp2_with (go_at_call 46; with_reducible refine HC.out.mono ?_; rintro e w3 ⟨rfl, hb3⟩)
          go_ret2
          exact row1_from (row1_nil false w3) (HB.out.trans (hb3.mono HB.out.size))
end Go.Proofs.Ytajjmgmjkjnlpaa.Fra
