/- What OwnersText of spec and impl answers. -/
import Derived.Test.YtajjmgmjkjnlpaaFr3
import Derived.Laws.IdiomStrings
namespace Go.Proofs.Ytajjmgmjkjnlpaa.Fra
open Go.RowKit Go.Proofs.Ytajjmgmjkjnlpaa.Mem Go.Proofs.Ytajjmgmjkjnlpaa.Own Go.Proofs.Ytajjmgmjkjnlpaa.L1
/-- the byte of an owner -/
def mkb (z : Int) : UInt8 := if z = 0 then 46 else UInt8.ofNat (48 + z.toNat)
/-- the text of owners -/
def Txt (zs : List Int) : ByteArray := ⟨(zs.map mkb).toArray⟩
/-- the text of one owner -/
def M1 (z : Int) : ByteArray := ⟨#[mkb z]⟩
/-- the bytes of owners as cells -/
def U8 (zs : List Int) : List Value := zs.map fun z => .int .u8 ((mkb z).toNat : Int)
theorem txt_size (zs : List Int) : (Txt zs).size = zs.length := by
  show (zs.map mkb).toArray.size = _
  simp
theorem txt_snoc {zs : List Int} {k : Nat} {z : Int} (h : zs[k]? = some z) : Txt (zs.take k) ++ M1 z = Txt (zs.take (k + 1)) := by
  apply ByteArray.ext
  rw [ByteArray.data_append]
  unfold Txt M1
  rw [List.take_add_one, h]
  simp
theorem small_cases {z : Int} (h0 : 0 ≤ z) (h4 : z ≤ 4) : z = 0 ∨ z = 1 ∨ z = 2 ∨ z = 3 ∨ z = 4 := by omega
theorem dig5 {z : Int} (h0 : 0 ≤ z) (h4 : z ≤ 4) : ({ data := #[46, 49, 50, 51, 52] } : ByteArray).extract z.toNat (z + 1).toNat = M1 z := by
  apply ByteArray.ext
  rcases small_cases h0 h4 with rfl | rfl | rfl | rfl | rfl <;> decide +kernel
set_option maxHeartbeats 1000000 in
theorem l2Text_any (A : Option Addr) (n c B : Nat) (zs : List Int) (w : World) (hr : Reads w B 1 A n (I zs)) (hz : ∀ z ∈ zs, 0 ≤ z ∧ z ≤ 4) (hn : n ≤ 1048576) :
    Calls Try.prog 72 #[.slice A n c] w fun e w' => e = .returned (.string (Txt zs)) ∧ w = w' := by
  have HL : Hid (zs.length = n) := Lib.hid (by have := hr.len; simpa [I] using this)
  go_enter Try.func72, Try.ntmps72
  go_wp2
  go_loop [3, 4] (fun s i => ∃ (k : Nat) (S : ByteArray), i = .int .i64 k ∧ k ≤ n ∧ s = .string S ∧ S.size ≤ k ∧ Hid (S = Txt (zs.take k))) (fun _ i => n - (intOf i).toNat)
  case atStart => exact ⟨0, _, rfl, Nat.zero_le _, rfl, Nat.le_refl _, Lib.hid rfl⟩
  case round =>
    obtain ⟨k, S, rfl, hk, rfl, hS, HS⟩ := hrel
    by_cases hlt : k < n
    · obtain ⟨b1, o1, z, rfl, _, hu, hc⟩ := hr.int_at hlt
      obtain ⟨z0, z4⟩ := hz z (List.mem_of_getElem? hu)
      have hsl := fun wx => run_slice_string (P := Try.prog) (w := wx) 9 { data := #[46, 49, 50, 51, 52] } .i64 .i64 z (z + 1) Try.underlying9 z0 (by omega) (by show z + 1 ≤ 5; omega)
      rw [dig5 z0 z4] at hsl
      have hm1 : (M1 z).size = 1 := rfl
      have hcat := fun wx => run_string_add_sum (P := Try.prog) (w := wx) S (M1 z) (by omega)
      have HS2 : Hid (S ++ M1 z = Txt (zs.take (k + 1)) ∧ (S ++ M1 z).size ≤ k + 1) := Lib.hid (by
        refine ⟨by rw [HS.out, txt_snoc hu], ?_⟩
        rw [ByteArray.size_append]; omega)
      have b3 : (0 : Int) ≤ z + 1 := by omega
      clear hu HS
      go_wp2
      go_round
      case rel => exact ⟨k + 1, _, by go_num, by omega, rfl, HS2.out.2, Lib.hid HS2.out.1⟩
      case measure => simp [intOf]; omega
    · have HS2 : Hid (Txt zs = S) := Lib.hid (by rw [HS.out, List.take_of_length_le (by rw [HL.out]; omega)])
      clear HS
      go_wp2
      go_ret
      rw [HS2.out]
      exact ⟨rfl, rfl⟩
theorem ownerMark_any (z : Int) (h0 : 0 ≤ z) (h4 : z ≤ 4) (w : World) :
    Calls Try.prog 73 #[.int .i64 z] w fun e w' => e = .returned (.int .u8 ((mkb z).toNat : Int)) ∧ w = w' := by
  rcases small_cases h0 h4 with rfl | rfl | rfl | rfl | rfl
  all_goals
    go_enter Try.func73, Try.ntmps73
    go_wp2
    go_ret
    exact ⟨rfl, rfl⟩
theorem u8Info : (Try.prog.info? 5).map (fun i => (i.zero, i.size, i.bytes)) = some (some (.int .u8 0), 1, 1) := by kernel_rfl
theorem conv_txt {w : World} {base g n : Nat} {zs : List Int} (hl : zs.length = n) (hown : w.ownsRow base 5 1 (.slice (some ⟨g, 0, none⟩) n n) n (U8 zs)) :
    (convert 22 9 (.slice (some ⟨g, 0, none⟩) n n)).run Try.prog w = .ok (.string (Txt zs)) w := by
  have h := run_convert_bytes_back w 22 9 5 ⟨g, 0, none⟩ n (zs.map mkb) Try.underlying22 Try.underlying5 Try.underlying9 (P := Try.prog) (fun j hj => ?_)
  · rw [List.length_map, hl] at h; exact h
  · have hj' : j < zs.length := by simpa using hj
    have hc := hown.cells (g := g) rfl j (.int .u8 ((mkb zs[j]).toNat : Int)) (by unfold U8; rw [List.getElem?_map, List.getElem?_eq_getElem hj']; rfl)
    rw [hc]
    simp
theorem U8_at {zs : List Int} {k : Nat} {z : Int} (h : zs[k]? = some z) : (U8 zs)[k]? = some (.int .u8 ((mkb z).toNat : Int)) := by simp [U8, h]
def TextIs (zs : List Int) (s : ByteArray) (b : Bool) : Prop := (GoodOw zs ∧ s = Txt zs ∧ b = true) ∨ (¬ GoodOw zs ∧ s = ByteArray.empty ∧ b = false)
theorem textIs_ex (zs : List Int) : ∃ s b, TextIs zs s b := by
  by_cases h : GoodOw zs
  · exact ⟨_, _, .inl ⟨h, rfl, rfl⟩⟩
  · exact ⟨_, _, .inr ⟨h, rfl, rfl⟩⟩
theorem specOwnersText_any (A : Option Addr) (n c : Nat) (zs : List Int) (s : ByteArray) (b : Bool) (h : TextIs zs s b) (hn : n ≤ 1048576) (w : World) (hr : Reads w w.heap.size 1 A n (I zs)) :
    Calls Try.prog 45 #[.slice A n c] w fun e w' => e = .returned (.tuple #[.string s, .bool b]) ∧ Below w.heap.size w w' := by
  rcases h with ⟨h, rfl, rfl⟩ | ⟨h, rfl, rfl⟩
  · have HG := Lib.hid (l2Good_any A n c _ zs w hr hn true (decide_eq_true h))
    have HT := Lib.hid (l2Text_any A n c _ zs w hr h.1 hn)
    clear hr h
    go_enter Try.func45, Try.ntmps45
    go_wp2_with (first | (go_at_call 56; refine HG.out.mono ?_; rintro e w1 ⟨rfl, rfl⟩) | (go_at_call 72; refine HT.out.mono ?_; rintro e w1 ⟨rfl, rfl⟩))
    go_ret2
    exact ⟨rfl, Below.refl _ _⟩
  · have HG := Lib.hid (l2Good_any A n c _ zs w hr hn false (decide_eq_false h))
    clear hr h
    go_enter Try.func45, Try.ntmps45
    go_wp2_with (go_at_call 56; refine HG.out.mono ?_; rintro e w1 ⟨rfl, rfl⟩)
    go_ret2
    exact ⟨rfl, Below.refl _ _⟩
set_option maxHeartbeats 1000000 in
theorem implOwnersText_any (A : Option Addr) (n c : Nat) (zs : List Int) (s : ByteArray) (b : Bool) (h : TextIs zs s b) (hn : n ≤ 1048576) (w : World) (hr : Reads w w.heap.size 1 A n (I zs)) :
    Calls Try.prog 46 #[.slice A n c] w fun e w' => e = .returned (.tuple #[.string s, .bool b]) ∧ Below w.heap.size w w' := by
  have HL : Hid (zs.length = n) := Lib.hid (by have := hr.len; simpa [I] using this)
  rcases h with ⟨h, rfl, rfl⟩ | ⟨h, rfl, rfl⟩
  · have HG := Lib.hid (implAreOwners_any A n c _ zs w hr hn true (decide_eq_true h))
    have HZ := Lib.hid h.1
    obtain ⟨i0, hi, hz0, hz1, hz2⟩ := info_parts u8Info
    clear h
    go_enter Try.func46, Try.ntmps46
    go_wp2_with (first | (go_at_call 33; refine HG.out.mono ?_; rintro e w1 ⟨rfl, rfl⟩) | (at_make; refine wpList_make_full _ rfl _ _ 22 rfl w.heap.size 5 i0 (.int .u8 0) 1 Try.underlying22 hi hz0 hz1 .i64 .i64 _ _ n rfl rfl rfl rfl (by rw [hz2]; omega) (by unfold maxLen; omega) (Nat.le_refl _) ?_; intro w1 hown1 hg1))
    have hb1 : Below w.heap.size w w1 := (Below.refl _ _).grown hg1 (Nat.le_refl _) (by simp)
    have hml : (madeCells (Value.int .u8 0).cells (n * 1)).toList.length = n := by simp [madeCells]
    have HML := Lib.hid hml
    clear hml HG
    go_loopw [15] (fun i wr => ∃ (k : Nat) (ys : List Value), i = .int .i64 k ∧ k ≤ n ∧ Hid (ys.length = n) ∧ Hid (ys.take k = (U8 zs).take k) ∧ wr.ownsRow w.heap.size 5 1 (.slice (some ⟨w.heap.size, 0, none⟩) n n) n ys ∧ Below w.heap.size w wr) (fun i _ => n - (intOf i).toNat)
    case atStart => exact ⟨0, _, rfl, Nat.zero_le _, HML, Lib.hid (by simp), hown1, hb1⟩
    case round =>
      clear hown1 hg1 HML hb1
      obtain ⟨k, ys, rfl, hk, HY, HT, hown, hbel⟩ := hrel
      by_cases hlt : k < n
      · have hrr : Reads wr w.heap.size 1 A n (I zs) := hr.keep fun p hp => hbel.cell hp
        obtain ⟨b1, o1, z, rfl, _, hu, hc⟩ := hrr.int_at hlt
        obtain ⟨z0, z4⟩ := HZ.out z (List.mem_of_getElem? hu)
        have HM := Lib.hid (ownerMark_any z z0 z4 wr)
        obtain ⟨v, hv⟩ : ∃ v, v = Value.int .u8 ((mkb z).toNat : Int) := ⟨_, rfl⟩
        have hv1 : (U8 zs)[k]? = some v := by rw [hv]; exact U8_at hu
        have hst := Lib.hid (hown.stored k v).1
        have hfz := hown.frozenAt k
        obtain ⟨x, hx⟩ : ∃ x, wr.cell? ⟨w.heap.size, k, none⟩ = some x := ⟨_, (hown.cellAt k (by omega)).trans (List.getElem?_eq_getElem (by rw [HY.out]; exact hlt))⟩
        have hbel2 : Below w.heap.size w (wr.setCell ⟨w.heap.size, k, none⟩ v) := hbel.setCell (p := ⟨w.heap.size, k, none⟩) (Nat.le_refl _) _
        have HT2 := Lib.hid (set_take (U8 zs) ys k v (by rw [HY.out]; unfold U8; rw [List.length_map, HL.out]) hv1 HT.out)
        have HY2 : Hid ((ys.set k v).length = n) := Lib.hid (by rw [List.length_set]; exact HY.out)
        rw [hv] at hst hbel2 HT2 HY2
        clear hrr hown hu HT HY hv1 hv z0 z4
        go_wp2_with (go_at_call 73; refine HM.out.mono ?_; rintro e w1 ⟨rfl, rfl⟩)
        go_roundw
        case rel => exact ⟨k + 1, _, by go_num, by omega, HY2, HT2, hst.out, hbel2⟩
        case measure => simp [intOf]; omega
      · have hy : ys = U8 zs := by
          have h := HT.out
          rw [List.take_of_length_le (by rw [HY.out]; omega), List.take_of_length_le (by unfold U8; rw [List.length_map, HL.out]; omega)] at h
          exact h
        rw [hy] at hown
        have hcv := conv_txt HL.out hown
        clear hy HT HY hown
        go_wp2
        go_ret2
        exact ⟨rfl, hbel⟩
  · have HG := Lib.hid (implAreOwners_any A n c _ zs w hr hn false (decide_eq_false h))
    clear hr h
    go_enter Try.func46, Try.ntmps46
    go_wp2_with (go_at_call 33; refine HG.out.mono ?_; rintro e w1 ⟨rfl, rfl⟩)
    go_ret2
    exact ⟨rfl, Below.refl _ _⟩
end Go.Proofs.Ytajjmgmjkjnlpaa.Fra
