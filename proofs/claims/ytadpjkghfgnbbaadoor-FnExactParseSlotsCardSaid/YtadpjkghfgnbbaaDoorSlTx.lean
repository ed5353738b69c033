/- The text of slots, as data; what impl.slotText and spec.l8Text answer. -/
import Derived.Test.YtadpjkghfgnbbaaDoorSlo
import Derived.Test.YtadpjkghfgnbbaaDoorSltA
import Derived.Test.YtadpjkghfgnbbaaDoorNum
import Derived.Test.YtadpjkghfgnbbaaDoorFmI
import Derived.Test.YtadpjkghfgnbbaaDoorJB
import Derived.Test.YtadpjkghfgnbbaaDoorBlk
import Derived.Test.YtadpjkghfgnbbaaDoorFrame
import Derived.Deep.Cut
import Derived.Laws.IdiomStrings
namespace Go.Proofs.YtadpjkghfgnbbaaDoor.L8
open Go Go.RowKit Go.Proofs.YtadpjkghfgnbbaaDoor.Mem Go.Proofs.YtadpjkghfgnbbaaDoor.Own Go.Proofs.YtadpjkghfgnbbaaDoor.L1
def spc : ByteArray := ⟨#[32]⟩
def col : ByteArray := ⟨#[58]⟩
def mkS (st : Int) : ByteArray := if st = 1 then ⟨#[112]⟩ else if st = 2 then ⟨#[97]⟩ else ⟨#[98]⟩
theorem mkS_size (st : Int) : (mkS st).size = 1 := by
  unfold mkS
  split
  · rfl
  · split <;> rfl
/-- the text of a slot -/
def tx (x : Slt) : ByteArray := if x.st = 0 then ⟨#[45]⟩ else ((mkS x.st ++ NumB x.iq) ++ col) ++ NumB x.pr
/-- the text of slots -/
def txs (xs : List Slt) : ByteArray := JB (xs.map tx) spc
def TbIs (w : World) : Prop := Lib.TabIs Tryd.prog w "internal/strconv.uint64pow10" .u64 Lib.pow10Tab
theorem tb_below {W W' : World} (h : Below W.heap.size W W') (ht : TbIs W) : TbIs W' := Fr.tabIs_below h ht
theorem tbIs_of_mem {W : World} {l : List (String × DataW Unit)} (h : laidMet Tryd.prog l W) (hm : ("internal/strconv.uint64pow10", Lib.tabData .u64 Lib.pow10Tab) ∈ l) : TbIs W :=
  Fr.tabIs_of_mem (g := 3) (by kernel_rfl) (by kernel_rfl) Tryd.underlying108 Tryd.underlying93 (by kernel_rfl) (by kernel_rfl) h hm
theorem numB_size (n : Int) (h0 : 0 ≤ n) (h1 : n ≤ 65535) : (NumB n).size ≤ 20 := by
  have h2 := Lib.nDigits_le20 n.toNat (by omega)
  have h3 : (NumB n).size = Lib.nDigits n.toNat := by
    unfold NumB
    rw [Lib.itoa, if_neg (by omega), ← Lib.decDigits_length]
    simp [ByteArray.size]
  omega
theorem st_ofT {x : Slt} (h : Ok x) : x.st = 0 ∨ x.st = 1 ∨ x.st = 2 ∨ x.st = 3 := by unfold Ok at h; omega
theorem bndT {x : Slt} (h : Ok x) : (0 ≤ x.iq ∧ x.iq ≤ 7) ∧ (0 ≤ x.pr ∧ x.pr ≤ 15) := by unfold Ok at h; omega
theorem tx_size {x : Slt} (h : Ok x) : (tx x).size ≤ 42 := by
  have hb := bndT h
  have h1 := numB_size x.iq hb.1.1 (by omega)
  have h2 := numB_size x.pr hb.2.1 (by omega)
  have h3 := mkS_size x.st
  have h4 : col.size = 1 := rfl
  unfold tx
  split
  · decide
  · rw [ByteArray.size_append, ByteArray.size_append, ByteArray.size_append]; omega
set_option maxRecDepth 100000 in
set_option maxHeartbeats 1600000 in
theorem slotText_c (k i p : Int) (hok : Ok ⟨k, i, p⟩) (w : World) (ht : TbIs w) :
    Calls Tryd.prog 18 #[.agg #[.int .i64 k, .int .i64 i, .int .i64 p]] w fun e w' => e = .returned (.string (tx ⟨k, i, p⟩)) ∧ Below w.heap.size w w' := by
  have hst := st_ofT hok
  have hbd := bndT hok
  simp only at hst hbd
  obtain ⟨⟨hi0, hi1⟩, hp0, hp1⟩ := hbd
  have HT := Lib.hid ht
  have zi := numB_size i hi0 (by omega)
  have zp := numB_size p hp0 (by omega)
  obtain ⟨ni, hni⟩ : ∃ s, NumB i = s := ⟨_, rfl⟩
  obtain ⟨np, hnp⟩ : ∃ s, NumB p = s := ⟨_, rfl⟩
  rw [hni] at zi
  rw [hnp] at zp
  have HFI : Hid (∀ w, TbIs w → Calls Tryd.prog 32 #[.int .i64 i] w fun e w' => e = .returned (.tuple #[.string ni, .bool true]) ∧ Below w.heap.size w w') := Lib.hid (fun w ht => by rw [← hni]; exact implFmt_yes i (by omega) (by omega) w ht)
  have HFP : Hid (∀ w, TbIs w → Calls Tryd.prog 32 #[.int .i64 p] w fun e w' => e = .returned (.tuple #[.string np, .bool true]) ∧ Below w.heap.size w w') := Lib.hid (fun w ht => by rw [← hnp]; exact implFmt_yes p (by omega) (by omega) w ht)
  have HX : Hid (k ≠ 0 → tx ⟨k, i, p⟩ = ((mkS k ++ ni) ++ col) ++ np) := Lib.hid (fun h => by unfold tx; rw [if_neg h, ← hni, ← hnp])
  clear hok ht hni hnp
  rcases hst with rfl | hst
  · go_enter Tryd.func18, Tryd.ntmps18
    go_wp2_with fail
    go_ret
    exact ⟨rfl, below_more (Below.refl _ _) _⟩
  · have HX2 := Lib.hid (HX.out (by omega))
    rw [HX2.out]
    clear HX HX2
    obtain ⟨wb, hwb⟩ : ∃ wb, w.alloc (.cells #[.int .i64 k, .int .i64 i, .int .i64 p] 37) = wb := ⟨_, rfl⟩
    have HXB : Hid (Blk wb w.heap.size 37 #[.int .i64 k, .int .i64 i, .int .i64 p]) := Lib.hid (by rw [← hwb]; exact Blk.new _ _ _)
    have HB0 : Hid (Below w.heap.size w wb) := Lib.hid (by rw [← hwb]; exact below_more (Below.refl _ _) _)
    have HWB := Lib.hid hwb
    clear hwb
    have t0 : (k == 0) = false := by simp; omega
    obtain ⟨m, hm⟩ : ∃ m, mkS k = m := ⟨_, rfl⟩
    have hms : m.size = 1 := by rw [← hm]; exact mkS_size k
    have hmk : ({ data := #[112, 97, 98] } : ByteArray).extract (k - 1).toNat k.toNat = m := by
      rw [← hm]
      rcases hst with rfl | rfl | rfl <;> (apply ByteArray.ext; decide +kernel)
    have hsl := fun wx => run_slice_string (P := Tryd.prog) (w := wx) 9 { data := #[112, 97, 98] } .i64 .i64 (k - 1) k Tryd.underlying9 (by omega) (by omega) (by show k ≤ 3; omega)
    rw [hmk] at hsl
    have hc1 := fun wx => run_string_add_sum (P := Tryd.prog) (w := wx) m ni (by omega)
    have hc2 := fun wx => run_string_add_sum (P := Tryd.prog) (w := wx) (m ++ ni) { data := #[58] } (by rw [ByteArray.size_append]; show _ + 1 ≤ _; omega)
    have hc3 := fun wx => run_string_add_sum (P := Tryd.prog) (w := wx) ((m ++ ni) ++ { data := #[58] }) np (by rw [ByteArray.size_append, ByteArray.size_append]; show _ + 1 + _ ≤ _; omega)
    have hw1 : IntKind.i64.wrap (k - 1) = k - 1 := IntWalk.i64_in _ (by omega)
    have HM := Lib.hid hm
    clear hmk hm hst hms zi zp
    have k0 : wb.cell? ⟨w.heap.size, 0, none⟩ = some (.int .i64 k) := HXB.out.cell 0 _ rfl
    have k1 : wb.cell? ⟨w.heap.size, 1, none⟩ = some (.int .i64 i) := HXB.out.cell 1 _ rfl
    go_enter Tryd.func18, Tryd.ntmps18
    go_upto_region 1 with fail
    rw [HWB.out]
    clear HWB
    go_wp2_with fail
    refine (HFI.out _ (tb_below HB0.out HT.out)).mono ?_
    rintro e w1 ⟨rfl, hb1⟩
    have HB1 := Lib.hid (below_then HB0.out hb1)
    have HX1 := Lib.hid (Blk.kept hb1 HXB.out)
    have k2 : w1.cell? ⟨w.heap.size, 2, none⟩ = some (.int .i64 p) := HX1.out.cell 2 _ rfl
    clear hb1 k0 k1 HXB
    go_wp2_with fail
    refine (HFP.out _ (tb_below HB1.out HT.out)).mono ?_
    rintro e w2 ⟨rfl, hb2⟩
    have HB2 := Lib.hid (below_then HB1.out hb2)
    have HX2 := Lib.hid (Blk.kept hb2 HX1.out)
    have k0 : w2.cell? ⟨w.heap.size, 0, none⟩ = some (.int .i64 k) := HX2.out.cell 0 _ rfl
    clear hb2 k2 HX1
    go_wp2_with fail
    go_ret
    exact ⟨by rw [HM.out]; rfl, HB2.out⟩
end Go.Proofs.YtadpjkghfgnbbaaDoor.L8
