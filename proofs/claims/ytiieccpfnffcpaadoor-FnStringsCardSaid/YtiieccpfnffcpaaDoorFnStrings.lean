/- For every slice of bytes the law FnStrings returns true; the listed variables read as the program's text lays them (the card ties them). -/
import Derived.Test.YtiieccpfnffcpaaDoorCards
import Derived.Test.YtiieccpfnffcpaaDoorTie
import Derived.Test.YtiieccpfnffcpaaDoorFrame
import Derived.Test.YtiieccpfnffcpaaDoorDrawS
import Derived.Deep.RegionWith
import Derived.Test.YtiieccpfnffcpaaDoorFlip
import Derived.Test.YtiieccpfnffcpaaDoorFmtInt
import Derived.Test.YtiieccpfnffcpaaDoorParse
import Derived.Test.YtiieccpfnffcpaaDoorSealImpl
import Derived.Test.YtiieccpfnffcpaaDoorVerify
namespace Go.Proofs.YtiieccpfnffcpaaDoor.fnStrings
open Go.ChangeShapes Go.WideShapes Go.ChangeAt Go.RowKit
open Go.ChangeMaps (open_string shut_string)
open Go.Proofs.YtiieccpfnffcpaaDoor.L1 Go.Proofs.YtiieccpfnffcpaaDoor.Mem Go.Proofs.YtiieccpfnffcpaaDoor.Draw
set_option linter.unusedVariables false
theorem own : ownKnob Tryd.prog.godebug = none := by kernel_rfl
theorem laidOut : laidOutB Tryd.prog = true := by kernel_rfl
theorem cellsU8 : Tryd.prog.cellsOf 5 = 1 := by kernel_rfl
theorem big_no (A : Option Addr) (n c : Nat) (w : World) (hm : n ≤ 65536) : Calls Tryd.prog 8 #[.slice A n c] w fun e w' => e = .returned (.bool false) ∧ w = w' := by
  have hd : decide (65536 < (n : Int)) = false := decide_eq_false (by omega)
  go_enter Tryd.func8, Tryd.ntmps8
  go_wp2
  go_ret
  exact ⟨rfl, rfl⟩
theorem big_yes (A : Option Addr) (n c : Nat) (w : World) (hm : n ≤ 9223372036854775807) (h : 65536 < n) : Calls Tryd.prog 8 #[.slice A n c] w fun e w' => e = .returned (.bool true) ∧ w = w' := by
  have hd : decide (65536 < (n : Int)) = true := decide_eq_true (by omega)
  go_enter Tryd.func8, Tryd.ntmps8
  go_wp2
  go_ret
  exact ⟨rfl, rfl⟩
theorem tab {W : World} (h : laidMetH Tryd.prog Rows.fnStringsRow.laid W) : Lib.TabIs Tryd.prog W "internal/strconv.uint64pow10" .u64 Lib.pow10Tab :=
  Fr.tabIs_of_mem (g := 3) (by kernel_rfl) (by kernel_rfl) Tryd.underlying80 Tryd.underlying35 (by kernel_rfl) (by kernel_rfl) h (.tail _ (.tail _ (.head _)))
theorem errs {W : World} (h : laidMetH Tryd.prog Rows.fnStringsRow.laid W) : ErrsIs W :=
  ⟨Fr.errIs_of_mem (g := 0) (by kernel_rfl) (by kernel_rfl) Tryd.underlying46 h (.tail _ (.tail _ (.tail _ (.tail _ (.head _))))),
   Fr.errIs_of_mem (g := 1) (by kernel_rfl) (by kernel_rfl) Tryd.underlying46 h (.tail _ (.tail _ (.tail _ (.head _))))⟩
abbrev Tab (w : World) : Prop := Lib.TabIs Tryd.prog w "internal/strconv.uint64pow10" .u64 Lib.pow10Tab
def FmtSays (x : Int) (s : ByteArray) (ok : Bool) : Prop :=
  (∀ w, Tab w → Calls Tryd.prog 10 #[.int .i64 x] w fun e w' => e = .returned (.tuple #[.string s, .bool ok]) ∧ Below w.heap.size w w') ∧
  (∀ w, Calls Tryd.prog 11 #[.int .i64 x] w fun e w' => e = .returned (.tuple #[.string s, .bool ok]) ∧ Below w.heap.size w w')
theorem fmt_ex (x : Int) : ∃ s ok r b, FmtSays x s ok ∧ s.size ≤ 21 ∧ ReadIs s r b ∧ ((ok = true ∧ b = true ∧ r = x) ∨ ok = false) := by
  by_cases h : -999999 ≤ x ∧ x ≤ 999999
  · exact ⟨_, true, x, true, ⟨fun w ht => implFmt_yes x h.1 h.2 w ht, fun w => specFmt_yes x h.1 h.2 w⟩, numB_size x (by omega) (by omega), .inl ⟨rfl, h.1, h.2, rfl⟩, .inl ⟨rfl, rfl, rfl⟩⟩
  · have h' : x < -999999 ∨ 999999 < x := by omega
    obtain ⟨r, b, hr⟩ := readIs_ex ByteArray.empty
    exact ⟨_, false, r, b, ⟨fun w _ => (implFmt_no x h' w).mono fun e w' ⟨h, hw⟩ => ⟨h, by rw [← hw]; exact Below.refl _ _⟩, fun w => (specFmt_no x h' w).mono fun e w' ⟨h, hw⟩ => ⟨h, by rw [← hw]; exact Below.refl _ _⟩⟩, by decide, hr, .inr rfl⟩
def AppSays (x y : ByteArray) (ok : Bool) : Prop :=
  (∀ w, Tab w → Calls Tryd.prog 16 #[.string x] w fun e w' => e = .returned (.tuple #[.string y, .bool ok]) ∧ Below w.heap.size w w') ∧
  (∀ w, Calls Tryd.prog 17 #[.string x] w fun e w' => e = .returned (.tuple #[.string y, .bool ok]) ∧ Below w.heap.size w w')
theorem app_ex (x : ByteArray) (hx : x.size ≤ maxLen) : ∃ y ok, AppSays x y ok ∧ ((ok = true ∧ y = SealB x ∧ Fits x) ∨ (ok = false ∧ y = ByteArray.empty)) := by
  by_cases h : Fits x
  · exact ⟨_, true, ⟨fun w ht => implApp_yes x w h ht, fun w => specApp_yes x w h⟩, .inl ⟨rfl, rfl, h⟩⟩
  · exact ⟨_, false, ⟨fun w ht => implApp_no x w hx h ht, fun w => specApp_no x w hx h⟩, .inr ⟨rfl, rfl⟩⟩
theorem fst_seal (x : ByteArray) (h : x.data.toList.contains 35 = false) : Fst (SealB x) 35 = x := by
  unfold Fst
  rw [sealB_list, tw_stop 35 _ _ (fun b hb e => ?_)]
  simp only [List.contains_eq_mem, decide_eq_false_iff_not] at h
  exact h (by rw [← e]; exact hb)
theorem sealed_seal (x : ByteArray) (h : Fits x) : Sealed (SealB x) := ⟨h.2.2, by rw [fst_seal x h.2.1]⟩
theorem conv_bytes (w : World) (y : ByteArray) : ∃ cap cells sz, (convert 9 22 (.string y)).run Tryd.prog w = .ok (.slice (some ⟨w.heap.size, 0, none⟩) y.size cap) (w.drew.alloc (.cells cells 5 (sz, sz + 1))) ∧
    y.size ≤ sz ∧ ∀ j (h : j < y.size), cells[j]? = some (.int .u8 (y[j].toNat : Int)) := by
  refine ⟨_, _, _, run_bytes_of_string w 9 22 5 y Tryd.underlying9 Tryd.underlying22 Tryd.underlying5, ?_, fun j h => ?_⟩
  · unfold bytesRow; simp
  · have hj : j < y.data.size := h
    unfold bytesRow
    rw [Array.getElem?_append_left (by simpa using hj)]
    rw [Array.getElem?_map, Array.getElem?_eq_getElem hj]
    rfl
theorem bits_xor_u8 (a b : Nat) (ha : a < 256) (hb : b < 256) : bits .xor .u8 (a : Int) (b : Int) = ((a ^^^ b : Nat) : Int) := by
  have hx : a ^^^ b < 2 ^ 8 := Nat.xor_lt_two_pow (by omega) (by omega)
  have h1 : (BitVec.ofInt 8 (a : Int)).toNat = a := by
    rw [BitVec.ofInt_natCast, BitVec.toNat_ofNat]; exact Nat.mod_eq_of_lt (by omega)
  have h2 : (BitVec.ofInt 8 (b : Int)).toNat = b := by
    rw [BitVec.ofInt_natCast, BitVec.toNat_ofNat]; exact Nat.mod_eq_of_lt (by omega)
  show IntKind.u8.wrap ((BitVec.ofInt 8 (a : Int) ^^^ BitVec.ofInt 8 (b : Int)).toNat : Int) = _
  rw [BitVec.toNat_xor, h1, h2]
  simp [IntKind.wrap, IntKind.bits, IntKind.signed]
  omega
theorem flip_byte (c : UInt8) (d : Nat) (h1 : 1 ≤ d) (h2 : d ≤ 255) : ∃ v : UInt8, c ≠ v ∧ bits .xor .u8 (c.toNat : Int) (d : Int) = (v.toNat : Int) := by
  have hc := c.toNat_lt
  have hx : c.toNat ^^^ d < 2 ^ 8 := Nat.xor_lt_two_pow (by omega) (by omega)
  have hv : (UInt8.ofNat (c.toNat ^^^ d)).toNat = c.toNat ^^^ d := by
    rw [UInt8.toNat_ofNat']; exact Nat.mod_eq_of_lt hx
  refine ⟨UInt8.ofNat (c.toNat ^^^ d), fun e => ?_, by rw [bits_xor_u8 _ _ (by omega) (by omega), hv]⟩
  have e2 := congrArg UInt8.toNat e
  rw [hv] at e2
  have e3 : c.toNat ^^^ (c.toNat ^^^ d) = c.toNat ^^^ c.toNat := by rw [← e2]
  rw [← Nat.xor_assoc, Nat.xor_self, Nat.zero_xor] at e3
  omega
theorem conv_set {w : World} {g q cap : Nat} {Y : ByteArray} {v : UInt8} (hq : q < Y.size) (hc : ∀ j (h : j < Y.size), w.cell? ⟨g, j, none⟩ = some (.int .u8 (Y[j].toNat : Int))) :
    (convert 22 9 (.slice (some ⟨g, 0, none⟩) Y.size cap)).run Tryd.prog (w.setCell ⟨g, q, none⟩ (.int .u8 (v.toNat : Int))) = .ok (.string ⟨(Y.data.toList.set q v).toArray⟩) (w.setCell ⟨g, q, none⟩ (.int .u8 (v.toNat : Int))) := by
  have hl : (Y.data.toList.set q v).length = Y.size := by simp
  have h := run_convert_bytes_back (w.setCell ⟨g, q, none⟩ (.int .u8 (v.toNat : Int))) 22 9 5 ⟨g, 0, none⟩ cap (Y.data.toList.set q v) Tryd.underlying22 Tryd.underlying5 Tryd.underlying9 (P := Tryd.prog) (fun j hj => ?_)
  · rw [hl] at h; exact h
  · rw [hl] at hj
    rw [show (⟨g, 0, none⟩ : Addr).add j = ⟨g, j, none⟩ from by rw [Go.WideShapes.add_plain, Nat.zero_add]]
    by_cases e : q = j
    · subst e
      rw [World.cell?_setCell_same (h := hc q hq)]
      simp
    · rw [World.cell?_setCell_other (a := ⟨g, q, none⟩) (b := ⟨g, j, none⟩) (h := fun h => e (by injection h)), hc j hj]
      rw [List.getElem_set_ne e]
      rfl
set_option maxRecDepth 20000 in
set_option maxHeartbeats 2000000 in
theorem walk0 (W : World) (A : Option Addr) (n c : Nat) (zs : List Int) (m : Int) (hn : n ≤ 9223372036854775807) (hz : ∀ z ∈ zs, 0 ≤ z ∧ z ≤ 255) (hr : Reads W W.heap.size 1 A n (zs.map (Value.int .u8)))
    (htab : Tab W) (herr : ErrsIs W) (hm : W.cell? ⟨2, 0, none⟩ = some (.int .i64 m)) :
    Calls Tryd.prog 3 #[.slice A n c] W fun e W' => e = .returned (.bool true) ∧ Below W.heap.size W W' := by
  have hlt : 2 < W.heap.size := World.block_lt_of_cell? W _ hm
  have HR := Lib.hid hr
  have HZ := Lib.hid hz
  have HT := Lib.hid htab
  have HE := Lib.hid herr
  have HM := Lib.hid hm
  clear hr hz htab herr hm
  by_cases h1 : 65536 < n
  · go_enter Tryd.func3, Tryd.ntmps3
    go_wp2_with (go_at_call 8; ((with_reducible refine (big_yes A n c _ hn h1).mono ?_); rintro e w1 ⟨rfl, rfl⟩))
    go_ret
    exact ⟨rfl, Below.refl _ _⟩
  have hn' : n ≤ 65536 := by omega
  obtain ⟨a9, hA0, hA1, cA9⟩ := vAt_any W A n c W.heap.size zs HZ.out HR.out (by omega) 9 (by omega)
  obtain ⟨a10, hB0, hB1, cA10⟩ := vAt_any W A n c W.heap.size zs HZ.out HR.out (by omega) 10 (by omega)
  have CA : Hid (∀ w', (∀ p : Addr, p.block < W.heap.size → w'.cell? p = W.cell? p) → Calls Tryd.prog 19 #[.slice A n c, .int .i64 9] w' fun e w'' => e = .returned (.int .i64 a9) ∧ w'' = w') := Lib.hid cA9
  have CB : Hid (∀ w', (∀ p : Addr, p.block < W.heap.size → w'.cell? p = W.cell? p) → Calls Tryd.prog 19 #[.slice A n c, .int .i64 10] w' fun e w'' => e = .returned (.int .i64 a10) ∧ w'' = w') := Lib.hid cA10
  clear cA9 cA10
  go_enter Tryd.func3, Tryd.ntmps3
  go_wp2_with fail
  refine (big_no A n c _ hn').mono ?_
  rintro e w1 ⟨rfl, rfl⟩
  go_wp2_with fail
  refine (drawFmt_any _ A n c zs HZ.out HR.out (by omega)).mono ?_
  rintro e w1 ⟨x, rfl, hx0, hx1, hb1⟩
  obtain ⟨s, ok, r, b, hfs, hs21, hrd, hokb⟩ := fmt_ex x
  have HF := Lib.hid hfs
  have HRD := Lib.hid hrd
  clear hfs hrd
  go_wp2_with fail
  refine (HF.out.1 _ (Fr.tabIs_below hb1 HT.out)).mono ?_
  rintro e w2 ⟨rfl, hb2⟩
  have hb12 := hb1.trans (hb2.mono hb1.size)
  clear hb1 hb2
  go_wp2_with fail
  refine (HF.out.2 _).mono ?_
  rintro e w3 ⟨rfl, hb3⟩
  have hb13 := hb12.trans (hb3.mono hb12.size)
  clear hb12 hb3
  go_wp2_with fail
  refine (drawParse_any _ A n c zs HZ.out ((HR.out.below hb13).more hb13.size) (by omega)).mono ?_
  rintro e w4 ⟨t, rfl, ht25, hb4⟩
  have hb14 := hb13.trans (hb4.mono hb13.size)
  obtain ⟨r2, b2, hrd2⟩ := readIs_ex t
  have HRD2 := Lib.hid hrd2
  clear hb13 hb4 hrd2
  go_wp2_with fail
  refine (implParseInt t r2 b2 HRD2.out _ (by omega) (Fr.tabIs_below hb14 HT.out) (errs_below hb14 HE.out)).mono ?_
  rintro e w5 ⟨rfl, hb5⟩
  have hb15 := hb14.trans (hb5.mono hb14.size)
  clear hb14 hb5
  go_wp2_with fail
  refine (specParseInt t r2 b2 HRD2.out _ (by omega)).mono ?_
  rintro e w6 ⟨rfl, hb6⟩
  have hb16 := hb15.trans (hb6.mono hb15.size)
  clear hb15 hb6
  go_wp2_with fail
  refine (drawApp_any _ A n c zs HZ.out ((HR.out.below hb16).more hb16.size) (by omega)).mono ?_
  rintro e w7 ⟨u, rfl, hu, hb7⟩
  have hb17 := hb16.trans (hb7.mono hb16.size)
  obtain ⟨y, sealed, hap, hys⟩ := app_ex u (by unfold maxLen; omega)
  have HAP := Lib.hid hap
  clear hb16 hb7 hap
  go_wp2_with fail
  refine (HAP.out.1 _ (Fr.tabIs_below hb17 HT.out)).mono ?_
  rintro e w8 ⟨rfl, hb8⟩
  have hb18 := hb17.trans (hb8.mono hb17.size)
  clear hb17 hb8
  go_wp2_with fail
  refine (HAP.out.2 _).mono ?_
  rintro e w9 ⟨rfl, hb9⟩
  have hb19 := hb18.trans (hb9.mono hb18.size)
  clear hb18 hb9
  go_wp2_with fail
  refine (implParseInt s r b HRD.out _ (by omega) (Fr.tabIs_below hb19 HT.out) (errs_below hb19 HE.out)).mono ?_
  rintro e wa ⟨rfl, hba⟩
  have hb1a := hb19.trans (hba.mono hb19.size)
  clear hb19 hba
  have HYS := Lib.hid hys
  clear hys
  have HB := Lib.hid hb1a
  rcases HYS.out with ⟨rfl, rfl, hfit⟩ | ⟨rfl, rfl⟩
  rotate_left
  · rcases hokb with ⟨rfl, rfl, rfl⟩ | rfl
    all_goals
      go_wp2_with fail
      go_ret
      exact ⟨rfl, hb1a⟩
  clear hb1a HYS
  have HFIT := Lib.hid hfit
  have hsz := sealB_size u
  have hs4 := hfit.2.2
  clear hfit
  obtain ⟨Y, hY⟩ : ∃ Y, SealB u = Y := ⟨_, rfl⟩
  have HY := Lib.hid hY
  rw [hY] at HAP hsz hs4 ⊢
  clear hY
  obtain ⟨q, hq, hqe⟩ : ∃ q : Nat, q < Y.size ∧ a9 % (Y.size : Int) = q := ⟨(a9 % Y.size).toNat, by have := Int.emod_lt_of_pos a9 (show (0 : Int) < Y.size by omega); have := Int.emod_nonneg a9 (show (Y.size : Int) ≠ 0 by omega); omega, by have := Int.emod_nonneg a9 (show (Y.size : Int) ≠ 0 by omega); omega⟩
  have hqt : a9.tmod (Y.size : Int) = q := by rw [Int.tmod_eq_emod_of_nonneg hA0]; exact hqe
  obtain ⟨d, hd0, hd1, hde⟩ : ∃ d : Nat, 1 ≤ d ∧ d ≤ 255 ∧ 1 + a10 % 255 = (d : Int) := ⟨(1 + a10 % 255).toNat, by omega, by omega, by omega⟩
  have hdt : a10.tmod 255 = a10 % 255 := by rw [Int.tmod_eq_emod_of_nonneg hB0]
  have hdw : IntKind.i64.wrap (a10 % 255) = a10 % 255 := by rw [IntKind.wrap_i64]; omega
  have hd64 : IntKind.i64.wrap (d : Int) = (d : Int) := by rw [IntKind.wrap_i64]; omega
  have hd8 : IntKind.u8.wrap (d : Int) = (d : Int) := by simp [IntKind.wrap, IntKind.bits, IntKind.signed]; omega
  have hqlt : (q : Int) < (Y.size : Int) := by omega
  have KEY : ∀ wa, Below W.heap.size W wa → True := fun _ _ => trivial
  rcases hokb with ⟨rfl, rfl, rfl⟩ | rfl
  · go_wp2_with fail
    refine (implVer_yes Y _ m (by rw [← HY.out]; exact sealed_seal u HFIT.out) ((HB.out.cell (p := ⟨2, 0, none⟩) hlt).trans HM.out) (Fr.tabIs_below HB.out HT.out)).mono ?_
    rintro e wb ⟨rfl, hbb⟩
    have hb1b := HB.out.trans (hbb.mono HB.out.size)
    have hfst : Fst Y 35 = u := by rw [← HY.out]; exact fst_seal u HFIT.out.2.1
    rw [hfst]
    obtain ⟨cap, cells, sz, hcv, hcz, hcells⟩ := conv_bytes wb Y
    obtain ⟨mt, hmt⟩ : ∃ mt, (sz, sz + 1) = mt := ⟨_, rfl⟩
    rw [hmt] at hcv
    have hcell : (wb.drew.alloc (.cells cells 5 mt)).heap[wb.heap.size]? = some (.cells cells 5 mt) := heap_alloc_new wb.drew _
    obtain ⟨wc, hwc⟩ : ∃ wc, wb.drew.alloc (.cells cells 5 mt) = wc := ⟨_, rfl⟩
    have hbc : Below W.heap.size W wc := by rw [← hwc]; exact Below.alloc hb1b.drew hb1b.size _
    rw [hwc] at hcv hcell
    have hfz : wc.drew.frozen? ⟨wb.heap.size, q, none⟩ = false := by
      show wc.frozen? ⟨wb.heap.size, q, none⟩ = false
      unfold World.frozen?
      rw [hcell, ← hmt]
      simp
      omega
    have CX : Hid (∀ j (h : j < Y.size), wc.drew.cell? ⟨wb.heap.size, j, none⟩ = some (.int .u8 (Y[j].toNat : Int))) := Lib.hid fun j h => by
      have := hcells j h
      show wc.cell? ⟨wb.heap.size, j, none⟩ = _
      simp [World.cell?, hcell, this]
    have hg : W.heap.size ≤ wb.heap.size := hb1b.size
    obtain ⟨g, hgd⟩ : ∃ g, wb.heap.size = g := ⟨_, rfl⟩
    rw [hgd] at hcv CX hg hfz
    clear hcell hcells hwc hbb hb1b HB hgd hmt hcz
    obtain ⟨v, hvne, hxor⟩ := flip_byte Y[q] d hd0 hd1
    have CV := Lib.hid hvne
    clear hvne
    go_wp2_with (go_at_call 19; ((with_reducible refine (CA.out _ (fun p hp => hbc.cell hp)).mono ?_); rintro e w1 ⟨rfl, rfl⟩))
    have cB := CB.out w1.drew (fun p hp => hbc.cell hp)
    have hload := CX.out q hq
    have hcs := conv_set (v := v) (cap := cap) hq CX.out
    have HCS := Lib.hid hcs
    obtain ⟨Z, hZ⟩ : ∃ Z : ByteArray, ⟨(Y.data.toList.set q v).toArray⟩ = Z := ⟨_, rfl⟩
    have hZs : Z.size = Y.size := by rw [← hZ]; show (Y.data.toList.set q v).toArray.size = _; simp
    have hnot : ¬ Sealed Z := by
      rw [← hZ]
      have := HY.out
      subst this
      exact flip_not u HFIT.out.2.1 q hq v CV.out
    have HN := Lib.hid hnot
    rw [hZ] at hcs
    have hcs2 : Hid ((convert 22 9 (.slice (some ⟨g, 0, none⟩) Y.size cap)).run Tryd.prog (w1.setCell ⟨g, q, none⟩ (.int .u8 (v.toNat : Int))).drew = .ok (.string Z) (w1.setCell ⟨g, q, none⟩ (.int .u8 (v.toNat : Int))).drew) := Lib.hid hcs
    clear hcv CX hqt hfst hnot hcs HCS
    clear HAP HRD HRD2 HF HR HZ HE HFIT CV hZ
    obtain ⟨yq, hyq⟩ : ∃ yq : Int, (Y[q].toNat : Int) = yq := ⟨_, rfl⟩
    rw [hyq] at hload hxor
    clear hyq HY
    go_region_with (go_at_call 19; ((with_reducible refine cB.mono ?_); rintro e w2 ⟨rfl, rfl⟩))
    all_goals
      have hb3 : Below W.heap.size W (w1.setCell ⟨g, q, none⟩ (.int .u8 (v.toNat : Int))).drew := (hbc.setCell (p := ⟨g, q, none⟩) hg _).drew
      obtain ⟨w3, hw3⟩ : ∃ w3, (w1.setCell ⟨g, q, none⟩ (.int .u8 (v.toNat : Int))).drew = w3 := ⟨_, rfl⟩
      have hcs3 := hcs2.out
      rw [hw3] at hb3 hcs3 ⊢
      clear hcs2 hw3 hload hfz hxor cB
      go_wp2_with fail
      refine (implVer_no Z _ m (by omega) HN.out ((hb3.cell (p := ⟨2, 0, none⟩) hlt).trans HM.out) (Fr.tabIs_below hb3 HT.out)).mono ?_
      rintro e w4 ⟨rfl, hb4⟩
      have hb5 := hb3.trans (hb4.mono hb3.size)
      clear hb4
      go_wp2_with fail
      go_ret
      exact ⟨rfl, hb5⟩
  · go_wp2_with fail
    refine (implVer_yes Y _ m (by rw [← HY.out]; exact sealed_seal u HFIT.out) ((HB.out.cell (p := ⟨2, 0, none⟩) hlt).trans HM.out) (Fr.tabIs_below HB.out HT.out)).mono ?_
    rintro e wb ⟨rfl, hbb⟩
    have hb1b := HB.out.trans (hbb.mono HB.out.size)
    have hfst : Fst Y 35 = u := by rw [← HY.out]; exact fst_seal u HFIT.out.2.1
    rw [hfst]
    obtain ⟨cap, cells, sz, hcv, hcz, hcells⟩ := conv_bytes wb Y
    obtain ⟨mt, hmt⟩ : ∃ mt, (sz, sz + 1) = mt := ⟨_, rfl⟩
    rw [hmt] at hcv
    have hcell : (wb.drew.alloc (.cells cells 5 mt)).heap[wb.heap.size]? = some (.cells cells 5 mt) := heap_alloc_new wb.drew _
    obtain ⟨wc, hwc⟩ : ∃ wc, wb.drew.alloc (.cells cells 5 mt) = wc := ⟨_, rfl⟩
    have hbc : Below W.heap.size W wc := by rw [← hwc]; exact Below.alloc hb1b.drew hb1b.size _
    rw [hwc] at hcv hcell
    have hfz : wc.drew.frozen? ⟨wb.heap.size, q, none⟩ = false := by
      show wc.frozen? ⟨wb.heap.size, q, none⟩ = false
      unfold World.frozen?
      rw [hcell, ← hmt]
      simp
      omega
    have CX : Hid (∀ j (h : j < Y.size), wc.drew.cell? ⟨wb.heap.size, j, none⟩ = some (.int .u8 (Y[j].toNat : Int))) := Lib.hid fun j h => by
      have := hcells j h
      show wc.cell? ⟨wb.heap.size, j, none⟩ = _
      simp [World.cell?, hcell, this]
    have hg : W.heap.size ≤ wb.heap.size := hb1b.size
    obtain ⟨g, hgd⟩ : ∃ g, wb.heap.size = g := ⟨_, rfl⟩
    rw [hgd] at hcv CX hg hfz
    clear hcell hcells hwc hbb hb1b HB hgd hmt hcz
    obtain ⟨v, hvne, hxor⟩ := flip_byte Y[q] d hd0 hd1
    have CV := Lib.hid hvne
    clear hvne
    go_wp2_with (go_at_call 19; ((with_reducible refine (CA.out _ (fun p hp => hbc.cell hp)).mono ?_); rintro e w1 ⟨rfl, rfl⟩))
    have cB := CB.out w1.drew (fun p hp => hbc.cell hp)
    have hload := CX.out q hq
    have hcs := conv_set (v := v) (cap := cap) hq CX.out
    have HCS := Lib.hid hcs
    obtain ⟨Z, hZ⟩ : ∃ Z : ByteArray, ⟨(Y.data.toList.set q v).toArray⟩ = Z := ⟨_, rfl⟩
    have hZs : Z.size = Y.size := by rw [← hZ]; show (Y.data.toList.set q v).toArray.size = _; simp
    have hnot : ¬ Sealed Z := by
      rw [← hZ]
      have := HY.out
      subst this
      exact flip_not u HFIT.out.2.1 q hq v CV.out
    have HN := Lib.hid hnot
    rw [hZ] at hcs
    have hcs2 : Hid ((convert 22 9 (.slice (some ⟨g, 0, none⟩) Y.size cap)).run Tryd.prog (w1.setCell ⟨g, q, none⟩ (.int .u8 (v.toNat : Int))).drew = .ok (.string Z) (w1.setCell ⟨g, q, none⟩ (.int .u8 (v.toNat : Int))).drew) := Lib.hid hcs
    clear hcv CX hqt hfst hnot hcs HCS
    clear HAP HRD HRD2 HF HR HZ HE HFIT CV hZ
    obtain ⟨yq, hyq⟩ : ∃ yq : Int, (Y[q].toNat : Int) = yq := ⟨_, rfl⟩
    rw [hyq] at hload hxor
    clear hyq HY
    go_region_with (go_at_call 19; ((with_reducible refine cB.mono ?_); rintro e w2 ⟨rfl, rfl⟩))
    all_goals
      have hb3 : Below W.heap.size W (w1.setCell ⟨g, q, none⟩ (.int .u8 (v.toNat : Int))).drew := (hbc.setCell (p := ⟨g, q, none⟩) hg _).drew
      obtain ⟨w3, hw3⟩ : ∃ w3, (w1.setCell ⟨g, q, none⟩ (.int .u8 (v.toNat : Int))).drew = w3 := ⟨_, rfl⟩
      have hcs3 := hcs2.out
      rw [hw3] at hb3 hcs3 ⊢
      clear hcs2 hw3 hload hfz hxor cB
      go_wp2_with fail
      refine (implVer_no Z _ m (by omega) HN.out ((hb3.cell (p := ⟨2, 0, none⟩) hlt).trans HM.out) (Fr.tabIs_below hb3 HT.out)).mono ?_
      rintro e w4 ⟨rfl, hb4⟩
      have hb5 := hb3.trans (hb4.mono hb3.size)
      clear hb4
      go_wp2_with fail
      go_ret
      exact ⟨rfl, hb5⟩

/-- the law's Go text returns true, and nothing that was there has turned -/
theorem walk {H : Type} {enc : TypeId × Value → H} (W : World) (base : Nat) (v0 : Value) (d0 : DataW H) (p0 : List MemPlace) (q0 : Value.okWide Tryd.prog W .any base 22 v0) (h0 : DataW.Trod enc Tryd.prog W 0 (fun _ => true) true 22 v0 d0 p0) (l0 : ∀ x ∈ p0, x.block < W.heap.size) (hL : laidMetH Tryd.prog Rows.fnStringsRow.laid W) (hsh : W.ShapedOpen Tryd.prog) :
    Calls Tryd.prog 3 #[v0] W fun e W' => e = .returned (.bool true) ∧ Below W.heap.size W W' := by
  obtain ⟨m, hm0⟩ := Tryd.laysM145.s1_3 W hsh
  have hm : W.cell? ⟨2, 0, none⟩ = some (.int .i64 m) := hm0
  obtain ⟨A, n, c, zs, rfl, hc, hcm, hl, hwf, hr⟩ := open_nums Tryd.underlying22 Tryd.underlying5 cellsU8 q0 h0
  unfold maxLen at hcm
  exact walk0 W A n c zs m (by omega) (fun z hz => bounds_u8 (hwf z hz)) hr (tab hL) (errs hL) hm
noncomputable def laidWorld (os : Os) : World := { World.holding Tryd.prog os ⟨#[], #[], []⟩ with heap := ((((((((World.holding Tryd.prog os ⟨#[], #[], []⟩).heap).modify 4 (Fr.lay #[.int .u8 0, .int .u8 1, .int .u8 28, .int .u8 2, .int .u8 29, .int .u8 14, .int .u8 24, .int .u8 3, .int .u8 30, .int .u8 22, .int .u8 20, .int .u8 15, .int .u8 25, .int .u8 17, .int .u8 4, .int .u8 8, .int .u8 31, .int .u8 27, .int .u8 13, .int .u8 23, .int .u8 21, .int .u8 19, .int .u8 16, .int .u8 7, .int .u8 26, .int .u8 12, .int .u8 18, .int .u8 6, .int .u8 11, .int .u8 5, .int .u8 10, .int .u8 9])).modify 5 (Fr.lay #[.int .u8 0, .int .u8 1, .int .u8 56, .int .u8 2, .int .u8 57, .int .u8 49, .int .u8 28, .int .u8 3, .int .u8 61, .int .u8 58, .int .u8 42, .int .u8 50, .int .u8 38, .int .u8 29, .int .u8 17, .int .u8 4, .int .u8 62, .int .u8 47, .int .u8 59, .int .u8 36, .int .u8 45, .int .u8 43, .int .u8 51, .int .u8 22, .int .u8 53, .int .u8 39, .int .u8 33, .int .u8 30, .int .u8 24, .int .u8 18, .int .u8 12, .int .u8 5, .int .u8 63, .int .u8 55, .int .u8 48, .int .u8 27, .int .u8 60, .int .u8 41, .int .u8 37, .int .u8 16, .int .u8 46, .int .u8 35, .int .u8 44, .int .u8 21, .int .u8 52, .int .u8 32, .int .u8 23, .int .u8 11, .int .u8 54, .int .u8 26, .int .u8 40, .int .u8 15, .int .u8 34, .int .u8 20, .int .u8 31, .int .u8 10, .int .u8 25, .int .u8 14, .int .u8 19, .int .u8 9, .int .u8 13, .int .u8 8, .int .u8 7, .int .u8 6])).modify 3 (Fr.lay #[.int .u64 1, .int .u64 10, .int .u64 100, .int .u64 1000, .int .u64 10000, .int .u64 100000, .int .u64 1000000, .int .u64 10000000, .int .u64 100000000, .int .u64 1000000000, .int .u64 10000000000, .int .u64 100000000000, .int .u64 1000000000000, .int .u64 10000000000000, .int .u64 100000000000000, .int .u64 1000000000000000, .int .u64 10000000000000000, .int .u64 100000000000000000, .int .u64 1000000000000000000, .int .u64 10000000000000000000])).modify 1 (Fr.lay #[.iface 86 (.pointer (some ⟨(World.holding Tryd.prog os ⟨#[], #[], []⟩).heap.size + 0, 0, none⟩))])).modify 0 (Fr.lay #[.iface 86 (.pointer (some ⟨(World.holding Tryd.prog os ⟨#[], #[], []⟩).heap.size + 1, 0, none⟩))])).push (.cells #[.string ⟨#[118, 97, 108, 117, 101, 32, 111, 117, 116, 32, 111, 102, 32, 114, 97, 110, 103, 101]⟩] 88)).push (.cells #[.string ⟨#[105, 110, 118, 97, 108, 105, 100, 32, 115, 121, 110, 116, 97, 120]⟩] 88) }
theorem laid_met (os : Os) : laidMetH Tryd.prog Rows.fnStringsRow.laid ((laidWorld os).forCall (fun _ _ => 0) ⟨#[], #[(.slice none 0 0 : Value)], []⟩).memory := laidMet_of_run' 8 (by kernel_rfl) (by kernel_rfl)
theorem reads (os : Os) {H : Type} (enc : TypeId × Value → H) : (DataW.whole enc Tryd.prog ((laidWorld os).forCall (fun _ _ => 0) ⟨#[], #[(.slice none 0 0 : Value)], []⟩).memory Tryd.f3.params.toList Rows.fnStringsSpec.vars false #[(.slice none 0 0 : Value)].toList 8).isSome = true := by kernel_rfl
set_option maxRecDepth 100000 in
theorem lifted (os : Os) (started : os.Started) (H : Type) (enc : TypeId × Value → H) (F : Stop.Interp) :
    ReturnsInHanded {} Tryd.checked os 3 .any ((OpenSpec.ofChange Rows.fnStringsSpec).preRow enc Tryd.prog Tryd.f3 Rows.fnStringsRow.domain false Rows.fnStringsRow.laid) (((OpenSpec.ofChange Rows.fnStringsSpec).at F).post enc Tryd.prog Tryd.f3 false true false false) := by
  obtain ⟨x, hx⟩ := Option.isSome_iff_exists.1 (reads os enc)
  refine returnsInHanded_of_row (C := Tryd.checked) (s := OpenSpec.ofChange Rows.fnStringsSpec) own started (by kernel_rfl) Tryd.func3
    (witness_row_at (enc := enc) (C := Tryd.checked) false (laidWorld os) #[(.slice none 0 0 : Value)] rfl (by kernel_rfl) (by kernel_rfl) (by kernel_rfl)
      (OpenSpec.preRow_of_cond 8 hx (by rfl) (fun k hk => by cases hk) (by kernel_rfl) (laid_met os))) ?_
  intro W base args ds gs before hval0 hW _ hcond hsz hL hsh _
  have hval : ∀ (j : Nat) t v, Tryd.f3.params[j]? = some t → args[j]? = some v → Value.okWide Tryd.prog W .any base t v := hval0
  have hW' := hW
  obtain ⟨p, q, hA0, hV, rfl, hfz, hnd⟩ := hW
  have hA : DataW.TrodAll enc Tryd.prog W 0 (fun _ => true) true Tryd.f3.params.toList args.toList ds p := hA0
  rw [Tryd.params3] at hA hval
  obtain ⟨v0, vs0, d0, ds0, p0, q0, hargs, rfl, rfl, h0, r0⟩ := trodAll_cons hA
  obtain ⟨rfl, rfl, rfl⟩ := trodAll_nil r0
  obtain rfl : args = #[v0] := by cases args; simp_all
  obtain ⟨rfl, rfl⟩ := trodVars_none hV
  clear hA0 hval0
  simp only [List.append_nil] at hW'
  refine (walk (enc := enc) W base v0 d0 p0 (hval 0 22 v0 rfl rfl) h0 (fun x hx => hW'.lt x (by simp [hx])) hL hsh).mono fun e W' ⟨he, hb⟩ => ⟨_, he, Fr.post_true laidOut (by kernel_rfl) (by kernel_rfl) Tryd.underlying4 rfl hW' (fun xs hx => by match xs, hx with | [x0], _ => rfl) hb⟩
theorem said : Rows.FnStringsSaid :=
  OpenClaim.holds_of_cond 3 Tryd.f3 rfl rfl rfl rfl rfl rfl rfl ⟨rfl, rfl, rfl, rfl, rfl⟩ rfl rfl rfl rfl rfl (by kernel_rfl) Tryd.func3 (by kernel_rfl)
    (of_decide_eq_true (by kernel_rfl)) (by unfold Func.isWrapper; first | (rw [if_pos (by decide +kernel)]; kernel_rfl) | (rw [if_neg (by decide +kernel)]; exact ⟨rfl, rfl⟩))
    (fun os started H enc _ F => by rw [OpenClaim.pre_eq_preRow]; exact lifted os started H enc F)
theorem plain (f : FuncId) (fn : Func) (hf : Tryd.pinned.checked.prog.funcNamed "loop.example/g00843/laws.FnStrings" = some f) (hfn : Tryd.pinned.checked.prog.funcs[f]? = some fn) :
    true = Tryd.pinned.checked.prog.looks [] ∧ ∀ (j : Nat) t, fn.params[j]? = some t → Tryd.pinned.checked.prog.wantsStandIn t = false := by
  obtain rfl : f = 3 := Option.some.inj ((show Tryd.prog.funcNamed "loop.example/g00843/laws.FnStrings" = some 3 by kernel_rfl).symm.trans hf) |>.symm
  obtain rfl : fn = Tryd.f3 := (Option.some.inj (Tryd.func3.symm.trans hfn)).symm
  refine ⟨by kernel_rfl, fun j t ht => ?_⟩
  have hall : Tryd.f3.params.toList.all (fun t => !Tryd.prog.wantsStandIn t) = true := by kernel_rfl
  have := List.all_eq_true.1 hall t (by simpa using Array.mem_of_getElem? ht)
  show Tryd.prog.wantsStandIn t = false
  simpa using this
theorem card : Rows.FnStringsCardSaid :=
  Claim7.holds_tied_plain_at .later [] _ _ _ _ said (fun _ h => by cases h) (by kernel_rfl) (fun _ h => by cases h) fnStrings_row_tie rfl ⟨rfl, rfl⟩ (by kernel_rfl) rfl plain (by kernel_rfl)
#print axioms card
end Go.Proofs.YtiieccpfnffcpaaDoor.fnStrings
