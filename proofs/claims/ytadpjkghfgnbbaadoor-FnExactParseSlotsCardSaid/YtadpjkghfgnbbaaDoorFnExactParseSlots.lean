/- For every argument the law FnExactParseSlots returns true; the listed variables read as the program's text lays them (the card ties them). -/
import Derived.Test.YtadpjkghfgnbbaaDoorCards
import Derived.Test.YtadpjkghfgnbbaaDoorTie
import Derived.Test.YtadpjkghfgnbbaaDoorFrame
import Derived.Test.YtadpjkghfgnbbaaDoorSltM
import Derived.Test.YtadpjkghfgnbbaaDoorSltH
import Derived.Test.YtadpjkghfgnbbaaDoorSltP
import Derived.Deep.RegionHeld3
import Derived.Deep.Cut
import Derived.Deep.CutRange
import Derived.Test.YtadpjkghfgnbbaaDoorPsQ
import Derived.Test.YtadpjkghfgnbbaaDoorPsI
import Derived.Test.YtadpjkghfgnbbaaDoorSpI
import Derived.Test.YtadpjkghfgnbbaaDoorSlA
import Derived.Test.YtadpjkghfgnbbaaDoorSlQ
import Derived.Test.YtadpjkghfgnbbaaDoorRd1
import Derived.Test.YtadpjkghfgnbbaaDoorSlTy
import Derived.Test.YtadpjkghfgnbbaaDoorSlS
import Derived.Test.YtadpjkghfgnbbaaDoorRow
import Derived.BigQuiet
import Derived.Deep.QuietTactic
namespace Go.Proofs.YtadpjkghfgnbbaaDoor.L8
open Go Go.RowKit Go.Proofs.YtadpjkghfgnbbaaDoor.Mem Go.Proofs.YtadpjkghfgnbbaaDoor.Own Go.Proofs.YtadpjkghfgnbbaaDoor.L1
/-- ParseSlots' answer -/
def PsE (s : ByteArray) (w : World) (e : Ending) (w' : World) : Prop := ∃ l b, PsIs s l b ∧ SlPost w (l, b) e w'
set_option maxRecDepth 100000 in
set_option maxHeartbeats 3200000 in
theorem implPs_ex (s : ByteArray) (hs : s.size ≤ 1048576) (w : World) (hm : MxIs w) (ht : TbIs w) (he : ErrsIs w) :
    Calls Tryd.prog 11 #[.string s] w (PsE s w) := by
  obtain ⟨ps, q, hsp⟩ := splitIs_ex s ⟨#[32]⟩
  have HSP := Lib.hid hsp
  have HC : Hid (∀ w, Calls Tryd.prog 23 #[.string s, .string ⟨#[32]⟩] w (Gives ps q w)) := Lib.hid (fun w => implSplit_any s ⟨#[32]⟩ ps q hsp hs (by decide) w)
  have HM := Lib.hid hm
  have HT := Lib.hid ht
  have HE := Lib.hid he
  clear hsp hm ht he
  have hpl := splitIs_len HSP.out
  go_enter Tryd.func11, Tryd.ntmps11
  go_wp2_with fail
  refine (HC.out _).mono ?_
  rintro e w1 ⟨A, c, rfl, hown, hb⟩
  have HB1 := Lib.hid hb
  have HR := Lib.hid (Reads.of_own hown)
  have HM1 := Lib.hid (mx_below hb HM.out)
  have HT1 := Lib.hid (tb_below hb HT.out)
  have HE1 := Lib.hid (errs_below hb HE.out)
  have hgw : w.heap.size ≤ w1.heap.size := hb.size
  clear hown hb HM HT HE HC
  cases q with
  | false =>
    have HZ : Hid (PsIs s [] false) := Lib.hid (by
      rcases HSP.out with ⟨h, _⟩ | ⟨_, _, h | h⟩
      · cases h
      · exact ps_long h
      · exact absurd rfl h)
    go_wp2_with fail
    go_ret2
    exact ⟨_, _, HZ.out, slPost_no HB1.out⟩
  | true =>
    have hpe : ps = Parts s 32 ∧ s.size ≤ 4000 := by
      rcases HSP.out with ⟨_, h1, c, h2, h3⟩ | ⟨h, _⟩
      · injection h2 with h2
        injection h2 with h2
        injection h2 with h2 _
        exact ⟨by rw [h3, h2], h1⟩
      · cases h
    obtain ⟨hpe, hs4⟩ := hpe
    by_cases h4 : ps.length = 4
    · have HPE := Lib.hid hpe
      have HPS : Hid (∀ x ∈ ps, x.size ≤ 4000) := Lib.hid (fun x hx => by rw [hpe] at hx; have := parts_size s 32 x hx; omega)
      rw [h4] at HR
      rw [h4]
      clear HSP hpe hpl
      obtain ⟨wc, hwc⟩ : ∃ wc, w1.alloc (.cells #[.int .i64 0, .int .i64 0, .int .i64 0, .int .i64 0, .int .i64 0, .int .i64 0, .int .i64 0, .int .i64 0, .int .i64 0, .int .i64 0, .int .i64 0, .int .i64 0] 51) = wc := ⟨_, rfl⟩
      have HO0 : Hid (wc.ownsRow w.heap.size 51 3 (.slice (some ⟨w1.heap.size, 0, none⟩) 4 4) 4 (FL [nul, nul, nul, nul])) := Lib.hid (own_arr (by rw [← hwc]; exact Blk.new _ _ _) rfl hgw)
      have HB0 : Hid (Below w1.heap.size w1 wc) := Lib.hid (by rw [← hwc]; exact below_more (Below.refl _ _) _)
      have HWC := Lib.hid hwc
      clear hwc
      go_upto_region 5 with fail
      rw [HWC.out]
      clear HWC
      obtain ⟨g, hg⟩ : ∃ g, w1.heap.size = g := ⟨_, rfl⟩
      have hgg : w1.heap.size ≤ g := by omega
      rw [hg] at HO0
      rw [hg]
      clear hg
      go_wp2_with fail
      go_loopw [23] (fun i wr => ∃ (k : Nat) (ys : List Slt), i = .int .i64 k ∧ k ≤ 4 ∧ Hid (ys.length = 4) ∧ Hid (∀ (j : Nat) (p : ByteArray) (x : Slt), j < k → ps[j]? = some p → ys[j]? = some x → PwIs p x true) ∧ Hid (wr.ownsRow w.heap.size 51 3 (.slice (some ⟨g, 0, none⟩) 4 4) 4 (FL ys)) ∧ Hid (Below w1.heap.size w1 wr)) (fun i _ => 4 - (intOf i).toNat)
      case atStart => exact ⟨0, _, rfl, Nat.zero_le _, Lib.hid rfl, Lib.hid (fun j p x h => absurd h (by omega)), HO0, HB0⟩
      case round =>
        obtain ⟨k, ys, rfl, hk, HY, HW, HO, HB⟩ := hrel
        by_cases hlt : k < 4
        · obtain ⟨b1, o1, x, rfl, _, hx, c0⟩ := (HR.out.below HB.out).str_at hlt
          have HX := Lib.hid hx
          have hxs : x.size ≤ 1000000 := by have := HPS.out x (List.mem_of_getElem? hx); omega
          have HXS := Lib.hid hxs
          clear hx hxs
          go_wp2_with fail
          refine (parseSlot_any x HXS.out _ (mx_below HB.out HM1.out) (tb_below HB.out HT1.out) (errs_below HB.out HE1.out)).mono ?_
          rintro e w3 ⟨p0, p1, p2, b, hpw, rfl, hb3⟩
          have HPW := Lib.hid hpw
          have HO3 := Lib.hid (own_below HO.out hb3)
          have HB3 := Lib.hid (below_then HB.out hb3)
          have hkz : (k : Int) < 4 := by omega
          have hfl : (FL ys).length = 12 := by rw [FL_len, HY.out]; rfl
          have HP := Lib.hid (slt_put HO3.out (k := k) (by rw [HY.out]; exact hlt) ⟨p0, p1, p2⟩)
          have HW3 := Lib.hid (below_set (below_set (below_set HB3.out hgg (j := k * 3) (.int .i64 p0)) hgg (j := k * 3 + 1) (.int .i64 p1)) hgg (j := k * 3 + 2) (.int .i64 p2))
          have f0 := HO3.out.frozenAt (k * 3)
          have f1 := HO3.out.frozenAt (k * 3 + 1)
          have f2 := HO3.out.frozenAt (k * 3 + 2)
          obtain ⟨y0, e0⟩ : ∃ z, w3.cell? ⟨g, k * 3, none⟩ = some z := ⟨_, (HO3.out.cellAt (k * 3) (by omega)).trans (List.getElem?_eq_getElem (by omega))⟩
          obtain ⟨y1, e1⟩ : ∃ z, w3.cell? ⟨g, k * 3 + 1, none⟩ = some z := ⟨_, (HO3.out.cellAt (k * 3 + 1) (by omega)).trans (List.getElem?_eq_getElem (by omega))⟩
          obtain ⟨y2, e2⟩ : ∃ z, w3.cell? ⟨g, k * 3 + 2, none⟩ = some z := ⟨_, (HO3.out.cellAt (k * 3 + 2) (by omega)).trans (List.getElem?_eq_getElem (by omega))⟩
          clear hpw hb3 HO HB HO3 HB3 hfl c0
          cases b with
          | false =>
            have HZ : Hid (PsIs s [] false) := Lib.hid (ps_word (by rw [← HPE.out]; exact HX.out) HPW.out)
            clear HP
            go_wp2_with fail
            go_ret2
            exact ⟨_, _, HZ.out, slPost_no (below_then HB1.out HW3.out)⟩
          | true =>
            have HY2 : Hid ((ys.set k ⟨p0, p1, p2⟩).length = 4) := Lib.hid (by rw [List.length_set]; exact HY.out)
            have HW2 : Hid (∀ (j : Nat) (p : ByteArray) (x : Slt), j < k + 1 → ps[j]? = some p → (ys.set k ⟨p0, p1, p2⟩)[j]? = some x → PwIs p x true) := Lib.hid (fun j p x' hj hp hx' => by
              by_cases hjk : j = k
              · subst hjk
                rw [List.getElem?_set_self (by rw [HY.out]; exact hlt)] at hx'
                rw [HX.out] at hp
                injection hp with hp
                injection hx' with hx'
                rw [← hp, ← hx']
                exact HPW.out
              · rw [List.getElem?_set_ne (by omega)] at hx'
                exact HW.out j p x' (by omega) hp hx')
            have HP2 := Lib.hid HP.out.1
            clear HP HY HW HPW
            go_wp2_with fail
            go_roundw
            case rel => exact ⟨k + 1, _, by go_num, by omega, HY2, HW2, HP2, HW3⟩
            case measure => simp [intOf]; omega
        · have hkn : k = 4 := by omega
          subst hkn
          obtain ⟨b, hb⟩ : ∃ b, okB ys = b := ⟨_, rfl⟩
          have HZ := Lib.hid (ps_all (s := s) HY.out (by rw [← HPE.out]; exact h4) (fun j p x hp hx => HW.out j p x (by have := (List.getElem?_eq_some_iff.1 hx).1; have := HY.out; omega) (by rw [HPE.out]; exact hp) hx) hb)
          have HA : Hid (Calls Tryd.prog 17 #[.slice (some ⟨g, 0, none⟩) 4 4] wr fun e w' => e = .returned (.bool b) ∧ Below wr.heap.size wr w') := Lib.hid (implAre_any (some ⟨g, 0, none⟩) 4 4 _ ys wr (Reads.of_own HO.out) (Nat.le_refl _) (Nat.le_refl _) b hb)
          clear hb hlt
          go_wp2_with fail
          refine HA.out.mono ?_
          rintro e w5 ⟨rfl, hb5⟩
          have HB5 := Lib.hid (below_then HB.out hb5)
          have HO5 := Lib.hid (own_below HO.out hb5)
          clear hb5 HO HB HA
          cases b with
          | false =>
            go_wp2_with fail
            go_ret2
            exact ⟨_, _, HZ.out, slPost_no (below_then HB1.out HB5.out)⟩
          | true =>
            go_wp2_with fail
            go_ret2
            exact ⟨_, _, HZ.out, slPost_4 HY.out HO5.out (below_then HB1.out HB5.out)⟩
    · have HZ : Hid (PsIs s [] false) := Lib.hid (ps_count (by rw [← hpe]; exact h4))
      have t1 : ((ps.length : Int) == 4) = false := by simp; omega
      have t2 : ((ps.length : Int) != 4) = true := by simp only [bne, t1, Bool.not_false]
      clear HSP hpe
      go_wp2_with fail
      go_ret2
      exact ⟨_, _, HZ.out, slPost_no HB1.out⟩
end Go.Proofs.YtadpjkghfgnbbaaDoor.L8

namespace Go.Proofs.YtadpjkghfgnbbaaDoor.L8
open Go Go.RowKit Go.Proofs.YtadpjkghfgnbbaaDoor.Mem Go.Proofs.YtadpjkghfgnbbaaDoor.Own Go.Proofs.YtadpjkghfgnbbaaDoor.L1
theorem num_8 {n : Int} (h0 : 0 ≤ n) (h1 : n ≤ 7) : (NumB n).size = 1 := by
  have key : ∀ i : _root_.Fin 8, (NumB ((i.val : Nat) : Int)).size = 1 := by decide +kernel
  have := key ⟨n.toNat, by omega⟩
  simpa [Int.toNat_of_nonneg h0] using this
theorem num_16 {n : Int} (h0 : 0 ≤ n) (h1 : n ≤ 15) : (NumB n).size ≤ 2 := by
  have key : ∀ i : _root_.Fin 16, (NumB ((i.val : Nat) : Int)).size ≤ 2 := by decide +kernel
  have := key ⟨n.toNat, by omega⟩
  simpa [Int.toNat_of_nonneg h0] using this
theorem tx_size5 {x : Slt} (h : Ok x) : (tx x).size ≤ 5 := by
  have hb := bndT h
  have h1 := num_8 hb.1.1 hb.1.2
  have h2 := num_16 hb.2.1 hb.2.2
  have h3 := mkS_size x.st
  have h4 : col.size = 1 := rfl
  unfold tx
  split
  · decide
  · rw [ByteArray.size_append, ByteArray.size_append, ByteArray.size_append]; omega
theorem txs_40 {xs : List Slt} (h : okB xs = true) : (txs xs).size ≤ 40 := by
  have hl := okB_len h
  have ho : ∀ (j : Nat) (x : Slt), xs[j]? = some x → Ok x := fun j x hx => okB_ok h hx
  match xs, hl with
  | [a, b, c, d], _ =>
    have ha := tx_size5 (ho 0 a rfl)
    have hb := tx_size5 (ho 1 b rfl)
    have hc := tx_size5 (ho 2 c rfl)
    have hd := tx_size5 (ho 3 d rfl)
    have h1 := jb_one ([a, b, c, d].map tx) spc (tx a) rfl
    have h2 := jb_succ ([a, b, c, d].map tx) spc (tx b) 1 (by omega) rfl
    have h3 := jb_succ ([a, b, c, d].map tx) spc (tx c) 2 (by omega) rfl
    have h4 := jb_succ ([a, b, c, d].map tx) spc (tx d) 3 (by omega) rfl
    have hs : spc.size = 1 := rfl
    have he : txs [a, b, c, d] = JB (([a, b, c, d].map tx).take 4) spc := rfl
    rw [he, show (4 : Nat) = 3 + 1 from rfl, h4, show (3 : Nat) = 2 + 1 from rfl, h3, show (2 : Nat) = 1 + 1 from rfl, h2, h1]
    simp only [ByteArray.size_append]
    omega
theorem ps_40 {s : ByteArray} (h : 40 < s.size) : PsIs s [] false :=
  .inr ⟨rfl, rfl, fun xs h1 h2 => by have := txs_40 h1; rw [h2] at this; omega⟩
/-- what the spec reads out of a word -/
def SwIs (p : ByteArray) (x : Slt) : Prop := ∀ y, Ok y → tx y = p → x = y
theorem read_num {s : ByteArray} {r n : Int} {b : Bool} (h : ReadIs s r b) (h0 : 0 ≤ n) (h1 : n ≤ 15) (e : NumB n = s) : r = n := by
  rcases h with ⟨_, _, _, h⟩ | ⟨_, _, h⟩
  · exact numB_inj (h.trans e.symm)
  · exact absurd e (h n (by omega) (by omega))
theorem dash_parts : Parts ⟨#[45]⟩ 58 = [⟨#[45]⟩] := by
  have h := parts_of_jb [⟨#[45]⟩] 58 (by simp) (fun y hy => by rw [List.mem_singleton] at hy; subst hy; decide)
  have e : JB [⟨#[45]⟩] ⟨#[58]⟩ = ⟨#[45]⟩ := jb_one [⟨#[45]⟩] ⟨#[58]⟩ ⟨#[45]⟩ rfl
  rwa [e] at h
theorem mkI_st {st : Int} (h : st = 1 ∨ st = 2 ∨ st = 3) {m : UInt8} (e : (mkS st).data.toList = [m]) : 1 + mkI m = st := by
  rw [mkS_list, List.cons.injEq] at e
  have e := e.1
  rcases h with rfl | rfl | rfl
  · rw [← e]; decide +kernel
  · rw [← e]; decide +kernel
  · rw [← e]; decide +kernel
theorem sw_two {p a b : ByteArray} (hp : Parts p 58 = [a, b]) {m : UInt8} (hm : a.data.toList[0]? = some m) {i q : Int} {c d : Bool} (h1 : ReadIs (a.extract 1 a.size) i c) (h2 : ReadIs b q d) : SwIs p ⟨1 + mkI m, i, q⟩ := by
  intro y hy e
  have hst := st_ofT hy
  have hbd := bndT hy
  by_cases h0 : y.st = 0
  · exfalso
    have h3 : tx y = ⟨#[45]⟩ := by unfold tx; rw [if_pos h0]
    rw [← e, h3, dash_parts] at hp
    cases hp
  · rw [tx_fo h0] at e
    rw [← e, fo_parts] at hp
    simp only [List.cons.injEq, and_true] at hp
    obtain ⟨e1, e2⟩ := hp
    have e3 : a.data.toList = (mkS y.st).data.toList ++ (NumB y.iq).data.toList := by rw [← e1, toList_app]
    obtain ⟨m', hm'⟩ : ∃ m', (mkS y.st).data.toList = [m'] := ⟨_, mkS_list y.st⟩
    rw [e3, hm'] at hm
    simp only [List.cons_append, List.nil_append, List.getElem?_cons_zero, Option.some.injEq] at hm
    subst hm
    have e4 : NumB y.iq = a.extract 1 a.size := by
      apply ByteArray.ext
      rw [← Array.toList_inj, ext_list, List.take_of_length_le (by show a.data.toList.length ≤ a.data.size; rw [Array.length_toList]; exact Nat.le_refl _), e3, hm']
      rfl
    have k1 := mkI_st (by omega) hm'
    have k2 := read_num h1 hbd.1.1 (by omega) e4
    have k3 := read_num h2 hbd.2.1 (by omega) e2
    obtain ⟨y0, y1, y2⟩ := y
    simp only at k1 k2 k3
    rw [k1, k2, k3]
theorem sw_no {p : ByteArray} (h : ∀ a b : ByteArray, Parts p 58 = [a, b] → a.size ≠ 2) : SwIs p nul := by
  intro y hy e
  have hst := st_ofT hy
  have hbd := bndT hy
  by_cases h0 : y.st = 0
  · unfold Ok at hy
    obtain ⟨y0, y1, y2⟩ := y
    simp only at hy h0
    have e1 : y1 = 0 := by omega
    have e2 : y2 = 0 := by omega
    rw [h0, e1, e2]
    rfl
  · exfalso
    rw [tx_fo h0] at e
    refine h _ _ (by rw [← e, fo_parts]) ?_
    rw [ByteArray.size_append, mkS_size, num_8 hbd.1.1 hbd.1.2]
theorem ps_out {s : ByteArray} {xs : List Slt} (hl : xs.length = 4) (h : ∀ (j : Nat) (p : ByteArray) (x : Slt), (Parts s 32)[j]? = some p → xs[j]? = some x → SwIs p x)
    (hno : okB xs = false ∨ txs xs ≠ s) : PsIs s [] false := by
  refine .inr ⟨rfl, rfl, fun ys h1 h2 => ?_⟩
  obtain ⟨e, hy⟩ := txs_pt h1 h2
  have : xs = ys := by
    apply List.ext_getElem?
    intro i
    by_cases hi : i < 4
    · have k1 := List.getElem?_eq_getElem (l := xs) (i := i) (by omega)
      have k2 := List.getElem?_eq_getElem (l := ys) (i := i) (by omega)
      have k3 : (Parts s 32)[i]? = some (tx ys[i]) := by rw [e, List.getElem?_map, k2]; rfl
      rw [k1, k2, h i _ _ k3 k1 _ (okB_ok h1 k2) rfl]
    · rw [List.getElem?_eq_none (by omega), List.getElem?_eq_none (by omega)]
  rw [this] at hno
  rcases hno with h3 | h3
  · rw [h1] at h3; cases h3
  · exact h3 h2
end Go.Proofs.YtadpjkghfgnbbaaDoor.L8

namespace Go.Proofs.YtadpjkghfgnbbaaDoor.L8
open Go Go.RowKit Go.Proofs.YtadpjkghfgnbbaaDoor.Mem Go.Proofs.YtadpjkghfgnbbaaDoor.Own Go.Proofs.YtadpjkghfgnbbaaDoor.L1
/-- slots read so far, and the words -/
structure PsSt (w wr : World) (go c' k : Nat) (ys : List Slt) (A : Option Addr) (c : Nat) (ps : List ByteArray) : Prop where
  own : wr.ownsRow w.heap.size 37 3 (.slice (some ⟨go, 0, none⟩) k c') k (FL ys)
  wds : wr.ownsRow w.heap.size 9 1 (.slice A 4 c) 4 (ps.map Value.string)
  bel : Below w.heap.size w wr
section
variable {w wr w' : World} {go c' k : Nat} {ys : List Slt} {A : Option Addr} {c : Nat} {ps : List ByteArray}
theorem PsSt.below (h : PsSt w wr go c' k ys A c ps) (hb : Below wr.heap.size wr w') : PsSt w w' go c' k ys A c ps :=
  ⟨own_below h.own hb, own_below h.wds hb, below_then h.bel hb⟩
theorem PsSt.alloc (h : PsSt w wr go c' k ys A c ps) (o : Obj) : PsSt w (wr.alloc o) go c' k ys A c ps := h.below (below_more (Below.refl _ _) o)
theorem own_far {b s n g j : Nat} {e : TypeId} {v u : Value} {xs : List Value} (h : wr.ownsRow b e s v n xs) (hne : v.ownBlock ≠ some g) : (wr.setCell ⟨g, j, none⟩ u).ownsRow b e s v n xs := by
  refine own_apart (u := .slice (some ⟨g, 0, none⟩) 0 0) h (grown_set wr g j u) ?_
  intro q hq hv
  have e : some g = some q := hq
  exact hne (by rw [hv, e])
theorem blk_type {b s n g : Nat} {e t : TypeId} {v : Value} {xs : List Value} (h : wr.ownsRow b e s v n xs) {cs : Array Value} (hx : Blk wr g t cs) (he : e ≠ t) : v.ownBlock ≠ some g := by
  intro hv
  obtain ⟨c1, e1⟩ := block_of_own h hv
  unfold Blk at hx
  rw [hx] at e1
  simp only [Option.some.injEq, Obj.cells.injEq] at e1
  exact he e1.2.1.symm
theorem PsSt.set (h : PsSt w wr go c' k ys A c ps) {gx j : Nat} {cs : Array Value} (hx : Blk wr gx 37 cs) (hne : go ≠ gx) (hg : w.heap.size ≤ gx) (v : Value) : PsSt w (wr.setCell ⟨gx, j, none⟩ v) go c' k ys A c ps :=
  ⟨own_far h.own (fun e => hne (by injection e)), own_far h.wds (blk_type h.wds hx (by decide)), below_set h.bel hg v⟩
theorem PsSt.grow {go2 c2 k2 : Nat} {ys2 : List Slt} (h : PsSt w wr go c' k ys A c ps) (hg : wr.grownBy w' (some go)) (ho : w'.ownsRow w.heap.size 37 3 (.slice (some ⟨go2, 0, none⟩) k2 c2) k2 (FL ys2)) : PsSt w w' go2 c2 k2 ys2 A c ps :=
  ⟨ho, own_apart (u := .slice (some ⟨go, 0, none⟩) k c') h.wds hg (apart_types h.own h.wds (by decide)), h.bel.grown hg h.bel.size (fun q hq => (h.own.lt q hq).1)⟩
end
/-- the state as the loop over the marks leaves it -/
def stj (m : UInt8) (j : Nat) : Int := if 0 ≤ mkI m ∧ mkI m + 1 < j then mkI m + 1 else 0
theorem stj_1 (m : UInt8) : stj m 1 = 0 := by unfold stj; rw [if_neg (by omega)]
theorem stj_4 (m : UInt8) : stj m 4 = 1 + mkI m := by
  unfold stj
  rcases mkI_cases m with ⟨h, _⟩ | ⟨h0, h1, _⟩
  · rw [h]; rfl
  · rw [if_pos ⟨h0, by omega⟩]; omega
theorem stj_hit {m : UInt8} {j : Nat} (h : mkI m = (j : Int) - 1) (hj : 1 ≤ j) : stj m (j + 1) = j := by
  unfold stj
  rw [if_pos ⟨by omega, by omega⟩]; omega
theorem stj_miss {m : UInt8} {j : Nat} (h : mkI m ≠ (j : Int) - 1) : stj m (j + 1) = stj m j := by
  unfold stj
  by_cases h1 : 0 ≤ mkI m ∧ mkI m + 1 < j
  · rw [if_pos h1, if_pos ⟨h1.1, by omega⟩]
  · rw [if_neg h1, if_neg (by omega)]
/-- the mark at place j -/
def mkb (j : Nat) : UInt8 := if j = 1 then 112 else if j = 2 then 97 else 98
theorem mkb_eq {m : UInt8} {j : Nat} (h1 : 1 ≤ j) (h3 : j ≤ 3) : (((mkb j).toNat : Int) == (m.toNat : Int)) = decide (mkI m = (j : Int) - 1) := by
  have key : ∀ m : UInt8, (((mkb 1).toNat : Int) == (m.toNat : Int)) = decide (mkI m = (1 : Int) - 1) ∧ (((mkb 2).toNat : Int) == (m.toNat : Int)) = decide (mkI m = (2 : Int) - 1) ∧ (((mkb 3).toNat : Int) == (m.toNat : Int)) = decide (mkI m = (3 : Int) - 1) := by
    intro m
    have k2 : ∀ i : _root_.Fin 256, (((mkb 1).toNat : Int) == ((UInt8.ofNat i.val).toNat : Int)) = decide (mkI (UInt8.ofNat i.val) = (1 : Int) - 1) ∧ (((mkb 2).toNat : Int) == ((UInt8.ofNat i.val).toNat : Int)) = decide (mkI (UInt8.ofNat i.val) = (2 : Int) - 1) ∧ (((mkb 3).toNat : Int) == ((UInt8.ofNat i.val).toNat : Int)) = decide (mkI (UInt8.ofNat i.val) = (3 : Int) - 1) := by decide +kernel
    have := k2 ⟨m.toNat, m.toNat_lt⟩
    simpa using this
  obtain ⟨a, b, c⟩ := key m
  have : j = 1 ∨ j = 2 ∨ j = 3 := by omega
  rcases this with rfl | rfl | rfl
  · exact a
  · exact b
  · exact c
end Go.Proofs.YtadpjkghfgnbbaaDoor.L8

namespace Go.Proofs.YtadpjkghfgnbbaaDoor.L8
open Go Go.RowKit Go.Proofs.YtadpjkghfgnbbaaDoor.Mem Go.Proofs.YtadpjkghfgnbbaaDoor.Own Go.Proofs.YtadpjkghfgnbbaaDoor.L1
theorem cells_newP (w : World) (l : List Value) (t : TypeId) : ∀ j u, l[j]? = some u → (w.alloc (.cells l.toArray t)).cell? ((⟨w.heap.size, 0, none⟩ : Addr).add j) = some u := by
  intro j u hu
  rw [Go.WideShapes.add_plain, Nat.zero_add, cell_of_row _ _ _ _ _ _ (heap_alloc_new w _)]
  simpa using hu
theorem snoc_sltP (L : List Slt) (x : Slt) : FL L ++ [.int .i64 x.st, .int .i64 x.iq, .int .i64 x.pr] = FL (L ++ [x]) := by
  rw [FL_append, FL_one]
  rfl
theorem sw_snoc {ps : List ByteArray} {ys : List Slt} {k : Nat} {p : ByteArray} {x : Slt} (hl : ys.length = k) (hp : ps[k]? = some p) (hx : SwIs p x)
    (h : ∀ (j : Nat) (p : ByteArray) (x : Slt), ps[j]? = some p → ys[j]? = some x → SwIs p x) : ∀ (j : Nat) (p : ByteArray) (x' : Slt), ps[j]? = some p → (ys ++ [x])[j]? = some x' → SwIs p x' := by
  intro j p' x' hp' hx'
  by_cases hj : j < k
  · rw [List.getElem?_append_left (by omega)] at hx'
    exact h j p' x' hp' hx'
  · by_cases hjk : j = k
    · subst hjk
      rw [List.getElem?_append_right (by omega), hl, Nat.sub_self] at hx'
      simp only [List.getElem?_cons_zero, Option.some.injEq] at hx'
      rw [hp] at hp'
      injection hp' with hp'
      rw [← hp', ← hx']
      exact hx
    · rw [List.getElem?_eq_none (by rw [List.length_append, hl]; simp; omega)] at hx'
      cases hx'
set_option maxRecDepth 100000 in
set_option maxHeartbeats 3200000 in
theorem specPs_ex (s : ByteArray) (hs : s.size ≤ 1048576) (w : World) :
    Calls Tryd.prog 10 #[.string s] w (PsE s w) := by
  obtain ⟨i0, hi, hz0, hz1, hz2⟩ := info_parts infoSlt
  obtain ⟨wb, hwb⟩ : ∃ wb, w.alloc (.cells #[] 37) = wb := ⟨_, rfl⟩
  have hb0 : Below w.heap.size w wb := by rw [← hwb]; exact below_more (Below.refl _ _) _
  have ho0 : wb.ownsRow w.heap.size 37 3 (.slice (some ⟨w.heap.size, 0, none⟩) 0 0) 0 (FL ([] : List Slt)) := by rw [← hwb]; exact World.ownsRow_made w #[] 0 (Nat.le_refl _) (Nat.zero_le _) rfl
  have HB0 := Lib.hid hb0
  have HO0 := Lib.hid ho0
  have HWB := Lib.hid hwb
  clear hb0 ho0 hwb
  obtain ⟨ps, hps⟩ : ∃ ps, Parts s 32 = ps := ⟨_, rfl⟩
  have HC : Hid (∀ w : World, Calls Tryd.prog 21 #[.string s, .int .u8 32] w fun e w' => ∃ A c, e = .returned (.slice A ps.length c) ∧ w'.ownsRow w.heap.size 9 1 (.slice A ps.length c) ps.length (ps.map Value.string) ∧ Below w.heap.size w w') := Lib.hid (by
    intro w
    refine (l1Split_any s 32 32 rfl w hs).mono ?_
    rintro e w' ⟨v, rfl, hown, hb⟩
    rw [hps] at hown
    obtain ⟨A, c, rfl, _, _⟩ := own_form hown
    exact ⟨A, c, rfl, hown, hb⟩)
  have HPE := Lib.hid hps
  have HPS : Hid (∀ x ∈ ps, x.size ≤ 1048576) := Lib.hid (fun x hx => by rw [← hps] at hx; have := parts_size s 32 x hx; omega)
  clear hps
  go_enter Tryd.func10, Tryd.ntmps10
  go_upto_region 2 with fail
  rw [HWB.out]
  clear HWB
  go_wp2_with fail
  refine (HC.out _).mono ?_
  rintro e w1 ⟨A, c, rfl, hown, hb⟩
  have HB1 := Lib.hid (below_then HB0.out hb)
  have HO1 := Lib.hid (own_below HO0.out hb)
  have HD1 := Lib.hid (own_mono hown HB0.out.size)
  clear hown hb HB0 HO0 HC
  by_cases h40 : 40 < s.size
  · have h40z : (40 : Int) < s.size := by omega
    go_wp2_with fail
    go_ret2
    exact ⟨_, _, ps_40 h40, _, _, _, rfl, HO1.out, HB1.out⟩
  · by_cases h4 : ps.length = 4
    · have h40z : (s.size : Int) ≤ 40 := by omega
      have HH4 := Lib.hid h4
      rw [h4] at HD1
      rw [h4]
      have HS0 : Hid (PsSt w w1 w.heap.size 0 0 [] A c ps) := Lib.hid ⟨HO1.out, HD1.out, HB1.out⟩
      clear HO1 HD1 HB1 h4
      go_wp2_with fail
      go_loopw [4, 6] (fun u4 u6 wr => ∃ (k go c' : Nat) (ys : List Slt), u6 = .int .i64 k ∧ k ≤ 4 ∧ u4 = .slice (some ⟨go, 0, none⟩) k c' ∧ Hid (ys.length = k) ∧ Hid (∀ (j : Nat) (p : ByteArray) (x : Slt), ps[j]? = some p → ys[j]? = some x → SwIs p x) ∧ Hid (PsSt w wr go c' k ys A c ps)) (fun _ u _ => 4 - (intOf u).toNat)
      case atStart => exact ⟨0, _, 0, [], rfl, Nat.zero_le _, rfl, Lib.hid rfl, Lib.hid (fun j p x _ h => by simp at h), HS0⟩
      case round =>
        clear HS0
        obtain ⟨k, go, c', ys, rfl, hk, rfl, HY, HW, HS⟩ := hrel
        by_cases hlt : k < 4
        · have hkz : (k : Int) < 4 := by omega
          have HX0 := Lib.hid (Blk.new wr #[.int .i64 0, .int .i64 0, .int .i64 0] 37)
          have HS1 := Lib.hid (HS.out.alloc (.cells #[.int .i64 0, .int .i64 0, .int .i64 0] 37))
          have hgo : go ≠ wr.heap.size := by have := (HS.out.own.lt go rfl).2; omega
          have hgx : w.heap.size ≤ wr.heap.size := HS.out.bel.size
          have q0 := HX0.out.cell 0 _ rfl
          have f0 := HX0.out.free 0
          have q1 := HX0.out.cell 1 _ rfl
          have f1 := HX0.out.free 1
          have q2 := HX0.out.cell 2 _ rfl
          have f2 := HX0.out.free 2
          go_upto_region 9 with fail
          clear q0 f0 q1 f1 q2 f2 HS
          revert HS1 HX0
          generalize wr.alloc (.cells #[.int .i64 0, .int .i64 0, .int .i64 0] 37) = wz
          intro HXz0 HSz
          obtain ⟨gx, hgxe⟩ : ∃ gx, wr.heap.size = gx := ⟨_, rfl⟩
          rw [hgxe] at hgo hgx HXz0 ⊢
          have HXz : Hid (Blk wz gx 37 #[.int .i64 0, .int .i64 0, .int .i64 0]) := HXz0
          clear HXz0 hgxe
          obtain ⟨b1, o1, p, rfl, _, hp, c0⟩ := (Reads.of_own HSz.out.wds).str_at hlt
          have HP := Lib.hid hp
          have hpz := HPS.out p (List.mem_of_getElem? hp)
          clear hp
          obtain ⟨sd, hsd⟩ : ∃ sd, Parts p 58 = sd := ⟨_, rfl⟩
          have HC2 : Hid (∀ w : World, Calls Tryd.prog 21 #[.string p, .int .u8 58] w fun e w' => ∃ A c, e = .returned (.slice A sd.length c) ∧ w'.ownsRow w.heap.size 9 1 (.slice A sd.length c) sd.length (sd.map Value.string) ∧ Below w.heap.size w w') := Lib.hid (by
            intro w
            refine (l1Split_any p 58 58 rfl w hpz).mono ?_
            rintro e w' ⟨v, rfl, hown, hb⟩
            rw [hsd] at hown
            obtain ⟨A, c, rfl, _, _⟩ := own_form hown
            exact ⟨A, c, rfl, hown, hb⟩)
          have HSD := Lib.hid hsd
          have HSDZ : Hid (∀ x ∈ sd, x.size ≤ 1048576) := Lib.hid (fun x hx => by rw [← hsd] at hx; have := parts_size p 58 x hx; omega)
          clear hsd hpz
          go_wp2_with fail
          refine (HC2.out _).mono ?_
          rintro e w3 ⟨A3, c3, rfl, hown3, hb3⟩
          have HS3 := Lib.hid (HSz.out.below hb3)
          have HX3 := Lib.hid (Blk.kept hb3 HXz.out)
          have HD3 := Lib.hid hown3
          clear hown3 hb3 HSz HXz HC2 c0
          by_cases hab : ∃ a b, sd = [a, b] ∧ a.size = 2
          · obtain ⟨a, b, rfl, ha⟩ := hab
            obtain ⟨g3, hg3⟩ := own_head HD3.out (by simp)
            subst hg3
            have el : ([a, b] : List ByteArray).length = 2 := rfl
            have HD : Hid (w3.ownsRow wz.heap.size 9 1 (.slice (some ⟨g3, 0, none⟩) 2 c3) 2 [.string a, .string b]) := HD3
            have s0 : w3.cell? ⟨g3, 0, none⟩ = some (.string a) := (HD.out.cellAt 0 (by decide)).trans rfl
            have t1 : ((a.size : Int) == 2) = true := by rw [ha]; rfl
            obtain ⟨m, hm0⟩ : ∃ m, a.data.toList[0]? = some m := ⟨_, List.getElem?_eq_getElem (by rw [Array.length_toList]; show 0 < a.size; omega)⟩
            obtain ⟨i, ci, hri⟩ := readIs_ex (a.extract 1 a.size)
            obtain ⟨q, cq, hrq⟩ := readIs_ex b
            have HSWN := Lib.hid (sw_two HSD.out hm0 hri hrq)
            obtain ⟨mz, hmz⟩ : ∃ mz : Int, (m.toNat : Int) = mz := ⟨_, rfl⟩
            have hix : ∀ wx, (Instr.index 9 (.string a) (.int .i64 0)).run Tryd.prog wx = .ok (.int .u8 mz) wx := by
              intro wx
              rw [run_index_string (P := Tryd.prog) (w := wx) 9 a .i64 0 Tryd.underlying9, dif_pos ⟨by omega, by omega⟩, ← hmz]
              have e1 : ∀ h : 0 < a.size, a[0]'h = m := by
                intro h
                obtain ⟨h2, h3⟩ := List.getElem?_eq_some_iff.1 hm0
                rw [← h3]
                rfl
              exact congrArg (fun n : UInt8 => Result.ok (Value.int .u8 n.toNat) wx) (e1 (by omega))
            have hmk : ∀ j : Nat, 1 ≤ j → j ≤ 3 → ∀ wx, (Instr.index 9 (.string { data := #[45, 112, 97, 98] }) (.int .i64 j)).run Tryd.prog wx = .ok (.int .u8 ((mkb j).toNat : Int)) wx := by
              intro j h1 h3 wx
              have : j = 1 ∨ j = 2 ∨ j = 3 := by omega
              rcases this with rfl | rfl | rfl
              all_goals
                rw [run_index_string (P := Tryd.prog) (w := wx) 9 _ .i64 _ Tryd.underlying9, dif_pos ⟨by omega, by decide⟩]
                rfl
            obtain ⟨R, hR⟩ : ∃ R, a.extract 1 a.size = R := ⟨_, rfl⟩
            have hsl : ∀ wx, (Instr.slice 9 (.string a) (some (.int .i64 1)) none none).run Tryd.prog wx = .ok (.string R) wx := by
              intro wx
              rw [run_slice_string_from_if (P := Tryd.prog) (w := wx) 9 a .i64 1 Tryd.underlying9, if_pos ⟨by omega, by omega⟩]
              show Result.ok (Value.string (a.extract 1 a.size)) wx = _
              rw [hR]
            rw [hR] at hri
            have hRz : R.size ≤ 1048576 := by rw [← hR, ByteArray.size_extract]; omega
            have HRI : Hid (∀ w, Calls Tryd.prog 22 #[.string R] w fun e w' => e = .returned (.tuple #[.int .i64 i, .bool ci]) ∧ Below w.heap.size w w') := Lib.hid (fun w => by
              refine (l1Read_any R i ci hri w hRz).mono ?_
              rintro e w' ⟨rfl, j, rfl⟩
              exact ⟨rfl, below_drewN' _ _⟩)
            have HRQ : Hid (∀ w, Calls Tryd.prog 22 #[.string b] w fun e w' => e = .returned (.tuple #[.int .i64 q, .bool cq]) ∧ Below w.heap.size w w') := Lib.hid (fun w => by
              refine (l1Read_any b q cq hrq w (HSDZ.out b (by simp))).mono ?_
              rintro e w' ⟨rfl, j, rfl⟩
              exact ⟨rfl, below_drewN' _ _⟩)
            have HX : Hid (Blk w3 gx 37 #[.int .i64 (stj m 1), .int .i64 0, .int .i64 0]) := Lib.hid (by rw [stj_1]; exact HX3.out)
            have HMZ := Lib.hid hmz
            clear HD3 HSD HSDZ ha hm0 hri hrq hR hRz hmz HX3
            rw [el]
            clear el
            go_wp2_with fail
            clear s0 t1
            go_loopw [9] (fun u wv => ∃ (j : Nat), u = .int .i64 j ∧ 1 ≤ j ∧ j ≤ 4 ∧ Hid (Blk wv gx 37 #[.int .i64 (stj m j), .int .i64 0, .int .i64 0]) ∧ Hid (PsSt w wv go c' k ys (some ⟨b1, o1, none⟩) c ps) ∧ Hid (wv.ownsRow wz.heap.size 9 1 (.slice (some ⟨g3, 0, none⟩) 2 c3) 2 [.string a, .string b])) (fun u _ => 4 - (intOf u).toNat)
            case atStart => exact ⟨1, rfl, Nat.le_refl _, by omega, HX, HS3, HD⟩
            case round =>
              clear HX HS3 HD
              obtain ⟨j, rfl, hj1, hj4, HX, HS, HD⟩ := hrel
              by_cases hlt2 : j < 4
              · have hjz : (j : Int) ≤ 3 := by omega
                have s0 := (HD.out.cellAt 0 (by decide)).trans (show _ = some (Value.string a) from rfl)
                have hmj := hmk j hj1 (by omega)
                have hcmp := mkb_eq (m := m) hj1 (by omega)
                rw [HMZ.out] at hcmp
                clear hmk
                by_cases hit : mkI m = (j : Int) - 1
                · rw [decide_eq_true hit] at hcmp
                  have HST := Lib.hid (stj_hit hit hj1)
                  clear hit
                  go_upto_region 14 with fail
                  go_quiet (fail)
                  have hbn : Below wr.heap.size wr (wr.drewN nq) := below_drewN' wr nq
                  have HXn := Lib.hid (Blk.kept hbn HX.out)
                  have HSn := Lib.hid (HS.out.below hbn)
                  have HDn := Lib.hid (own_below HD.out hbn)
                  clear hbn HX HS HD s0
                  revert HXn HSn HDn
                  generalize wr.drewN nq = wn
                  intro HXn HSn HDn
                  have q0 := HXn.out.cell 0 _ rfl
                  have f0 := HXn.out.free 0
                  have HX2 : Hid (Blk (wn.setCell ⟨gx, 0, none⟩ (.int .i64 j)) gx 37 #[.int .i64 (stj m (j + 1)), .int .i64 0, .int .i64 0]) := Lib.hid (by rw [HST.out]; exact HXn.out.set 0 (.int .i64 j))
                  have HS2 := Lib.hid (HSn.out.set (j := 0) HXn.out hgo hgx (.int .i64 j))
                  have HD2 := Lib.hid (own_far (j := 0) (u := .int .i64 j) HDn.out (blk_type HDn.out HXn.out (by decide)))
                  clear HXn HSn HDn
                  go_wp2_with fail
                  go_roundw
                  case rel => exact ⟨j + 1, by go_num, by omega, by omega, HX2, HS2, HD2⟩
                  case measure => simp [intOf]; omega
                · rw [decide_eq_false hit] at hcmp
                  have HST := Lib.hid (stj_miss hit)
                  clear hit
                  go_upto_region 14 with fail
                  go_quiet (fail)
                  have hbn : Below wr.heap.size wr (wr.drewN nq) := below_drewN' wr nq
                  have HX2 : Hid (Blk (wr.drewN nq) gx 37 #[.int .i64 (stj m (j + 1)), .int .i64 0, .int .i64 0]) := Lib.hid (by rw [HST.out]; exact Blk.kept hbn HX.out)
                  have HS2 := Lib.hid (HS.out.below hbn)
                  have HD2 := Lib.hid (own_below HD.out hbn)
                  clear hbn HX HS HD s0
                  go_wp2_with fail
                  go_roundw
                  case rel => exact ⟨j + 1, by go_num, by omega, by omega, HX2, HS2, HD2⟩
                  case measure => simp [intOf]; omega
              · have hj : j = 4 := by omega
                subst hj
                have s0 := (HD.out.cellAt 0 (by decide)).trans (show _ = some (Value.string a) from rfl)
                have HX4 := HX
                rw [stj_4] at HX4
                clear hmk HX hlt2
                go_wp2_with fail
                refine (HRI.out _).mono ?_
                rintro e w6 ⟨rfl, hb6⟩
                have HX6 := Lib.hid (Blk.kept hb6 HX4.out)
                have HS6 := Lib.hid (HS.out.below hb6)
                have HD6 := Lib.hid (own_below HD.out hb6)
                clear hb6 HX4 HS HD s0 HRI
                have q1 := HX6.out.cell 1 _ rfl
                have f1 := HX6.out.free 1
                go_upto_region 17 with fail
                have HX7 := Lib.hid (HX6.out.set 1 (.int .i64 i))
                have HS7 := Lib.hid (HS6.out.set (j := 1) HX6.out hgo hgx (.int .i64 i))
                have HD7 := Lib.hid (own_far (j := 1) (u := .int .i64 i) HD6.out (blk_type HD6.out HX6.out (by decide)))
                clear HX6 HS6 HD6 q1 f1
                revert HX7 HS7 HD7
                generalize World.setCell _ _ _ = w7
                intro HX7 HS7 HD7
                have s1 := (HD7.out.cellAt 1 (by decide)).trans (show _ = some (Value.string b) from rfl)
                go_wp2_with fail
                refine (HRQ.out _).mono ?_
                rintro e w8 ⟨rfl, hb8⟩
                have HX8 := Lib.hid (Blk.kept hb8 HX7.out)
                have HS8 := Lib.hid (HS7.out.below hb8)
                clear hb8 HX7 HS7 HD7 s1 HRQ
                have q2 := HX8.out.cell 2 _ rfl
                have f2 := HX8.out.free 2
                go_upto_region 18 with fail
                have HX9 := Lib.hid (HX8.out.set 2 (.int .i64 q))
                have HS9 := Lib.hid (HS8.out.set (j := 2) HX8.out hgo hgx (.int .i64 q))
                clear HX8 HS8 q2 f2
                revert HX9 HS9
                generalize World.setCell _ _ _ = w9
                intro HX9 HS9
                obtain ⟨mk, hmk⟩ : ∃ mk, 1 + mkI m = mk := ⟨_, rfl⟩
                rw [hmk] at HX9 HSWN
                clear hmk
                have q0 := HX9.out.cell 0 _ rfl
                have q1 := HX9.out.cell 1 _ rfl
                have q2 := HX9.out.cell 2 _ rfl
                have hown := HS9.out.own
                have hsz := HS9.out.bel.size
                have HSW : Hid (SwIs p ⟨mk, i, q⟩) := Lib.hid (HSWN.out)
                clear HSWN
                go_wp2_with (at_builtin; refine wpList_append_own _ rfl _ _ 26 rfl w.heap.size 37 i0 (.agg #[.int .i64 0, .int .i64 0, .int .i64 0]) 3 24 Tryd.underlying26 hi hz0 hz1 hz2 rfl (by decide) _ _ _ rfl (hown.alloc _) ⟨_, 0, none⟩ 1 1 [.int .i64 mk, .int .i64 i, .int .i64 q] rfl rfl (cells_newP _ _ _) (fun u hu => by simp at hu; (first | (rcases hu with rfl | rfl | rfl <;> rfl) | (subst hu; rfl))) (by unfold maxLen; omega) (by omega) (by simp; omega) ?_; intro v' w4 hown1 hgrow1 _)
                obtain ⟨A6, c6, rfl, _, _⟩ := own_form hown1
                obtain ⟨g6, rfl⟩ := own_head hown1 (by omega)
                have hown2 : w4.ownsRow w.heap.size 37 3 (.slice (some ⟨g6, 0, none⟩) (k + 1) c6) (k + 1) (FL (ys ++ [⟨mk, i, q⟩])) := by rw [← snoc_sltP]; exact hown1
                have HN := Lib.hid ((HS9.out.alloc _).grow hgrow1 hown2)
                have HY2 : Hid ((ys ++ [(⟨mk, i, q⟩ : Slt)]).length = k + 1) := Lib.hid (by rw [List.length_append, HY.out]; rfl)
                have HW2 := Lib.hid (sw_snoc HY.out HP.out HSW.out HW.out)
                clear hown hsz hown1 hgrow1 hown2 HS9 HX9 q0 q1 q2 HY HW HP HSW
                go_roundw
                case rel => exact ⟨k + 1, g6, c6, _, by go_num, by omega, rfl, HY2, HW2, HN⟩
                case measure => simp [intOf]; omega
          · by_cases hl2 : sd.length = 2
            · obtain ⟨a, b, rfl⟩ : ∃ a b, sd = [a, b] := by
                match sd, hl2 with
                | [a, b], _ => exact ⟨a, b, rfl⟩
              have ha : a.size ≠ 2 := fun h => hab ⟨a, b, rfl, h⟩
              have HSWN := Lib.hid (sw_no (p := p) (fun a' b' h => by
                rw [HSD.out] at h
                injection h with h1 _
                rw [← h1]
                exact ha))
              obtain ⟨g3, hg3⟩ := own_head HD3.out (by simp)
              subst hg3
              have s0 : w3.cell? ⟨g3, 0, none⟩ = some (.string a) := (HD3.out.cellAt 0 (by simp)).trans rfl
              have t1 : ((a.size : Int) == 2) = false := by simp; omega
              clear hab hl2 HD3 HSD HSDZ ha
              have el : ([a, b] : List ByteArray).length = 2 := rfl
              rw [el]
              clear el
              have q0 := HX3.out.cell 0 _ rfl
              have q1 := HX3.out.cell 1 _ rfl
              have q2 := HX3.out.cell 2 _ rfl
              have hown := HS3.out.own
              have hsz := HS3.out.bel.size
              have HSW : Hid (SwIs p ⟨0, 0, 0⟩) := Lib.hid (HSWN.out)
              clear HSWN
              go_wp2_with (at_builtin; refine wpList_append_own _ rfl _ _ 26 rfl w.heap.size 37 i0 (.agg #[.int .i64 0, .int .i64 0, .int .i64 0]) 3 24 Tryd.underlying26 hi hz0 hz1 hz2 rfl (by decide) _ _ _ rfl (hown.alloc _) ⟨_, 0, none⟩ 1 1 [.int .i64 0, .int .i64 0, .int .i64 0] rfl rfl (cells_newP _ _ _) (fun u hu => by simp at hu; (first | (rcases hu with rfl | rfl | rfl <;> rfl) | (subst hu; rfl))) (by unfold maxLen; omega) (by omega) (by simp; omega) ?_; intro v' w4 hown1 hgrow1 _)
              obtain ⟨A6, c6, rfl, _, _⟩ := own_form hown1
              obtain ⟨g6, rfl⟩ := own_head hown1 (by omega)
              have hown2 : w4.ownsRow w.heap.size 37 3 (.slice (some ⟨g6, 0, none⟩) (k + 1) c6) (k + 1) (FL (ys ++ [⟨0, 0, 0⟩])) := by rw [← snoc_sltP]; exact hown1
              have HN := Lib.hid ((HS3.out.alloc _).grow hgrow1 hown2)
              have HY2 : Hid ((ys ++ [(⟨0, 0, 0⟩ : Slt)]).length = k + 1) := Lib.hid (by rw [List.length_append, HY.out]; rfl)
              have HW2 := Lib.hid (sw_snoc HY.out HP.out HSW.out HW.out)
              clear hown hsz hown1 hgrow1 hown2 HS3 HX3 q0 q1 q2 HY HW HP HSW
              go_roundw
              case rel => exact ⟨k + 1, g6, c6, _, by go_num, by omega, rfl, HY2, HW2, HN⟩
              case measure => simp [intOf]; omega
            · have t1 : ((sd.length : Int) == 2) = false := by simp; omega
              have HSWN := Lib.hid (sw_no (p := p) (fun a' b' h => by
                rw [HSD.out] at h
                rw [h] at hl2
                exact absurd rfl hl2))
              clear hab hl2 HD3 HSD HSDZ
              have q0 := HX3.out.cell 0 _ rfl
              have q1 := HX3.out.cell 1 _ rfl
              have q2 := HX3.out.cell 2 _ rfl
              have hown := HS3.out.own
              have hsz := HS3.out.bel.size
              have HSW : Hid (SwIs p ⟨0, 0, 0⟩) := Lib.hid (HSWN.out)
              clear HSWN
              go_wp2_with (at_builtin; refine wpList_append_own _ rfl _ _ 26 rfl w.heap.size 37 i0 (.agg #[.int .i64 0, .int .i64 0, .int .i64 0]) 3 24 Tryd.underlying26 hi hz0 hz1 hz2 rfl (by decide) _ _ _ rfl (hown.alloc _) ⟨_, 0, none⟩ 1 1 [.int .i64 0, .int .i64 0, .int .i64 0] rfl rfl (cells_newP _ _ _) (fun u hu => by simp at hu; (first | (rcases hu with rfl | rfl | rfl <;> rfl) | (subst hu; rfl))) (by unfold maxLen; omega) (by omega) (by simp; omega) ?_; intro v' w4 hown1 hgrow1 _)
              obtain ⟨A6, c6, rfl, _, _⟩ := own_form hown1
              obtain ⟨g6, rfl⟩ := own_head hown1 (by omega)
              have hown2 : w4.ownsRow w.heap.size 37 3 (.slice (some ⟨g6, 0, none⟩) (k + 1) c6) (k + 1) (FL (ys ++ [⟨0, 0, 0⟩])) := by rw [← snoc_sltP]; exact hown1
              have HN := Lib.hid ((HS3.out.alloc _).grow hgrow1 hown2)
              have HY2 : Hid ((ys ++ [(⟨0, 0, 0⟩ : Slt)]).length = k + 1) := Lib.hid (by rw [List.length_append, HY.out]; rfl)
              have HW2 := Lib.hid (sw_snoc HY.out HP.out HSW.out HW.out)
              clear hown hsz hown1 hgrow1 hown2 HS3 HX3 q0 q1 q2 HY HW HP HSW
              go_roundw
              case rel => exact ⟨k + 1, g6, c6, _, by go_num, by omega, rfl, HY2, HW2, HN⟩
              case measure => simp [intOf]; omega
        · have hk4 : k = 4 := by omega
          subst hk4
          obtain ⟨b, hb⟩ : ∃ b, okB ys = b := ⟨_, rfl⟩
          have HOKB := Lib.hid hb
          have HA : Hid (Calls Tryd.prog 14 #[.slice (some ⟨go, 0, none⟩) 4 c'] wr fun e w' => e = .returned (.bool b) ∧ Below wr.heap.size wr w') := Lib.hid (l8Good_any (some ⟨go, 0, none⟩) 4 c' _ ys wr (Reads.of_own HS.out.own) (Nat.le_refl _) (by decide) b hb)
          have HH : Hid (∀ (j : Nat) (p : ByteArray) (x : Slt), (Parts s 32)[j]? = some p → ys[j]? = some x → SwIs p x) := Lib.hid (fun j p x h1 h2 => HW.out j p x (by rw [← HPE.out]; exact h1) h2)
          clear hb hlt HW
          go_wp2_with fail
          refine HA.out.mono ?_
          rintro e w5 ⟨rfl, hb5⟩
          have HS5 := Lib.hid (HS.out.below hb5)
          clear hb5 HA HS
          cases b with
          | false =>
            have HZ : Hid (PsIs s [] false) := Lib.hid (ps_out HY.out HH.out (.inl HOKB.out))
            have HOE := Lib.hid (World.ownsRow_made w5 (e := 37) (size := 3) #[] 0 (base := w.heap.size) HS5.out.bel.size (Nat.zero_le _) rfl)
            have HBE := Lib.hid (below_more HS5.out.bel (.cells #[] 37))
            go_wp2_with fail
            go_ret2
            exact ⟨_, _, HZ.out, _, _, _, rfl, HOE.out, HBE.out⟩
          | true =>
            have HTX : Hid (Calls Tryd.prog 15 #[.slice (some ⟨go, 0, none⟩) 4 c'] w5 fun e w' => e = .returned (.string (txs ys)) ∧ Below w5.heap.size w5 w') := Lib.hid (l8Text_any (some ⟨go, 0, none⟩) c' ys w5 (Reads.of_own HS5.out.own) (fun j x h => okB_ok HOKB.out h))
            go_wp2_with fail
            refine HTX.out.mono ?_
            rintro e w6 ⟨rfl, hb6⟩
            have HS6 := Lib.hid (HS5.out.below hb6)
            clear hb6 HTX HS5
            by_cases hts : txs ys = s
            · have HZ : Hid (PsIs s ys true) := Lib.hid (.inl ⟨rfl, HOKB.out, hts⟩)
              have t1 : ((txs ys).toList == s.toList) = true := by rw [hts]; simp
              have t2 : ((txs ys).toList != s.toList) = false := by simp only [bne, t1, Bool.not_true]
              clear hts
              go_wp2_with fail
              go_ret2
              exact ⟨_, _, HZ.out, slPost_4 HY.out HS6.out.own HS6.out.bel⟩
            · have HZ : Hid (PsIs s [] false) := Lib.hid (ps_out HY.out HH.out (.inr hts))
              have t1 : ((txs ys).toList == s.toList) = false := toList_ne hts
              have t2 : ((txs ys).toList != s.toList) = true := by simp only [bne, t1, Bool.not_false]
              have HOE := Lib.hid (World.ownsRow_made w6 (e := 37) (size := 3) #[] 0 (base := w.heap.size) HS6.out.bel.size (Nat.zero_le _) rfl)
              have HBE := Lib.hid (below_more HS6.out.bel (.cells #[] 37))
              clear hts
              go_wp2_with fail
              go_ret2
              exact ⟨_, _, HZ.out, _, _, _, rfl, HOE.out, HBE.out⟩
    · have t1 : ((ps.length : Int) == 4) = false := by simp; omega
      have t2 : ((ps.length : Int) != 4) = true := by simp only [bne, t1, Bool.not_false]
      have h40z : (s.size : Int) ≤ 40 := by omega
      have HZ : Hid (PsIs s [] false) := Lib.hid (ps_count (by rw [HPE.out]; exact h4))
      clear h4
      go_wp2_with fail
      go_ret2
      exact ⟨_, _, HZ.out, _, _, _, rfl, HO1.out, HB1.out⟩
end Go.Proofs.YtadpjkghfgnbbaaDoor.L8

namespace Go.Proofs.YtadpjkghfgnbbaaDoor.L8
open Go Go.RowKit Go.Proofs.YtadpjkghfgnbbaaDoor.Mem Go.Proofs.YtadpjkghfgnbbaaDoor.Own Go.Proofs.YtadpjkghfgnbbaaDoor.L1
theorem psIs_one {s : ByteArray} {l l' : List Slt} {b b' : Bool} (h : PsIs s l b) (h' : PsIs s l' b') : l = l' ∧ b = b' := by
  rcases h with ⟨rfl, h1, h2⟩ | ⟨rfl, rfl, h1⟩
  · rcases h' with ⟨rfl, h3, h4⟩ | ⟨rfl, rfl, h3⟩
    · exact ⟨txs_inj h1 h3 (h2.trans h4.symm), rfl⟩
    · exact absurd h2 (h3 _ h1)
  · rcases h' with ⟨rfl, h3, h4⟩ | ⟨rfl, rfl, h3⟩
    · exact absurd h4 (h1 _ h3)
    · exact ⟨rfl, rfl⟩
theorem psIs_len {s : ByteArray} {l : List Slt} {b : Bool} (h : PsIs s l b) : l.length ≤ 4 := by
  rcases h with ⟨_, h1, _⟩ | ⟨_, rfl, _⟩
  · exact Nat.le_of_eq (okB_len h1)
  · exact Nat.zero_le _
/-- what impl.ParseSlots asks of the world -/
def PsoIs (w : World) : Prop := MxIs w ∧ TbIs w ∧ ErrsIs w
theorem pso_below {W W' : World} (h : Below W.heap.size W W') (ho : PsoIs W) : PsoIs W' := ⟨mx_below h ho.1, tb_below h ho.2.1, errs_below h ho.2.2⟩
theorem specPs_any (s : ByteArray) (l : List Slt) (b : Bool) (h : PsIs s l b) (hs : s.size ≤ 1048576) (w : World) :
    Calls Tryd.prog 10 #[.string s] w (SlPost w (l, b)) := by
  refine (specPs_ex s hs w).mono ?_
  rintro e w' ⟨l', b', h', hp⟩
  obtain ⟨rfl, rfl⟩ := psIs_one h h'
  exact hp
theorem implPs_any (s : ByteArray) (l : List Slt) (b : Bool) (h : PsIs s l b) (hs : s.size ≤ 1048576) (w : World) (ho : PsoIs w) :
    Calls Tryd.prog 11 #[.string s] w (SlPost w (l, b)) := by
  refine (implPs_ex s hs w ho.1 ho.2.1 ho.2.2).mono ?_
  rintro e w' ⟨l', b', h', hp⟩
  obtain ⟨rfl, rfl⟩ := psIs_one h h'
  exact hp
end Go.Proofs.YtadpjkghfgnbbaaDoor.L8

namespace Go.Proofs.YtadpjkghfgnbbaaDoor.fnExactParseSlots
open Go.ChangeShapes Go.WideShapes Go.ChangeAt Go.RowKit
open Go.ChangeMaps (open_string shut_string)
open Go Go.Proofs.YtadpjkghfgnbbaaDoor.L8 Go.Proofs.YtadpjkghfgnbbaaDoor.Mem Go.Proofs.YtadpjkghfgnbbaaDoor.Own
set_option linter.unusedVariables false
theorem own : ownKnob Tryd.prog.godebug = none := by kernel_rfl
theorem laidOut : laidOutB Tryd.prog = true := by kernel_rfl
set_option maxRecDepth 100000 in
set_option maxHeartbeats 20000000 in
theorem walk0 (W : World) (s0 : ByteArray) (w0 : s0.size ≤ maxLen)  (ho : PsoIs W) :
    Calls Tryd.prog 4 #[.string s0] W fun e W' => e = .returned (.bool true) ∧ Below W.heap.size W W' := by
  have HO := Lib.hid ho
  clear ho
  unfold maxLen at w0
  by_cases h1 : 1048576 < s0.size
  · go_enter Tryd.func4, Tryd.ntmps4
    go_wp2_with fail
    go_ret
    exact ⟨rfl, Below.refl _ _⟩
  have hs : s0.size ≤ 1048576 := by omega
  obtain ⟨l0, b, hx⟩ := psIs_ex s0
  have hll : l0.length ≤ 4 := psIs_len hx
  have HS := fun (w : World) => specPs_any s0 l0 b hx hs w
  have HI := fun (w : World) (ho : PsoIs w) => implPs_any s0 l0 b hx hs w ho
  unfold SlPost at HS HI
  simp only at HS HI
  obtain ⟨r0, hm1⟩ : ∃ m, l0.length = m := ⟨_, rfl⟩
  rw [hm1] at hll
  simp only [hm1] at HS HI
  have hr_0 : r0 ≤ 1048576 := by omega
  replace HS := Lib.hid HS
  replace HI := Lib.hid HI
  clear hx hll hm1
  have hW0 : Hid (Below W.heap.size W W) := Lib.hid (Below.refl _ _)
  go_enter Tryd.func4, Tryd.ntmps4
  go_wp2_with fail
  refine (HS.out  _ ).mono ?_
  rintro e u1 ⟨A_w0, c_w0, T_w0, rfl, h_w0, hb⟩
  have hW1 := Lib.hid (below_then hW0.out hb)
  have sz1 := Lib.hid hb.size
  clear hb hW0
  have o_w0 : Hid (Row u1 W.heap.size u1.heap.size T_w0 3 (.slice A_w0 r0 c_w0) r0 (FL l0)) := Lib.hid (by first | exact h_w0 | exact Row.of h_w0)
  clear h_w0
  go_wp2_with fail
  refine (HI.out  _  (pso_below hW1.out HO.out)).mono ?_
  rintro e u2 ⟨A_g0, c_g0, T_g0, rfl, h_g0, hb⟩
  have hW2 := Lib.hid (below_then hW1.out hb)
  replace o_w0 := Lib.hid (o_w0.out.below hb)
  have sz2 := Lib.hid hb.size
  clear hb hW1
  have o_g0 : Hid (Row u2 u1.heap.size u2.heap.size T_g0 3 (.slice A_g0 r0 c_g0) r0 (FL l0)) := Lib.hid (by first | exact h_g0 | exact Row.of h_g0)
  clear h_g0
  go_wp2_with fail
  refine (eqSlotS_step _ _ _ _ _ l0 _ hr_0 o_g0.out.reads o_w0.out.reads).mono ?_
  rintro e u3 ⟨rfl, hb⟩
  have hW3 := Lib.hid (below_then hW2.out hb)
  replace o_w0 := Lib.hid (o_w0.out.below hb)
  replace o_g0 := Lib.hid (o_g0.out.below hb)
  have sz3 := Lib.hid hb.size
  clear hb hW2
  go_wp2_with fail
  refine (markSlotS_step _ _ _ _ _ (1) (1) (by first | rfl | (push_cast; omega)) _ _ hr_0 (by omega) o_g0.out).mono ?_
  rintro e u4 ⟨rfl, h_g0, ho⟩
  have ysz1 := sz1.out; have ysz2 := sz2.out; have ysz3 := sz3.out
  have hw0 := hW3.out.size
  have hW4 := Lib.hid (ho.below hW3.out (by omega))
  replace o_w0 := Lib.hid (o_w0.out.only ho (by omega))
  clear ysz1 ysz2 ysz3 hw0
  have sz4 := Lib.hid ho.size
  clear ho hW3
  have n_g0 : Hid (Row u4 u1.heap.size u2.heap.size T_g0 3 (.slice A_g0 r0 c_g0) r0 (FL (upSlt (1) r0))) := Lib.hid h_g0
  clear h_g0 o_g0
  have o_g0 := n_g0
  clear n_g0
  go_wp2_with fail
  refine (heldSlotS_step _ _ _ (1) (1) (by first | rfl | (push_cast; omega)) _ hr_0 (by omega) o_g0.out.reads).mono ?_
  rintro e u5 ⟨rfl, hb⟩
  have hW5 := Lib.hid (below_then hW4.out hb)
  replace o_w0 := Lib.hid (o_w0.out.below hb)
  replace o_g0 := Lib.hid (o_g0.out.below hb)
  have sz5 := Lib.hid hb.size
  clear hb hW4
  go_wp2_with fail
  refine (HI.out  _  (pso_below hW5.out HO.out)).mono ?_
  rintro e u6 ⟨A_h0, c_h0, T_h0, rfl, h_h0, hb⟩
  have hW6 := Lib.hid (below_then hW5.out hb)
  replace o_w0 := Lib.hid (o_w0.out.below hb)
  replace o_g0 := Lib.hid (o_g0.out.below hb)
  have sz6 := Lib.hid hb.size
  clear hb hW5
  have o_h0 : Hid (Row u6 u5.heap.size u6.heap.size T_h0 3 (.slice A_h0 r0 c_h0) r0 (FL l0)) := Lib.hid (by first | exact h_h0 | exact Row.of h_h0)
  clear h_h0
  go_wp2_with fail
  refine (eqSlotS_step _ _ _ _ _ l0 _ hr_0 o_h0.out.reads o_w0.out.reads).mono ?_
  rintro e u7 ⟨rfl, hb⟩
  have hW7 := Lib.hid (below_then hW6.out hb)
  replace o_w0 := Lib.hid (o_w0.out.below hb)
  replace o_g0 := Lib.hid (o_g0.out.below hb)
  replace o_h0 := Lib.hid (o_h0.out.below hb)
  have sz7 := Lib.hid hb.size
  clear hb hW6
  go_wp2_with fail
  refine (heldSlotS_step _ _ _ (1) (1) (by first | rfl | (push_cast; omega)) _ hr_0 (by omega) o_g0.out.reads).mono ?_
  rintro e u8 ⟨rfl, hb⟩
  have hW8 := Lib.hid (below_then hW7.out hb)
  replace o_w0 := Lib.hid (o_w0.out.below hb)
  replace o_g0 := Lib.hid (o_g0.out.below hb)
  replace o_h0 := Lib.hid (o_h0.out.below hb)
  have sz8 := Lib.hid hb.size
  clear hb hW7
  go_wp2_with fail
  go_ret
  exact ⟨rfl, hW8.out⟩

set_option maxHeartbeats 4000000 in
set_option maxRecDepth 100000 in
/-- the law's Go text returns true, and nothing that was there has turned -/
theorem walk {H : Type} {enc : TypeId × Value → H} (W : World) (base : Nat) (s0 : ByteArray) (w0 : s0.size ≤ maxLen) (hL : laidMetH Tryd.prog Rows.fnExactParseSlotsRow.laid W) (hsh : W.ShapedOpen Tryd.prog) :
    Calls Tryd.prog 4 #[.string s0] W fun e W' => e = .returned (.bool true) ∧ Below W.heap.size W W' := by
  obtain ⟨m, hm0⟩ := Tryd.laysM145.s1_3 W hsh
  have hm : W.cell? ⟨0, 0, none⟩ = some (.int .i64 m) := hm0
  exact walk0 W s0 w0 ⟨⟨m, hm⟩, tbIs_of_mem hL (.tail _ (.tail _ (.head _))),
    Fr.errIs_of_mem (g := 1) (by kernel_rfl) (by kernel_rfl) Tryd.underlying65 hL (.tail _ (.tail _ (.tail _ (.tail _ (.head _))))),
    Fr.errIs_of_mem (g := 2) (by kernel_rfl) (by kernel_rfl) Tryd.underlying65 hL (.tail _ (.tail _ (.tail _ (.head _))))⟩
noncomputable def laidWorld (os : Os) : World := { World.holding Tryd.prog os ⟨#[], #[], []⟩ with heap := ((((((((World.holding Tryd.prog os ⟨#[], #[], []⟩).heap).modify 4 (Fr.lay #[.int .u8 0, .int .u8 1, .int .u8 28, .int .u8 2, .int .u8 29, .int .u8 14, .int .u8 24, .int .u8 3, .int .u8 30, .int .u8 22, .int .u8 20, .int .u8 15, .int .u8 25, .int .u8 17, .int .u8 4, .int .u8 8, .int .u8 31, .int .u8 27, .int .u8 13, .int .u8 23, .int .u8 21, .int .u8 19, .int .u8 16, .int .u8 7, .int .u8 26, .int .u8 12, .int .u8 18, .int .u8 6, .int .u8 11, .int .u8 5, .int .u8 10, .int .u8 9])).modify 5 (Fr.lay #[.int .u8 0, .int .u8 1, .int .u8 56, .int .u8 2, .int .u8 57, .int .u8 49, .int .u8 28, .int .u8 3, .int .u8 61, .int .u8 58, .int .u8 42, .int .u8 50, .int .u8 38, .int .u8 29, .int .u8 17, .int .u8 4, .int .u8 62, .int .u8 47, .int .u8 59, .int .u8 36, .int .u8 45, .int .u8 43, .int .u8 51, .int .u8 22, .int .u8 53, .int .u8 39, .int .u8 33, .int .u8 30, .int .u8 24, .int .u8 18, .int .u8 12, .int .u8 5, .int .u8 63, .int .u8 55, .int .u8 48, .int .u8 27, .int .u8 60, .int .u8 41, .int .u8 37, .int .u8 16, .int .u8 46, .int .u8 35, .int .u8 44, .int .u8 21, .int .u8 52, .int .u8 32, .int .u8 23, .int .u8 11, .int .u8 54, .int .u8 26, .int .u8 40, .int .u8 15, .int .u8 34, .int .u8 20, .int .u8 31, .int .u8 10, .int .u8 25, .int .u8 14, .int .u8 19, .int .u8 9, .int .u8 13, .int .u8 8, .int .u8 7, .int .u8 6])).modify 3 (Fr.lay #[.int .u64 1, .int .u64 10, .int .u64 100, .int .u64 1000, .int .u64 10000, .int .u64 100000, .int .u64 1000000, .int .u64 10000000, .int .u64 100000000, .int .u64 1000000000, .int .u64 10000000000, .int .u64 100000000000, .int .u64 1000000000000, .int .u64 10000000000000, .int .u64 100000000000000, .int .u64 1000000000000000, .int .u64 10000000000000000, .int .u64 100000000000000000, .int .u64 1000000000000000000, .int .u64 10000000000000000000])).modify 2 (Fr.lay #[.iface 112 (.pointer (some ⟨(World.holding Tryd.prog os ⟨#[], #[], []⟩).heap.size + 0, 0, none⟩))])).modify 1 (Fr.lay #[.iface 112 (.pointer (some ⟨(World.holding Tryd.prog os ⟨#[], #[], []⟩).heap.size + 1, 0, none⟩))])).push (.cells #[.string ⟨#[118, 97, 108, 117, 101, 32, 111, 117, 116, 32, 111, 102, 32, 114, 97, 110, 103, 101]⟩] 114)).push (.cells #[.string ⟨#[105, 110, 118, 97, 108, 105, 100, 32, 115, 121, 110, 116, 97, 120]⟩] 114) }
theorem laid_met (os : Os) : laidMetH Tryd.prog Rows.fnExactParseSlotsRow.laid ((laidWorld os).forCall (fun _ _ => 0) ⟨#[], #[(.string ByteArray.empty : Value)], []⟩).memory := laidMet_of_run' 8 (by kernel_rfl) (by kernel_rfl)
theorem reads (os : Os) {H : Type} (enc : TypeId × Value → H) : (DataW.whole enc Tryd.prog ((laidWorld os).forCall (fun _ _ => 0) ⟨#[], #[(.string ByteArray.empty : Value)], []⟩).memory Tryd.f4.params.toList Rows.fnExactParseSlotsSpec.vars false #[(.string ByteArray.empty : Value)].toList 8).isSome = true := by kernel_rfl
set_option maxRecDepth 100000 in
theorem lifted (os : Os) (started : os.Started) (H : Type) (enc : TypeId × Value → H) (F : Stop.Interp) :
    ReturnsInHanded {} Tryd.checked os 4 .any ((OpenSpec.ofChange Rows.fnExactParseSlotsSpec).preRow enc Tryd.prog Tryd.f4 Rows.fnExactParseSlotsRow.domain false Rows.fnExactParseSlotsRow.laid) (((OpenSpec.ofChange Rows.fnExactParseSlotsSpec).at F).post enc Tryd.prog Tryd.f4 false true false false) := by
  obtain ⟨x, hx⟩ := Option.isSome_iff_exists.1 (reads os enc)
  refine returnsInHanded_of_row (C := Tryd.checked) (s := OpenSpec.ofChange Rows.fnExactParseSlotsSpec) own started (by kernel_rfl) Tryd.func4
    (witness_row_at (enc := enc) (C := Tryd.checked) false (laidWorld os) #[(.string ByteArray.empty : Value)] rfl (by kernel_rfl) (by kernel_rfl) (by kernel_rfl)
      (OpenSpec.preRow_of_cond 8 hx (by rfl) (fun k hk => by cases hk) (by kernel_rfl) (laid_met os))) ?_
  intro W base args ds gs before hval0 hW _ hcond hsz hL hsh _
  have hval : ∀ (j : Nat) t v, Tryd.f4.params[j]? = some t → args[j]? = some v → Value.okWide Tryd.prog W .any base t v := hval0
  have hW' := hW
  obtain ⟨p, q, hA0, hV, rfl, hfz, hnd⟩ := hW
  have hA : DataW.TrodAll enc Tryd.prog W 0 (fun _ => true) true Tryd.f4.params.toList args.toList ds p := hA0
  rw [Tryd.params4] at hA hval
  obtain ⟨v0, vs0, d0, ds0, p0, q0, hargs, rfl, rfl, h0, r0⟩ := trodAll_cons hA
  obtain ⟨rfl, rfl, rfl⟩ := trodAll_nil r0
  obtain rfl : args = #[v0] := by cases args; simp_all
  obtain ⟨rfl, rfl⟩ := trodVars_none hV
  obtain ⟨s0, rfl, rfl, rfl, w0⟩ := open_string Tryd.underlying9 (hval 0 9 v0 rfl rfl) h0
  clear hA0 hval0
  simp only [List.append_nil] at hW'
  refine (walk (enc := enc) W base s0 w0 hL hsh).mono fun e W' ⟨he, hb⟩ => ⟨_, he, Fr.post_true laidOut (by kernel_rfl) (by kernel_rfl) Tryd.underlying4 rfl hW' (fun xs hx => by match xs, hx with | [x0], _ => rfl) hb⟩
theorem said : Rows.FnExactParseSlotsSaid :=
  OpenClaim.holds_of_cond 4 Tryd.f4 rfl rfl rfl rfl rfl rfl rfl ⟨rfl, rfl, rfl, rfl, rfl⟩ rfl rfl rfl rfl rfl (by kernel_rfl) Tryd.func4 (by kernel_rfl)
    (of_decide_eq_true (by kernel_rfl)) (by unfold Func.isWrapper; first | (rw [if_pos (by decide +kernel)]; kernel_rfl) | (rw [if_neg (by decide +kernel)]; exact ⟨rfl, rfl⟩))
    (fun os started H enc _ F => by rw [OpenClaim.pre_eq_preRow]; exact lifted os started H enc F)
theorem plain (f : FuncId) (fn : Func) (hf : Tryd.pinned.checked.prog.funcNamed "loop.example/g00843/laws.FnExactParseSlots" = some f) (hfn : Tryd.pinned.checked.prog.funcs[f]? = some fn) :
    true = Tryd.pinned.checked.prog.looks [] ∧ ∀ (j : Nat) t, fn.params[j]? = some t → Tryd.pinned.checked.prog.wantsStandIn t = false := by
  obtain rfl : f = 4 := Option.some.inj ((show Tryd.prog.funcNamed "loop.example/g00843/laws.FnExactParseSlots" = some 4 by kernel_rfl).symm.trans hf) |>.symm
  obtain rfl : fn = Tryd.f4 := (Option.some.inj (Tryd.func4.symm.trans hfn)).symm
  refine ⟨by kernel_rfl, fun j t ht => ?_⟩
  have hall : Tryd.f4.params.toList.all (fun t => !Tryd.prog.wantsStandIn t) = true := by kernel_rfl
  have := List.all_eq_true.1 hall t (by simpa using Array.mem_of_getElem? ht)
  show Tryd.prog.wantsStandIn t = false
  simpa using this
theorem card : Rows.FnExactParseSlotsCardSaid :=
  Claim7.holds_tied_plain_at .later [] _ _ _ _ said (fun _ h => by cases h) (by kernel_rfl) (fun _ h => by cases h) fnExactParseSlots_row_tie rfl ⟨rfl, rfl⟩ (by kernel_rfl) rfl plain (by kernel_rfl)
#print axioms card
end Go.Proofs.YtadpjkghfgnbbaaDoor.fnExactParseSlots
