/- What impl.ReachedBy answers. -/
import Derived.Test.YtfdbnolifimnhabDoorReachB
import Derived.Test.YtfdbnolifimnhabDoorWay
import Derived.Test.YtfdbnolifimnhabDoorPgmP
import Derived.Test.YtfdbnolifimnhabDoorIsB
import Derived.Test.YtfdbnolifimnhabDoorInf
import Derived.Deep.LoopGhost
import Derived.Deep.Cut
import Derived.Laws.AppendOwnNone
namespace Go.Proofs.YtfdbnolifimnhabDoor.L3
open Go Go.RowKit Go.Proofs.YtfdbnolifimnhabDoor.Mem Go.Proofs.YtfdbnolifimnhabDoor.Own
theorem boolInfo : (Tryd.prog.info? 4).map (fun i => (i.zero, i.size, i.bytes)) = some (some (.bool false), 1, 1) := by kernel_rfl
/-- the marks' block -/
def bs (R : List Bool) : List Value := R.map .bool
/-- the marks and the stack in memory -/
structure RSt (w wr : World) (xs : List Ins) (g : Nat) (R : List Bool) (O : List Int) (A : Option Addr) (m c : Nat) : Prop where
  marks : Blk wr g 4 (bs R).toArray
  stack : wr.ownsRow (g + 1) 3 1 (.slice A m c) m (I O)
  len : O.length = m
  below : Below w.heap.size w wr
  base : w.heap.size ≤ g
  stk : Stk xs R O
theorem made_bools (n : Nat) : (madeCells (Value.bool false).cells (n * 1)).toList = bs (List.replicate n false) := by
  refine List.ext_getElem (by simp [madeCells, bs]) fun i h1 h2 => ?_
  simp [madeCells, bs, show (Value.bool false).cells = #[.bool false] from rfl, Nat.mod_one]
theorem bs_at {R : List Bool} {k : Nat} {b : Bool} (h : R[k]? = some b) : (bs R).toArray[k]? = some (.bool b) := by simp [bs, h]
set_option maxRecDepth 100000 in
set_option maxHeartbeats 2000000 in
theorem implReach_any (A : Option Addr) (n c : Nat) (xs : List Ins) (w : World) (hr : Reads w w.heap.size 4 A n (FL xs)) (hn : n ≤ 1048576) (ho : OpsIs w) (M : List Int) (b : Bool) (hM : OkP xs → IsReach xs M ∧ b = true) (hF : ¬ OkP xs → M = [] ∧ b = false) :
    Calls Tryd.prog 25 #[.slice A n c] w fun e w' => ∃ A' c', e = .returned (.tuple #[.slice A' M.length c', .bool b]) ∧ w'.ownsRow w.heap.size 3 1 (.slice A' M.length c') M.length (I M) ∧ Below w.heap.size w w' := by
  obtain ⟨i0, hi, hz0, hz1, hz2⟩ := info_parts intInfo
  obtain ⟨j0, hj, hy0, hy1, hy2⟩ := info_parts boolInfo
  have HR := Lib.hid hr
  have HL : Hid (xs.length = n) := Lib.hid (reads_len hr)
  have HOP := Lib.hid ho
  clear hr ho
  by_cases hok : OkP xs
  · obtain ⟨hm, rfl⟩ := hM hok
    have HM := Lib.hid hm
    have HOK := Lib.hid hok
    have HA := Lib.hid (decide_eq_true hok)
    have hn1 : 1 ≤ n := by rw [← HL.out]; exact hok.2.1
    have hn16 : n ≤ 16 := by rw [← HL.out]; exact hok.2.2
    have hn1z : (1 : Int) ≤ n := by omega
    clear hM hF hok hm
    go_enter Tryd.func25, Tryd.ntmps25
    go_wp2_with fail
    refine (implProg_any A n c xs _ HR.out hn HOP.out _ HA.out).mono ?_
    rintro e w1 ⟨rfl, hb1⟩
    have HB1 := Lib.hid hb1
    clear hb1
    go_upto_region 4 with (at_make; refine wpList_make_full _ rfl _ _ 91 rfl w1.heap.size 4 j0 (.bool false) 1 Tryd.underlying91 hj hy0 hy1 .i64 .i64 _ _ n rfl rfl rfl rfl (by rw [hy2]; omega) (by unfold maxLen; omega) (Nat.le_refl _) ?_; intro w2 hown2 hg2)
    have hB2 : Blk w2 w1.heap.size 4 (bs (List.replicate xs.length false)).toArray := by
      have h := (heap_of_full hown2).1
      unfold Blk
      rw [h, HL.out, made_bools]
    have hb2 : Below w.heap.size w w2 := below_then HB1.out ((Below.refl _ _).grown hg2 (Nat.le_refl _) (by simp))
    have hz2' : w1.heap.size + 1 ≤ w2.heap.size := hB2.lt
    have hRS : RSt w (w2.alloc (.cells #[.int .i64 0] 3)) xs w1.heap.size (List.replicate xs.length false) [0] (some ⟨w2.heap.size, 0, none⟩) 1 1 :=
      ⟨hB2.alloc _, own_mono (World.ownsRow_lit w2 #[.int .i64 0] 1 (Nat.le_refl _) (by decide) rfl) hz2', rfl, below_more hb2 _, HB1.out.size, Stk.start xs⟩
    obtain ⟨gb, hgb⟩ : ∃ g, w1.heap.size = g := ⟨_, rfl⟩
    rw [hgb] at hRS
    have HRS := Lib.hid hRS
    have HU : Hid (3 * un (List.replicate xs.length false) + 1 ≤ 3 * n + 1) := Lib.hid (by rw [un_rep, HL.out]; omega)
    rw [hgb]
    clear hown2 hg2 hB2 hb2 hz2' hRS
    go_wp2_with fail
    go_loopg [5] (3 * n + 2) (fun gg u5 wr => ∃ (R : List Bool) (O : List Int) (A' : Option Addr) (m c' : Nat), u5 = .slice A' m c' ∧ Hid (RSt w wr xs gb R O A' m c') ∧ 3 * un R + m < gg ∧ gg ≤ 3 * n + 2)
    case atStart => exact ⟨_, [0], _, 1, 1, rfl, HRS, by have := HU.out; omega, Nat.le_refl _⟩
    case round =>
      clear HRS HU
      obtain ⟨R, O, A', m, c', rfl, HS, hgg, hgn⟩ := hrel
      by_cases h0 : m = 0
      · subst h0
        have hO : O = [] := List.length_eq_zero_iff.1 HS.out.len
        subst hO
        have hMM : M = ix R n := by rw [← HL.out]; exact (isReach_one (HS.out.stk.done (by rw [HL.out]; omega)) HM.out).symm
        subst hMM
        have HRL : Hid (R.length = n) := Lib.hid (by rw [HS.out.stk.len, HL.out])
        go_wp2_with fail
        go_loopw [7, 55] (fun u7 i wq => ∃ (k : Nat), i = .int .i64 k ∧ k ≤ n ∧ Hid (wq.ownsRow (gb + 1) 3 1 u7 (ix R k).length (I (ix R k))) ∧ Hid (Below w.heap.size w wq) ∧ Hid (Blk wq gb 4 (bs R).toArray)) (fun _ i _ => n - (intOf i).toNat)
        case atStart => exact ⟨0, rfl, Nat.zero_le _, Lib.hid (World.ownsRow_nil _ _ _ _), Lib.hid HS.out.below, Lib.hid HS.out.marks⟩
        case round =>
          obtain ⟨k, rfl, hk, HO, HB, HK⟩ := hrel
          by_cases hlt : k < n
          · obtain ⟨q, hq⟩ : ∃ q, R[k]? = some q := ⟨_, List.getElem?_eq_getElem (by rw [HRL.out]; exact hlt)⟩
            have hlen := ix_len R k
            obtain ⟨m, hm⟩ : ∃ m, (ix R k).length = m := ⟨_, rfl⟩
            have hown := HO.out
            rw [hm] at hlen hown
            have HMM := Lib.hid hm
            have c0 := HK.out.cell k _ (bs_at hq)
            have HQ := Lib.hid hq
            clear hq hm
            cases q with
            | true =>
              have HN : Hid (ix R (k + 1) = ix R k ++ [(k : Int)]) := Lib.hid (ix_hit HQ.out)
              have hbel := HB.out
              have hsz := hbel.size
              have hgbl := HK.out.lt
              go_wp2_with (at_builtin; refine wpList_append_own _ rfl _ _ 38 rfl (gb + 1) 3 i0 (.int .i64 0) 1 8 Tryd.underlying38 hi hz0 hz1 hz2 rfl (by decide) _ _ _ rfl (hown.alloc _) ⟨wr.heap.size, 0, none⟩ 1 1 [.int .i64 k] rfl rfl (cell_one_new _ _ _) (fun x hx => by simp at hx; subst hx; rfl) (by unfold maxLen; omega) (by omega) (by simp; omega) ?_; intro v' w4 hown1 hgrow1 _)
              have hgbs : w.heap.size ≤ gb := HS.out.base
              have HB4 : Hid (Below w.heap.size w w4) := Lib.hid ((hbel.alloc hsz (.cells #[.int .i64 (k : Int)] 3)).grown hgrow1 (by simp; omega) (fun q hq => by have := (hown.lt q hq).1; omega))
              have HO4 : Hid (w4.ownsRow (gb + 1) 3 1 v' (ix R (k + 1)).length (I (ix R (k + 1)))) := Lib.hid (by rw [HN.out, List.length_append, HMM.out]; simpa [I] using hown1)
              have HK4 : Hid (Blk w4 gb 4 (bs R).toArray) := Lib.hid ((hgrow1.block gb (HK.out.alloc _).lt (fun e => by have := (hown.lt gb e.symm).1; omega)).trans (HK.out.alloc (.cells #[.int .i64 (k : Int)] 3)))
              clear hown hbel hsz hown1 hgrow1 c0 hgbs hgbl
              go_roundw
              case rel => exact ⟨k + 1, by go_num, by omega, HO4, HB4, HK4⟩
              case measure => simp [intOf]; omega
            | false =>
              have HO4 : Hid (wr.ownsRow (gb + 1) 3 1 u7 (ix R (k + 1)).length (I (ix R (k + 1)))) := Lib.hid (by rw [ix_miss HQ.out]; exact HO.out)
              clear hown
              go_wp2_with fail
              go_roundw
              case rel => exact ⟨k + 1, by go_num, by omega, HO4, HB, HK⟩
              case measure => simp [intOf]; omega
          · have hkn : k = n := by omega
            subst hkn
            have hown := HO.out
            obtain ⟨A9, c9, rfl, _, _⟩ := own_form hown
            have HO9 : Hid (wr.ownsRow w.heap.size 3 1 (.slice A9 (ix R k).length c9) (ix R k).length (I (ix R k))) := Lib.hid (own_mono hown (by have := HS.out.base; omega))
            clear hown
            go_wp2_with fail
            go_ret2
            exact ⟨A9, c9, rfl, HO9.out, HB.out⟩
      · obtain ⟨k, rfl⟩ : ∃ k, m = k + 1 := ⟨m - 1, by omega⟩
        have hown := HS.out.stack
        obtain ⟨go, rfl⟩ := own_head hown (Nat.succ_pos k)
        obtain ⟨O, z, rfl⟩ : ∃ O2 z, O = O2 ++ [z] := by
          have hne : O ≠ [] := fun e => by have h9 := HS.out.len; rw [e] at h9; simp at h9
          exact ⟨O.dropLast, O.getLast hne, (List.dropLast_concat_getLast hne).symm⟩
        have hl : O.length = k := by have h9 := HS.out.len; rw [List.length_append] at h9; simp at h9; exact h9
        have hkc : k + 1 ≤ c' := by
          obtain ⟨_, _, e1, h3, _⟩ := own_form hown
          simp only [Value.slice.injEq, true_and] at e1
          omega
        have c9 : wr.cell? ⟨go, k, none⟩ = some (.int .i64 z) := (hown.cellAt k (by omega)).trans (by rw [← hl]; simp [I])
        have hOT : (I (O ++ [z])).take k = I O := by rw [← hl]; simp [I]
        have hOW : wr.ownsRow (gb + 1) 3 1 (.slice (some ⟨go, 0, none⟩) k c') k (I O) := by rw [← hOT]; exact own_take hown (Nat.le_succ k)
        have hz := HS.out.stk.stack z (by simp)
        have HOW := Lib.hid hOW
        have HZ := Lib.hid hz
        have HOL := Lib.hid hl
        have hz0' : 0 ≤ z := hz.1
        have hp : 0 < xs.length := by rw [HL.out]; omega
        have hsk : (∀ j : Nat, z = j → j < xs.length → R[j]? = some true) → Hid (RSt w wr xs gb R O (some ⟨go, 0, none⟩) k c') := fun h => Lib.hid ⟨HS.out.marks, HOW.out, HOL.out, HS.out.below, HS.out.base, HS.out.stk.skip h hp⟩
        have HSK := Lib.hid hsk
        have hkz : ((k + 1 : Nat) : Int) - 1 = k := by omega
        have hkcz : (k : Int) ≤ c' := by omega
        have hk64 : k + 1 ≤ 64 := by omega
        clear h0 hown hl hOT hOW hz hp hsk
        by_cases hzn : z < n
        · obtain ⟨j, rfl⟩ : ∃ j : Nat, z = j := ⟨z.toNat, by omega⟩
          have hjn : j < n := by omega
          obtain ⟨q, hq⟩ : ∃ q, R[j]? = some q := ⟨_, List.getElem?_eq_getElem (by rw [HS.out.stk.len, HL.out]; exact hjn)⟩
          have cj := HS.out.marks.cell j _ (bs_at hq)
          have hbd : decide ((0 : Int) ≤ j ∧ (j : Int) < n) = true := decide_eq_true ⟨by omega, by omega⟩
          have HBD := Lib.hid hbd
          have HQ := Lib.hid hq
          clear hbd hq
          cases q with
          | true =>
            have HSS := HSK.out (fun i e _ => by have : i = j := by omega
                                                 subst this; exact HQ.out)
            go_wp2_with fail
            refine (isBelow_any (j : Int) n true HBD.out _).mono ?_
            rintro e w2 ⟨rfl, rfl⟩
            go_wp2_with fail
            go_roundg (3 * un R + (k + 1))
            case measure => omega
            case rel => exact ⟨R, O, _, k, c', rfl, HSS, by omega, by omega⟩
          | false =>
            obtain ⟨b1, o1, x, rfl, hbB, hx, c0, c1, c2, c3⟩ := ins_at (HR.out.below HS.out.below) hjn
            have hw := ways_at hx
            have hmk := HS.out.stk.mark (by rw [HL.out]; exact hjn) HOK.out
            have hun := un_set HQ.out
            have hwl := ways_len xs j
            have hms : Blk (wr.setCell ⟨gb, j, none⟩ (.bool true)) gb 4 (bs (R.set j true)).toArray := by
              have h9 := HS.out.marks.set j (.bool true)
              rw [show (bs R).toArray.setIfInBounds j (.bool true) = (bs (R.set j true)).toArray by simp [bs, List.map_set]] at h9
              exact h9
            have hos : (wr.setCell ⟨gb, j, none⟩ (.bool true)).ownsRow (gb + 1) 3 1 (.slice (some ⟨go, 0, none⟩) k c') k (I O) := own_set HOW.out _ (fun e => by have := (HOW.out.lt gb e).1; omega)
            have hbs : Below w.heap.size w (wr.setCell ⟨gb, j, none⟩ (.bool true)) := below_set HS.out.below HS.out.base _
            have hfr : wr.frozen? ⟨gb, j, none⟩ = false := HS.out.marks.free j
            have hbase := HS.out.base
            obtain ⟨ws, hws⟩ : ∃ ws, wr.setCell ⟨gb, j, none⟩ (.bool true) = ws := ⟨_, rfl⟩
            rw [hws] at hms hos hbs
            obtain ⟨W, hW⟩ : ∃ W, ways xs j = W := ⟨_, rfl⟩
            rw [hW] at hw hmk hwl
            have HWS := Lib.hid hws
            have HMS := Lib.hid hms
            have HOS := Lib.hid hos
            have HBS := Lib.hid hbs
            have HW := Lib.hid hw
            have HMK := Lib.hid hmk
            have HUN := Lib.hid hun
            have HX := Lib.hid hx
            obtain ⟨x0, x1, x2, x3⟩ := x
            simp only at c0 c1 c2 c3
            clear hms hos hbs hws hw hmk hun hx HS HSK hW
            go_wp2_with fail
            refine (isBelow_any (j : Int) n true HBD.out _).mono ?_
            rintro e w2 ⟨rfl, rfl⟩
            go_upto_region 10 with fail
            rw [HWS.out]
            clear c9 cj hfr HWS
            have HR2 := Lib.hid (HR.out.below HBS.out)
            obtain ⟨b2, o2, y, hbb, _, hy, d0, d1, d2, d3⟩ := ins_at HR2.out hjn
            have hxy : y = ⟨x0, x1, x2, x3⟩ := Option.some.inj (hy.symm.trans HX.out)
            subst hxy
            injection hbb with hbb
            injection hbb with hb3 ho3
            subst hb3 ho3
            simp only at d0 d1 d2 d3
            clear c0 c1 c2 c3 hy
            by_cases h0 : x0 = 0
            · subst h0
              have hWn : W = [] := HW.out
              subst hWn
              go_wp2_with fail
              refine (way_nil x1 x2 x3 j _).mono ?_
              rintro e w3 ⟨rfl, hb3⟩
              have ho3 := own_below HOS.out hb3
              have HM3 := Lib.hid (Blk.kept hb3 HMS.out)
              have HB3 := Lib.hid (below_then HBS.out hb3)
              clear hb3 d0 d1 d2 d3
              go_wp2_with (at_builtin; refine wpList_append_own_none rfl _ _ 38 rfl (gb + 1) 3 i0 1 Tryd.underlying38 hi _ _ _ rfl ho3 rfl ?_)
              have hfin : RSt w w3 xs gb (R.set j true) O (some ⟨go, 0, none⟩) k c' := ⟨HM3.out, ho3, HOL.out, HB3.out, hbase, by have h9 := HMK.out; rwa [List.append_nil] at h9⟩
              go_roundg (3 * un R + (k + 1))
              case measure => omega
              case rel => exact ⟨_, O, _, k, c', rfl, Lib.hid hfin, by have := HUN.out; omega, by omega⟩
            · have hWs : (if x0 = 7 then [x3] else if x0 = 8 then [(j : Int) + 1, x3] else [(j : Int) + 1]) = W := by have h9 := HW.out; rw [if_neg h0] at h9; exact h9.symm
              have HWY := Lib.hid (way_some x0 x1 x2 x3 j (by omega) W h0 hWs)
              clear h0 hWs
              go_wp2_with fail
              refine (HWY.out _).mono ?_
              rintro e w3 ⟨gw, rfl, hwb, hb3⟩
              have ho3 := own_below HOS.out hb3
              have HM3 := Lib.hid (Blk.kept hb3 HMS.out)
              have hb4 := below_then HBS.out hb3
              have hcells : ∀ i u, (I W)[i]? = some u → w3.cell? ((⟨gw, 0, none⟩ : Addr).add i) = some u := fun i u hu => by
                rw [Go.WideShapes.add_plain, Nat.zero_add]
                exact hwb.cell i u (by rw [List.getElem?_toArray]; exact hu)
              obtain ⟨V, hV⟩ : ∃ V, I W = V := ⟨_, rfl⟩
              have hVl : V.length = W.length * 1 := by rw [← hV, I_len]; omega
              have hV1 : ∀ u ∈ V, u.oneCell' = true := by rw [← hV]; exact I_one _
              have HV := Lib.hid hV
              obtain ⟨ml, hml⟩ : ∃ ml, W.length = ml := ⟨_, rfl⟩
              have HML := Lib.hid hml
              rw [hV] at hcells
              rw [hml] at hVl hwl
              rw [hml]
              have hgb := HM3.out.lt
              clear d0 d1 d2 d3 hwb hb3 hV hml HWY
              go_wp2_with (at_builtin; refine wpList_append_own _ rfl _ _ 38 rfl (gb + 1) 3 i0 (.int .i64 0) 1 8 Tryd.underlying38 hi hz0 hz1 hz2 rfl (by decide) _ _ _ rfl ho3 ⟨gw, 0, none⟩ ml ml V rfl hVl hcells hV1 (by unfold maxLen; omega) (by omega) (by omega) ?_; intro v' w4 hown1 hgrow1 _)
              have hB4 : Below w.heap.size w w4 := hb4.grown hgrow1 hb4.size (fun q hq => by have := (ho3.lt q hq).1; omega)
              have hM4 : Blk w4 gb 4 (bs (R.set j true)).toArray := (hgrow1.block gb HM3.out.lt (fun e => by have := (ho3.lt gb e.symm).1; omega)).trans HM3.out
              obtain ⟨A4, c4, rfl, _, _⟩ := own_form hown1
              have hfin : RSt w w4 xs gb (R.set j true) (O ++ W) A4 (k + ml) c4 := ⟨hM4, by rw [show I (O ++ W) = I O ++ V by rw [← HV.out]; simp [I]]; exact hown1, by rw [List.length_append, HOL.out, HML.out], hB4, hbase, HMK.out⟩
              clear hown1 hgrow1 hB4 hM4
              go_roundg (3 * un R + (k + 1))
              case measure => omega
              case rel => exact ⟨_, _, _, _, c4, rfl, Lib.hid hfin, by have := HUN.out; omega, by omega⟩
        · have hbd : decide ((0 : Int) ≤ z ∧ z < n) = false := decide_eq_false (by omega)
          have HBD := Lib.hid hbd
          have HSS := HSK.out (fun i e hi => by rw [HL.out] at hi; omega)
          clear hbd
          go_wp2_with fail
          refine (isBelow_any z n false HBD.out _).mono ?_
          rintro e w2 ⟨rfl, rfl⟩
          go_wp2_with fail
          go_roundg (3 * un R + (k + 1))
          case measure => omega
          case rel => exact ⟨R, O, _, k, c', rfl, HSS, by omega, by omega⟩
  · obtain ⟨rfl, rfl⟩ := hF hok
    have HA := Lib.hid (decide_eq_false hok)
    clear hM hF hok
    go_enter Tryd.func25, Tryd.ntmps25
    go_wp2_with fail
    refine (implProg_any A n c xs _ HR.out hn HOP.out _ HA.out).mono ?_
    rintro e w1 ⟨rfl, hb1⟩
    have HB1 := Lib.hid hb1
    clear hb1
    go_wp2_with fail
    go_ret2
    exact ⟨none, 0, rfl, World.ownsRow_nil _ _ _ _, HB1.out⟩
end Go.Proofs.YtfdbnolifimnhabDoor.L3
