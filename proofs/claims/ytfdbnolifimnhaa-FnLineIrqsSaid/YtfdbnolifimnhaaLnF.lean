/- impl's lists of chapter 7: the lines that lead to an interrupt, function values that tell of lines, the interrupts whose lines are as asked. -/
import Derived.Test.YtfdbnolifimnhaaLnJ
import Derived.Test.YtfdbnolifimnhaaLnQ
import Derived.Test.YtfdbnolifimnhaaLinT
import Derived.Test.YtfdbnolifimnhaaLnN
import Derived.Test.YtfdbnolifimnhaaInf
import Derived.Deep.Cut
import Derived.Shelf.Abstract
import Derived.Laws.AppendOwnNone
namespace Go.Proofs.Ytfdbnolifimnhaa.L7
open Go Go.RowKit Go.Proofs.Ytfdbnolifimnhaa.Mem Go.Proofs.Ytfdbnolifimnhaa.Own Go.Proofs.Ytfdbnolifimnhaa.L6
/-- a call that hands back lines of its own -/
def LinsPost (w : World) (l : List Lin) (e : Ending) (w' : World) : Prop :=
  ∃ A' c', e = .returned (.slice A' l.length c') ∧ w'.ownsRow w.heap.size 58 4 (.slice A' l.length c') l.length (FL l) ∧ Below w.heap.size w w'
theorem toI_take (xs : List Lin) (x : Lin) (k j : Nat) (hx : xs[k]? = some x) : toI (xs.take (k + 1)) j = toI (xs.take k) j ++ (if x.iq = (j : Int) then [x] else []) := by
  rw [List.take_add_one, hx]
  exact toI_snoc _ _ _
theorem toI_le (xs : List Lin) (j : Nat) : (toI xs j).length ≤ xs.length := List.length_filter_le _ _
set_option maxRecDepth 100000 in
set_option maxHeartbeats 4000000 in
theorem linesTo_any (A : Option Addr) (n c j : Nat) (xs : List Lin) (w : World) (hr : Reads w w.heap.size 4 A n (FL xs)) (hn : n ≤ 6) :
    Calls Try.prog 160 #[.slice A n c, .int .i64 j] w (LinsPost w (toI xs j)) := by
  obtain ⟨i0, hi, hz0, hz1, hz2⟩ := info_parts infoLin
  have HR := Lib.hid hr
  have HL : Hid (xs.length = n) := Lib.hid (reads_len hr)
  clear hr
  go_enter Try.func160, Try.ntmps160
  go_wp2_with fail
  go_loopw [5, 10] (fun u5 i wr => ∃ (k : Nat), i = .int .i64 k ∧ k ≤ n ∧ Hid (∃ A' c', u5 = .slice A' (toI (xs.take k) j).length c' ∧ wr.ownsRow w.heap.size 58 4 (.slice A' (toI (xs.take k) j).length c') (toI (xs.take k) j).length (FL (toI (xs.take k) j))) ∧ Hid (Below w.heap.size w wr)) (fun _ i _ => n - (intOf i).toNat)
  case atStart => exact ⟨0, rfl, Nat.zero_le _, Lib.hid ⟨none, 0, rfl, World.ownsRow_nil _ _ _ _⟩, Lib.hid (Below.refl _ _)⟩
  case round =>
    obtain ⟨k, rfl, hk, HO, HB⟩ := hrel
    obtain ⟨A', c', rfl, hown⟩ := HO.out
    clear HO
    by_cases hlt : k < n
    · obtain ⟨b1, o1, x, rfl, hbB, hu, c0, c1, c2, c3⟩ := lin_at (HR.out.below HB.out) hlt
      have HT := Lib.hid (toI_take xs x k j hu)
      have hm := toI_le (xs.take k) j
      rw [List.length_take] at hm
      obtain ⟨m, hmm⟩ : ∃ m, (toI (xs.take k) j).length = m := ⟨_, rfl⟩
      rw [hmm] at hown hm ⊢
      have HM := Lib.hid hmm
      clear hu hmm
      obtain ⟨x0, x1, x2, x3⟩ := x
      simp only at c0 c1 c2 c3
      obtain ⟨wx, hwx⟩ : ∃ wx, wr.alloc (.cells #[.int .i64 x0, .int .i64 x1, .bool x2, .bool x3] 58) = wx := ⟨_, rfl⟩
      have hbx : Below wr.heap.size wr wx := by rw [← hwx]; exact below_more (Below.refl _ _) _
      have hx : Blk wx wr.heap.size 58 #[.int .i64 x0, .int .i64 x1, .bool x2, .bool x3] := by rw [← hwx]; exact Blk.new _ _ _
      have HX := Lib.hid hx
      have HO := Lib.hid (own_below hown hbx)
      have HB2 := Lib.hid (below_then HB.out hbx)
      have HWX := Lib.hid hwx
      have hm6 : m ≤ 6 := by omega
      clear hx hwx hbx hown HB hm
      go_upto_region 5 with fail
      rw [HWX.out]
      have d0 := HX.out.cell 0 _ rfl
      have d1 := HX.out.cell 1 _ rfl
      have d2 := HX.out.cell 2 _ rfl
      have d3 := HX.out.cell 3 _ rfl
      clear HWX c0 c1 c2 c3
      by_cases hj : x1 = (j : Int)
      · have t1 : (x1 == (j : Int)) = true := by simpa using hj
        have HT2 : Hid (toI (xs.take (k + 1)) j = toI (xs.take k) j ++ [⟨x0, x1, x2, x3⟩]) := Lib.hid (by rw [HT.out, if_pos hj])
        have hown := HO.out
        have hsz := HB2.out.size
        clear hj HT
        go_wp2_with (at_builtin; refine wpList_append_own _ rfl _ _ 66 rfl w.heap.size 58 i0 (.agg #[.int .i64 0, .int .i64 0, .bool false, .bool false]) 4 24 Try.underlying66 hi hz0 hz1 hz2 rfl (by decide) _ _ _ rfl (hown.alloc _) ⟨wx.heap.size, 0, none⟩ 1 1 [.int .i64 x0, .int .i64 x1, .bool x2, .bool x3] rfl rfl (cells_new _ _ _) (one_lin ⟨x0, x1, x2, x3⟩) (by unfold maxLen; omega) (by omega) (by simp; omega) ?_; intro v' w4 hown1 hgrow1 _)
        have HB4 := Lib.hid ((HB2.out.alloc hsz (.cells #[.int .i64 x0, .int .i64 x1, .bool x2, .bool x3] 58)).grown hgrow1 (by simp; omega) (fun q hq => (hown.lt q hq).1))
        obtain ⟨A6, c6, rfl, _, _⟩ := own_form hown1
        have HO4 : Hid (∃ A' c', Value.slice A6 (m + 1) c6 = .slice A' (toI (xs.take (k + 1)) j).length c' ∧ w4.ownsRow w.heap.size 58 4 (.slice A' (toI (xs.take (k + 1)) j).length c') (toI (xs.take (k + 1)) j).length (FL (toI (xs.take (k + 1)) j))) := Lib.hid (by
          rw [HT2.out, List.length_append, HM.out]
          exact ⟨A6, c6, rfl, by rw [← snoc_lin]; exact hown1⟩)
        clear hown hsz hown1 hgrow1 d0 d1 d2 d3
        go_roundw
        case rel => exact ⟨k + 1, by go_num, by omega, HO4, HB4⟩
        case measure => simp [intOf]; omega
      · have t1 : (x1 == (j : Int)) = false := by simpa using hj
        have HT2 : Hid (toI (xs.take (k + 1)) j = toI (xs.take k) j) := Lib.hid (by rw [HT.out, if_neg hj, List.append_nil])
        have HO4 : Hid (∃ A2 c2, Value.slice A' m c' = .slice A2 (toI (xs.take (k + 1)) j).length c2 ∧ wx.ownsRow w.heap.size 58 4 (.slice A2 (toI (xs.take (k + 1)) j).length c2) (toI (xs.take (k + 1)) j).length (FL (toI (xs.take (k + 1)) j))) := Lib.hid (by
          rw [HT2.out, HM.out]
          exact ⟨A', c', rfl, HO.out⟩)
        clear hj HT d0 d2 d3
        go_wp2_with fail
        go_roundw
        case rel => exact ⟨k + 1, by go_num, by omega, HO4, HB2⟩
        case measure => simp [intOf]; omega
    · have hkn : k = n := by omega
      subst hkn
      rw [List.take_of_length_le (by rw [HL.out]; exact Nat.le_refl _)] at hown ⊢
      go_wp2_with fail
      go_ret
      exact ⟨A', c', rfl, hown, HB.out⟩
/-- a function value that tells a property of lines, in all worlds that hold what w holds -/
def TellsL (k : Nat) (lb : Array Value) (p : Lin → Bool) (w : World) : Prop :=
  ∀ (x0 x1 : Int) (x2 x3 : Bool) (w' : World), Below w.heap.size w w' → Calls Try.prog k (#[.agg #[.int .i64 x0, .int .i64 x1, .bool x2, .bool x3]] ++ lb) w' fun e w'' => e = .returned (.bool (p ⟨x0, x1, x2, x3⟩)) ∧ Below w'.heap.size w' w''
theorem any_takeL {xs : List Lin} {p : Lin → Bool} {k : Nat} {x : Lin} (h : xs[k]? = some x) : (xs.take (k + 1)).any p = ((xs.take k).any p || p x) := by
  rw [List.take_add_one, h, List.any_append]
  simp
set_option maxRecDepth 100000 in
set_option maxHeartbeats 2000000 in
theorem indexFunc_any (A : Option Addr) (n c k : Nat) (lb : Array Value) (p : Lin → Bool) (eg : ∀ args w, (callFunc k args).run Try.prog w = .ok (.enter k args) w) (xs : List Lin) (w : World) (hr : Reads w w.heap.size 4 A n (FL xs)) (hn : n ≤ 1048576) (hp : TellsL k lb p w) :
    Calls Try.prog 161 #[.slice A n c, .func (.func k) #[] lb] w fun e w' => (∃ r : Int, e = .returned (.int .i64 r) ∧ decide (0 ≤ r) = xs.any p) ∧ Below w.heap.size w w' := by
  have HL : Hid (xs.length = n) := Lib.hid (reads_len hr)
  have HP := Lib.hid hp
  have HR := Lib.hid hr
  clear hp hr
  go_enter Try.func161, Try.ntmps161
  go_wp2
  go_loopw [8] (fun i wr => ∃ (j : Nat), i = .int .i64 j ∧ j ≤ n ∧ Hid ((xs.take j).any p = false) ∧ Below w.heap.size w wr) (fun i _ => n - (intOf i).toNat)
  case atStart => exact ⟨0, rfl, Nat.zero_le _, Lib.hid (by simp), Below.refl _ _⟩
  case round =>
    obtain ⟨j, rfl, hj, HA, hbel⟩ := hrel
    by_cases hlt : j < n
    · obtain ⟨b, off, x, rfl, _, hx, c0, c1, c2, c3⟩ := lin_at (HR.out.below hbel) hlt
      have HX := Lib.hid hx
      have HB := Lib.hid hbel
      clear hx hbel
      obtain ⟨x0, x1, x2, x3⟩ := x
      simp only at c0 c1 c2 c3
      have hcall := HP.out x0 x1 x2 x3 wr HB.out
      have HT := Lib.hid (any_takeL (p := p) HX.out)
      cases hq : p ⟨x0, x1, x2, x3⟩ with
      | true =>
        have HQ := Lib.hid hq
        rw [hq] at hcall
        clear hq
        go_wp2_with fail
        refine hcall.mono ?_
        rintro e w2 ⟨rfl, hb⟩
        clear c0 c1 c2 c3 hcall
        go_wp2_with fail
        go_ret
        refine ⟨⟨j, rfl, ?_⟩, below_then HB.out hb⟩
        have h1 : xs.any p = true := List.any_eq_true.2 ⟨_, List.mem_of_getElem? HX.out, HQ.out⟩
        rw [h1]
        exact decide_eq_true (by omega)
      | false =>
        have HQ := Lib.hid hq
        rw [hq] at hcall
        clear hq
        go_wp2_with fail
        refine hcall.mono ?_
        rintro e w2 ⟨rfl, hb⟩
        clear c0 c1 c2 c3 hcall
        go_wp2_with fail
        go_roundw
        case rel => exact ⟨j + 1, by go_num, by omega, Lib.hid (by rw [HT.out, HA.out, HQ.out]; rfl), below_then HB.out hb⟩
        case measure => simp [intOf]; omega
    · have hjn : j = n := by omega
      subst hjn
      have hz : xs.any p = false := by
        have h := HA.out
        rwa [List.take_of_length_le (by rw [HL.out]; exact Nat.le_refl _)] at h
      have HZ := Lib.hid hz
      clear hz HP eg HA
      go_wp2_with fail
      go_ret
      exact ⟨⟨-1, rfl, HZ.out.symm⟩, hbel⟩
set_option maxRecDepth 100000 in
set_option maxHeartbeats 2000000 in
theorem containsFunc_any (A : Option Addr) (n c k : Nat) (lb : Array Value) (p : Lin → Bool) (eg : ∀ args w, (callFunc k args).run Try.prog w = .ok (.enter k args) w) (xs : List Lin) (w : World) (hr : Reads w w.heap.size 4 A n (FL xs)) (hn : n ≤ 1048576) (hp : TellsL k lb p w) :
    Calls Try.prog 144 #[.slice A n c, .func (.func k) #[] lb] w fun e w' => e = .returned (.bool (xs.any p)) ∧ Below w.heap.size w w' := by
  go_enter Try.func144, Try.ntmps144
  go_wp2_with fail
  refine (indexFunc_any A n c k lb p eg xs _ hr hn hp).mono ?_
  rintro e w1 ⟨⟨r, rfl, hr1⟩, hb⟩
  go_wp2_with fail
  go_ret
  exact ⟨by rw [← hr1]; rfl, hb⟩
/-- a function value that tells of lists of lines -/
def Asks (k : Nat) (p : List Lin → Bool) : Prop :=
  ∀ (A : Option Addr) (n c : Nat) (l : List Lin) (w : World), n ≤ 6 → Reads w w.heap.size 4 A n (FL l) → Calls Try.prog k #[.slice A n c] w fun e w' => e = .returned (.bool (p l)) ∧ Below w.heap.size w w'
set_option maxRecDepth 100000 in
set_option maxHeartbeats 4000000 in
theorem irqsWhose_any (f : Nat) (p : List Lin → Bool) (hp : Asks f p) (eg : ∀ args w, (callFunc f args).run Try.prog w = .ok (.enter f args) w) (A : Option Addr) (n c : Nat) (xs : List Lin) (w : World) (hr : Reads w w.heap.size 4 A n (FL xs)) (hn : n ≤ 1048576) (l : List Nat) (b : Bool) (h : iqAns p xs = (l, b)) :
    Calls Try.prog 142 #[.slice A n c, .func (.func f) #[] #[]] w (NatPost w l b) := by
  obtain ⟨i0, hi, hz0, hz1, hz2⟩ := info_parts intInfo
  have HR := Lib.hid hr
  have HL : Hid (xs.length = n) := Lib.hid (reads_len hr)
  have HP := Lib.hid hp
  clear hr hp
  by_cases hok : OkL xs
  · obtain ⟨rfl, rfl⟩ := iqAns_yes h hok
    have HA := Lib.hid (decide_eq_true hok)
    have hn6 : n ≤ 6 := by rw [← HL.out]; exact hok.1
    clear h hok
    go_enter Try.func142, Try.ntmps142
    go_wp2_with fail
    refine (implAre_any A n c _ xs _ HR.out (Nat.le_refl _) hn _ HA.out).mono ?_
    rintro e w1 ⟨rfl, hb1⟩
    have HB1 := Lib.hid hb1
    clear hb1
    go_wp2_with fail
    go_loopw [6, 11] (fun u6 i wr => ∃ (k : Nat), i = .int .i64 k ∧ k ≤ 8 ∧ Hid (wr.ownsRow w.heap.size 3 1 u6 (irqs p xs k).length (I (ints (irqs p xs k)))) ∧ Hid (Below w.heap.size w wr)) (fun _ i _ => 8 - (intOf i).toNat)
    case atStart => exact ⟨0, rfl, Nat.zero_le _, Lib.hid (World.ownsRow_nil _ _ _ _), HB1⟩
    case round =>
      obtain ⟨k, rfl, hk, HO, HB⟩ := hrel
      by_cases hlt : k < 8
      · go_wp2_with fail
        refine (linesTo_any A n c k xs _ ((HR.out.below HB.out).more HB.out.size) hn6).mono ?_
        rintro e w2 ⟨A2, c2, rfl, hown2, hb2⟩
        have hm6 : (toI xs k).length ≤ 6 := Nat.le_trans (toI_le xs k) (by rw [HL.out]; exact hn6)
        have hcall := HP.out A2 (toI xs k).length c2 (toI xs k) w2 hm6 (own_reads hown2)
        obtain ⟨m2, hm2⟩ : ∃ m, (toI xs k).length = m := ⟨_, rfl⟩
        rw [hm2] at hcall ⊢
        obtain ⟨q, hq⟩ : ∃ q, p (toI xs k) = q := ⟨_, rfl⟩
        rw [hq] at hcall
        have HQ : Hid (irqs p xs (k + 1) = irqs p xs k ++ (if q = true then [k] else [])) := Lib.hid (by rw [irqs_succ, hq])
        have HB2 := Lib.hid (below_then HB.out hb2)
        have HO2 := Lib.hid (own_below HO.out hb2)
        have hlen := irqs_len p xs k
        obtain ⟨m, hmm⟩ : ∃ m, (irqs p xs k).length = m := ⟨_, rfl⟩
        rw [hmm] at HO2 hlen
        have HM := Lib.hid hmm
        clear hown2 hb2 hm6 hm2 hq HO HB hmm
        go_wp2_with fail
        refine hcall.mono ?_
        rintro e w3 ⟨rfl, hb3⟩
        have HB3 := Lib.hid (below_then HB2.out hb3)
        have HO3 := Lib.hid (own_below HO2.out hb3)
        clear hcall hb3 HB2 HO2
        cases q with
        | true =>
          have HN : Hid (irqs p xs (k + 1) = irqs p xs k ++ [k]) := Lib.hid (by rw [HQ.out]; rfl)
          have hown := HO3.out
          have hbel := HB3.out
          have hsz := hbel.size
          clear HQ
          go_wp2_with (at_builtin; refine wpList_append_own _ rfl _ _ 24 rfl w.heap.size 3 i0 (.int .i64 0) 1 8 Try.underlying24 hi hz0 hz1 hz2 rfl (by decide) _ _ _ rfl (hown.alloc _) ⟨w3.heap.size, 0, none⟩ 1 1 [.int .i64 k] rfl rfl (cell_one_new _ _ _) (fun x hx => by simp at hx; subst hx; rfl) (by unfold maxLen; omega) (by omega) (by simp; omega) ?_; intro v' w4 hown1 hgrow1 _)
          have HB4 := Lib.hid ((hbel.alloc hsz (.cells #[.int .i64 (k : Int)] 3)).grown hgrow1 (by simp; omega) (fun q hq => (hown.lt q hq).1))
          have HO4 : Hid (w4.ownsRow w.heap.size 3 1 v' (irqs p xs (k + 1)).length (I (ints (irqs p xs (k + 1))))) := Lib.hid (by rw [HN.out, List.length_append, HM.out, ← ints_snoc]; exact hown1)
          clear hown hbel hsz hown1 hgrow1
          go_roundw
          case rel => exact ⟨k + 1, by go_num, by omega, HO4, HB4⟩
          case measure => simp [intOf]; omega
        | false =>
          have HO4 : Hid (w3.ownsRow w.heap.size 3 1 u6 (irqs p xs (k + 1)).length (I (ints (irqs p xs (k + 1))))) := Lib.hid (by rw [HQ.out]; simpa [HM.out] using HO3.out)
          clear HQ
          go_wp2_with fail
          go_roundw
          case rel => exact ⟨k + 1, by go_num, by omega, HO4, HB3⟩
          case measure => simp [intOf]; omega
      · have hkn : k = 8 := by omega
        subst hkn
        have hown := HO.out
        obtain ⟨A', c', rfl, _, _⟩ := own_form hown
        clear HO eg
        go_wp2_with fail
        go_ret2
        exact ⟨A', c', rfl, hown, HB.out⟩
  · obtain ⟨rfl, rfl⟩ := iqAns_no h hok
    have HA := Lib.hid (decide_eq_false hok)
    clear h hok eg
    go_enter Try.func142, Try.ntmps142
    go_wp2_with fail
    refine (implAre_any A n c _ xs _ HR.out (Nat.le_refl _) hn _ HA.out).mono ?_
    rintro e w1 ⟨rfl, hb1⟩
    have HB1 := Lib.hid hb1
    clear hb1
    go_wp2_with fail
    go_ret2
    exact ⟨none, 0, rfl, World.ownsRow_nil _ _ _ _, HB1.out⟩
end Go.Proofs.Ytfdbnolifimnhaa.L7
