/- What AreRegisters answers, of spec and impl. -/
import Derived.Test.YtfdbnolifimnhabDoorPgmP
import Derived.Test.YtfdbnolifimnhabDoorIsB
namespace Go.Proofs.YtfdbnolifimnhabDoor.L3
open Go Go.RowKit Go.Proofs.YtfdbnolifimnhabDoor.Mem Go.Proofs.YtfdbnolifimnhabDoor.Own Go.Proofs.YtfdbnolifimnhabDoor.L1
def Words (zs : List Int) : Prop := zs.length = 4 ∧ ∀ z ∈ zs, 0 ≤ z ∧ z ≤ 65535
instance (zs : List Int) : Decidable (Words zs) := by unfold Words; infer_instance
theorem okG_iff {p : List Ins} {g : Regs} : OkG p g ↔ OkP p ∧ (0 ≤ g.place ∧ g.place < p.length) ∧ Words g.r := by
  unfold OkG Words
  constructor
  · rintro ⟨h1, h2, h3, h4⟩; exact ⟨h1, h3, h2, h4⟩
  · rintro ⟨h1, h3, h2, h4⟩; exact ⟨h1, h2, h3, h4⟩
set_option maxRecDepth 100000 in
set_option maxHeartbeats 2000000 in
theorem areWords_any (A : Option Addr) (n c B : Nat) (zs : List Int) (w : World) (hr : Reads w B 1 A n (I zs)) (hn : n ≤ 1048576) (b : Bool) (hb : decide (Words zs) = b) :
    Calls Tryd.prog 60 #[.slice A n c] w fun e w' => e = .returned (.bool b) ∧ w = w' := by
  have HL : Hid (zs.length = n) := Lib.hid (by have := hr.len; simpa [I] using this)
  have HB := Lib.hid hb
  clear hb
  by_cases h4 : n = 4
  · subst h4
    go_enter Tryd.func60, Tryd.ntmps60
    go_wp2
    go_loop [10] (fun i => ∃ k : Nat, i = .int .i64 k ∧ k ≤ 4 ∧ Hid (∀ z ∈ zs.take k, 0 ≤ z ∧ z ≤ 65535)) (fun i => 4 - (intOf i).toNat)
    case atStart => exact ⟨0, rfl, Nat.zero_le _, Lib.hid (by simp)⟩
    case round =>
      obtain ⟨k, rfl, hk, HK⟩ := hrel
      by_cases hlt : k < 4
      · obtain ⟨b1, o1, z, rfl, _, hu, hc⟩ := hr.int_at hlt
        have HU := Lib.hid hu
        clear hu
        by_cases hz : 0 ≤ z ∧ z < 65536
        · go_wp2_with fail
          refine (isBelow_yes z 65536 hz.1 hz.2 _).mono ?_
          rintro e w1 ⟨rfl, rfl⟩
          go_wp2_with fail
          go_round
          case rel => exact ⟨k + 1, by go_num, by omega, Lib.hid (all_more HK.out HU.out (by omega))⟩
          case measure => simp [intOf]; omega
        · go_wp2_with fail
          refine (isBelow_no z 65536 (by omega) _).mono ?_
          rintro e w1 ⟨rfl, rfl⟩
          go_wp2_with fail
          go_ret
          refine ⟨?_, rfl⟩
          rw [show b = false by rw [← HB.out]; exact decide_eq_false (fun h => by have := h.2 z (List.mem_of_getElem? HU.out); omega)]
          rfl
      · have hkn : k = 4 := by omega
        go_wp2
        go_ret
        refine ⟨?_, rfl⟩
        have hall := HK.out
        rw [List.take_of_length_le (by rw [HL.out]; omega)] at hall
        rw [show b = true by rw [← HB.out]; exact decide_eq_true ⟨by rw [HL.out], hall⟩]
        rfl
  · have hf : b = false := by
      rw [← HB.out]
      refine decide_eq_false fun h' => h4 ?_
      rw [← HL.out]
      exact h'.1
    have HF := Lib.hid hf
    clear hf
    go_enter Tryd.func60, Tryd.ntmps60
    go_wp2
    go_ret
    exact ⟨by rw [HF.out]; rfl, rfl⟩
set_option maxRecDepth 100000 in
set_option maxHeartbeats 2000000 in
theorem implAre_any (A A' : Option Addr) (n c n' c' : Nat) (xs : List Ins) (g : Regs) (w : World) (hr : Reads w w.heap.size 4 A n (FL xs)) (hn : n ≤ 1048576) (hr' : Reads w w.heap.size 1 A' n' (I g.r)) (hn' : n' ≤ 1048576) (ho : OpsIs w) (b : Bool) (hb : decide (OkG xs g) = b) :
    Calls Tryd.prog 24 #[.slice A n c, .agg #[.slice A' n' c', .int .i64 g.place, .bool g.zero, .bool g.stopped]] w fun e w' => e = .returned (.bool b) ∧ Below w.heap.size w w' := by
  have HL : Hid (xs.length = n) := Lib.hid (reads_len hr)
  have HB := Lib.hid hb
  obtain ⟨rs, place, zero, stopped⟩ := g
  simp only at hr' HB ⊢
  have hb0 := (Below.refl w.heap.size w).alloc (Nat.le_refl _) (.cells #[.slice A' n' c', .int .i64 place, .bool zero, .bool stopped] 40)
  have HR := Lib.hid ((hr.below hb0).more hb0.size)
  have HR' := Lib.hid (hr'.below hb0)
  have HO := Lib.hid (ops_below hb0 ho)
  have HX0 : Hid (Blk (w.alloc (.cells #[.slice A' n' c', .int .i64 place, .bool zero, .bool stopped] 40)) w.heap.size 40 #[.slice A' n' c', .int .i64 place, .bool zero, .bool stopped]) := Lib.hid (Blk.new _ _ _)
  have HB0 := Lib.hid hb0
  clear hb hr hr' ho hb0
  have key : b = (decide (OkP xs) && (decide (0 ≤ place ∧ place < n) && decide (Words rs))) := by
    rw [← HB.out, ← Bool.decide_and, ← Bool.decide_and]
    refine decide_eq_decide.2 (okG_iff.trans ?_)
    simp only
    rw [HL.out]
  have HK := Lib.hid key
  clear key
  obtain ⟨b1, hb1⟩ : ∃ b1, decide (OkP xs) = b1 := ⟨_, rfl⟩
  obtain ⟨b2, hb2⟩ : ∃ b2, decide (0 ≤ place ∧ place < (n : Int)) = b2 := ⟨_, rfl⟩
  obtain ⟨b3, hb3⟩ : ∃ b3, decide (Words rs) = b3 := ⟨_, rfl⟩
  rw [hb1, hb2, hb3] at HK
  have H1 := Lib.hid hb1
  have H2 := Lib.hid hb2
  have H3 := Lib.hid hb3
  clear hb1 hb2 hb3
  obtain ⟨wb, hwb⟩ : ∃ wb, w.alloc (.cells #[.slice A' n' c', .int .i64 place, .bool zero, .bool stopped] 40) = wb := ⟨_, rfl⟩
  have HWB := Lib.hid hwb
  rw [hwb] at HR HR' HO HX0 HB0
  clear hwb
  go_enter Tryd.func24, Tryd.ntmps24
  go_wp2_with fail
  rw [HWB.out]
  refine (implProg_any A n c xs _ HR.out hn HO.out b1 H1.out).mono ?_
  rintro e w1 ⟨rfl, hb⟩
  have h0 := Blk.kept hb HX0.out
  have k0 := h0.cell 0 _ rfl
  have k1 := h0.cell 1 _ rfl
  have HR2 := Lib.hid ((HR'.out.more HB0.out.size).below hb)
  have HB1 := Lib.hid (below_then HB0.out hb)
  clear hb h0 HWB HX0 HR HR' HO HB0
  cases b1
  · go_wp2_with fail
    go_ret
    exact ⟨by rw [HK.out]; rfl, HB1.out⟩
  · go_wp2_with fail
    refine (isBelow_any place n b2 H2.out _).mono ?_
    rintro e w2 ⟨rfl, hw⟩
    subst hw
    cases b2
    · go_wp2_with fail
      go_ret
      exact ⟨by rw [HK.out]; rfl, HB1.out⟩
    · go_wp2_with fail
      refine (areWords_any A' n' c' _ rs _ HR2.out hn' b3 H3.out).mono ?_
      rintro e w2 ⟨rfl, hw⟩
      subst hw
      go_wp2_with fail
      go_ret
      exact ⟨by rw [HK.out]; rfl, HB1.out⟩
set_option maxRecDepth 100000 in
set_option maxHeartbeats 2000000 in
theorem l3Good_any (A A' : Option Addr) (n c n' c' : Nat) (xs : List Ins) (g : Regs) (w : World) (hr : Reads w w.heap.size 4 A n (FL xs)) (hn : n ≤ 1048576) (hr' : Reads w w.heap.size 1 A' n' (I g.r)) (hn' : n' ≤ 1048576) (b : Bool) (hb : decide (OkG xs g) = b) :
    Calls Tryd.prog 56 #[.slice A n c, .agg #[.slice A' n' c', .int .i64 g.place, .bool g.zero, .bool g.stopped]] w fun e w' => e = .returned (.bool b) ∧ Below w.heap.size w w' := by
  have HL : Hid (xs.length = n) := Lib.hid (reads_len hr)
  have HB := Lib.hid hb
  obtain ⟨rs, place, zero, stopped⟩ := g
  simp only at hr' HB ⊢
  have hb0 := (Below.refl w.heap.size w).alloc (Nat.le_refl _) (.cells #[.slice A' n' c', .int .i64 place, .bool zero, .bool stopped] 40)
  have HR := Lib.hid ((hr.below hb0).more hb0.size)
  have HR' := Lib.hid (hr'.below hb0)
  have HX0 : Hid (Blk (w.alloc (.cells #[.slice A' n' c', .int .i64 place, .bool zero, .bool stopped] 40)) w.heap.size 40 #[.slice A' n' c', .int .i64 place, .bool zero, .bool stopped]) := Lib.hid (Blk.new _ _ _)
  have HB0 := Lib.hid hb0
  clear hb hr hr' hb0
  have key : b = (decide (OkP xs) && (decide (0 ≤ place ∧ place < n) && decide (Words rs))) := by
    rw [← HB.out, ← Bool.decide_and, ← Bool.decide_and]
    refine decide_eq_decide.2 (okG_iff.trans ?_)
    simp only
    rw [HL.out]
  have HK := Lib.hid key
  clear key
  obtain ⟨b1, hb1⟩ : ∃ b1, decide (OkP xs) = b1 := ⟨_, rfl⟩
  obtain ⟨b2, hb2⟩ : ∃ b2, decide (0 ≤ place ∧ place < (n : Int)) = b2 := ⟨_, rfl⟩
  obtain ⟨b3, hb3⟩ : ∃ b3, decide (Words rs) = b3 := ⟨_, rfl⟩
  rw [hb1, hb2, hb3] at HK
  have H1 := Lib.hid hb1
  have H2 := Lib.hid hb2
  have H3 := Lib.hid hb3
  clear hb1 hb2 hb3
  obtain ⟨wb, hwb⟩ : ∃ wb, w.alloc (.cells #[.slice A' n' c', .int .i64 place, .bool zero, .bool stopped] 40) = wb := ⟨_, rfl⟩
  have HWB := Lib.hid hwb
  rw [hwb] at HR HR' HX0 HB0
  clear hwb
  have HL4 : Hid (rs.length = n') := Lib.hid (by have := HR'.out.len; simpa [I] using this)
  go_enter Tryd.func56, Tryd.ntmps56
  go_wp2_with fail
  rw [HWB.out]
  refine (l3Program_any A n c xs _ HR.out hn b1 H1.out).mono ?_
  rintro e w1 ⟨rfl, hb⟩
  have h0 := Blk.kept hb HX0.out
  have k0 := h0.cell 0 _ rfl
  have k1 := h0.cell 1 _ rfl
  have HR2 := (HR'.out.more HB0.out.size).below hb
  have HB1 := Lib.hid (below_then HB0.out hb)
  clear hb h0 HWB HX0 HR HR' HB0
  cases b1
  · go_wp2_with fail
    go_ret
    exact ⟨by rw [HK.out]; rfl, HB1.out⟩
  · by_cases h4 : n' = 4
    · subst h4
      have hp1 : 1 ≤ n := by
        have h := of_decide_eq_true H1.out
        have := h.2.1
        have := HL.out
        omega
      have h2' : decide (0 ≤ place ∧ place ≤ (n : Int) - 1) = b2 := by rw [← H2.out]; exact decide_eq_decide.2 (by omega)
      have H2' := Lib.hid h2'
      clear h2'
      cases b2
      · go_wp2_with fail
        refine (l1In_any place 0 (n - 1) false H2'.out _).mono ?_
        rintro e w2 ⟨rfl, hw⟩
        subst hw
        go_wp2_with fail
        go_ret
        exact ⟨by rw [HK.out]; rfl, HB1.out⟩
      · go_wp2_with fail
        refine (l1In_any place 0 (n - 1) true H2'.out _).mono ?_
        rintro e w2 ⟨rfl, hw⟩
        subst hw
        go_wp2_with fail
        go_loop [5] (fun i => ∃ k : Nat, i = .int .i64 k ∧ k ≤ 4 ∧ Hid (∀ z ∈ rs.take k, 0 ≤ z ∧ z ≤ 65535)) (fun i => 4 - (intOf i).toNat)
        case atStart => exact ⟨0, rfl, Nat.zero_le _, Lib.hid (by simp)⟩
        case round =>
          obtain ⟨k, rfl, hk, HQ⟩ := hrel
          by_cases hlt : k < 4
          · obtain ⟨bb, oo, z, rfl, _, hu, hc⟩ := HR2.int_at hlt
            have HU := Lib.hid hu
            clear hu
            by_cases hz : 0 ≤ z ∧ z ≤ 65535
            · go_wp2_with fail
              refine (l1In_yes z 0 65535 hz.1 hz.2 _).mono ?_
              rintro e w2 ⟨rfl, hw⟩
              subst hw
              go_wp2_with fail
              go_round
              case rel => exact ⟨k + 1, by go_num, by omega, Lib.hid (all_more HQ.out HU.out hz)⟩
              case measure => simp [intOf]; omega
            · go_wp2_with fail
              refine (l1In_no z 0 65535 (by omega) _).mono ?_
              rintro e w2 ⟨rfl, hw⟩
              subst hw
              go_wp2_with fail
              go_ret
              refine ⟨?_, HB1.out⟩
              rw [HK.out, show b3 = false by rw [← H3.out]; exact decide_eq_false (fun h => by have := h.2 z (List.mem_of_getElem? HU.out); omega)]
              rfl
          · have hkn : k = 4 := by omega
            go_wp2
            go_ret
            refine ⟨?_, HB1.out⟩
            have hall := HQ.out
            rw [List.take_of_length_le (by rw [HL4.out]; omega)] at hall
            rw [HK.out, show b3 = true by rw [← H3.out]; exact decide_eq_true ⟨by rw [HL4.out], hall⟩]
            rfl
    · have hf : b3 = false := by
        rw [← H3.out]
        refine decide_eq_false fun h' => h4 ?_
        rw [← HL4.out]
        exact h'.1
      have HF := Lib.hid hf
      have h5 : ((n' : Int) == 4) = false := by simp; omega
      clear hf
      go_wp2_with fail
      go_ret
      exact ⟨by rw [HK.out, HF.out]; simp, HB1.out⟩
end Go.Proofs.YtfdbnolifimnhabDoor.L3
