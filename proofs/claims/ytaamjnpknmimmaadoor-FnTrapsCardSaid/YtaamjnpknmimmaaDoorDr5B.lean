/- What the draw of a list of traps answers. -/
import Derived.Test.YtaamjnpknmimmaaDoorDr5A
import Derived.Test.YtaamjnpknmimmaaDoorTrpA
import Derived.Deep.LoopGhost
namespace Go.Proofs.YtaamjnpknmimmaaDoor.Draw
open Go Go.RowKit Go.Proofs.YtaamjnpknmimmaaDoor.Mem Go.Proofs.YtaamjnpknmimmaaDoor.Own
set_option linter.unusedVariables false
open Go.Proofs.YtaamjnpknmimmaaDoor.L5
theorem cells_new5 (w : World) (l : List Value) (t : TypeId) : ∀ j u, l[j]? = some u → (w.alloc (.cells l.toArray t)).cell? ((⟨w.heap.size, 0, none⟩ : Addr).add j) = some u := by
  intro j u hu
  rw [Go.WideShapes.add_plain, Nat.zero_add, cell_of_row _ _ _ _ _ _ (heap_alloc_new w _)]
  simpa using hu
/-- at most 51 traps in a slice of the call's own -/
def TrapsDrawn (w : World) (e : Ending) (w' : World) : Prop :=
  ∃ (A : Option Addr) (c : Nat) (L : List Trp), e = .returned (.slice A L.length c) ∧ L.length ≤ 60 ∧ w'.ownsRow w.heap.size 26 5 (.slice A L.length c) L.length (FL L) ∧ Below w.heap.size w w'
theorem one5 (c wd : Int) (s : Bool) (r i : Int) : ∀ x ∈ ([.int .i64 c, .int .i64 wd, .bool s, .int .i64 r, .int .i64 i] : List Value), x.oneCell' = true := by
  intro x hx
  simp at hx
  rcases hx with rfl | rfl | rfl | rfl | rfl <;> rfl
theorem FL_snoc5 (L : List Trp) (c wd : Int) (s : Bool) (r i : Int) : FL L ++ [.int .i64 c, .int .i64 wd, .bool s, .int .i64 r, .int .i64 i] = FL (L ++ [⟨c, wd, s, r, i⟩]) := by
  rw [FL_append, FL_one]
  rfl
set_option maxRecDepth 100000 in
set_option maxHeartbeats 1000000 in
theorem drawCnt_any (w : World) (A : Option Addr) (n cp : Nat) (zs : List Int) (hz : ∀ z ∈ zs, 0 ≤ z ∧ z ≤ 255) (hr : Reads w w.heap.size 1 A n (zs.map (Value.int .u8))) (hn : n ≤ 1000000) :
    Calls Tryd.prog 18 #[.slice A n cp] w (TrapsDrawn w) := by
  obtain ⟨i0, hi, hz0, hz1, hz2⟩ := info_parts infoTrp
  have HC := Lib.hid ((cur_new w A n cp zs hr).alloc (.cells #[] 26))
  have HZ := Lib.hid hz
  have HB := Lib.hid (below_more (below_more (Below.refl w.heap.size w) (.cells #[.slice A n cp, .int .i64 0, .int .u64 0] 56)) (.cells #[] 26))
  have hown0 : ((w.alloc (.cells #[.slice A n cp, .int .i64 0, .int .u64 0] 56)).alloc (.cells #[] 26)).ownsRow (w.heap.size + 1) 26 5 (.slice (some ⟨w.heap.size + 1, 0, none⟩) 0 0) 0 [] := by
    have h := World.ownsRow_made (e := 26) (size := 5) (w.alloc (.cells #[.slice A n cp, .int .i64 0, .int .u64 0] 56)) #[] 0 (Nat.le_refl _) (Nat.zero_le _) rfl
    rwa [size1] at h
  have HO := Lib.hid hown0
  clear hr hz hown0
  go_enter Tryd.func18, Tryd.ntmps18
  go_wp2_with fail
  refine (pick_any _ w.heap.size w.heap.size A n cp zs 0 HZ.out HC.out (by omega) hn 8 (by omega) (by omega)).mono ?_
  rintro e w1 ⟨x, rfl, hx0, hx1, ⟨t1, ht1, hc1⟩, hg1⟩
  obtain ⟨m, rfl⟩ : ∃ m : Nat, x = m := ⟨x.toNat, by omega⟩
  have hown1 := own_cur HO.out hg1 (by omega)
  have HB1 := Lib.hid (below_cur HB.out hg1 (Nat.le_refl _))
  have HC1 := Lib.hid hc1
  clear HC HO HB hg1 hc1
  go_wp2_with fail
  go_loopw [4, 5] (fun v i wr => ∃ (k : Nat) (L : List Trp) (t' : Nat), i = .int .i64 k ∧ k + L.length ≤ m ∧ t' + 40 * k ≤ 1000 ∧ wr.ownsRow (w.heap.size + 1) 26 5 v L.length (FL L) ∧ Hid (Cur wr w.heap.size w.heap.size A n cp zs t') ∧ Hid (Below w.heap.size w wr)) (fun _ i _ => (intOf i).toNat)
  case atStart => exact ⟨m, [], t1, rfl, by simp, by omega, hown1, HC1, HB1⟩
  case round =>
    clear hown1 HC1 HB1
    obtain ⟨k, L, t', rfl, hk, ht', hown, HCr, HBr⟩ := hrel
    by_cases h0 : 0 < k
    · go_wp2_with fail
      refine (trap_any _ w.heap.size w.heap.size A n cp zs t' HZ.out HCr.out (by omega) hn).mono ?_
      rintro e w2 ⟨c, wd, s, r, i, rfl, ⟨t2, ht2, hc2⟩, hg2⟩
      have hown2 := own_cur hown hg2 (by omega)
      have HB2 := Lib.hid (below_cur HBr.out hg2 (Nat.le_refl _))
      have HC2 := Lib.hid hc2
      have hlt2 := hc2.lt
      obtain ⟨b, hb⟩ : ∃ b, decide (Ok ⟨c, wd, s, r, i⟩) = b := ⟨_, rfl⟩
      have HOK := Lib.hid hb
      clear hown hg2 hc2 HCr HBr hb
      go_wp2_with fail
      refine (l5Good_c c wd s r i _ b HOK.out).mono ?_
      rintro e w4 ⟨rfl, hb3⟩
      have HP := Lib.hid (Blk.kept hb3 (Blk.new w2 #[.int .i64 c, .int .i64 wd, .bool s, .int .i64 r, .int .i64 i] 26))
      have hb23 := below_then (below_more (Below.refl w2.heap.size w2) (.cells #[.int .i64 c, .int .i64 wd, .bool s, .int .i64 r, .int .i64 i] 26)) hb3
      have hown6 := own_below hown2 hb23
      replace HC2 := Lib.hid (HC2.out.below hb23)
      replace HB2 := Lib.hid (below_then HB2.out hb23)
      have hsz4 := HB2.out.size
      clear hb3 hb23 hown2 HOK
      have hsz5 : w.heap.size + 1 ≤ w4.heap.size := HC2.out.lt
      cases b
      · go_wp2_with fail
        refine (one_any _ w.heap.size w.heap.size A n cp zs t2 HZ.out HC2.out (by omega) hn 4 (by omega) (by omega)).mono ?_
        rintro e w5 ⟨y, rfl, ⟨t3, ht3, hc3⟩, hg3⟩
        replace HP := Lib.hid (blk_draw HP.out hg3 (by omega))
        replace hown6 := own_cur hown6 hg3 (by omega)
        replace HB2 := Lib.hid (below_cur HB2.out hg3 (Nat.le_refl _))
        replace HC2 := Lib.hid hc3
        replace hsz5 : w.heap.size + 1 ≤ w5.heap.size := HC2.out.lt
        clear hg3 hc3 hsz4
        cases y
        · go_wp2_with fail
          go_roundw
          case rel => exact ⟨k - 1, L, t3, by go_num, by omega, by omega, hown6, HC2, HB2⟩
          case measure => simp [intOf]; omega
        · have p0 := HP.out.cell 0 _ rfl
          have p1 := HP.out.cell 1 _ rfl
          have p2 := HP.out.cell 2 _ rfl
          have p3 := HP.out.cell 3 _ rfl
          have p4 := HP.out.cell 4 _ rfl
          go_wp2_with (at_builtin; refine wpList_append_own _ rfl _ _ 40 rfl (w.heap.size + 1) 26 i0 (.agg #[.int .i64 0, .int .i64 0, .bool false, .int .i64 0, .int .i64 0]) 5 40 Tryd.underlying40 hi hz0 hz1 hz2 rfl (by decide) _ _ _ rfl (hown6.alloc _) ⟨w5.heap.size, 0, none⟩ 1 1 [.int .i64 c, .int .i64 wd, .bool s, .int .i64 r, .int .i64 i] rfl rfl (cells_new5 _ _ _) (one5 _ _ _ _ _) (by unfold maxLen; omega) (by omega) (by simp; omega) ?_; intro v' w3 hown3 hgrow3 _)
          have hc7 := (HC2.out.alloc _).grown hgrow3 (fun r hr => by have := (hown6.lt r hr).1; omega)
          have hb7 := (below_more HB2.out _).grown hgrow3 (by simp; omega) (fun q hq => by have := (hown6.lt q hq).1; omega)
          go_roundw
          case rel => exact ⟨k - 1, L ++ [⟨c, wd, s, r, i⟩], t3, by go_num, by simp; omega, by omega, by rw [← FL_snoc5]; simpa using hown3, Lib.hid hc7, Lib.hid hb7⟩
          case measure => simp [intOf]; omega
      · have p0 := HP.out.cell 0 _ rfl
        have p1 := HP.out.cell 1 _ rfl
        have p2 := HP.out.cell 2 _ rfl
        have p3 := HP.out.cell 3 _ rfl
        have p4 := HP.out.cell 4 _ rfl
        go_wp2_with (at_builtin; refine wpList_append_own _ rfl _ _ 40 rfl (w.heap.size + 1) 26 i0 (.agg #[.int .i64 0, .int .i64 0, .bool false, .int .i64 0, .int .i64 0]) 5 40 Tryd.underlying40 hi hz0 hz1 hz2 rfl (by decide) _ _ _ rfl (hown6.alloc _) ⟨w4.heap.size, 0, none⟩ 1 1 [.int .i64 c, .int .i64 wd, .bool s, .int .i64 r, .int .i64 i] rfl rfl (cells_new5 _ _ _) (one5 _ _ _ _ _) (by unfold maxLen; omega) (by omega) (by simp; omega) ?_; intro v' w3 hown3 hgrow3 _)
        have hc7 := (HC2.out.alloc _).grown hgrow3 (fun r hr => by have := (hown6.lt r hr).1; omega)
        have hb7 := (below_more HB2.out _).grown hgrow3 (by simp; omega) (fun q hq => by have := (hown6.lt q hq).1; omega)
        go_roundw
        case rel => exact ⟨k - 1, L ++ [⟨c, wd, s, r, i⟩], t2, by go_num, by simp; omega, by omega, by rw [← FL_snoc5]; simpa using hown3, Lib.hid hc7, Lib.hid hb7⟩
        case measure => simp [intOf]; omega
    · have hk0 : k = 0 := by omega
      subst hk0
      go_wp2_with fail
      refine (one_any _ w.heap.size w.heap.size A n cp zs t' HZ.out HCr.out (by omega) hn 24 (by omega) (by omega)).mono ?_
      rintro e w5 ⟨y, rfl, ⟨t3, ht3, hc3⟩, hg3⟩
      have hown3 := own_cur hown hg3 (by omega)
      have HB3 := Lib.hid (below_cur HBr.out hg3 (Nat.le_refl _))
      have HC3 := Lib.hid hc3
      clear hown HBr HCr hg3 hc3
      cases y
      · obtain ⟨A1, c1, rfl, _, _⟩ := own_form hown3
        have HX : Hid (TrapsDrawn w (.returned (.slice A1 L.length c1)) w5) := Lib.hid ⟨A1, c1, L, rfl, by omega, own_mono hown3 (Nat.le_succ _), HB3.out⟩
        clear hown3 HB3 HC3
        go_wp2_with fail
        go_ret
        exact HX.out
      · go_wp2_with fail
        go_loopg [4] (52 - L.length) (fun gh v wr => ∃ (L' : List Trp) (t' : Nat), L'.length + gh = 52 ∧ t' + 2 * gh ≤ 2000 ∧ wr.ownsRow (w.heap.size + 1) 26 5 v L'.length (FL L') ∧ Hid (Cur wr w.heap.size w.heap.size A n cp zs t') ∧ Hid (Below w.heap.size w wr))
        case atStart => exact ⟨L, t3, by omega, by omega, hown3, HC3, HB3⟩
        case round =>
          clear hown3 HB3 HC3
          obtain ⟨L', t5, hL', ht5, hown5, HC5, HB5⟩ := hrel
          obtain ⟨A5, c5, rfl, _, _⟩ := own_form hown5
          go_wp2_with fail
          refine (pick_any _ w.heap.size w.heap.size A n cp zs t5 HZ.out HC5.out (by omega) hn 2 (by omega) (by omega)).mono ?_
          rintro e w2 ⟨y, rfl, hy0, hy1, ⟨t6, ht6, hc6⟩, hg6⟩
          have hown6 := own_cur hown5 hg6 (by omega)
          have HB6 := Lib.hid (below_cur HB5.out hg6 (Nat.le_refl _))
          have HC6 := Lib.hid hc6
          have hsz5 : w.heap.size + 1 ≤ w2.heap.size := HC6.out.lt
          clear hown5 HB5 HC5 hg6 hc6
          by_cases hlt : (L'.length : Int) < 50 + y
          · cases gk with
            | zero => omega
            | succ g' =>
              go_wp2_with (at_builtin; refine wpList_append_own _ rfl _ _ 40 rfl (w.heap.size + 1) 26 i0 (.agg #[.int .i64 0, .int .i64 0, .bool false, .int .i64 0, .int .i64 0]) 5 40 Tryd.underlying40 hi hz0 hz1 hz2 rfl (by decide) _ _ _ rfl (hown6.alloc _) ⟨w2.heap.size, 0, none⟩ 1 1 [.int .i64 4, .int .i64 0, .bool false, .int .i64 0, .int .i64 0] rfl rfl (cells_new5 _ _ _) (one5 _ _ _ _ _) (by unfold maxLen; omega) (by omega) (by simp; omega) ?_; intro v' w3 hown3 hgrow3 _)
              have hc7 := (HC6.out.alloc _).grown hgrow3 (fun r hr => by have := (hown6.lt r hr).1; omega)
              have hb7 := (below_more HB6.out _).grown hgrow3 (by simp; omega) (fun q hq => by have := (hown6.lt q hq).1; omega)
              go_roundg g'
              case measure => omega
              case rel => exact ⟨L' ++ [⟨4, 0, false, 0, 0⟩], t6, by simp; omega, by omega, by rw [← FL_snoc5]; simpa using hown3, Lib.hid hc7, Lib.hid hb7⟩
          · have HX : Hid (TrapsDrawn w (.returned (.slice A5 L'.length c5)) w2) := Lib.hid ⟨A5, c5, L', rfl, by omega, own_mono hown6 (Nat.le_succ _), HB6.out⟩
            clear hown6 HB6 HC6
            go_wp2_with fail
            go_ret
            exact HX.out
end Go.Proofs.YtaamjnpknmimmaaDoor.Draw
