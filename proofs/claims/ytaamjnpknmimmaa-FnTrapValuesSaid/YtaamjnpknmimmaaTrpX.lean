/- What LoadValue answers, of spec and impl. -/
import Derived.Test.YtaamjnpknmimmaaTrpW
import Derived.Test.YtaamjnpknmimmaaCopy
import Derived.StillTailTactics
import Derived.Deep.Cut
import Derived.Deep.CutRange
namespace Go.Proofs.Ytaamjnpknmimmaa.L5
open Go Go.RowKit Go.Proofs.Ytaamjnpknmimmaa.Mem Go.Proofs.Ytaamjnpknmimmaa.Own Go.Proofs.Ytaamjnpknmimmaa.L1 Go.Proofs.Ytaamjnpknmimmaa.Bit
def ldAns (t : Trp) (zs : List Int) (v : Int) : List Int × Bool := if OkL t zs v then (loadOf t zs v, true) else ([], false)
/-- what LoadValue leaves: its answer is its own -/
def LdPost (w : World) (l : List Int) (b : Bool) (e : Ending) (w' : World) : Prop :=
  ∃ A' c', e = .returned (.tuple #[.slice A' l.length c', .bool b]) ∧ w'.ownsRow w.heap.size 3 1 (.slice A' l.length c') l.length (I l) ∧ Below w.heap.size w w'
set_option maxRecDepth 100000 in
set_option maxHeartbeats 2000000 in
theorem implLoad_yes (wd : Int) (k : Nat) (i : Int) (A : Option Addr) (cap : Nat) (zs : List Int) (v p : Int) (w : World) (hr : Reads w w.heap.size 1 A 4 (I zs)) (hk : k < 4) (hw : wd = 1 ∨ wd = 2 ∨ wd = 4) (hd : Ok ⟨3, wd, false, (k : Int), i⟩) (hz : Words zs) (h0 : 0 ≤ v) (h1 : v < 4294967296) (hp : partOf v wd = p) :
    Calls Try.prog 30 #[.agg #[.int .i64 3, .int .i64 wd, .bool false, .int .i64 (k : Int), .int .i64 i], .slice A 4 cap, .int .i64 v] w (LdPost w (zs.set k p) true) := by
  have hba := below_more (Below.refl w.heap.size w) (.cells #[.int .i64 3, .int .i64 wd, .bool false, .int .i64 (k : Int), .int .i64 i] 25)
  have HR := Lib.hid ((hr.below hba).more hba.size)
  have HD := Lib.hid (decide_eq_true hd)
  have HZ := Lib.hid (decide_eq_true hz)
  have HL := Lib.hid hz.1
  obtain ⟨b1, o1, hA, _, _⟩ := hr.2 (by omega)
  subst hA
  have k4 : (k : Int) < 4 := by omega
  have HP := Lib.hid hp
  clear hr hba hd hz hp
  go_enter Try.func30, Try.ntmps30
  go_wp2_with fail
  refine (isDev_any 3 wd false k i true (decide_eq_true ⟨of_decide_eq_true HD.out, rfl⟩) _).mono ?_
  rintro e w1 ⟨rfl, hb⟩
  have hP := Blk.kept hb (Blk.new w #[.int .i64 3, .int .i64 wd, .bool false, .int .i64 (k : Int), .int .i64 i] 25)
  have HB := Lib.hid hP
  have p2 := hP.cell 2 _ rfl
  have HR1 := Lib.hid ((HR.out.below hb).more hb.size)
  have HW := Lib.hid (below_then (below_more (Below.refl w.heap.size w) _) hb)
  clear hb hP HR
  go_wp2_with fail
  refine (areWords5_any _ 4 cap _ zs _ HR1.out (by omega) true HZ.out).mono ?_
  rintro e w2 ⟨rfl, hw2⟩
  subst hw2
  go_wp2_with fail
  refine (isBelow_yes v 4294967296 h0 h1 _).mono ?_
  rintro e w2 ⟨rfl, hw2⟩
  subst hw2
  go_wp2_with fail
  refine (clone_some b1 o1 4 cap _ zs _ HR1.out (by omega) (by omega)).mono ?_
  rintro e w2 ⟨g, cc, rfl, hown, hb⟩
  have hB2 := Blk.kept hb HB.out
  have p1 : w2.drew.cell? ⟨w.heap.size, 1, none⟩ = some (.int .i64 wd) := hB2.cell 1 _ rfl
  have p3 : w2.drew.cell? ⟨w.heap.size, 3, none⟩ = some (.int .i64 k) := hB2.cell 3 _ rfl
  have HW2 := Lib.hid (below_then HW.out hb)
  have f0 : w2.drew.frozen? ⟨g, k, none⟩ = false := hown.frozenAt k
  obtain ⟨y0, d0'⟩ : ∃ z, w2.cell? ⟨g, k, none⟩ = some z := ⟨_, (hown.cellAt k (by omega)).trans (List.getElem?_eq_getElem (by rw [I_len, HL.out]; exact hk))⟩
  have d0 : w2.drew.cell? ⟨g, k, none⟩ = some y0 := d0'
  have s0 := (show w2.drew.ownsRow _ _ _ _ _ _ from hown).stored k (.int .i64 p)
  rw [Own.I_set] at s0
  have hg := (hown.lt g rfl).1
  have hws := HW.out.size
  have HX : Hid (LdPost w (zs.set k p) true (.returned (.tuple #[.slice (some ⟨g, 0, none⟩) 4 cc, .bool true])) (w2.drew.setCell ⟨g, k, none⟩ (.int .i64 p))) := Lib.hid (by
    refine ⟨some ⟨g, 0, none⟩, cc, ?_, ?_, below_set (below_then HW2.out (below_drew1 _)) (by omega) _⟩
    · rw [List.length_set, HL.out]
    · rw [List.length_set, HL.out]; exact own_mono s0.1 (by omega))
  have hmin : (wd = 1 ∧ partOf v 1 = p) ∨ ((wd = 2 ∨ wd = 4) ∧ partOf v 2 = p) := by
    rcases hw with rfl | rfl | rfl
    · exact .inl ⟨rfl, HP.out⟩
    · exact .inr ⟨.inl rfl, HP.out⟩
    · exact .inr ⟨.inr rfl, HP.out⟩
  clear hB2 hown hb s0 HB HW HW2 p2 d0' hw HP
  go_upto_region 4 with fail
  rcases hmin with ⟨rfl, hp⟩ | ⟨rfl | rfl, hp⟩
  all_goals
    have HP := Lib.hid hp
    clear hp
    refine wp_region_still_tail 9 (by kernel_rfl) (by kernel_rfl) ?_
    simp only [List.take_succ_cons, List.take_zero, List.drop_succ_cons, List.drop_zero]
    change wpStill _ _ w2.drew _ _ _
    iterate 7 still_step
    still_call ((lowest_any v _ p (by first | exact .inl rfl | exact .inr (.inl rfl)) (fun h => absurd h (by decide)) HP.out _).mono fun _ _ h => ⟨h.1, h.2.symm⟩)
    still_step
    refine wpStill_nil ?_
    change wpList _ _ _ _ _ w2.drew
    go_wp2_with fail
    go_ret2
    exact HX.out
set_option maxRecDepth 100000 in
set_option maxHeartbeats 2000000 in
theorem specLoad_yes (wd : Int) (k : Nat) (i : Int) (A : Option Addr) (cap : Nat) (zs : List Int) (v p : Int) (w : World) (hr : Reads w w.heap.size 1 A 4 (I zs)) (hk : k < 4) (_hw : wd = 1 ∨ wd = 2 ∨ wd = 4) (hd : Ok ⟨3, wd, false, (k : Int), i⟩) (hz : Words zs) (h0 : 0 ≤ v) (h1 : v < 4294967296) (hp : partOf v wd = p) :
    Calls Try.prog 29 #[.agg #[.int .i64 3, .int .i64 wd, .bool false, .int .i64 (k : Int), .int .i64 i], .slice A 4 cap, .int .i64 v] w (LdPost w (zs.set k p) true) := by
  have hba := below_more (Below.refl w.heap.size w) (.cells #[.int .i64 3, .int .i64 wd, .bool false, .int .i64 (k : Int), .int .i64 i] 25)
  have HR := Lib.hid ((hr.below hba).more hba.size)
  have HD := Lib.hid (decide_eq_true hd)
  have HZ := Lib.hid (decide_eq_true hz)
  have HL := Lib.hid hz.1
  obtain ⟨b1, o1, hA, _, _⟩ := hr.2 (by omega)
  subst hA
  have k4 : (k : Int) < 4 := by omega
  have HP := Lib.hid hp
  clear hr hba hd hz hp
  go_enter Try.func29, Try.ntmps29
  go_wp2_with fail
  refine (l5Good_c 3 wd false k i _ true HD.out).mono ?_
  rintro e w1 ⟨rfl, hb⟩
  have hP := Blk.kept hb (Blk.new w #[.int .i64 3, .int .i64 wd, .bool false, .int .i64 (k : Int), .int .i64 i] 25)
  have HB := Lib.hid hP
  have p0 := hP.cell 0 _ rfl
  have p2 := hP.cell 2 _ rfl
  have HR1 := Lib.hid ((HR.out.below hb).more hb.size)
  have HW := Lib.hid (below_then (below_more (Below.refl w.heap.size w) _) hb)
  clear hb hP HR
  go_wp2_with fail
  refine (l5Registers_any _ 4 cap _ zs _ HR1.out (by omega) true HZ.out).mono ?_
  rintro e w2 ⟨rfl, hw2⟩
  subst hw2
  go_wp2_with fail
  refine (l1In_yes v 0 4294967295 h0 (by omega) _).mono ?_
  rintro e w2 ⟨rfl, hw2⟩
  subst hw2
  go_wp2_with fail
  refine (l1Own_some b1 o1 4 cap _ zs _ HR1.out (by omega) (by omega)).mono ?_
  rintro e w2 ⟨g, cc, rfl, hown, hb⟩
  have hB2 := Blk.kept hb HB.out
  have p1 : w2.drew.cell? ⟨w.heap.size, 1, none⟩ = some (.int .i64 wd) := hB2.cell 1 _ rfl
  have p3 : w2.drew.cell? ⟨w.heap.size, 3, none⟩ = some (.int .i64 k) := hB2.cell 3 _ rfl
  have HW2 := Lib.hid (below_then HW.out hb)
  have f0 : w2.drew.frozen? ⟨g, k, none⟩ = false := hown.frozenAt k
  obtain ⟨y0, d0'⟩ : ∃ z, w2.cell? ⟨g, k, none⟩ = some z := ⟨_, (hown.cellAt k (by omega)).trans (List.getElem?_eq_getElem (by rw [I_len, HL.out]; exact hk))⟩
  have d0 : w2.drew.cell? ⟨g, k, none⟩ = some y0 := d0'
  have s0 := (show w2.drew.ownsRow _ _ _ _ _ _ from hown).stored k (.int .i64 p)
  rw [Own.I_set] at s0
  have hg := (hown.lt g rfl).1
  have hws := HW.out.size
  have HX : Hid (LdPost w (zs.set k p) true (.returned (.tuple #[.slice (some ⟨g, 0, none⟩) 4 cc, .bool true])) (w2.drew.setCell ⟨g, k, none⟩ (.int .i64 p))) := Lib.hid (by
    refine ⟨some ⟨g, 0, none⟩, cc, ?_, ?_, below_set (below_then HW2.out (below_drew1 _)) (by omega) _⟩
    · rw [List.length_set, HL.out]
    · rw [List.length_set, HL.out]; exact own_mono s0.1 (by omega))
  clear hB2 hown hb s0 HB HW HW2 p2 p0 d0'
  go_upto_region 4 with fail
  refine wp_region_still_tail 8 (by kernel_rfl) (by kernel_rfl) ?_
  simp only [List.take_succ_cons, List.take_zero, List.drop_succ_cons, List.drop_zero]
  change wpStill _ _ w2.drew _ _ _
  iterate 6 still_step
  still_call ((l5Part_any v wd p h0 HP.out _).mono fun _ _ h => ⟨h.1, h.2.symm⟩)
  still_step
  refine wpStill_nil ?_
  change wpList _ _ _ _ _ w2.drew
  go_wp2_with fail
  go_ret2
  exact HX.out
theorem own_le {w w1 : World} (h : Below w.heap.size w w1) : w.heap.size ≤ w1.heap.size := h.size
set_option maxRecDepth 100000 in
set_option maxHeartbeats 4000000 in
theorem implLoad_no (c wd : Int) (s : Bool) (r i : Int) (A : Option Addr) (n cap : Nat) (zs : List Int) (v : Int) (w : World) (hr : Reads w w.heap.size 1 A n (I zs)) (hn : n ≤ 1048576) (h : ¬ OkL ⟨c, wd, s, r, i⟩ zs v) :
    Calls Try.prog 30 #[.agg #[.int .i64 c, .int .i64 wd, .bool s, .int .i64 r, .int .i64 i], .slice A n cap, .int .i64 v] w (LdPost w [] false) := by
  have hba := below_more (Below.refl w.heap.size w) (.cells #[.int .i64 c, .int .i64 wd, .bool s, .int .i64 r, .int .i64 i] 25)
  have HR := Lib.hid ((hr.below hba).more hba.size)
  have HN := Lib.hid hn
  clear hr hba
  by_cases ho : Ok ⟨c, wd, s, r, i⟩ ∧ c = 3
  · have HD := Lib.hid (decide_eq_true ho)
    cases s
    · by_cases hz : Words zs
      · have HZ := Lib.hid (decide_eq_true hz)
        have hv : v < 0 ∨ 4294967296 ≤ v := by
          by_cases hv : 0 ≤ v ∧ v ≤ 4294967295
          · exact absurd ⟨ho.1, ho.2, rfl, hz, hv⟩ h
          · omega
        clear h ho hz
        go_enter Try.func30, Try.ntmps30
        go_wp2_with fail
        refine (isDev_any c wd false r i true HD.out _).mono ?_
        rintro e w1 ⟨rfl, hb⟩
        have hP := Blk.kept hb (Blk.new w #[.int .i64 c, .int .i64 wd, .bool false, .int .i64 r, .int .i64 i] 25)
        have p2 := hP.cell 2 _ rfl
        have HR1 := Lib.hid ((HR.out.below hb).more hb.size)
        have HW := Lib.hid (below_then (below_more (Below.refl w.heap.size w) _) hb)
        clear hb hP
        go_wp2_with fail
        refine (areWords5_any _ n cap _ zs _ HR1.out HN.out true HZ.out).mono ?_
        rintro e w2 ⟨rfl, hw2⟩
        subst hw2
        go_wp2_with fail
        refine (isBelow_no v 4294967296 hv _).mono ?_
        rintro e w2 ⟨rfl, hw2⟩
        subst hw2
        go_wp2_with fail
        go_ret2
        exact ⟨none, 0, rfl, World.ownsRow_nil _ _ _ _, HW.out⟩
      · have HZ := Lib.hid (decide_eq_false hz)
        clear h ho hz
        go_enter Try.func30, Try.ntmps30
        go_wp2_with fail
        refine (isDev_any c wd false r i true HD.out _).mono ?_
        rintro e w1 ⟨rfl, hb⟩
        have hP := Blk.kept hb (Blk.new w #[.int .i64 c, .int .i64 wd, .bool false, .int .i64 r, .int .i64 i] 25)
        have p2 := hP.cell 2 _ rfl
        have HR1 := Lib.hid ((HR.out.below hb).more hb.size)
        have HW := Lib.hid (below_then (below_more (Below.refl w.heap.size w) _) hb)
        clear hb hP
        go_wp2_with fail
        refine (areWords5_any _ n cap _ zs _ HR1.out HN.out false HZ.out).mono ?_
        rintro e w2 ⟨rfl, hw2⟩
        subst hw2
        go_wp2_with fail
        go_ret2
        exact ⟨none, 0, rfl, World.ownsRow_nil _ _ _ _, HW.out⟩
    · clear h ho
      go_enter Try.func30, Try.ntmps30
      go_wp2_with fail
      refine (isDev_any c wd true r i true HD.out _).mono ?_
      rintro e w1 ⟨rfl, hb⟩
      have hP := Blk.kept hb (Blk.new w #[.int .i64 c, .int .i64 wd, .bool true, .int .i64 r, .int .i64 i] 25)
      have p2 := hP.cell 2 _ rfl
      have HR1 := Lib.hid ((HR.out.below hb).more hb.size)
      have HW := Lib.hid (below_then (below_more (Below.refl w.heap.size w) _) hb)
      clear hb hP
      go_wp2_with fail
      go_ret2
      exact ⟨none, 0, rfl, World.ownsRow_nil _ _ _ _, HW.out⟩
  · have HD := Lib.hid (decide_eq_false ho)
    clear h ho
    go_enter Try.func30, Try.ntmps30
    go_wp2_with fail
    refine (isDev_any c wd s r i false HD.out _).mono ?_
    rintro e w1 ⟨rfl, hb⟩
    have HW := Lib.hid (below_then (below_more (Below.refl w.heap.size w) _) hb)
    clear hb
    go_wp2_with fail
    go_ret2
    exact ⟨none, 0, rfl, World.ownsRow_nil _ _ _ _, HW.out⟩
theorem implLoad_any (c wd : Int) (s : Bool) (r i : Int) (A : Option Addr) (n cap : Nat) (zs : List Int) (v : Int) (l : List Int) (b : Bool) (w : World) (hr : Reads w w.heap.size 1 A n (I zs)) (hn : n ≤ 1048576) (h : ldAns ⟨c, wd, s, r, i⟩ zs v = (l, b)) :
    Calls Try.prog 30 #[.agg #[.int .i64 c, .int .i64 wd, .bool s, .int .i64 r, .int .i64 i], .slice A n cap, .int .i64 v] w (LdPost w l b) := by
  unfold ldAns at h
  by_cases ho : OkL ⟨c, wd, s, r, i⟩ zs v
  · rw [if_pos ho] at h
    obtain ⟨rfl, rfl⟩ : loadOf ⟨c, wd, s, r, i⟩ zs v = l ∧ true = b := ⟨congrArg Prod.fst h, congrArg Prod.snd h⟩
    obtain ⟨h1, h2, h3, h4, h5⟩ := ho
    simp only at h2 h3
    subst h2 h3
    obtain ⟨hw, hr3⟩ := dev_bounds ⟨h1, rfl⟩
    obtain ⟨k, rfl⟩ := Int.eq_ofNat_of_zero_le hr3.1
    have hl4 : n = 4 := by have g1 := hr.len; rw [I_len] at g1; rw [← g1]; exact h4.1
    subst hl4
    exact implLoad_yes wd k i A cap zs v _ w hr (by omega) hw h1 h4 h5.1 (by omega) rfl
  · rw [if_neg ho] at h
    obtain ⟨rfl, rfl⟩ : [] = l ∧ false = b := ⟨congrArg Prod.fst h, congrArg Prod.snd h⟩
    exact implLoad_no c wd s r i A n cap zs v w hr hn ho
set_option maxRecDepth 100000 in
set_option maxHeartbeats 4000000 in
theorem specLoad_no (c wd : Int) (s : Bool) (r i : Int) (A : Option Addr) (n cap : Nat) (zs : List Int) (v : Int) (w : World) (hr : Reads w w.heap.size 1 A n (I zs)) (hn : n ≤ 1048576) (h : ¬ OkL ⟨c, wd, s, r, i⟩ zs v) :
    Calls Try.prog 29 #[.agg #[.int .i64 c, .int .i64 wd, .bool s, .int .i64 r, .int .i64 i], .slice A n cap, .int .i64 v] w (LdPost w [] false) := by
  have hba := below_more (Below.refl w.heap.size w) (.cells #[.int .i64 c, .int .i64 wd, .bool s, .int .i64 r, .int .i64 i] 25)
  have HR := Lib.hid ((hr.below hba).more hba.size)
  have HN := Lib.hid hn
  clear hr hba
  by_cases ho : Ok ⟨c, wd, s, r, i⟩
  · have HD := Lib.hid (decide_eq_true ho)
    by_cases h3 : c = 3
    · subst h3
      cases s
      · by_cases hz : Words zs
        · have HZ := Lib.hid (decide_eq_true hz)
          have hv : v < 0 ∨ 4294967295 < v := by
            by_cases hv : 0 ≤ v ∧ v ≤ 4294967295
            · exact absurd ⟨ho, rfl, rfl, hz, hv⟩ h
            · omega
          clear h ho hz
          go_enter Try.func29, Try.ntmps29
          go_wp2_with fail
          refine (l5Good_c 3 wd false r i _ true HD.out).mono ?_
          rintro e w1 ⟨rfl, hb⟩
          have hP := Blk.kept hb (Blk.new w #[.int .i64 3, .int .i64 wd, .bool false, .int .i64 r, .int .i64 i] 25)
          have p0 := hP.cell 0 _ rfl
          have p2 := hP.cell 2 _ rfl
          have HR1 := Lib.hid ((HR.out.below hb).more hb.size)
          have HW := Lib.hid (below_then (below_more (Below.refl w.heap.size w) _) hb)
          clear hb hP
          go_wp2_with fail
          refine (l5Registers_any _ n cap _ zs _ HR1.out HN.out true HZ.out).mono ?_
          rintro e w2 ⟨rfl, hw2⟩
          subst hw2
          go_wp2_with fail
          refine (l1In_no v 0 4294967295 hv _).mono ?_
          rintro e w2 ⟨rfl, hw2⟩
          subst hw2
          go_wp2_with fail
          go_ret2
          exact ⟨_, 0, rfl, World.ownsRow_made w1 #[] 0 (own_le HW.out) (Nat.zero_le _) rfl, below_more HW.out _⟩
        · have HZ := Lib.hid (decide_eq_false hz)
          clear h ho hz
          go_enter Try.func29, Try.ntmps29
          go_wp2_with fail
          refine (l5Good_c 3 wd false r i _ true HD.out).mono ?_
          rintro e w1 ⟨rfl, hb⟩
          have hP := Blk.kept hb (Blk.new w #[.int .i64 3, .int .i64 wd, .bool false, .int .i64 r, .int .i64 i] 25)
          have p0 := hP.cell 0 _ rfl
          have p2 := hP.cell 2 _ rfl
          have HR1 := Lib.hid ((HR.out.below hb).more hb.size)
          have HW := Lib.hid (below_then (below_more (Below.refl w.heap.size w) _) hb)
          clear hb hP
          go_wp2_with fail
          refine (l5Registers_any _ n cap _ zs _ HR1.out HN.out false HZ.out).mono ?_
          rintro e w2 ⟨rfl, hw2⟩
          subst hw2
          go_wp2_with fail
          go_ret2
          exact ⟨_, 0, rfl, World.ownsRow_made w1 #[] 0 (own_le HW.out) (Nat.zero_le _) rfl, below_more HW.out _⟩
      · clear h ho
        go_enter Try.func29, Try.ntmps29
        go_wp2_with fail
        refine (l5Good_c 3 wd true r i _ true HD.out).mono ?_
        rintro e w1 ⟨rfl, hb⟩
        have hP := Blk.kept hb (Blk.new w #[.int .i64 3, .int .i64 wd, .bool true, .int .i64 r, .int .i64 i] 25)
        have p0 := hP.cell 0 _ rfl
        have p2 := hP.cell 2 _ rfl
        have HR1 := Lib.hid ((HR.out.below hb).more hb.size)
        have HW := Lib.hid (below_then (below_more (Below.refl w.heap.size w) _) hb)
        clear hb hP
        go_wp2_with fail
        go_ret2
        exact ⟨_, 0, rfl, World.ownsRow_made w1 #[] 0 (own_le HW.out) (Nat.zero_le _) rfl, below_more HW.out _⟩
    · have g1 : (c != 3) = true := by simp; exact h3
      clear h ho
      go_enter Try.func29, Try.ntmps29
      go_wp2_with fail
      refine (l5Good_c c wd s r i _ true HD.out).mono ?_
      rintro e w1 ⟨rfl, hb⟩
      have hP := Blk.kept hb (Blk.new w #[.int .i64 c, .int .i64 wd, .bool s, .int .i64 r, .int .i64 i] 25)
      have p0 := hP.cell 0 _ rfl
      have HR1 := Lib.hid ((HR.out.below hb).more hb.size)
      have HW := Lib.hid (below_then (below_more (Below.refl w.heap.size w) _) hb)
      clear hb hP
      go_wp2_with fail
      go_ret2
      exact ⟨_, 0, rfl, World.ownsRow_made w1 #[] 0 (own_le HW.out) (Nat.zero_le _) rfl, below_more HW.out _⟩
  · have HD := Lib.hid (decide_eq_false ho)
    clear h ho
    go_enter Try.func29, Try.ntmps29
    go_wp2_with fail
    refine (l5Good_c c wd s r i _ false HD.out).mono ?_
    rintro e w1 ⟨rfl, hb⟩
    have HW := Lib.hid (below_then (below_more (Below.refl w.heap.size w) _) hb)
    clear hb
    go_wp2_with fail
    go_ret2
    exact ⟨_, 0, rfl, World.ownsRow_made w1 #[] 0 (own_le HW.out) (Nat.zero_le _) rfl, below_more HW.out _⟩
theorem specLoad_any (c wd : Int) (s : Bool) (r i : Int) (A : Option Addr) (n cap : Nat) (zs : List Int) (v : Int) (l : List Int) (b : Bool) (w : World) (hr : Reads w w.heap.size 1 A n (I zs)) (hn : n ≤ 1048576) (h : ldAns ⟨c, wd, s, r, i⟩ zs v = (l, b)) :
    Calls Try.prog 29 #[.agg #[.int .i64 c, .int .i64 wd, .bool s, .int .i64 r, .int .i64 i], .slice A n cap, .int .i64 v] w (LdPost w l b) := by
  unfold ldAns at h
  by_cases ho : OkL ⟨c, wd, s, r, i⟩ zs v
  · rw [if_pos ho] at h
    obtain ⟨rfl, rfl⟩ : loadOf ⟨c, wd, s, r, i⟩ zs v = l ∧ true = b := ⟨congrArg Prod.fst h, congrArg Prod.snd h⟩
    obtain ⟨h1, h2, h3, h4, h5⟩ := ho
    simp only at h2 h3
    subst h2 h3
    obtain ⟨hw, hr3⟩ := dev_bounds ⟨h1, rfl⟩
    obtain ⟨k, rfl⟩ := Int.eq_ofNat_of_zero_le hr3.1
    have hl4 : n = 4 := by have g1 := hr.len; rw [I_len] at g1; rw [← g1]; exact h4.1
    subst hl4
    exact specLoad_yes wd k i A cap zs v _ w hr (by omega) hw h1 h4 h5.1 (by omega) rfl
  · rw [if_neg ho] at h
    obtain ⟨rfl, rfl⟩ : [] = l ∧ false = b := ⟨congrArg Prod.fst h, congrArg Prod.snd h⟩
    exact specLoad_no c wd s r i A n cap zs v w hr hn ho
theorem ldAns_len {t : Trp} {zs l : List Int} {v : Int} {b : Bool} (h : ldAns t zs v = (l, b)) : l.length ≤ zs.length := by
  unfold ldAns at h
  split at h
  · obtain ⟨rfl, rfl⟩ : loadOf t zs v = l ∧ true = b := ⟨congrArg Prod.fst h, congrArg Prod.snd h⟩
    unfold loadOf
    rw [List.length_set]
    exact Nat.le_refl _
  · obtain ⟨rfl, rfl⟩ : [] = l ∧ false = b := ⟨congrArg Prod.fst h, congrArg Prod.snd h⟩
    exact Nat.zero_le _
end Go.Proofs.Ytaamjnpknmimmaa.L5
