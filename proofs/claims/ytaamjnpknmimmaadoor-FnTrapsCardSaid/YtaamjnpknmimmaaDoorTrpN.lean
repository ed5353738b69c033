/- What Syndrome, DoesRepeat and IsTrap answer, of spec and impl. -/
import Derived.Test.YtaamjnpknmimmaaDoorTrpV
import Derived.Deep.QuietTactic
import Derived.Deep.Cut
import Derived.Deep.CutRange
import Derived.BigQuiet
namespace Go.Proofs.YtaamjnpknmimmaaDoor.L5
open Go Go.RowKit Go.Proofs.YtaamjnpknmimmaaDoor.Mem Go.Proofs.YtaamjnpknmimmaaDoor.Own Go.Proofs.YtaamjnpknmimmaaDoor.L1 Go.Proofs.YtaamjnpknmimmaaDoor.Bit
def synAns (x : Trp) : Int × Bool := if Ok x then (synOf x, true) else (0, false)
theorem i64_or (a b : Nat) (ha : a < 2 ^ 62) (hb : b < 2 ^ 62) : bits .or .i64 a b = ((a ||| b : Nat) : Int) := (bits_nat .i64 62 (by decide) (fun n h0 h1 => wraps_i64 n h0 (by omega)) a b ha hb).2
theorem or23 (c l : Int) (h0 : 0 ≤ c) (h1 : c ≤ 5) (h2 : 0 ≤ l) (h3 : l < 8388608) : bits .or .i64 (c * 16777216 + l) 8388608 = c * 16777216 + l + 8388608 := by
  obtain ⟨x, rfl⟩ := Int.eq_ofNat_of_zero_le h0
  obtain ⟨y, rfl⟩ := Int.eq_ofNat_of_zero_le h2
  have e1 : bits .or .i64 ((x * 16777216 : Nat) : Int) (y : Int) = ((x * 16777216 : Nat) : Int) + y := i64_join 24 _ _ (by omega) (by omega) (by omega) (by omega) (by omega) (by omega)
  have e2 : bits .or .i64 ((8388608 : Nat) : Int) (y : Int) = ((8388608 : Nat) : Int) + y := i64_join 23 _ _ (by omega) (by omega) (by omega) (by omega) (by omega) (by omega)
  have e3 : bits .or .i64 ((x * 16777216 : Nat) : Int) ((8388608 + y : Nat) : Int) = ((x * 16777216 : Nat) : Int) + ((8388608 + y : Nat) : Int) := i64_join 24 _ _ (by omega) (by omega) (by omega) (by omega) (by omega) (by omega)
  rw [i64_or _ _ (by omega) (by omega)] at e1 e2 e3
  have n1 : x * 16777216 ||| y = x * 16777216 + y := by exact_mod_cast e1
  have n2 : 8388608 ||| y = 8388608 + y := by exact_mod_cast e2
  have n3 : x * 16777216 ||| (8388608 + y) = x * 16777216 + (8388608 + y) := by exact_mod_cast e3
  have key := i64_or (x * 16777216 + y) 8388608 (by omega) (by omega)
  rw [← n1, Nat.or_assoc, Nat.or_comm y, n2, n3, n1] at key
  have hc : ((x : Int) * 16777216 + y) = ((x * 16777216 + y : Nat) : Int) := by omega
  show bits .or .i64 _ ((8388608 : Nat) : Int) = _
  rw [hc, key]
  omega
theorem or4 {c wd r i : Int} (h1 : 1 ≤ c ∧ c ≤ 5) (h2 : 0 ≤ wd ∧ wd ≤ 4) (h3 : 0 ≤ r ∧ r ≤ 3) (h4 : 0 ≤ i ∧ i ≤ 65535) :
    bits .or .i64 (bits .or .i64 (bits .or .i64 (c * 16777216) (wd * 1048576)) (r * 65536)) i = c * 16777216 + wd * 1048576 + r * 65536 + i := by
  rw [i64_join 24 (c * 16777216) (wd * 1048576) (by omega) (by omega) (by omega) (by omega) (by omega) (by omega)]
  rw [i64_join 20 (c * 16777216 + wd * 1048576) (r * 65536) (by omega) (by omega) (by omega) (by omega) (by omega) (by omega)]
  rw [i64_join 16 (c * 16777216 + wd * 1048576 + r * 65536) i (by omega) (by omega) (by omega) (by omega) (by omega) (by omega)]
theorem synAns_yes {x : Trp} {n : Int} {b : Bool} (h : synAns x = (n, b)) (hx : Ok x) : synOf x = n ∧ b = true := by
  unfold synAns at h
  rw [if_pos hx] at h
  exact ⟨congrArg Prod.fst h, (congrArg Prod.snd h).symm⟩
theorem synAns_no {x : Trp} {n : Int} {b : Bool} (h : synAns x = (n, b)) (hx : ¬ Ok x) : n = 0 ∧ b = false := by
  unfold synAns at h
  rw [if_neg hx] at h
  exact ⟨(congrArg Prod.fst h).symm, (congrArg Prod.snd h).symm⟩
set_option maxHeartbeats 1000000 in
theorem specSyn_any (c wd : Int) (s : Bool) (r i n : Int) (b : Bool) (w : World) (h : synAns ⟨c, wd, s, r, i⟩ = (n, b)) :
    Calls Tryd.prog 11 #[.agg #[.int .i64 c, .int .i64 wd, .bool s, .int .i64 r, .int .i64 i]] w fun e w' => e = .returned (.tuple #[.int .i64 n, .bool b]) ∧ Below w.heap.size w w' := by
  by_cases hx : Ok ⟨c, wd, s, r, i⟩
  · obtain ⟨h1, rfl⟩ := synAns_yes h hx
    have HB := Lib.hid (decide_eq_true hx)
    obtain ⟨g1, g2, g3, g4⟩ := ok_bounds hx
    simp only at g1 g2 g3 g4
    unfold synOf at h1
    clear hx h
    cases s
    · dsimp only at h1
      rw [show bitOf false = 0 from rfl] at h1
      have e3 : c * 16777216 + wd * 1048576 + r * 65536 + i = n := by omega
      have E3 := Lib.hid e3
      clear h1 e3
      go_enter Tryd.func11, Tryd.ntmps11
      go_wp2_with fail
      refine (l5Good_c c wd false r i _ true HB.out).mono ?_
      rintro e w1 ⟨rfl, hb⟩
      have hW := Lib.hid (below_then (below_more (Below.refl w.heap.size w) _) hb)
      have hP2 := Blk.kept hb (Blk.new w #[.int .i64 c, .int .i64 wd, .bool false, .int .i64 r, .int .i64 i] 26)
      have p0 := hP2.cell 0 _ rfl
      have p1 := hP2.cell 1 _ rfl
      have p2 := hP2.cell 2 _ rfl
      have p3 := hP2.cell 3 _ rfl
      have p4 := hP2.cell 4 _ rfl
      clear hb hP2
      go_wp2_with fail
      go_ret2
      exact ⟨by rw [E3.out]; rfl, hW.out⟩
    · dsimp only at h1
      rw [show bitOf true = 1 from rfl] at h1
      have e3 : c * 16777216 + wd * 1048576 + r * 65536 + i + 8388608 = n := by omega
      have E3 := Lib.hid e3
      clear h1 e3
      go_enter Tryd.func11, Tryd.ntmps11
      go_wp2_with fail
      refine (l5Good_c c wd true r i _ true HB.out).mono ?_
      rintro e w1 ⟨rfl, hb⟩
      have hW := Lib.hid (below_then (below_more (Below.refl w.heap.size w) _) hb)
      have hP2 := Blk.kept hb (Blk.new w #[.int .i64 c, .int .i64 wd, .bool true, .int .i64 r, .int .i64 i] 26)
      have p0 := hP2.cell 0 _ rfl
      have p1 := hP2.cell 1 _ rfl
      have p2 := hP2.cell 2 _ rfl
      have p3 := hP2.cell 3 _ rfl
      have p4 := hP2.cell 4 _ rfl
      clear hb hP2
      go_wp2_with fail
      go_ret2
      exact ⟨by rw [E3.out]; rfl, hW.out⟩
  · obtain ⟨rfl, rfl⟩ := synAns_no h hx
    have HB := Lib.hid (decide_eq_false hx)
    clear hx h
    go_enter Tryd.func11, Tryd.ntmps11
    go_wp2_with fail
    refine (l5Good_c c wd s r i _ false HB.out).mono ?_
    rintro e w1 ⟨rfl, hb⟩
    have hW := Lib.hid (below_then (below_more (Below.refl w.heap.size w) _) hb)
    clear hb
    go_wp2_with fail
    go_ret2
    exact ⟨rfl, hW.out⟩
set_option maxHeartbeats 1000000 in
theorem implSyn_any (c wd : Int) (s : Bool) (r i n : Int) (b : Bool) (w : World) (h : synAns ⟨c, wd, s, r, i⟩ = (n, b)) :
    Calls Tryd.prog 10 #[.agg #[.int .i64 c, .int .i64 wd, .bool s, .int .i64 r, .int .i64 i]] w fun e w' => e = .returned (.tuple #[.int .i64 n, .bool b]) ∧ Below w.heap.size w w' := by
  by_cases hx : Ok ⟨c, wd, s, r, i⟩
  · obtain ⟨h1, rfl⟩ := synAns_yes h hx
    have HB := Lib.hid (decide_eq_true hx)
    obtain ⟨g1, g2, g3, g4⟩ := ok_bounds hx
    simp only at g1 g2 g3 g4
    have e1 := or4 g1 g2 g3 g4
    have e2 := or23 c (wd * 1048576 + r * 65536 + i) (by omega) (by omega) (by omega) (by omega)
    unfold synOf at h1
    clear hx h
    cases s
    · dsimp only at h1
      rw [show bitOf false = 0 from rfl] at h1
      clear e2
      have e3 : bits .or .i64 (bits .or .i64 (bits .or .i64 (c * 16777216) (wd * 1048576)) (r * 65536)) i = n := by rw [e1]; omega
      clear e1 h1
      go_enter Tryd.func10, Tryd.ntmps10
      go_wp2_with fail
      refine (implIs_c c wd false r i _ true HB.out).mono ?_
      rintro e w1 ⟨rfl, hb⟩
      have hW := Lib.hid (below_then (below_more (Below.refl w.heap.size w) _) hb)
      have hP2 := Blk.kept hb (Blk.new w #[.int .i64 c, .int .i64 wd, .bool false, .int .i64 r, .int .i64 i] 26)
      have p0 := hP2.cell 0 _ rfl
      have p1 := hP2.cell 1 _ rfl
      have p2 := hP2.cell 2 _ rfl
      have p3 := hP2.cell 3 _ rfl
      have p4 := hP2.cell 4 _ rfl
      clear hb hP2
      go_wp2_with fail
      go_ret2
      exact ⟨rfl, hW.out⟩
    · dsimp only at h1
      rw [show bitOf true = 1 from rfl] at h1
      obtain ⟨P, hP⟩ : ∃ P, c * 16777216 + wd * 1048576 + r * 65536 + i = P := ⟨_, rfl⟩
      rw [hP] at e1
      have e3 : bits .or .i64 P 8388608 = n := by rw [← hP, show c * 16777216 + wd * 1048576 + r * 65536 + i = c * 16777216 + (wd * 1048576 + r * 65536 + i) by omega, e2]; omega
      clear e2 h1 hP
      go_enter Tryd.func10, Tryd.ntmps10
      go_wp2_with fail
      refine (implIs_c c wd true r i _ true HB.out).mono ?_
      rintro e w1 ⟨rfl, hb⟩
      have hW := Lib.hid (below_then (below_more (Below.refl w.heap.size w) _) hb)
      have hP2 := Blk.kept hb (Blk.new w #[.int .i64 c, .int .i64 wd, .bool true, .int .i64 r, .int .i64 i] 26)
      have p0 := hP2.cell 0 _ rfl
      have p1 := hP2.cell 1 _ rfl
      have p2 := hP2.cell 2 _ rfl
      have p3 := hP2.cell 3 _ rfl
      have p4 := hP2.cell 4 _ rfl
      clear hb hP2
      go_wp2_with fail
      go_ret2
      exact ⟨rfl, hW.out⟩
  · obtain ⟨rfl, rfl⟩ := synAns_no h hx
    have HB := Lib.hid (decide_eq_false hx)
    clear hx h
    go_enter Tryd.func10, Tryd.ntmps10
    go_wp2_with fail
    refine (implIs_c c wd s r i _ false HB.out).mono ?_
    rintro e w1 ⟨rfl, hb⟩
    have hW := Lib.hid (below_then (below_more (Below.refl w.heap.size w) _) hb)
    clear hb
    go_wp2_with fail
    go_ret2
    exact ⟨rfl, hW.out⟩
set_option maxHeartbeats 1000000 in
theorem implRep_any (c wd : Int) (s : Bool) (r i : Int) (b : Bool) (w : World) (h : decide (Ok ⟨c, wd, s, r, i⟩) = b) :
    Calls Tryd.prog 16 #[.agg #[.int .i64 c, .int .i64 wd, .bool s, .int .i64 r, .int .i64 i]] w fun e w' => e = .returned (.tuple #[.bool (b && c == 1), .bool b]) ∧ Below w.heap.size w w' := by
  have HB := Lib.hid h
  clear h
  cases b
  all_goals
    go_enter Tryd.func16, Tryd.ntmps16
    go_wp2_with fail
    refine (implIs_c c wd s r i _ _ HB.out).mono ?_
    rintro e w1 ⟨rfl, hb⟩
    have hW := Lib.hid (below_then (below_more (Below.refl w.heap.size w) _) hb)
    have hP := Blk.kept hb (Blk.new w #[.int .i64 c, .int .i64 wd, .bool s, .int .i64 r, .int .i64 i] 26)
    have p0 := hP.cell 0 _ rfl
    clear hP hb
    go_wp2_with fail
    go_ret2
    exact ⟨rfl, hW.out⟩
set_option maxHeartbeats 1000000 in
theorem specRep_any (c wd : Int) (s : Bool) (r i : Int) (b : Bool) (w : World) (h : decide (Ok ⟨c, wd, s, r, i⟩) = b) :
    Calls Tryd.prog 17 #[.agg #[.int .i64 c, .int .i64 wd, .bool s, .int .i64 r, .int .i64 i]] w fun e w' => e = .returned (.tuple #[.bool (b && c == 1), .bool b]) ∧ Below w.heap.size w w' := by
  obtain ⟨wa, hwa⟩ : ∃ wa, w.alloc (.cells #[.int .i64 c, .int .i64 wd, .bool s, .int .i64 r, .int .i64 i] 26) = wa := ⟨_, rfl⟩
  have HA := Lib.hid hwa
  have hP : Blk wa w.heap.size 26 #[.int .i64 c, .int .i64 wd, .bool s, .int .i64 r, .int .i64 i] := by rw [← hwa]; exact Blk.new _ _ _
  have hW : Hid (Below w.heap.size w wa) := Lib.hid (by rw [← hwa]; exact below_more (Below.refl _ _) _)
  have k0 := cell_regrown (hP.cell 0 _ rfl)
  have k1 := cell_regrown (hP.cell 1 _ rfl)
  have k2 := cell_regrown (hP.cell 2 _ rfl)
  have k3 := cell_regrown (hP.cell 3 _ rfl)
  have k4 := cell_regrown (hP.cell 4 _ rfl)
  have cQ : ∀ d os, Calls Tryd.prog 23 #[.agg #[.int .i64 c, .int .i64 wd, .bool s, .int .i64 r, .int .i64 i]] (Sort.grow (redrawn wa d) os) fun e w'' => e = .returned (.bool b) ∧ ∃ p : Regrown, w'' = Sort.grow (redrawn wa p.d) p.os := fun d os => Calls.regrown_of (l5Good_c c wd s r i (Sort.grow (redrawn wa d) os) b h)
  clear h hwa hP
  cases b
  all_goals
    go_enter Tryd.func17, Tryd.ntmps17
    go_upto_region 1 with fail
    rw [HA.out]
    refine wp_region_quiet_below (by kernel_rfl) (by kernel_rfl) ?_
    repeat (quiet_step (exact cQ _ _))
    refine wpQuiet_nil ?_
    intro _ hw'
    obtain ⟨⟨dq, osq⟩, hw''⟩ := hw'
    subst hw''
    have hb2 : Below w.heap.size w (Sort.grow (redrawn wa dq) osq) := hW.out.trans ((below_regrown wa dq osq).mono hW.out.size)
    clear k0 k1 k2 k3 k4 cQ
    go_wp2_with fail
    go_ret2
    exact ⟨rfl, hb2⟩
end Go.Proofs.YtaamjnpknmimmaaDoor.L5
