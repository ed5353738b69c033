/- What StoredValue answers, of spec and impl. -/
import Derived.Test.YtaamjnpknmimmaaTrpS
import Derived.Test.YtaamjnpknmimmaaWrd
import Derived.Test.YtaamjnpknmimmaaRow
import Derived.Deep.QuietTactic
import Derived.BigQuiet
namespace Go.Proofs.Ytaamjnpknmimmaa.L5
open Go Go.RowKit Go.Proofs.Ytaamjnpknmimmaa.Mem Go.Proofs.Ytaamjnpknmimmaa.Own Go.Proofs.Ytaamjnpknmimmaa.L1 Go.Proofs.Ytaamjnpknmimmaa.Bit
theorem m255 (x : Int) : bits .and .i64 x 255 = x % 256 := i64_mask x 8 (by decide)
theorem m32 (x : Int) : bits .and .i64 x 4294967295 = x % 4294967296 := i64_mask x 32 (by decide)
/-- a width -/
def Wd (n : Int) : Prop := n = 1 ∨ n = 2 ∨ n = 4
set_option maxHeartbeats 1000000 in
theorem l5Part_any (v n p : Int) (h0 : 0 ≤ v) (hp : partOf v n = p) (w : World) :
    Calls Try.prog 53 #[.int .i64 v, .int .i64 n] w fun e w' => e = .returned (.int .i64 p) ∧ w = w' := by
  by_cases h1 : n = 1
  · subst h1
    have HP : Hid (v % 256 = p) := Lib.hid (by rw [← hp]; rfl)
    clear hp
    go_enter Try.func53, Try.ntmps53
    go_wp2_with fail
    go_ret
    exact ⟨by rw [← HP.out]; rfl, rfl⟩
  · have HP : Hid (v % 65536 = p) := Lib.hid (by rw [← hp]; unfold partOf; rw [if_neg h1])
    have g1 : (n == 1) = false := by simp; exact h1
    clear hp
    go_enter Try.func53, Try.ntmps53
    go_wp2_with fail
    go_ret
    exact ⟨by rw [← HP.out]; rfl, rfl⟩
set_option maxHeartbeats 1000000 in
theorem lowest_any (v n p : Int) (hn : n = 1 ∨ n = 2 ∨ n = 4) (h4 : n = 4 → 0 ≤ v ∧ v ≤ 65535) (hp : partOf v n = p) (w : World) :
    Calls Try.prog 56 #[.int .i64 v, .int .i64 n] w fun e w' => e = .returned (.int .i64 p) ∧ w = w' := by
  rcases hn with rfl | rfl | rfl
  · have k1 : bits .and .i64 v 255 = p := by rw [m255, ← hp]; rfl
    clear hp h4
    go_enter Try.func56, Try.ntmps56
    go_wp2_with fail
    go_ret
    exact ⟨rfl, rfl⟩
  · have k1 : bits .and .i64 v 65535 = p := by rw [mask16, ← hp]; rfl
    clear hp h4
    go_enter Try.func56, Try.ntmps56
    go_wp2_with fail
    go_ret
    exact ⟨rfl, rfl⟩
  · have k1 : bits .and .i64 v 4294967295 = p := by
      have := h4 rfl
      rw [m32, ← hp, show partOf v 4 = v % 65536 from rfl]
      omega
    clear hp h4
    go_enter Try.func56, Try.ntmps56
    go_wp2_with fail
    go_ret
    exact ⟨rfl, rfl⟩
set_option maxHeartbeats 1000000 in
theorem isDev_any (c wd : Int) (s : Bool) (r i : Int) (b : Bool) (hb : decide (Ok ⟨c, wd, s, r, i⟩ ∧ c = 3) = b) (w : World) :
    Calls Try.prog 54 #[.agg #[.int .i64 c, .int .i64 wd, .bool s, .int .i64 r, .int .i64 i]] w fun e w' => e = .returned (.bool b) ∧ Below w.heap.size w w' := by
  by_cases h3 : c = 3
  · subst h3
    have HB : Hid (decide (Ok ⟨3, wd, s, r, i⟩) = b) := Lib.hid (by rw [← hb]; simp)
    clear hb
    go_enter Try.func54, Try.ntmps54
    go_wp2_with fail
    refine (implIs_c 3 wd s r i _ b HB.out).mono ?_
    rintro e w1 ⟨rfl, hb⟩
    go_wp2_with fail
    go_ret
    exact ⟨rfl, below_then (below_more (Below.refl _ _) _) hb⟩
  · have HB : Hid (false = b) := Lib.hid (by rw [← hb]; exact (decide_eq_false (fun h => h3 h.2)).symm)
    have g1 : (c == 3) = false := by simp; exact h3
    clear hb
    go_enter Try.func54, Try.ntmps54
    go_wp2_with fail
    go_ret
    exact ⟨by rw [← HB.out]; rfl, below_more (Below.refl _ _) _⟩
def stoAns (t : Trp) (zs : List Int) : Int × Bool := if OkS t zs then (storedOf t zs, true) else (0, false)
theorem dev_bounds {c wd r i : Int} {s : Bool} (h : Ok ⟨c, wd, s, r, i⟩ ∧ c = 3) : (wd = 1 ∨ wd = 2 ∨ wd = 4) ∧ (0 ≤ r ∧ r ≤ 3) := by
  obtain ⟨h, rfl⟩ := h
  have h' := (okD_iff _ _ _ _).1 h
  exact ⟨h'.1.1, h'.2⟩
set_option maxRecDepth 100000 in
set_option maxHeartbeats 2000000 in
theorem implSto_any (c wd : Int) (s : Bool) (r i : Int) (A : Option Addr) (n cap : Nat) (zs : List Int) (v : Int) (b : Bool) (w : World) (hr : Reads w w.heap.size 1 A n (I zs)) (hn : n ≤ 1048576) (h : stoAns ⟨c, wd, s, r, i⟩ zs = (v, b)) :
    Calls Try.prog 27 #[.agg #[.int .i64 c, .int .i64 wd, .bool s, .int .i64 r, .int .i64 i], .slice A n cap] w fun e w' => e = .returned (.tuple #[.int .i64 v, .bool b]) ∧ Below w.heap.size w w' := by
  have hba := below_more (Below.refl w.heap.size w) (.cells #[.int .i64 c, .int .i64 wd, .bool s, .int .i64 r, .int .i64 i] 25)
  have HR := Lib.hid ((hr.below hba).more hba.size)
  have HN := Lib.hid hn
  clear hr hba
  have no : ¬ OkS ⟨c, wd, s, r, i⟩ zs → v = 0 ∧ b = false := fun hx => by
    unfold stoAns at h
    rw [if_neg hx] at h
    exact ⟨(congrArg Prod.fst h).symm, (congrArg Prod.snd h).symm⟩
  by_cases hd : Ok ⟨c, wd, s, r, i⟩ ∧ c = 3
  · have HD := Lib.hid (decide_eq_true hd)
    obtain ⟨hw, hr3⟩ := dev_bounds hd
    cases s
    · obtain ⟨rfl, rfl⟩ := no (fun h => by have := h.2.2.1; cases this)
      clear h no hd hw hr3
      go_enter Try.func27, Try.ntmps27
      go_wp2_with fail
      refine (isDev_any c wd false r i true HD.out _).mono ?_
      rintro e w1 ⟨rfl, hb⟩
      have hP := Blk.kept hb (Blk.new w #[.int .i64 c, .int .i64 wd, .bool false, .int .i64 r, .int .i64 i] 25)
      have p2 := hP.cell 2 _ rfl
      have HW := Lib.hid (below_then (below_more (Below.refl w.heap.size w) _) hb)
      clear hb hP
      go_wp2_with fail
      go_ret2
      exact ⟨rfl, HW.out⟩
    · by_cases hz : Words zs
      · have hok : OkS ⟨c, wd, true, r, i⟩ zs := ⟨hd.1, hd.2, rfl, hz⟩
        have hvb : storedOf ⟨c, wd, true, r, i⟩ zs = v ∧ b = true := by
          unfold stoAns at h
          rw [if_pos hok] at h
          exact ⟨congrArg Prod.fst h, (congrArg Prod.snd h).symm⟩
        obtain ⟨hv, rfl⟩ := hvb
        have HZ := Lib.hid (decide_eq_true hz)
        have hl4 : n = 4 := by have h1 := HR.out.len; rw [I_len] at h1; rw [← h1]; exact hz.1
        subst hl4
        obtain ⟨k, rfl⟩ := Int.eq_ofNat_of_zero_le hr3.1
        have hk : k < 4 := by omega
        obtain ⟨b1, o1, z, rfl, _, hu, hc⟩ := HR.out.int_at hk
        have hzr := hz.2 z (List.mem_of_getElem? hu)
        have hpv : partOf z wd = v := by
          rw [← hv]
          unfold storedOf
          simp only [Int.toNat_natCast]
          rw [List.getD, hu]
          rfl
        have HV := Lib.hid hpv
        have hb0 : b1 < (w.alloc (.cells #[.int .i64 c, .int .i64 wd, .bool true, .int .i64 (k : Int), .int .i64 i] 25)).heap.size := World.block_lt_of_cell? _ _ hc
        have HC := Lib.hid hc
        have k4 : (k : Int) < 4 := by omega
        clear h no hd hv hz hu hok hpv hc
        go_enter Try.func27, Try.ntmps27
        go_wp2_with fail
        refine (isDev_any c wd true k i true HD.out _).mono ?_
        rintro e w1 ⟨rfl, hb⟩
        have hP := Blk.kept hb (Blk.new w #[.int .i64 c, .int .i64 wd, .bool true, .int .i64 (k : Int), .int .i64 i] 25)
        have p1 := hP.cell 1 _ rfl
        have p2 := hP.cell 2 _ rfl
        have p3 := hP.cell 3 _ rfl
        have p5 : w1.cell? ⟨b1, o1 + k, none⟩ = some (.int .i64 z) := (hb.cell (p := ⟨b1, o1 + k, none⟩) hb0).trans HC.out
        have HR1 := Lib.hid ((HR.out.below hb).more hb.size)
        have HW := Lib.hid (below_then (below_more (Below.refl w.heap.size w) _) hb)
        clear hb hP hb0
        go_wp2_with fail
        refine (areWords5_any _ 4 cap _ zs _ HR1.out HN.out true HZ.out).mono ?_
        rintro e w2 ⟨rfl, hw2⟩
        subst hw2
        go_wp2_with fail
        go_quiet ((go_at_call 56; (with_reducible refine Calls.quiet_of_same ((lowest_any z wd v hw (fun _ => hzr) HV.out _).mono fun _ _ h => ⟨h.1, h.2.symm⟩))))
        go_wp2_with fail
        go_ret2
        exact ⟨rfl, below_then HW.out (Own.below_drewN w1 _)⟩
      · have HZ := Lib.hid (decide_eq_false hz)
        obtain ⟨rfl, rfl⟩ := no (fun h => hz h.2.2.2)
        clear h no hd hw hr3 hz
        go_enter Try.func27, Try.ntmps27
        go_wp2_with fail
        refine (isDev_any c wd true r i true HD.out _).mono ?_
        rintro e w1 ⟨rfl, hb⟩
        have hP := Blk.kept hb (Blk.new w #[.int .i64 c, .int .i64 wd, .bool true, .int .i64 r, .int .i64 i] 25)
        have p2 := hP.cell 2 _ rfl
        have HR1 := Lib.hid ((HR.out.below hb).more hb.size)
        have HW := Lib.hid (below_then (below_more (Below.refl w.heap.size w) _) hb)
        clear hb hP
        go_wp2_with fail
        refine (areWords5_any _ n cap _ zs _ HR1.out HN.out false HZ.out).mono ?_
        rintro e w2 ⟨rfl, hw2⟩
        subst hw2
        go_wp2_with fail
        go_ret2
        exact ⟨rfl, HW.out⟩
  · have HD := Lib.hid (decide_eq_false hd)
    obtain ⟨rfl, rfl⟩ := no (fun h => hd ⟨h.1, h.2.1⟩)
    clear h no hd
    go_enter Try.func27, Try.ntmps27
    go_wp2_with fail
    refine (isDev_any c wd s r i false HD.out _).mono ?_
    rintro e w1 ⟨rfl, hb⟩
    have HW := Lib.hid (below_then (below_more (Below.refl w.heap.size w) _) hb)
    clear hb
    go_wp2_with fail
    go_ret2
    exact ⟨rfl, HW.out⟩
set_option maxRecDepth 100000 in
set_option maxHeartbeats 2000000 in
theorem specSto_any (c wd : Int) (s : Bool) (r i : Int) (A : Option Addr) (n cap : Nat) (zs : List Int) (v : Int) (b : Bool) (w : World) (hr : Reads w w.heap.size 1 A n (I zs)) (hn : n ≤ 1048576) (h : stoAns ⟨c, wd, s, r, i⟩ zs = (v, b)) :
    Calls Try.prog 25 #[.agg #[.int .i64 c, .int .i64 wd, .bool s, .int .i64 r, .int .i64 i], .slice A n cap] w fun e w' => e = .returned (.tuple #[.int .i64 v, .bool b]) ∧ Below w.heap.size w w' := by
  have hba := below_more (Below.refl w.heap.size w) (.cells #[.int .i64 c, .int .i64 wd, .bool s, .int .i64 r, .int .i64 i] 25)
  have HR := Lib.hid ((hr.below hba).more hba.size)
  have HN := Lib.hid hn
  clear hr hba
  have no : ¬ OkS ⟨c, wd, s, r, i⟩ zs → v = 0 ∧ b = false := fun hx => by
    unfold stoAns at h
    rw [if_neg hx] at h
    exact ⟨(congrArg Prod.fst h).symm, (congrArg Prod.snd h).symm⟩
  by_cases hd : Ok ⟨c, wd, s, r, i⟩ ∧ c = 3
  · have HD := Lib.hid (decide_eq_true hd.1)
    have hc3 := hd.2
    obtain ⟨hw, hr3⟩ := dev_bounds hd
    subst hc3
    cases s
    · obtain ⟨rfl, rfl⟩ := no (fun h => by have := h.2.2.1; cases this)
      clear h no hd hw hr3
      go_enter Try.func25, Try.ntmps25
      go_wp2_with fail
      refine (l5Good_c 3 wd false r i _ true HD.out).mono ?_
      rintro e w1 ⟨rfl, hb⟩
      have hP := Blk.kept hb (Blk.new w #[.int .i64 3, .int .i64 wd, .bool false, .int .i64 r, .int .i64 i] 25)
      have p0 := hP.cell 0 _ rfl
      have p2 := hP.cell 2 _ rfl
      have HW := Lib.hid (below_then (below_more (Below.refl w.heap.size w) _) hb)
      clear hb hP
      go_wp2_with fail
      go_ret2
      exact ⟨rfl, HW.out⟩
    · by_cases hz : Words zs
      · have hok : OkS ⟨3, wd, true, r, i⟩ zs := ⟨hd.1, hd.2, rfl, hz⟩
        have hvb : storedOf ⟨3, wd, true, r, i⟩ zs = v ∧ b = true := by
          unfold stoAns at h
          rw [if_pos hok] at h
          exact ⟨congrArg Prod.fst h, (congrArg Prod.snd h).symm⟩
        obtain ⟨hv, rfl⟩ := hvb
        have HZ := Lib.hid (decide_eq_true hz)
        have hl4 : n = 4 := by have h1 := HR.out.len; rw [I_len] at h1; rw [← h1]; exact hz.1
        subst hl4
        obtain ⟨k, rfl⟩ := Int.eq_ofNat_of_zero_le hr3.1
        have hk : k < 4 := by omega
        obtain ⟨b1, o1, z, rfl, _, hu, hc⟩ := HR.out.int_at hk
        have hzr := hz.2 z (List.mem_of_getElem? hu)
        have hpv : partOf z wd = v := by
          rw [← hv]
          unfold storedOf
          simp only [Int.toNat_natCast]
          rw [List.getD, hu]
          rfl
        have HV := Lib.hid hpv
        have hb0 : b1 < (w.alloc (.cells #[.int .i64 3, .int .i64 wd, .bool true, .int .i64 (k : Int), .int .i64 i] 25)).heap.size := World.block_lt_of_cell? _ _ hc
        have HC := Lib.hid hc
        have k4 : (k : Int) < 4 := by omega
        clear h no hd hv hz hu hok hpv hc
        go_enter Try.func25, Try.ntmps25
        go_wp2_with fail
        refine (l5Good_c 3 wd true k i _ true HD.out).mono ?_
        rintro e w1 ⟨rfl, hb⟩
        have hP := Blk.kept hb (Blk.new w #[.int .i64 3, .int .i64 wd, .bool true, .int .i64 (k : Int), .int .i64 i] 25)
        have p0 := hP.cell 0 _ rfl
        have p1 := hP.cell 1 _ rfl
        have p2 := hP.cell 2 _ rfl
        have p3 := hP.cell 3 _ rfl
        have p5 : w1.cell? ⟨b1, o1 + k, none⟩ = some (.int .i64 z) := (hb.cell (p := ⟨b1, o1 + k, none⟩) hb0).trans HC.out
        have HR1 := Lib.hid ((HR.out.below hb).more hb.size)
        have HW := Lib.hid (below_then (below_more (Below.refl w.heap.size w) _) hb)
        clear hb hP hb0
        go_wp2_with fail
        refine (l5Registers_any _ 4 cap _ zs _ HR1.out HN.out true HZ.out).mono ?_
        rintro e w2 ⟨rfl, hw2⟩
        subst hw2
        go_wp2_with fail
        go_quiet ((go_at_call 53; (with_reducible refine Calls.quiet_of_same ((l5Part_any z wd v hzr.1 HV.out _).mono fun _ _ h => ⟨h.1, h.2.symm⟩))))
        go_wp2_with fail
        go_ret2
        exact ⟨rfl, below_then HW.out (Own.below_drewN w1 _)⟩
      · have HZ := Lib.hid (decide_eq_false hz)
        obtain ⟨rfl, rfl⟩ := no (fun h => hz h.2.2.2)
        clear h no hd hw hr3 hz
        go_enter Try.func25, Try.ntmps25
        go_wp2_with fail
        refine (l5Good_c 3 wd true r i _ true HD.out).mono ?_
        rintro e w1 ⟨rfl, hb⟩
        have hP := Blk.kept hb (Blk.new w #[.int .i64 3, .int .i64 wd, .bool true, .int .i64 r, .int .i64 i] 25)
        have p0 := hP.cell 0 _ rfl
        have p2 := hP.cell 2 _ rfl
        have HR1 := Lib.hid ((HR.out.below hb).more hb.size)
        have HW := Lib.hid (below_then (below_more (Below.refl w.heap.size w) _) hb)
        clear hb hP
        go_wp2_with fail
        refine (l5Registers_any _ n cap _ zs _ HR1.out HN.out false HZ.out).mono ?_
        rintro e w2 ⟨rfl, hw2⟩
        subst hw2
        go_wp2_with fail
        go_ret2
        exact ⟨rfl, HW.out⟩
  · obtain ⟨rfl, rfl⟩ := no (fun h => hd ⟨h.1, h.2.1⟩)
    clear h no
    by_cases ho : Ok ⟨c, wd, s, r, i⟩
    · have HD := Lib.hid (decide_eq_true ho)
      have g1 : (c != 3) = true := by simp; exact fun e => hd ⟨ho, e⟩
      have g2 : ¬ c = 3 := fun e => hd ⟨ho, e⟩
      clear hd ho
      go_enter Try.func25, Try.ntmps25
      go_wp2_with fail
      refine (l5Good_c c wd s r i _ true HD.out).mono ?_
      rintro e w1 ⟨rfl, hb⟩
      have hP := Blk.kept hb (Blk.new w #[.int .i64 c, .int .i64 wd, .bool s, .int .i64 r, .int .i64 i] 25)
      have p0 := hP.cell 0 _ rfl
      have HW := Lib.hid (below_then (below_more (Below.refl w.heap.size w) _) hb)
      clear hb hP
      go_wp2_with fail
      go_ret2
      exact ⟨rfl, HW.out⟩
    · have HD := Lib.hid (decide_eq_false ho)
      clear hd ho
      go_enter Try.func25, Try.ntmps25
      go_wp2_with fail
      refine (l5Good_c c wd s r i _ false HD.out).mono ?_
      rintro e w1 ⟨rfl, hb⟩
      have HW := Lib.hid (below_then (below_more (Below.refl w.heap.size w) _) hb)
      clear hb
      go_wp2_with fail
      go_ret2
      exact ⟨rfl, HW.out⟩
end Go.Proofs.Ytaamjnpknmimmaa.L5
