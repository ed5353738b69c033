/- What the laws do with slices of instructions: copies, sizes, comparisons, marks. -/
import Derived.Test.YtclnhdjnmfkeaabDoorOp
import Derived.Test.YtclnhdjnmfkeaabDoorInsS
namespace Go.Proofs.YtclnhdjnmfkeaabDoor.L3
open Go Go.RowKit Go.Proofs.YtclnhdjnmfkeaabDoor.Mem Go.Proofs.YtclnhdjnmfkeaabDoor.Own
theorem toInstruction_c (op xa xb xn : Int) (w : World) :
    Calls Tryd.prog 55 #[.agg #[.int .i64 op, .int .i64 xa, .int .i64 xb, .int .i64 xn]] w fun e w' => e = .returned (.agg #[.int .i64 op, .int .i64 xa, .int .i64 xb, .int .i64 xn]) ∧ Below w.heap.size w w' :=
  toInstruction_any ⟨op, xa, xb, xn⟩ w
theorem eqInstruction_c (op xa xb xn : Int) (w : World) :
    Calls Tryd.prog 9 #[.agg #[.int .i64 op, .int .i64 xa, .int .i64 xb, .int .i64 xn], .agg #[.int .i64 op, .int .i64 xa, .int .i64 xb, .int .i64 xn]] w fun e w' => e = .returned (.bool true) ∧ Below w.heap.size w w' :=
  eqInstruction_same ⟨op, xa, xb, xn⟩ w
theorem insInfo : (Tryd.prog.info? 23).map (fun i => (i.zero, i.size, i.bytes)) = some (some (.agg #[.int .i64 0, .int .i64 0, .int .i64 0, .int .i64 0]), 4, 32) := by kernel_rfl
/-- an instruction in a slice of them -/
theorem ins_at {w : World} {B n k : Nat} {A : Option Addr} {xs : List Ins} (h : Reads w B 4 A n (FL xs)) (hk : k < n) :
    ∃ b off x, A = some ⟨b, off, none⟩ ∧ b < B ∧ xs[k]? = some x ∧ w.cell? ⟨b, off + k * 4, none⟩ = some (.int .i64 x.op) ∧ w.cell? ⟨b, off + k * 4 + 1, none⟩ = some (.int .i64 x.a) ∧ w.cell? ⟨b, off + k * 4 + 2, none⟩ = some (.int .i64 x.b) ∧ w.cell? ⟨b, off + k * 4 + 3, none⟩ = some (.int .i64 x.n) := by
  obtain ⟨b, off, x, rfl, hb, hx, hc⟩ := reads_elem (α := Ins) h hk
  exact ⟨b, off, x, rfl, hb, hx, hc 0 _ rfl, hc 1 _ rfl, hc 2 _ rfl, hc 3 _ rfl⟩
/-- four cells set behind k·4 -/
theorem set4_take {xs : List Ins} {ys : List Value} {k : Nat} {x : Ins} (hl : ys.length = xs.length * 4) (hx : xs[k]? = some x) (h : ys.take (k * 4) = (FL xs).take (k * 4)) :
    ((((ys.set (k * 4) (.int .i64 x.op)).set (k * 4 + 1) (.int .i64 x.a)).set (k * 4 + 2) (.int .i64 x.b)).set (k * 4 + 3) (.int .i64 x.n)).take ((k + 1) * 4) = (FL xs).take ((k + 1) * 4) := by
  have hL : (FL xs).length = xs.length * 4 := FL_len xs
  have a0 : (FL xs)[k * 4]? = some (.int .i64 x.op) := FL_at (i := 0) hx rfl
  have a1 : (FL xs)[k * 4 + 1]? = some (.int .i64 x.a) := FL_at (i := 1) hx rfl
  have a2 : (FL xs)[k * 4 + 2]? = some (.int .i64 x.b) := FL_at (i := 2) hx rfl
  have a3 : (FL xs)[k * 4 + 3]? = some (.int .i64 x.n) := FL_at (i := 3) hx rfl
  have s0 := set_take (FL xs) ys (k * 4) _ (by rw [hl, hL]) a0 h
  have s1 := set_take (FL xs) _ (k * 4 + 1) _ (by rw [List.length_set, hl, hL]) a1 s0
  have s2 := set_take (FL xs) _ (k * 4 + 2) _ (by rw [List.length_set, List.length_set, hl, hL]) a2 s1
  have s3 := set_take (FL xs) _ (k * 4 + 3) _ (by rw [List.length_set, List.length_set, List.length_set, hl, hL]) a3 s2
  rw [show (k + 1) * 4 = k * 4 + 3 + 1 by omega]
  exact s3
set_option maxRecDepth 100000 in
set_option maxHeartbeats 2000000 in
theorem toInstructionS_any (A : Option Addr) (n c B : Nat) (xs : List Ins) (w : World) (hr : Reads w B 4 A n (FL xs)) (hB : B ≤ w.heap.size) (hn : n ≤ 1048576) :
    Calls Tryd.prog 12 #[.slice A n c] w fun e w' => ∃ g, e = .returned (.slice (some ⟨g, 0, none⟩) n n) ∧ w'.ownsRow w.heap.size 23 4 (.slice (some ⟨g, 0, none⟩) n n) n (FL xs) ∧ Below w.heap.size w w' := by
  obtain ⟨i0, hi, hz0, hz1, hz2⟩ := info_parts insInfo
  have HL : Hid (xs.length = n) := Lib.hid (reads_len hr)
  go_enter Tryd.func12, Tryd.ntmps12
  go_wp2_with (at_make; refine wpList_make_full _ rfl _ _ 33 rfl w.heap.size 23 i0 (.agg #[.int .i64 0, .int .i64 0, .int .i64 0, .int .i64 0]) 4 Tryd.underlying33 hi hz0 hz1 .i64 .i64 _ _ n rfl rfl rfl rfl (by rw [hz2]; omega) (by unfold maxLen; omega) (Nat.le_refl _) ?_; intro w1 hown1 hg1)
  have hb1 : Below w.heap.size w w1 := (Below.refl _ _).grown hg1 (Nat.le_refl _) (by simp)
  have hr1 := Lib.hid (hr.keep (w' := w1) fun p hp => hb1.cell (by omega))
  obtain ⟨z0, hzz⟩ : ∃ z0, (madeCells (Value.agg #[.int .i64 0, .int .i64 0, .int .i64 0, .int .i64 0]).cells (n * 4)).toList = z0 := ⟨_, rfl⟩
  have HML : Hid (z0.length = n * 4) := Lib.hid (by rw [← hzz]; simp [madeCells])
  rw [hzz] at hown1
  clear hr hzz
  go_loopw [4] (fun i wr => ∃ (k : Nat) (ys : List Value), i = .int .i64 k ∧ k ≤ n ∧ Hid (ys.length = n * 4) ∧ Hid (ys.take (k * 4) = (FL xs).take (k * 4)) ∧ wr.ownsRow w.heap.size 23 4 (.slice (some ⟨w.heap.size, 0, none⟩) n n) n ys ∧ Below w.heap.size w wr) (fun i _ => n - (intOf i).toNat)
  case atStart => exact ⟨0, _, rfl, Nat.zero_le _, HML, Lib.hid (by simp), hown1, hb1⟩
  case round =>
    clear hown1 hg1 HML
    obtain ⟨k, ys, rfl, hk, HY, HT, hown, hbel⟩ := hrel
    by_cases hlt : k < n
    · have hrr : Reads wr B 4 A n (FL xs) := hr1.out.keep fun p hp => by rw [hbel.cell (by omega), hb1.cell (by omega)]
      obtain ⟨b, off, x, rfl, hbB, hu, c0, c1, c2, c3⟩ := ins_at hrr hlt
      have HT2 := Lib.hid (set4_take (by rw [HY.out, HL.out]) hu HT.out)
      have hy2 : ((((ys.set (k * 4) (.int .i64 x.op)).set (k * 4 + 1) (.int .i64 x.a)).set (k * 4 + 2) (.int .i64 x.b)).set (k * 4 + 3) (.int .i64 x.n)).length = n * 4 := by simp only [List.length_set]; exact HY.out
      have HY2 := Lib.hid hy2
      have HO := Lib.hid hown
      have HB := Lib.hid hbel
      clear hrr hown hbel hu HT hy2
      obtain ⟨op, xa, xb, xn⟩ := x
      go_wp2_with fail
      refine (toInstruction_c op xa xb xn _).mono ?_
      rintro e w2 ⟨rfl, hb⟩
      have HO2 := Lib.hid (own_below HO.out hb)
      have HB2 := Lib.hid (below_then HB.out hb)
      clear hb HO HB c0 c1 c2 c3
      have f0 := HO2.out.frozenAt (k * 4)
      have f1 := HO2.out.frozenAt (k * 4 + 1)
      have f2 := HO2.out.frozenAt (k * 4 + 2)
      have f3 := HO2.out.frozenAt (k * 4 + 3)
      obtain ⟨y0, d0⟩ : ∃ z, w2.cell? ⟨w.heap.size, k * 4, none⟩ = some z := ⟨_, (HO2.out.cellAt (k * 4) (by omega)).trans (List.getElem?_eq_getElem (by rw [HY.out]; omega))⟩
      obtain ⟨y1, d1⟩ : ∃ z, w2.cell? ⟨w.heap.size, k * 4 + 1, none⟩ = some z := ⟨_, (HO2.out.cellAt (k * 4 + 1) (by omega)).trans (List.getElem?_eq_getElem (by rw [HY.out]; omega))⟩
      obtain ⟨y2, d2⟩ : ∃ z, w2.cell? ⟨w.heap.size, k * 4 + 2, none⟩ = some z := ⟨_, (HO2.out.cellAt (k * 4 + 2) (by omega)).trans (List.getElem?_eq_getElem (by rw [HY.out]; omega))⟩
      obtain ⟨y3, d3⟩ : ∃ z, w2.cell? ⟨w.heap.size, k * 4 + 3, none⟩ = some z := ⟨_, (HO2.out.cellAt (k * 4 + 3) (by omega)).trans (List.getElem?_eq_getElem (by rw [HY.out]; omega))⟩
      have HS := Lib.hid ((((HO2.out.stored (k * 4) (.int .i64 op)).1.stored (k * 4 + 1) (.int .i64 xa)).1.stored (k * 4 + 2) (.int .i64 xb)).1.stored (k * 4 + 3) (.int .i64 xn)).1
      have HW := Lib.hid (below_set (below_set (below_set (below_set HB2.out (Nat.le_refl _) (j := k * 4) (.int .i64 op)) (Nat.le_refl _) (j := k * 4 + 1) (.int .i64 xa)) (Nat.le_refl _) (j := k * 4 + 2) (.int .i64 xb)) (Nat.le_refl _) (j := k * 4 + 3) (.int .i64 xn))
      clear HO2 HB2 HY
      go_wp2_with fail
      go_roundw
      case rel => exact ⟨k + 1, _, by go_num, by omega, HY2, HT2, HS.out, HW.out⟩
      case measure => simp [intOf]; omega
    · have hkn : k = n := by omega
      subst hkn
      have hy : ys = FL xs := by
        have h := HT.out
        rw [List.take_of_length_le (by rw [HY.out]; omega), List.take_of_length_le (by rw [FL_len, HL.out]; exact Nat.le_refl _)] at h
        exact h
      rw [hy] at hown
      clear hy HT HY
      go_wp2
      go_ret
      exact ⟨_, rfl, hown, hbel⟩
set_option maxRecDepth 100000 in
set_option maxHeartbeats 2000000 in
theorem eqInstructionS_step (A A' : Option Addr) (n c c' : Nat) (xs : List Ins) (w : World) (hn : n ≤ 1048576) (hx : Reads w w.heap.size 4 A n (FL xs)) (hy : Reads w w.heap.size 4 A' n (FL xs)) :
    Calls Tryd.prog 15 #[.slice A n c, .slice A' n c'] w fun e w' => e = .returned (.bool true) ∧ Below w.heap.size w w' := by
  go_enter Tryd.func15, Tryd.ntmps15
  go_wp2
  go_loopw [5] (fun i wr => ∃ (k : Nat), i = .int .i64 k ∧ k ≤ n ∧ Below w.heap.size w wr) (fun i _ => n - (intOf i).toNat)
  case atStart => exact ⟨0, rfl, Nat.zero_le _, Below.refl _ _⟩
  case round =>
    obtain ⟨k, rfl, hk, hbel⟩ := hrel
    by_cases hlt : k < n
    · have hlt2 : w.heap.size ≤ wr.heap.size := hbel.size
      obtain ⟨b1, o1, x, rfl, _, hx1, c0, c1, c2, c3⟩ := ins_at (hx.below hbel) hlt
      obtain ⟨b2, o2, y, rfl, _, hy1, d0, d1, d2, d3⟩ := ins_at (hy.below hbel) hlt
      obtain rfl : y = x := by rw [hx1] at hy1; exact (Option.some.inj hy1).symm
      obtain ⟨op, xa, xb, xn⟩ := y
      have k0 := cell_regrown c0
      have k1 := cell_regrown c1
      have k2 := cell_regrown c2
      have k3 := cell_regrown c3
      have l0 := cell_regrown d0
      have l1 := cell_regrown d1
      have l2 := cell_regrown d2
      have l3 := cell_regrown d3
      have cQ : ∀ d os, Calls Tryd.prog 9 #[.agg #[.int .i64 op, .int .i64 xa, .int .i64 xb, .int .i64 xn], .agg #[.int .i64 op, .int .i64 xa, .int .i64 xb, .int .i64 xn]] (Sort.grow (redrawn wr d) os) fun e w'' => e = .returned (.bool true) ∧ ∃ p : Regrown, w'' = Sort.grow (redrawn wr p.d) p.os := fun d os => Calls.regrown_of (eqInstruction_c op xa xb xn (Sort.grow (redrawn wr d) os))
      clear hx1 hy1 c0 c1 c2 c3 d0 d1 d2 d3
      go_wp2
      refine wp_region_quiet_below (by kernel_rfl) (by kernel_rfl) ?_
      repeat (quiet_step (exact cQ _ _))
      refine wpQuiet_nil ?_
      intro _ hw'
      obtain ⟨⟨dq, osq⟩, hw''⟩ := hw'
      subst hw''
      have hb2 : Below w.heap.size w (Sort.grow (redrawn wr dq) osq) := hbel.trans ((below_regrown wr dq osq).mono hlt2)
      clear k0 k1 k2 k3 l0 l1 l2 l3 cQ
      go_wp2
      go_roundw
      case rel => exact ⟨k + 1, by go_num, by omega, hb2⟩
      case measure => simp [intOf]; omega
    · have hqn : k = n := by omega
      subst hqn
      go_wp2
      go_ret
      exact ⟨rfl, hbel⟩
theorem szInstructionS_yes (A : Option Addr) (n c : Nat) (L : Int) (h : n ≤ L) (w : World) (hL : L ≤ 1048576) :
    Calls Tryd.prog 10 #[.slice A n c, .int .i64 L] w fun e w' => e = .returned (.int .i64 (L - n)) ∧ w = w' := by
  go_enter Tryd.func10, Tryd.ntmps10
  go_wp2
  go_ret
  exact ⟨rfl, rfl⟩
theorem szInstructionS_no (A : Option Addr) (n c : Nat) (L : Int) (h : L < n) (h0 : 0 ≤ L) (w : World) (hL : L ≤ 1048576) (hn : n ≤ 9223372036854775807) :
    Calls Tryd.prog 10 #[.slice A n c, .int .i64 L] w fun e w' => e = .returned (.int .i64 (-1)) ∧ w = w' := by
  go_enter Tryd.func10, Tryd.ntmps10
  go_wp2
  go_ret
  exact ⟨rfl, rfl⟩
set_option maxRecDepth 100000 in
set_option maxHeartbeats 2000000 in
/-- an argument marked: what it holds then matters to nobody -/
theorem markInstructionS_step (A : Option Addr) (n c base k0 : Nat) (K : Int) (hK : K = k0) (xs : List Value) (w : World) (hn : n ≤ 1048576) (hk1 : k0 ≤ 4294967296) (hown : w.ownsRow base 23 4 (.slice A n c) n xs) :
    Calls Tryd.prog 16 #[.slice A n c, .int .i64 K] w fun e w' => e = .returned (.int .i64 (K + 4 * n)) ∧ w.grownBy w' (Value.slice A n c).ownBlock := by
  subst hK
  have HX := Lib.hid hown.1
  have HO := Lib.hid hown
  clear hown
  go_enter Tryd.func16, Tryd.ntmps16
  go_wp2
  go_loopw [1, 5] (fun k i wr => ∃ (q : Nat) (ys : List Value), i = .int .i64 q ∧ k = .int .i64 (k0 + 4 * q) ∧ q ≤ n ∧ Hid (ys.length = n * 4) ∧ wr.ownsRow base 23 4 (.slice A n c) n ys ∧ w.grownBy wr (Value.slice A n c).ownBlock) (fun _ i _ => n - (intOf i).toNat)
  case atStart => exact ⟨0, xs, rfl, by go_num, Nat.zero_le _, Lib.hid (by have := HX.out; omega), HO.out, World.grownBy.refl _ _⟩
  case round =>
    obtain ⟨q, ys, rfl, rfl, hq, HY, hown, hgr⟩ := hrel
    by_cases hlt : q < n
    · obtain ⟨g, hA⟩ := own_head hown (by omega)
      subst hA
      have HO2 := Lib.hid hown
      have f0 := HO2.out.frozenAt (q * 4)
      have f1 := HO2.out.frozenAt (q * 4 + 1)
      have f2 := HO2.out.frozenAt (q * 4 + 2)
      have f3 := HO2.out.frozenAt (q * 4 + 3)
      obtain ⟨y0, d0⟩ : ∃ z, wr.cell? ⟨g, q * 4, none⟩ = some z := ⟨_, (HO2.out.cellAt (q * 4) (by omega)).trans (List.getElem?_eq_getElem (by rw [HY.out]; omega))⟩
      obtain ⟨y1, d1⟩ : ∃ z, wr.cell? ⟨g, q * 4 + 1, none⟩ = some z := ⟨_, (HO2.out.cellAt (q * 4 + 1) (by omega)).trans (List.getElem?_eq_getElem (by rw [HY.out]; omega))⟩
      obtain ⟨y2, d2⟩ : ∃ z, wr.cell? ⟨g, q * 4 + 2, none⟩ = some z := ⟨_, (HO2.out.cellAt (q * 4 + 2) (by omega)).trans (List.getElem?_eq_getElem (by rw [HY.out]; omega))⟩
      obtain ⟨y3, d3⟩ : ∃ z, wr.cell? ⟨g, q * 4 + 3, none⟩ = some z := ⟨_, (HO2.out.cellAt (q * 4 + 3) (by omega)).trans (List.getElem?_eq_getElem (by rw [HY.out]; omega))⟩
      have s0 := HO2.out.stored (q * 4) (.int .i64 ((k0 : Int) + 4 * q))
      have s1 := s0.1.stored (q * 4 + 1) (.int .i64 ((k0 : Int) + 4 * q + 1))
      have s2 := s1.1.stored (q * 4 + 2) (.int .i64 ((k0 : Int) + 4 * q + 1 + 1))
      have s3 := s2.1.stored (q * 4 + 3) (.int .i64 ((k0 : Int) + 4 * q + 1 + 1 + 1))
      have HS := Lib.hid s3.1
      have HG := Lib.hid (grown_trans (grown_trans (grown_trans (grown_trans hgr s0.2) s1.2) s2.2) s3.2)
      clear s0 s1 s2 s3 hown hgr HO2
      go_wp2
      go_roundw
      case rel => exact ⟨q + 1, _, by go_num, by go_num, by omega, Lib.hid (by simp only [List.length_set]; exact HY.out), HS.out, HG.out⟩
      case measure => simp [intOf]; omega
    · have hqn : q = n := by omega
      subst hqn
      go_wp2
      go_ret
      exact ⟨rfl, hgr⟩
end Go.Proofs.YtclnhdjnmfkeaabDoor.L3
