/- What the laws' comparison of slices of pairs answers, and their marks: pairs lie flat, two numbers an element. -/
import Derived.Test.YtlpngmcnelmpmaaStep
import Derived.Lib.QuietBelow
namespace Go.Proofs.Ytlpngmcnelmpmaa.Own
open Go.RowKit Go.Proofs.Ytlpngmcnelmpmaa.Mem
theorem pairInfo : (Try.prog.info? 37).map (fun i => (i.zero, i.size, i.bytes)) = some (some (.agg #[.int .i64 0, .int .i64 0]), 2, 16) := by kernel_rfl
theorem two_boxes (w : World) (x y : Int) : ∃ W2, (w.alloc (.cells #[.int .i64 x, .int .i64 y] 37)).alloc (.cells #[.int .i64 x, .int .i64 y] 37) = W2 ∧ Below w.heap.size w W2 ∧
    W2.cell? ⟨w.heap.size, 0, none⟩ = some (.int .i64 x) ∧ W2.cell? ⟨w.heap.size, 1, none⟩ = some (.int .i64 y) ∧ W2.cell? ⟨w.heap.size + 1, 0, none⟩ = some (.int .i64 x) ∧ W2.cell? ⟨w.heap.size + 1, 1, none⟩ = some (.int .i64 y) := by
  refine ⟨_, rfl, ?_, ?_⟩
  · exact ((Below.refl w.heap.size w).alloc (Nat.le_refl _) _).alloc (World.grownBy_alloc w _ none).size _
  · have hz : (w.alloc (.cells #[.int .i64 x, .int .i64 y] 37)).heap.size = w.heap.size + 1 := Array.size_push _
    have h1 : ((w.alloc (.cells #[.int .i64 x, .int .i64 y] 37)).alloc (.cells #[.int .i64 x, .int .i64 y] 37)).heap[w.heap.size]? = some (.cells #[.int .i64 x, .int .i64 y] 37 (0, 0)) :=
      ((World.grownBy_alloc (w.alloc (.cells #[.int .i64 x, .int .i64 y] 37)) (.cells #[.int .i64 x, .int .i64 y] 37) none).block _ (by omega) (by simp)).trans (heap_alloc_new w _)
    have h2 : ((w.alloc (.cells #[.int .i64 x, .int .i64 y] 37)).alloc (.cells #[.int .i64 x, .int .i64 y] 37)).heap[w.heap.size + 1]? = some (.cells #[.int .i64 x, .int .i64 y] 37 (0, 0)) := by
      have := heap_alloc_new (w.alloc (.cells #[.int .i64 x, .int .i64 y] 37)) (.cells #[.int .i64 x, .int .i64 y] 37)
      rwa [hz] at this
    refine ⟨?_, ?_, ?_, ?_⟩
    · exact cell_of_row _ _ _ _ _ _ h1
    · exact cell_of_row _ _ _ _ _ _ h1
    · exact cell_of_row _ _ _ _ _ _ h2
    · exact cell_of_row _ _ _ _ _ _ h2
set_option maxHeartbeats 1000000 in
theorem eqIntA2_same (x y : Int) (w : World) :
    Calls Try.prog 66 #[.agg #[.int .i64 x, .int .i64 y], .agg #[.int .i64 x, .int .i64 y]] w fun e w' => e = .returned (.bool true) ∧ Below w.heap.size w w' := by
  obtain ⟨W2, hW2, hb, c1, c2, c3, c4⟩ := two_boxes w x y
  obtain ⟨g, hg⟩ : ∃ g, w.heap.size = g := ⟨_, rfl⟩
  go_enter Try.func66, Try.ntmps66
  go_wp2_with fail
  rw [hg] at c1 c2 c3 c4
  clear hW2
  have HB := Lib.hid hb
  clear hb
  go_loopw [5] (fun i wr => ∃ (k j : Nat), i = .int .i64 k ∧ k ≤ 2 ∧ wr = W2.drewN j) (fun i _ => 2 - (intOf i).toNat)
  case atStart => exact ⟨0, 0, rfl, by omega, rfl⟩
  case round =>
    obtain ⟨k, j, rfl, hk, rfl⟩ := hrel
    rcases (show k = 0 ∨ k = 1 ∨ k = 2 by omega) with rfl | rfl | rfl
    · go_wp2
      go_quiet (fail)
      go_wp2
      go_roundw
      case rel => exact ⟨1, _, by go_num, by omega, rfl⟩
      case measure => simp [intOf]
    · go_wp2
      go_quiet (fail)
      go_wp2
      go_roundw
      case rel => exact ⟨2, _, by go_num, by omega, rfl⟩
      case measure => simp [intOf]
    · go_wp2
      go_ret
      exact ⟨rfl, HB.out.trans ⟨rfl, rfl, rfl, Nat.le_refl _, fun _ _ => rfl⟩⟩
/-- an element of a slice of pairs -/
theorem pair_at {w : World} {B n k : Nat} {A : Option Addr} {ys : List Int} (h : Reads w B 2 A n (I ys)) (hk : k < n) : ∃ b off x y, A = some ⟨b, off, none⟩ ∧ b < B ∧ ys[k * 2]? = some x ∧ ys[k * 2 + 1]? = some y ∧ w.cell? ⟨b, off + k * 2, none⟩ = some (.int .i64 x) ∧ w.cell? ⟨b, off + k * 2 + 1, none⟩ = some (.int .i64 y) := by
  obtain ⟨b, off, e, hb, hc⟩ := h.2 (by omega)
  have hl := h.1
  rw [I_len] at hl
  have h1 : k * 2 < ys.length := by omega
  have h2 : k * 2 + 1 < ys.length := by omega
  refine ⟨b, off, ys[k * 2], ys[k * 2 + 1], e, hb, List.getElem?_eq_getElem h1, List.getElem?_eq_getElem h2, hc _ _ (I_at (List.getElem?_eq_getElem h1)), ?_⟩
  have := hc _ _ (I_at (List.getElem?_eq_getElem h2))
  rwa [← Nat.add_assoc] at this
set_option maxHeartbeats 2000000 in
theorem eqPairs_step (A A' : Option Addr) (n c c' : Nat) (ys : List Int) (w : World) (hn : n ≤ 1048576) (hx : Reads w w.heap.size 2 A n (I ys)) (hy : Reads w w.heap.size 2 A' n (I ys)) :
    Calls Try.prog 41 #[.slice A n c, .slice A' n c'] w fun e w' => e = .returned (.bool true) ∧ Below w.heap.size w w' := by
  go_enter Try.func41, Try.ntmps41
  go_wp2
  go_loopw [5] (fun i wr => ∃ (k : Nat), i = .int .i64 k ∧ k ≤ n ∧ Below w.heap.size w wr) (fun i _ => n - (intOf i).toNat)
  case atStart => exact ⟨0, rfl, Nat.zero_le _, Below.refl _ _⟩
  case round =>
    obtain ⟨k, rfl, hk, hbel⟩ := hrel
    by_cases hlt : k < n
    · have hlt2 : w.heap.size ≤ wr.heap.size := hbel.size
      obtain ⟨b1, o1, x, y, rfl, _, hx1, hy1, cx1, cy1⟩ := pair_at (hx.below hbel) hlt
      obtain ⟨b2, o2, x', y', rfl, _, hx2, hy2, cx2, cy2⟩ := pair_at (hy.below hbel) hlt
      obtain rfl : x' = x := by rw [hx1] at hx2; exact (Option.some.inj hx2).symm
      obtain rfl : y' = y := by rw [hy1] at hy2; exact (Option.some.inj hy2).symm
      have k1 := cell_regrown cx1
      have k2 := cell_regrown cy1
      have k3 := cell_regrown cx2
      have k4 := cell_regrown cy2
      have cQ : ∀ d os, Calls Try.prog 66 #[.agg #[.int .i64 x', .int .i64 y'], .agg #[.int .i64 x', .int .i64 y']] (Sort.grow (redrawn wr d) os) fun e w'' => e = .returned (.bool true) ∧ ∃ p : Regrown, w'' = Sort.grow (redrawn wr p.d) p.os := fun d os => Calls.regrown_of (eqIntA2_same x' y' (Sort.grow (redrawn wr d) os))
      clear hx1 hy1 hx2 hy2 cx1 cy1 cx2 cy2
      go_wp2
      refine wp_region_quiet_below (by kernel_rfl) (by kernel_rfl) ?_
      repeat (quiet_step (exact cQ _ _))
      refine wpQuiet_nil ?_
      intro _ hw'
      obtain ⟨⟨dq, osq⟩, hw''⟩ := hw'
      subst hw''
      have hb2 : Below w.heap.size w (Sort.grow (redrawn wr dq) osq) := hbel.trans ((below_regrown wr dq osq).mono hlt2)
      clear k1 k2 k3 k4 cQ
      go_wp2
      go_roundw
      case rel => exact ⟨k + 1, by go_num, by omega, hb2⟩
      case measure => simp [intOf]; omega
    · have hqn : k = n := by omega
      subst hqn
      go_wp2
      go_ret
      exact ⟨rfl, hbel⟩
set_option maxHeartbeats 2000000 in
theorem markPairs_any (A : Option Addr) (n c base k0 : Nat) (xs : List Value) (w : World) (hown : w.ownsRow base 37 2 (.slice A n c) n xs) (hn : n ≤ 1048576) (hk1 : k0 ≤ 2097152) :
    Calls Try.prog 42 #[.slice A n c, .int .i64 k0] w fun e w' => e = .returned (.int .i64 (k0 + 2 * n)) ∧ w'.ownsRow base 37 2 (.slice A n c) n (I (upFrom k0 (2 * n))) ∧ w.grownBy w' (Value.slice A n c).ownBlock := by
  have HX := Lib.hid hown.1
  have HO := Lib.hid hown
  clear hown
  go_enter Try.func42, Try.ntmps42
  go_wp2
  go_loopw [1, 5] (fun k i wr => ∃ (q : Nat) (ys : List Value), i = .int .i64 q ∧ k = .int .i64 (k0 + 2 * q) ∧ q ≤ n ∧ Hid (ys.length = 2 * n) ∧ Hid (ys.take (2 * q) = (I (upFrom k0 (2 * n))).take (2 * q)) ∧ wr.ownsRow base 37 2 (.slice A n c) n ys ∧ w.grownBy wr (Value.slice A n c).ownBlock) (fun _ i _ => n - (intOf i).toNat)
  case atStart => exact ⟨0, xs, rfl, by go_num, Nat.zero_le _, Lib.hid (by have := HX.out; omega), Lib.hid (by simp), HO.out, World.grownBy.refl _ _⟩
  case round =>
    obtain ⟨q, ys, rfl, rfl, hq, HY, HT, hown, hgr⟩ := hrel
    by_cases hlt : q < n
    · obtain ⟨g, hA⟩ := own_head hown (by omega)
      subst hA
      go_wp2
      go_loopw [1, 6] (fun k i wx => ∃ (j : Nat) (zs : List Value), i = .int .i64 j ∧ k = .int .i64 (k0 + 2 * q + j) ∧ j ≤ 2 ∧ Hid (zs.length = 2 * n) ∧ Hid (zs.take (2 * q + j) = (I (upFrom k0 (2 * n))).take (2 * q + j)) ∧ wx.ownsRow base 37 2 (.slice (some ⟨g, 0, none⟩) n c) n zs ∧ w.grownBy wx (Value.slice (some ⟨g, 0, none⟩) n c).ownBlock) (fun _ i _ => 2 - (intOf i).toNat)
      case atStart => exact ⟨0, ys, rfl, by go_num, by omega, HY, HT, hown, hgr⟩
      case round =>
        clear hown hgr HT HY
        obtain ⟨j, zs, rfl, rfl, hj, HZ, HT, hown, hgr⟩ := hrel
        by_cases hlt2 : j < 2
        · have HU := Lib.hid (set_take (I (upFrom k0 (2 * n))) zs (2 * q + j) (.int .i64 ((k0 : Int) + 2 * q + j)) (by rw [HZ.out, I_len, upFrom_len]) (by rw [I_at (upFrom_at k0 (2 * n) (2 * q + j) (by omega))]; push_cast; rw [Int.add_assoc]) HT.out)
          have HZ2 : Hid ((zs.set (2 * q + j) (.int .i64 ((k0 : Int) + 2 * q + j))).length = 2 * n) := Lib.hid (by rw [List.length_set]; exact HZ.out)
          have hst := hown.stored (2 * q + j) (.int .i64 ((k0 : Int) + 2 * q + j))
          have hst1 := Lib.hid hst.1
          have hgr2 := grown_trans hgr hst.2
          have hfz := hown.frozenAt (2 * q + j)
          obtain ⟨z, hz⟩ : ∃ z, wr.cell? ⟨g, 2 * q + j, none⟩ = some z := ⟨_, (hown.cellAt (2 * q + j) (by omega)).trans (List.getElem?_eq_getElem (by rw [HZ.out]; omega))⟩
          rw [Nat.mul_comm 2 q] at hst1 hgr2 hfz hz HU HZ2
          clear hst hown hgr HT HZ
          go_wp2
          go_roundw
          case rel => exact ⟨j + 1, _, by go_num, by go_num, by omega, HZ2, by rw [Nat.mul_comm 2 q]; exact HU, hst1.out, hgr2⟩
          case measure => simp [intOf]; omega
        · have hj2 : j = 2 := by omega
          subst hj2
          go_wp2
          go_roundw
          case rel => exact ⟨q + 1, zs, by go_num, by go_num, by omega, HZ, HT, hown, hgr⟩
          case measure => simp [intOf]; omega
    · have hqn : q = n := by omega
      have hy : ys = I (upFrom k0 (2 * n)) := by
        have h := HT.out
        rw [List.take_of_length_le (by rw [HY.out]; omega), List.take_of_length_le (by rw [I_len, upFrom_len]; omega)] at h
        exact h
      rw [hy] at hown
      clear hy HT
      subst hqn
      go_wp2
      go_ret
      exact ⟨rfl, hown, hgr⟩
set_option maxHeartbeats 2000000 in
theorem heldPairs_any (A : Option Addr) (n c B k0 : Nat) (w : World) (hr : Reads w B 2 A n (I (upFrom k0 (2 * n)))) (hn : n ≤ 1048576) (hk1 : k0 ≤ 2097152) :
    Calls Try.prog 43 #[.slice A n c, .int .i64 k0] w fun e w' => e = .returned (.int .i64 (k0 + 2 * n)) ∧ w = w' := by
  go_enter Try.func43, Try.ntmps43
  go_wp2
  go_loop [1, 5] (fun k i => ∃ (q : Nat), i = .int .i64 q ∧ k = .int .i64 (k0 + 2 * q) ∧ q ≤ n) (fun _ i => n - (intOf i).toNat)
  case atStart => exact ⟨0, rfl, by go_num, Nat.zero_le _⟩
  case round =>
    obtain ⟨q, rfl, rfl, hq⟩ := hrel
    by_cases hlt : q < n
    · obtain ⟨b, off, x, y, rfl, _, hx, hy, cx, cy⟩ := pair_at hr hlt
      have hx2 : x = (k0 : Int) + 2 * q := by rw [upFrom_at k0 (2 * n) (q * 2) (by omega)] at hx; have := (Option.some.inj hx).symm; push_cast at this; omega
      have hy2 : y = (k0 : Int) + 2 * q + 1 := by rw [upFrom_at k0 (2 * n) (q * 2 + 1) (by omega)] at hy; have := (Option.some.inj hy).symm; push_cast at this; omega
      subst hx2
      subst hy2
      clear hx hy
      go_wp2
      go_loop [1, 6] (fun k i => (i = .int .i64 0 ∧ k = .int .i64 (k0 + 2 * q)) ∨ (i = .int .i64 1 ∧ k = .int .i64 (k0 + 2 * q + 1)) ∨ (i = .int .i64 2 ∧ k = .int .i64 (k0 + 2 * q + 1 + 1))) (fun _ i => 2 - (intOf i).toNat)
      case atStart => exact .inl ⟨rfl, rfl⟩
      case round =>
        rcases hrel with ⟨rfl, rfl⟩ | ⟨rfl, rfl⟩ | ⟨rfl, rfl⟩
        · go_wp2
          go_round
          case rel => exact .inr (.inl ⟨rfl, rfl⟩)
          case measure => simp [intOf]
        · go_wp2
          go_round
          case rel => exact .inr (.inr ⟨rfl, rfl⟩)
          case measure => simp [intOf]
        · go_wp2
          go_round
          case rel => exact ⟨q + 1, by go_num, by go_num, by omega⟩
          case measure => simp [intOf]; omega
    · have hqn : q = n := by omega
      subst hqn
      go_wp2
      go_ret
      exact ⟨rfl, rfl⟩
theorem markPairs_step (A : Option Addr) (n c b k0 : Nat) (K : Int) (hK : K = k0) (xs : List Value) (w : World) (hn : n ≤ 1048576) (hk1 : k0 ≤ 2097152) (hown : w.ownsRow b 37 2 (.slice A n c) n xs) :
    Calls Try.prog 42 #[.slice A n c, .int .i64 K] w fun e w' => e = .returned (.int .i64 (K + 2 * n)) ∧ w'.ownsRow b 37 2 (.slice A n c) n (I (upFrom k0 (2 * n))) ∧ w.grownBy w' (Value.slice A n c).ownBlock := by
  subst hK
  exact markPairs_any A n c b k0 xs w hown hn hk1
theorem heldPairs_step (A : Option Addr) (n c k0 : Nat) (K : Int) (hK : K = k0) (w : World) (hn : n ≤ 1048576) (hk1 : k0 ≤ 2097152) (hr : Reads w w.heap.size 2 A n (I (upFrom k0 (2 * n)))) :
    Calls Try.prog 43 #[.slice A n c, .int .i64 K] w fun e w' => e = .returned (.int .i64 (K + 2 * n)) ∧ Below w.heap.size w w' := by
  subst hK
  exact (heldPairs_any A n c w.heap.size k0 w hr hn hk1).mono fun e w' ⟨h1, h2⟩ => ⟨h1, by rw [← h2]; exact Below.refl _ _⟩
end Go.Proofs.Ytlpngmcnelmpmaa.Own
