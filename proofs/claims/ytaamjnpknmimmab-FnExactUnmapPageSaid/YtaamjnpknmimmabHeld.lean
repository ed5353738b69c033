/- What the laws' looks at marked tables answer. -/
import Derived.Test.YtaamjnpknmimmabMarkT
namespace Go.Proofs.Ytaamjnpknmimmab.L4
open Go Go.RowKit Go.Proofs.Ytaamjnpknmimmab.Mem Go.Proofs.Ytaamjnpknmimmab.Own Go.Proofs.Ytaamjnpknmimmab.L1
set_option maxRecDepth 100000 in
set_option maxHeartbeats 2000000 in
theorem heldEntryS_step (A : Option Addr) (n c k0 : Nat) (K : Int) (hK : K = k0) (w : World) (hn : n ≤ 1048576) (hk1 : k0 ≤ 8589934592) (hr : Reads w w.heap.size 2 A n (FL (upE k0 n))) :
    Calls Try.prog 105 #[.slice A n c, .int .i64 K] w fun e w' => e = .returned (.int .i64 (K + 2 * n)) ∧ w' = w := by
  subst hK
  have HR := Lib.hid hr
  clear hr
  go_enter Try.func105, Try.ntmps105
  go_wp2
  go_loopw [1, 5] (fun k i wr => ∃ (q : Nat), i = .int .i64 q ∧ k = .int .i64 (k0 + 2 * q) ∧ q ≤ n ∧ wr = w) (fun _ i _ => n - (intOf i).toNat)
  case atStart => exact ⟨0, rfl, by go_num, Nat.zero_le _, rfl⟩
  case round =>
    obtain ⟨q, rfl, rfl, hq, rfl⟩ := hrel
    by_cases hlt : q < n
    · obtain ⟨b, off, x, rfl, hbB, hu, c0, c1⟩ := ent_at HR.out hlt
      rw [upE_at k0 n q hlt] at hu
      obtain rfl := Option.some.inj hu
      obtain ⟨bq, hbq⟩ : ∃ b, decide ((k0 + 2 * q + 1) % 3 = 0) = b := ⟨_, rfl⟩
      have hb1 : (((k0 : Int) + 2 * q + 1) % 3 == 0) = bq := by rw [← hbq, Bool.eq_iff_iff]; simp; omega
      have hb2 : (((k0 : Int) + 2 * q + 1).tmod 3 == 0) = bq := by rw [Int.tmod_eq_emod_of_nonneg (by omega)]; exact hb1
      dsimp only at c0 c1
      rw [hbq] at c1
      have hc0 : wr.cell? ⟨b, off + q * 2, none⟩ = some (.int .i64 ((k0 : Int) + 2 * q)) := by rw [c0]; push_cast; rfl
      clear hu hbq c0
      go_wp2
      go_roundw
      case rel => exact ⟨q + 1, by go_num, by go_num, by omega, by first | rfl | trivial⟩
      case measure => simp [intOf]; omega
    · have hqn : q = n := by omega
      subst hqn
      go_wp2
      go_ret
      exact ⟨rfl, rfl⟩
set_option maxRecDepth 100000 in
set_option maxHeartbeats 2000000 in
theorem heldEntrySS_step (D : Option Addr) (m d k0 : Nat) (K : Int) (hK : K = k0) (xss : List (List Ent)) (w : World) (hm : m ≤ 1048576) (ht : tot xss ≤ 1048576) (hk1 : k0 ≤ 4300000000) (hr : ReadsL w w.heap.size D m (upL k0 xss)) :
    Calls Try.prog 64 #[.slice D m d, .int .i64 K] w fun e w' => e = .returned (.int .i64 (K + 2 * tot xss)) ∧ w' = w := by
  subst hK
  have HL : Hid (xss.length = m) := Lib.hid (by rw [← upL_len k0, hr.len])
  have HR := Lib.hid hr
  clear hr
  go_enter Try.func64, Try.ntmps64
  go_wp2
  go_loopw [1, 5] (fun k i wr => ∃ (q : Nat), i = .int .i64 q ∧ k = .int .i64 (k0 + 2 * (tot (xss.take q) : Nat)) ∧ q ≤ m ∧ wr = w) (fun _ i _ => m - (intOf i).toNat)
  case atStart => exact ⟨0, rfl, by simp [tot], Nat.zero_le _, rfl⟩
  case round =>
    obtain ⟨q, rfl, rfl, hq, rfl⟩ := hrel
    have hle := tot_le xss q
    by_cases hlt : q < m
    · obtain ⟨b, off, A, n, c, ys, rfl, _, hu, hc, hrr, hny, hnc, hcm⟩ := HR.out.at_ hlt
      obtain ⟨xs, hx⟩ : ∃ xs, xss[q]? = some xs := ⟨_, List.getElem?_eq_getElem (show q < xss.length by rw [HL.out]; exact hlt)⟩
      rw [upL_at hx] at hu
      obtain rfl := Option.some.inj hu
      rw [upE_len] at hny
      subst hny
      have HT := Lib.hid (tot_take hx)
      have hle2 := tot_le xss (q + 1)
      have hln : xs.length ≤ 1048576 := by have := len_le_tot (List.mem_of_getElem? hx); omega
      have HRR := Lib.hid hrr
      have h9 : tot (xss.take q) ≤ 1048576 := by omega
      clear hx hu hrr
      go_wp2_with fail
      refine (heldEntryS_step A xs.length c (k0 + 2 * tot (xss.take q)) _ (by push_cast; rfl) _ hln (by omega) HRR.out).mono ?_
      rintro e w2 ⟨rfl, hw2⟩
      subst hw2
      have hq9 : ((k0 : Int) + 2 * (tot (xss.take q) : Nat) + 2 * (xs.length : Nat)) = k0 + 2 * (tot (xss.take (q + 1)) : Nat) := by rw [HT.out]; push_cast; omega
      have HQ9 := Lib.hid hq9
      clear hq9 hc
      rw [HQ9.out]
      have hpos : ¬ ((k0 : Int) + 2 * (tot (xss.take (q + 1)) : Nat) < 0) := by omega
      go_wp2_with fail
      go_roundw
      case rel => exact ⟨q + 1, by go_num, rfl, by omega, by first | rfl | trivial⟩
      case measure => simp [intOf]; omega
    · have hqm : q = m := by omega
      subst hqm
      have HE : Hid (xss.take q = xss) := Lib.hid (List.take_of_length_le (by rw [HL.out]; exact Nat.le_refl _))
      go_wp2_with fail
      go_ret
      exact ⟨by rw [HE.out]; rfl, rfl⟩
set_option maxRecDepth 100000 in
set_option maxHeartbeats 2000000 in
theorem heldTable_step (A : Option Addr) (n c : Nat) (D : Option Addr) (m d : Nat) (t : Tab) (k0 : Nat) (K : Int) (hK : K = k0) (w : World) (hn : n ≤ 1048576) (hm : m ≤ 1048576) (ht : tot t.leaves ≤ 1048576) (hk1 : k0 ≤ 4294967296) (hr : ReadsT w w.heap.size A n D m (upT k0 t)) :
    Calls Try.prog 14 #[.agg #[.slice A n c, .slice D m d], .int .i64 K] w fun e w' => e = .returned (.int .i64 (K + (n + 2 * tot t.leaves : Nat))) ∧ Below w.heap.size w w' := by
  subst hK
  have hb0 := below_more (Below.refl w.heap.size w) (.cells #[.slice A n c, .slice D m d] 29)
  have h1 := hr.grow hb0
  have hul : (upFrom k0 t.dirs.length).length = n := by have := hr.dlen; exact this
  have hdl : t.dirs.length = n := by rwa [upFrom_len] at hul
  unfold upT at h1
  rw [hdl] at h1
  have H1 := Lib.hid h1
  have HB0 := Lib.hid hb0
  have hk := Blk.new w #[.slice A n c, .slice D m d] 29
  have HK := Lib.hid hk
  clear h1 hb0 hr hdl hul hk
  go_enter Try.func14, Try.ntmps14
  go_wp2_with fail
  refine (held_step A n c k0 k0 rfl _ hn hk1 H1.out.dirs).mono ?_
  rintro e w1 ⟨rfl, hb⟩
  have HL := Lib.hid (H1.out.grow hb).leaves
  have k1 := (Blk.kept hb HK.out).cell 1 _ rfl
  have hp1 : ¬ ((k0 : Int) + n < 0) := by omega
  have HB1 := Lib.hid (below_then HB0.out hb)
  clear hb H1 HK HB0
  go_wp2_with fail
  refine (heldEntrySS_step D m d (k0 + n) _ (by push_cast; rfl) t.leaves _ hm ht (by omega) HL.out).mono ?_
  rintro e w2 ⟨rfl, hw2⟩
  subst hw2
  have hp2 : ¬ ((k0 : Int) + n + 2 * (tot t.leaves : Nat) < 0) := by omega
  clear HL
  go_wp2_with fail
  go_ret
  exact ⟨by push_cast; rw [Int.add_assoc]; rfl, HB1.out⟩
end Go.Proofs.Ytaamjnpknmimmab.L4
