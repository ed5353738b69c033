/- What spec.l1Read and spec.l3Register answer; how long an instruction's text is. -/
import Derived.Test.YtfdbnolifimnhabDoorAsmP
import Derived.Test.YtfdbnolifimnhabDoorRead
namespace Go.Proofs.YtfdbnolifimnhabDoor.L3
open Go Go.RowKit Go.Proofs.YtfdbnolifimnhabDoor.Mem Go.Proofs.YtfdbnolifimnhabDoor.Own Go.Proofs.YtfdbnolifimnhabDoor.L1
theorem l1Read_any (s : ByteArray) (r : Int) (b : Bool) (hr : ReadIs s r b) (w : World) (hs : s.size ≤ 1048576) :
    Calls Tryd.prog 49 #[.string s] w fun e w' => e = .returned (.tuple #[.int .i64 r, .bool b]) ∧ ∃ j, w' = w.drewN j := by
  by_cases h1 : 1 < s.size
  · by_cases h0 : s[0] = 45
    · exact l1Read_neg s r b hr w hs h1 h0
    · refine l1Read_pos s r b hr w hs h1 ?_ (strip_pos (.inr ⟨by omega, h0⟩))
      simp only [beq_eq_false_iff_ne, ne_eq]
      intro h
      apply h0
      apply UInt8.toNat_inj.1
      have : (45 : UInt8).toNat = 45 := rfl
      omega
  · exact l1Read_one s r b hr w hs (by omega) (strip_pos (.inl (by omega)))
/-- the number of a register's word, as the spec reads it -/
noncomputable def regS (s : ByteArray) : Int := if s.size = 2 then rdv (s.extract 1 s.size) else 0
theorem num_one {n : Int} (h0 : 0 ≤ n) (h1 : n ≤ 3) : (NumB n).size = 1 := by
  have key : ∀ i : _root_.Fin 4, (NumB ((i.val : Nat) : Int)).size = 1 := by decide +kernel
  have := key ⟨n.toNat, by omega⟩
  simpa [Int.toNat_of_nonneg h0] using this
theorem rg_size {n : Int} (h0 : 0 ≤ n) (h1 : n ≤ 3) : (rg n).size = 2 := by
  unfold rg
  rw [ByteArray.size_append, num_one h0 h1]
  rfl
theorem rg_tail (n : Int) : (rg n).extract 1 (rg n).size = NumB n := by
  apply ByteArray.ext
  apply Array.toList_inj.1
  rw [ext_list]
  have : (rg n).data.toList = 114 :: (NumB n).data.toList := by unfold rg; simp
  rw [this, List.take_of_length_le (by rw [← this]; exact Nat.le_refl _)]
  rfl
theorem regS_rg {n : Int} (h0 : 0 ≤ n) (h1 : n ≤ 3) : regS (rg n) = n := by
  unfold regS
  rw [if_pos (rg_size h0 h1), rg_tail, rdv_num h0 (by omega)]
theorem asm_size {x : Ins} (h : Ok x) : (asmOf x).size ≤ 20 := by
  obtain ⟨ha, hb, hn⟩ := ok_bnd h
  have h1 := name_size x.op.toNat
  have h2 := num_one ha.1 ha.2
  have h3 := num_one hb.1 hb.2
  have h4 : (NumB x.n).size ≤ 6 := by
    have h5 := (dd_len x.n.natAbs (by omega)).2
    rw [← numB_pos hn.1] at h5
    exact h5
  have h6 : 1 < cntB x.op → ¬ 0 < mostN x.op := by
    unfold cntB mostN
    intro h7
    split at h7
    · rw [if_neg (by omega), if_neg (by omega), if_neg (by omega)]; omega
    · omega
  have e1 : sp.size = 1 := rfl
  have e2 : spr.size = 2 := rfl
  unfold asmOf
  simp only
  split <;> split <;> split <;> (try simp only [ByteArray.size_append]) <;> omega
theorem parts_size (s : ByteArray) (c : UInt8) : ∀ x ∈ Parts s c, x.size ≤ s.size := by
  have key : ∀ k, ∀ x ∈ (cuts s c k).1, x.size ≤ s.size := by
    intro k
    induction k with
    | zero => intro x hx; simp [cuts] at hx
    | succ k ih =>
      intro x hx
      rw [cuts] at hx
      split at hx
      · rcases List.mem_append.1 hx with hx | hx
        · exact ih x hx
        · rw [List.mem_singleton] at hx; rw [hx, ByteArray.size_extract]; omega
      · exact ih x hx
  intro x hx
  unfold Parts at hx
  rcases List.mem_append.1 hx with hx | hx
  · exact key _ x hx
  · rw [List.mem_singleton] at hx; rw [hx, ByteArray.size_extract]; omega
theorem parts_ne (s : ByteArray) (c : UInt8) : 0 < (Parts s c).length := by unfold Parts; simp
set_option maxHeartbeats 1000000 in
theorem l3Register_any (s : ByteArray) (w : World) (_ : s.size ≤ 1048576) :
    Calls Tryd.prog 48 #[.string s] w fun e w' => e = .returned (.int .i64 (regS s)) ∧ ∃ j, w' = w.drewN j := by
  by_cases h2 : s.size = 2
  · obtain ⟨b, hb⟩ := rdv_is (s.extract 1 s.size)
    obtain ⟨r, hr⟩ : ∃ r, regS s = r := ⟨_, rfl⟩
    rw [show rdv (s.extract 1 s.size) = regS s by unfold regS; rw [if_pos h2], hr] at hb
    rw [hr]
    have HB := Lib.hid hb
    have hz : (s.extract 1 s.size).size ≤ 1048576 := by rw [ByteArray.size_extract]; omega
    have HZ := Lib.hid hz
    have t1 : ((s.size : Int) != 2) = false := by simp; omega
    have h2z : (1 : Int) ≤ s.size := by omega
    clear hb hr hz h2
    go_enter Tryd.func48, Tryd.ntmps48
    go_wp2_with (go_at_call 49; ((with_reducible refine (l1Read_any _ r b HB.out _ HZ.out).mono ?_); rintro e w1 ⟨rfl, j, rfl⟩))
    go_ret
    exact ⟨rfl, _, rfl⟩
  · have t1 : ((s.size : Int) != 2) = true := by simp; omega
    have hr : regS s = 0 := by unfold regS; rw [if_neg h2]
    rw [hr]
    clear h2 hr
    go_enter Tryd.func48, Tryd.ntmps48
    go_wp2_with fail
    go_ret
    exact ⟨rfl, 0, rfl⟩
end Go.Proofs.YtfdbnolifimnhabDoor.L3
