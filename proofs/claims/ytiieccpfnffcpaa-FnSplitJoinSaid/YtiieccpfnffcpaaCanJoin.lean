/- What impl.canJoin and impl.JoinStrings answer. -/
import Derived.Test.YtiieccpfnffcpaaJoin
import Derived.Test.YtiieccpfnffcpaaShelf
import Derived.Deep.LoopGhost
import Derived.WalkMore
namespace Go.Proofs.Ytiieccpfnffcpaa.L1
open Go.RowKit Go.Proofs.Ytiieccpfnffcpaa.Mem
set_option maxHeartbeats 1000000 in
theorem canJoin_any (A : Option Addr) (n cp B : Nat) (ss : List ByteArray) (c : UInt8) (cn : Int) (hcn : cn = c.toNat) (w : World) (hr : Reads w B 1 A n (ss.map Value.string)) (hn0 : 0 < n) (hn : n ≤ 1048576) (ht : tot ss ≤ 1048576) (hss : ∀ s ∈ ss, s.size ≤ 1048576) (b : Bool) (hb : b = true ↔ JoinOk ss c) :
    Calls Try.prog 30 #[.slice A n cp, .int .u8 cn] w fun e w' => e = .returned (.bool b) ∧ w = w' := by
  have hl : ss.length = n := by have := hr.len; simpa using this
  have HL := Lib.hid hl
  have HN := Lib.hid hcn
  have HB := Lib.hid hb
  have hno : ¬ JoinOk ss c → b = false := fun h => by cases b <;> simp_all
  have HNO := Lib.hid hno
  clear hcn hl hb hno
  go_enter Try.func30, Try.ntmps30
  go_wp2
  go_step3
  go_wp2
  go_step3
  go_wp2
  go_loopg [5, 6, 16] n (fun g s5 s6 s16 wx => ∃ k t : Nat, k + g = n ∧ s16 = .int .i64 k ∧ s5 = .int .i64 (4001 - n - t) ∧ s6 = .bool true ∧ Hid (tot (ss.take k) = t) ∧ (t = 0 ∨ t + n ≤ 4001) ∧ Hid (∀ s ∈ ss.take k, s.data.toList.contains c = false) ∧ w = wx)
  case atStart => exact ⟨0, 0, by omega, rfl, by go_num, rfl, Lib.hid (by simp [tot]), .inl rfl, Lib.hid (by simp), rfl⟩
  case round =>
    obtain ⟨k, t, hkg, rfl, rfl, rfl, HT, htn, HK, rfl⟩ := hrel
    have htt := tot_take ss k
    rw [HT.out] at htt
    cases gk with
    | zero =>
      have hkz : ¬ ((k : Int) < (n : Int)) := by omega
      have hT : tot ss = t := by have h := HT.out; rwa [List.take_of_length_le (by rw [HL.out]; omega)] at h
      have hK : ∀ s ∈ ss, s.data.toList.contains c = false := by have h := HK.out; rwa [List.take_of_length_le (by rw [HL.out]; omega)] at h
      by_cases hle : t + n ≤ 4001
      · have hbt : b = true := HB.out.2 ⟨fun e => by have := HL.out; rw [e] at this; simp at this; omega, hK, by rw [hT, HL.out]; omega⟩
        have HX := Lib.hid hbt
        clear hT hK hbt
        go_wp2
        go_ret
        rw [HX.out]
        exact ⟨rfl, rfl⟩
      · have hbf : b = false := HNO.out (fun h => by have := h.2.2; rw [hT, HL.out] at this; omega)
        have HX := Lib.hid hbf
        clear hT hK hbf
        go_wp2
        go_ret
        rw [HX.out]
        exact ⟨rfl, rfl⟩
    | succ g =>
      have hkz : (k : Int) < (n : Int) := by omega
      obtain ⟨b1, o1, x, rfl, _, hu, hcell⟩ := hr.str_at (k := k) (by omega)
      have hxs := hss x (List.mem_of_getElem? hu)
      have hsn := tot_snoc ss k x hu
      rw [HT.out] at hsn
      have HS := Lib.hid hsn
      have htk := tot_take ss (k + 1)
      have HU := Lib.hid hu
      have htx : t + x.size ≤ tot ss := by omega
      clear hsn htk hu
      go_wp2
      go_loopg [5, 6, 22] (x.size) (fun g2 s5 s6 s22 wy => ∃ q : Nat, q + g2 = x.size ∧ s22 = .int .i64 q ∧ s5 = .int .i64 (4001 - n - t - q) ∧ s6 = .bool true ∧ (t + q = 0 ∨ t + q + n ≤ 4001) ∧ Hid ((x.data.toList.take q).contains c = false) ∧ w = wy)
      case atStart => exact ⟨0, by omega, rfl, by go_num, rfl, htn, Lib.hid (by simp), rfl⟩
      case round =>
        obtain ⟨q, hqg, rfl, rfl, rfl, hqn, HQ, rfl⟩ := hrel
        cases gk with
        | zero =>
          have hqz : ¬ ((q : Int) < (x.size : Int)) := by omega
          have HC : Hid (∀ s ∈ ss.take (k + 1), s.data.toList.contains c = false) := Lib.hid (clean_succ HU.out (by have h := HQ.out; rwa [take_all x q (by omega)] at h) HK.out)
          go_wp2
          go_roundg g
          case measure => omega
          case rel => exact ⟨k + 1, t + x.size, by omega, by first | rfl | go_num, by first | (go_num; done) | (go_num; omega), rfl, HS, by omega, HC, rfl⟩
        | succ g2 =>
          have hqz : (q : Int) < (x.size : Int) := by omega
          have hlt : q < x.size := by omega
          by_cases he : x[q] = c
          · have t1 : ((x[q].toNat : Int) == cn) = true := by rw [HN.out, he]; simp
            have t2 : ((x[q].toNat : Int) != cn) = false := by simp only [bne, t1, Bool.not_true]
            have hbf : b = false := HNO.out (bad_elem HU.out (contains_at x c q hlt he))
            have HX := Lib.hid hbf
            clear he hbf
            by_cases hroom : t + q + 1 + n ≤ 4001
            all_goals
              go_wp2
              try rw [Exit.noGoto_ret]
              go_ret
              rw [HX.out]
              exact ⟨rfl, rfl⟩
          · have t1 : ((x[q].toNat : Int) == cn) = false := by
              rw [HN.out]
              simp only [beq_eq_false_iff_ne, ne_eq, Int.natCast_inj]
              intro h; exact he (UInt8.toNat_inj.1 h)
            have t2 : ((x[q].toNat : Int) != cn) = true := by simp only [bne, t1, Bool.not_false]
            have HQ2 := Lib.hid (take_contains_succ x c q hlt HQ.out he)
            clear he
            by_cases hroom : t + q + 1 + n ≤ 4001
            · go_wp2
              go_roundg g2
              case measure => omega
              case rel => exact ⟨q + 1, by omega, by first | rfl | go_num, by first | (go_num; done) | (go_num; omega), rfl, by omega, HQ2, rfl⟩
            · have hbf : b = false := HNO.out (fun h => by have := h.2.2; rw [HL.out] at this; omega)
              have HX := Lib.hid hbf
              clear hbf
              go_wp2
              try rw [Exit.noGoto_ret]
              go_ret
              rw [HX.out]
              exact ⟨rfl, rfl⟩
end Go.Proofs.Ytiieccpfnffcpaa.L1
