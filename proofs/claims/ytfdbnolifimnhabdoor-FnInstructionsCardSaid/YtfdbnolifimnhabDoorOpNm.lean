/- What impl.opNamed answers. -/
import Derived.Test.YtfdbnolifimnhabDoorOp
import Derived.Test.YtfdbnolifimnhabDoorBlk
import Derived.Test.YtfdbnolifimnhabDoorL1Pure
import Derived.Deep.MidRow
import Derived.Deep.Cut
namespace Go.Proofs.YtfdbnolifimnhabDoor.L3
open Go Go.RowKit Go.Proofs.YtfdbnolifimnhabDoor.Mem Go.Proofs.YtfdbnolifimnhabDoor.Own Go.Proofs.YtfdbnolifimnhabDoor.L1
/-- the place of a name in the table, if it is there -/
def NamedIs (s : ByteArray) (k : Int) (b : Bool) : Prop := (b = true ∧ ∃ j : Nat, j < 10 ∧ k = j ∧ opName j = s) ∨ (b = false ∧ k = 0 ∧ ∀ j, j < 10 → opName j ≠ s)
theorem namedIs_ex (s : ByteArray) : ∃ k b, NamedIs s k b := by
  by_cases h : ∃ j : Nat, j < 10 ∧ opName j = s
  · obtain ⟨j, h1, h2⟩ := h
    exact ⟨j, true, .inl ⟨rfl, j, h1, rfl, h2⟩⟩
  · exact ⟨0, false, .inr ⟨rfl, rfl, fun j h1 h2 => h ⟨j, h1, h2⟩⟩⟩
theorem opName_inj {a b : Nat} (ha : a < 10) (hb : b < 10) (h : opName a = opName b) : a = b := by
  have key : ∀ i j : _root_.Fin 10, opName i.val = opName j.val → i = j := by decide
  have := key ⟨a, ha⟩ ⟨b, hb⟩ h
  exact congrArg Fin.val this
/-- the table, cell after cell -/
def opsL : List Value := opRow 0 ++ (opRow 1 ++ (opRow 2 ++ (opRow 3 ++ (opRow 4 ++ (opRow 5 ++ (opRow 6 ++ (opRow 7 ++ (opRow 8 ++ opRow 9))))))))
theorem opsL_range {w : World} (h : OpsIs w) : w.rangeAt 0 0 opsL := by
  intro j v hv
  have hj : j < 40 := (List.getElem?_eq_some_iff.1 hv).1
  rw [Nat.zero_add]
  have key : ∀ k i, k < 10 → i < 4 → opsL[k * 4 + i]? = (opRow k)[i]? := by
    intro k i hk hi
    have hk' : k = 0 ∨ k = 1 ∨ k = 2 ∨ k = 3 ∨ k = 4 ∨ k = 5 ∨ k = 6 ∨ k = 7 ∨ k = 8 ∨ k = 9 := by omega
    have hi' : i = 0 ∨ i = 1 ∨ i = 2 ∨ i = 3 := by omega
    rcases hk' with rfl | rfl | rfl | rfl | rfl | rfl | rfl | rfl | rfl | rfl <;> rcases hi' with rfl | rfl | rfl | rfl <;> rfl
  have e : j = j / 4 * 4 + j % 4 := by omega
  rw [e, key _ _ (by omega) (by omega)] at hv
  rw [e]
  exact h (j / 4) (by omega) (j % 4) v hv
theorem ops_index0 (wx : World) : (Instr.index 63 (.agg opsL.toArray) (.int .i64 0)).run Tryd.prog wx = .ok (.agg #[.string (opName 0), .int .i64 (cntA 0), .int .i64 (cntB 0), .int .i64 (mostN 0 + 1)]) wx := by kernel_rfl
theorem ops_index1 (wx : World) : (Instr.index 63 (.agg opsL.toArray) (.int .i64 1)).run Tryd.prog wx = .ok (.agg #[.string (opName 1), .int .i64 (cntA 1), .int .i64 (cntB 1), .int .i64 (mostN 1 + 1)]) wx := by kernel_rfl
theorem ops_index2 (wx : World) : (Instr.index 63 (.agg opsL.toArray) (.int .i64 2)).run Tryd.prog wx = .ok (.agg #[.string (opName 2), .int .i64 (cntA 2), .int .i64 (cntB 2), .int .i64 (mostN 2 + 1)]) wx := by kernel_rfl
theorem ops_index3 (wx : World) : (Instr.index 63 (.agg opsL.toArray) (.int .i64 3)).run Tryd.prog wx = .ok (.agg #[.string (opName 3), .int .i64 (cntA 3), .int .i64 (cntB 3), .int .i64 (mostN 3 + 1)]) wx := by kernel_rfl
theorem ops_index4 (wx : World) : (Instr.index 63 (.agg opsL.toArray) (.int .i64 4)).run Tryd.prog wx = .ok (.agg #[.string (opName 4), .int .i64 (cntA 4), .int .i64 (cntB 4), .int .i64 (mostN 4 + 1)]) wx := by kernel_rfl
theorem ops_index5 (wx : World) : (Instr.index 63 (.agg opsL.toArray) (.int .i64 5)).run Tryd.prog wx = .ok (.agg #[.string (opName 5), .int .i64 (cntA 5), .int .i64 (cntB 5), .int .i64 (mostN 5 + 1)]) wx := by kernel_rfl
theorem ops_index6 (wx : World) : (Instr.index 63 (.agg opsL.toArray) (.int .i64 6)).run Tryd.prog wx = .ok (.agg #[.string (opName 6), .int .i64 (cntA 6), .int .i64 (cntB 6), .int .i64 (mostN 6 + 1)]) wx := by kernel_rfl
theorem ops_index7 (wx : World) : (Instr.index 63 (.agg opsL.toArray) (.int .i64 7)).run Tryd.prog wx = .ok (.agg #[.string (opName 7), .int .i64 (cntA 7), .int .i64 (cntB 7), .int .i64 (mostN 7 + 1)]) wx := by kernel_rfl
theorem ops_index8 (wx : World) : (Instr.index 63 (.agg opsL.toArray) (.int .i64 8)).run Tryd.prog wx = .ok (.agg #[.string (opName 8), .int .i64 (cntA 8), .int .i64 (cntB 8), .int .i64 (mostN 8 + 1)]) wx := by kernel_rfl
theorem ops_index9 (wx : World) : (Instr.index 63 (.agg opsL.toArray) (.int .i64 9)).run Tryd.prog wx = .ok (.agg #[.string (opName 9), .int .i64 (cntA 9), .int .i64 (cntB 9), .int .i64 (mostN 9 + 1)]) wx := by kernel_rfl
theorem ops_index (j : Nat) (hj : j < 10) (wx : World) : (Instr.index 63 (.agg opsL.toArray) (.int .i64 (j : Int))).run Tryd.prog wx = .ok (.agg #[.string (opName j), .int .i64 (cntA j), .int .i64 (cntB j), .int .i64 (mostN j + 1)]) wx := by
  have hj' : j = 0 ∨ j = 1 ∨ j = 2 ∨ j = 3 ∨ j = 4 ∨ j = 5 ∨ j = 6 ∨ j = 7 ∨ j = 8 ∨ j = 9 := by omega
  rcases hj' with rfl | rfl | rfl | rfl | rfl | rfl | rfl | rfl | rfl | rfl
  · exact ops_index0 wx
  · exact ops_index1 wx
  · exact ops_index2 wx
  · exact ops_index3 wx
  · exact ops_index4 wx
  · exact ops_index5 wx
  · exact ops_index6 wx
  · exact ops_index7 wx
  · exact ops_index8 wx
  · exact ops_index9 wx
set_option maxRecDepth 100000 in
set_option maxHeartbeats 1000000 in
theorem opNamed_any (s : ByteArray) (z : Int) (b : Bool) (h : NamedIs s z b) (w : World) (ho : OpsIs w) :
    Calls Tryd.prog 42 #[.string s] w fun e w' => e = .returned (.tuple #[.int .i64 z, .bool b]) ∧ Below w.heap.size w w' := by
  have HH := Lib.hid h
  have hrg := opsL_range ho
  have hix := ops_index
  have hlen : opsL.length = 40 := rfl
  obtain ⟨L, hL⟩ : ∃ L, opsL = L := ⟨_, rfl⟩
  rw [hL] at hrg hix hlen
  have HIX := Lib.hid hix
  have hinf : (Tryd.prog.info? 63).map (·.size) = some L.length := by rw [hlen]; kernel_rfl
  clear h ho hL hix hlen
  go_enter Tryd.func42, Tryd.ntmps42
  go_wp2_with (refine wpList_load_mid rfl _ _ rfl 0 0 rfl L _ hrg Tryd.underlying63 rfl hinf ?_)
  clear hrg hinf
  rcases HH.out with ⟨rfl, j, hj, rfl, rfl⟩ | ⟨rfl, rfl, hno⟩
  · go_loopw [7] (fun i wr => ∃ (k : Nat), i = .int .i64 k ∧ k ≤ j ∧ Below w.heap.size w wr) (fun i _ => 10 - (intOf i).toNat)
    case atStart => exact ⟨0, rfl, Nat.zero_le _, Below.refl _ _⟩
    case round =>
      obtain ⟨k, rfl, hk, hbel⟩ := hrel
      have hi := HIX.out k (by omega)
      have hkz : (k : Int) < 10 := by omega
      by_cases hkj : k = j
      · subst hkj
        obtain ⟨nm, hnm⟩ : ∃ z, opName k = z := ⟨_, rfl⟩
        obtain ⟨ka, hka⟩ : ∃ z : Int, cntA k = z := ⟨_, rfl⟩
        obtain ⟨kb, hkb⟩ : ∃ z : Int, cntB k = z := ⟨_, rfl⟩
        obtain ⟨kn, hkn⟩ : ∃ z : Int, mostN k + 1 = z := ⟨_, rfl⟩
        rw [hnm, hka, hkb, hkn] at hi
        rw [hnm]
        have t1 : (nm.toList == nm.toList) = true := by simp
        clear hnm hka hkb hkn HH
        go_wp2_with fail
        go_ret2
        exact ⟨rfl, below_more hbel _⟩
      · have t0 : opName k ≠ opName j := fun e => hkj (opName_inj (by omega) hj e)
        obtain ⟨nm, hnm⟩ : ∃ z, opName k = z := ⟨_, rfl⟩
        obtain ⟨ka, hka⟩ : ∃ z : Int, cntA k = z := ⟨_, rfl⟩
        obtain ⟨kb, hkb⟩ : ∃ z : Int, cntB k = z := ⟨_, rfl⟩
        obtain ⟨kn, hkn⟩ : ∃ z : Int, mostN k + 1 = z := ⟨_, rfl⟩
        rw [hnm, hka, hkb, hkn] at hi
        rw [hnm] at t0
        have t1 := toList_ne t0
        clear hnm hka hkb hkn t0
        go_wp2_with fail
        go_roundw
        case rel => exact ⟨k + 1, by go_num, by omega, below_more hbel _⟩
        case measure => simp [intOf]; omega
  · have HNO := Lib.hid hno
    clear hno HH
    go_loopw [7] (fun i wr => ∃ (k : Nat), i = .int .i64 k ∧ k ≤ 10 ∧ Below w.heap.size w wr) (fun i _ => 10 - (intOf i).toNat)
    case atStart => exact ⟨0, rfl, Nat.zero_le _, Below.refl _ _⟩
    case round =>
      obtain ⟨k, rfl, hk, hbel⟩ := hrel
      by_cases hlt : k < 10
      · have hi := HIX.out k hlt
        have t0 := HNO.out k hlt
        obtain ⟨nm, hnm⟩ : ∃ z, opName k = z := ⟨_, rfl⟩
        obtain ⟨ka, hka⟩ : ∃ z : Int, cntA k = z := ⟨_, rfl⟩
        obtain ⟨kb, hkb⟩ : ∃ z : Int, cntB k = z := ⟨_, rfl⟩
        obtain ⟨kn, hkn⟩ : ∃ z : Int, mostN k + 1 = z := ⟨_, rfl⟩
        rw [hnm, hka, hkb, hkn] at hi
        rw [hnm] at t0
        have t1 := toList_ne t0
        clear hnm hka hkb hkn t0
        go_wp2_with fail
        go_roundw
        case rel => exact ⟨k + 1, by go_num, by omega, below_more hbel _⟩
        case measure => simp [intOf]; omega
      · have hk10 : k = 10 := by omega
        subst hk10
        go_wp2_with fail
        go_ret2
        exact ⟨rfl, hbel⟩
end Go.Proofs.YtfdbnolifimnhabDoor.L3
