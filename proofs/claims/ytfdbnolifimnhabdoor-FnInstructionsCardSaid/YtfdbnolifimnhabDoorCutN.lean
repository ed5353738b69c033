/- What impl's parts of ParseAssembly answer: strings.TrimPrefix of "r", cutNumber, opNamed, withOperands. -/
import Derived.Test.YtfdbnolifimnhabDoorAsmV
import Derived.Test.YtfdbnolifimnhabDoorPrI
import Derived.Test.YtfdbnolifimnhabDoorBlk
import Derived.Deep.Cut
import Derived.Deep.QuietTactic
namespace Go.Proofs.YtfdbnolifimnhabDoor.L3
open Go Go.RowKit Go.Proofs.YtfdbnolifimnhabDoor.Mem Go.Proofs.YtfdbnolifimnhabDoor.Own Go.Proofs.YtfdbnolifimnhabDoor.L1
/-- a text that begins with "r" -/
def pre (s : ByteArray) : Bool := decide (1 ≤ s.size) && ((s.extract 0 1).toList == [114])
def trim (s : ByteArray) : ByteArray := if pre s = true then s.extract 1 s.size else s
theorem trim_size (s : ByteArray) : (trim s).size ≤ s.size := by
  unfold trim
  split
  · rw [ByteArray.size_extract]; omega
  · exact Nat.le_refl _
set_option maxRecDepth 100000 in
theorem hasPrefix_any (s : ByteArray) (b : Bool) (hb : pre s = b) (hs : s.size ≤ 1048576) (w : World) :
    Calls Tryd.prog 93 #[.string s, .string ⟨#[114]⟩] w fun e w' => e = .returned (.bool b) ∧ w = w' := by
  by_cases h1 : 1 ≤ s.size
  · obtain ⟨q, hq⟩ : ∃ q, ((s.extract 0 1).toList == [114]) = q := ⟨_, rfl⟩
    have e : b = q := by rw [← hb]; unfold pre; rw [decide_eq_true h1, hq]; rfl
    have h1z : (1 : Int) ≤ s.size := by omega
    subst e
    clear hb
    go_enter Tryd.func93, Tryd.ntmps93
    go_wp2_with fail
    go_ret
    exact ⟨by rw [← hq]; rfl, rfl⟩
  · have e : b = false := by rw [← hb]; unfold pre; rw [decide_eq_false h1]; rfl
    subst e
    have h1z : decide ((1 : Int) ≤ s.size) = false := decide_eq_false (by omega)
    have h0 : s.size = 0 := by omega
    clear hb h1
    go_enter Tryd.func93, Tryd.ntmps93
    go_wp2_with fail
    go_ret
    exact ⟨rfl, rfl⟩
theorem trimPrefix_any (s : ByteArray) (hs : s.size ≤ 1048576) (w : World) :
    Calls Tryd.prog 78 #[.string s, .string ⟨#[114]⟩] w fun e w' => e = .returned (.string (trim s)) ∧ w = w' := by
  have key : Calls Tryd.prog 85 #[.string s, .string ⟨#[114]⟩] w fun e w' => e = .returned (.string (trim s)) ∧ w = w' := by
    obtain ⟨b, hb⟩ : ∃ b, pre s = b := ⟨_, rfl⟩
    cases b with
    | true =>
      have ht : trim s = s.extract 1 s.size := by unfold trim; rw [if_pos hb]
      have h1 : 1 ≤ s.size := by
        unfold pre at hb
        rw [Bool.and_eq_true] at hb
        exact of_decide_eq_true hb.1
      have h1z : (1 : Int) ≤ s.size := by omega
      have HT := Lib.hid ht
      clear ht
      go_enter Tryd.func85, Tryd.ntmps85
      go_wp2_with fail
      refine (hasPrefix_any s true hb hs _).mono ?_
      rintro e w1 ⟨rfl, rfl⟩
      go_wp2_with fail
      go_ret
      exact ⟨by rw [HT.out]; rfl, rfl⟩
    | false =>
      have ht : trim s = s := by unfold trim; rw [if_neg (by rw [hb]; decide)]
      have HT := Lib.hid ht
      clear ht
      go_enter Tryd.func85, Tryd.ntmps85
      go_wp2_with fail
      refine (hasPrefix_any s false hb hs _).mono ?_
      rintro e w1 ⟨rfl, rfl⟩
      go_wp2_with fail
      go_ret
      exact ⟨by rw [HT.out]; rfl, rfl⟩
  have HK := Lib.hid key
  clear key
  go_enter Tryd.func78, Tryd.ntmps78
  go_wp2_with fail
  refine HK.out.mono ?_
  rintro e w1 ⟨rfl, rfl⟩
  go_wp2_with fail
  go_ret
  exact ⟨rfl, rfl⟩
/-- a word's number -/
noncomputable def wv (s : ByteArray) : Int := rdv (trim s)
/-- what a call of cutNumber answers; the words lie as in w0 -/
def CutPost (w0 w : World) (ws : List ByteArray) (e : Ending) (w' : World) : Prop :=
  ∃ A2 n2 c2, e = .returned (.tuple #[.int .i64 (hd wv ws), .slice A2 n2 c2]) ∧ n2 ≤ c2 ∧ ws.tail.length = n2 ∧ Reads w0 w0.heap.size 1 A2 n2 (ws.tail.map .string) ∧ Below w.heap.size w w'
set_option maxRecDepth 100000 in
set_option maxHeartbeats 1000000 in
theorem cutNumber_any (A : Option Addr) (n c : Nat) (ws : List ByteArray) (w0 w : World) (hb0 : Below w0.heap.size w0 w) (hr : Reads w0 w0.heap.size 1 A n (ws.map .string)) (hl : ws.length = n) (hnc : n ≤ c) (hn : n ≤ 1048576) (hs : ∀ u ∈ ws, u.size ≤ 1048576)
    (ht : Lib.TabIs Tryd.prog w0 "internal/strconv.uint64pow10" .u64 Lib.pow10Tab) (he : ErrsIs w0) :
    Calls Tryd.prog 71 #[.slice A n c] w (CutPost w0 w ws) := by
  cases ws with
  | nil =>
    simp only [List.length_nil] at hl
    subst hl
    clear hr ht he
    go_enter Tryd.func71, Tryd.ntmps71
    go_wp2_with fail
    go_ret2
    exact ⟨none, 0, 0, rfl, Nat.le_refl _, rfl, Reads.nil_, Below.refl _ _⟩
  | cons u r =>
    have hn1 : 1 ≤ n := by rw [← hl]; simp
    obtain ⟨b, off, rfl, hbw, hc⟩ := hr.2 (by omega)
    have c0 : w.cell? ⟨b, off, none⟩ = some (.string u) := by have h2 := hc 0 (.string u) rfl; rw [Nat.add_zero] at h2; exact (hb0.cell (p := ⟨b, off, none⟩) hbw).trans h2
    have HCC := Lib.hid hc
    have hne : ((n : Int) == 0) = false := by simp; omega
    have hn1z : (1 : Int) ≤ n := by omega
    have hu := hs u List.mem_cons_self
    obtain ⟨q, hq⟩ := rdv_is (trim u)
    have HQ := Lib.hid hq
    have HT := Lib.hid (Fr.tabIs_below hb0 ht)
    have HE := Lib.hid (errs_below hb0 he)
    have HL : Hid (r.length = n - 1) := Lib.hid (by rw [← hl]; simp)
    obtain ⟨v, hv⟩ : ∃ v, rdv (trim u) = v := ⟨_, rfl⟩
    have HV : Hid (hd wv (u :: r) = v) := Lib.hid hv
    rw [hv] at HQ
    obtain ⟨o2, hite, hoe⟩ : ∃ o2, (if c = 1 then (some ⟨b, off, none⟩ : Option Addr) else some ⟨b, off + 1, none⟩) = some ⟨b, o2, none⟩ ∧ (c = 1 ∨ o2 = off + 1) := by
      by_cases h : c = 1
      · exact ⟨off, by rw [if_pos h], .inl h⟩
      · exact ⟨off + 1, by rw [if_neg h], .inr rfl⟩
    have HOE := Lib.hid hoe
    clear hr hc ht he hq hv hoe hl hs hb0
    go_enter Tryd.func71, Tryd.ntmps71
    go_wp2_with fail
    refine (trimPrefix_any u hu _).mono ?_
    rintro e w1 ⟨rfl, rfl⟩
    go_wp2_with fail
    refine (implParseInt (trim u) v q HQ.out _ (Nat.le_trans (trim_size u) hu) HT.out HE.out).mono ?_
    rintro e w2 ⟨rfl, hb⟩
    have HB := Lib.hid hb
    clear hb c0 hne
    go_wp2_with fail
    go_quiet (fail)
    go_wp2_with fail
    go_ret2
    refine ⟨some ⟨b, o2, none⟩, n - 1, c - 1, congrArg (fun z => Ending.returned (.tuple #[.int .i64 z, .slice (some ⟨b, o2, none⟩) (n - 1) (c - 1)])) HV.out.symm, by omega, HL.out, ⟨by simp [HL.out], fun hp => ⟨b, o2, rfl, hbw, ?_⟩⟩, ?_⟩
    · intro j x hj
      rcases HOE.out with h | h
      · omega
      · have h2 := HCC.out (j + 1) x (by simpa using hj)
        rw [h, Nat.add_assoc, Nat.add_comm 1 j]
        exact h2
    · exact ⟨HB.out.os, HB.out.tape, HB.out.output, HB.out.size, HB.out.block⟩
end Go.Proofs.YtfdbnolifimnhabDoor.L3
