/- Chapter 5's traps, what is valid and what the functions answer. No program's text. -/
import Derived.Test.YtaamjnpknmimmaaTrpD
import Derived.Test.YtaamjnpknmimmaaBit
namespace Go.Proofs.Ytaamjnpknmimmaa.L5
open Go Go.Proofs.Ytaamjnpknmimmaa.Own Go.Proofs.Ytaamjnpknmimmaa.Bit
def OkF (t : Trp) : Prop := t.cause = 1 ∧ t.width = 0 ∧ t.reg = 0 ∧ (0 ≤ t.info ∧ t.info ≤ 15)
def OkC (t : Trp) : Prop := t.cause = 2 ∧ t.width = 0 ∧ t.reg = 0 ∧ t.store = false ∧ (0 ≤ t.info ∧ t.info ≤ 255)
def OkD (t : Trp) : Prop := t.cause = 3 ∧ (t.width = 1 ∨ t.width = 2 ∨ t.width = 4) ∧ (0 ≤ t.reg ∧ t.reg ≤ 3) ∧ (0 ≤ t.info ∧ t.info ≤ 65535) ∧ t.info % t.width = 0
def OkW (t : Trp) : Prop := (t.cause = 4 ∨ t.cause = 5) ∧ t.width = 0 ∧ t.store = false ∧ t.reg = 0 ∧ t.info = 0
def Ok (t : Trp) : Prop := OkF t ∨ OkC t ∨ OkD t ∨ OkW t
instance (t : Trp) : Decidable (Ok t) := by unfold Ok OkF OkC OkD OkW; infer_instance
theorem ok_bounds {t : Trp} (h : Ok t) : (1 ≤ t.cause ∧ t.cause ≤ 5) ∧ (0 ≤ t.width ∧ t.width ≤ 4) ∧ (0 ≤ t.reg ∧ t.reg ≤ 3) ∧ (0 ≤ t.info ∧ t.info ≤ 65535) := by
  unfold Ok OkF OkC OkD OkW at h
  omega
def bitOf (b : Bool) : Int := if b = true then 1 else 0
def synOf (t : Trp) : Int := t.cause * 16777216 + bitOf t.store * 8388608 + t.width * 1048576 + t.reg * 65536 + t.info
def trapOf (n : Int) : Trp := ⟨n / 16777216, n / 1048576 % 8, decide (n / 8388608 % 2 = 1), n / 65536 % 16, n % 65536⟩
theorem bitOf_lt (b : Bool) : 0 ≤ bitOf b ∧ bitOf b ≤ 1 := by cases b <;> simp [bitOf]
theorem trapOf_syn {t : Trp} (h : Ok t) : trapOf (synOf t) = t := by
  obtain ⟨h1, h2, h3, h4⟩ := ok_bounds h
  obtain ⟨c, w, s, r, i⟩ := t
  simp only at h1 h2 h3 h4
  unfold trapOf synOf
  simp only
  have hb := bitOf_lt s
  have hs : (c * 16777216 + bitOf s * 8388608 + w * 1048576 + r * 65536 + i) / 8388608 % 2 = bitOf s := by omega
  have hd : decide (bitOf s = 1) = s := by cases s <;> rfl
  rw [hs, hd]
  simp only [Trp.mk.injEq, true_and]
  omega
theorem syn_trapOf (n : Int) : synOf (trapOf n) = n := by
  have hb : bitOf (decide (n / 8388608 % 2 = 1)) = n / 8388608 % 2 := by
    unfold bitOf
    by_cases h : n / 8388608 % 2 = 1
    · rw [decide_eq_true h, if_pos rfl, h]
    · rw [decide_eq_false h, if_neg (by decide)]; omega
  unfold synOf trapOf
  simp only
  rw [hb]
  omega
theorem syn_ok {t : Trp} (h : Ok t) : 0 ≤ synOf t ∧ synOf t < 2 ^ 40 := by
  obtain ⟨h1, h2, h3, h4⟩ := ok_bounds h
  have hb := bitOf_lt t.store
  unfold synOf
  omega
/-- the lowest bytes of a word -/
def partOf (v w : Int) : Int := if w = 1 then v % 256 else v % 65536
theorem partOf_range (v w : Int) : 0 ≤ partOf v w ∧ partOf v w ≤ 65535 := by unfold partOf; split <;> omega
def Words (r : List Int) : Prop := r.length = 4 ∧ ∀ z ∈ r, 0 ≤ z ∧ z ≤ 65535
instance (r : List Int) : Decidable (Words r) := by unfold Words; infer_instance
def OkS (t : Trp) (r : List Int) : Prop := Ok t ∧ t.cause = 3 ∧ t.store = true ∧ Words r
def OkL (t : Trp) (r : List Int) (v : Int) : Prop := Ok t ∧ t.cause = 3 ∧ t.store = false ∧ Words r ∧ (0 ≤ v ∧ v ≤ 4294967295)
instance (t : Trp) (r : List Int) : Decidable (OkS t r) := by unfold OkS; infer_instance
instance (t : Trp) (r : List Int) (v : Int) : Decidable (OkL t r v) := by unfold OkL; infer_instance
def storedOf (t : Trp) (r : List Int) : Int := partOf (r.getD t.reg.toNat 0) t.width
def loadOf (t : Trp) (r : List Int) (v : Int) : List Int := r.set t.reg.toNat (partOf v t.width)
/-- how many of each cause -/
def countOf (ts : List Trp) : List Int := (List.range 5).map fun (c : Nat) => ((ts.filter fun t => t.cause = (c : Int) + 1).length : Int)
def OkTs (ts : List Trp) : Prop := ts.length ≤ 50 ∧ ∀ t ∈ ts, Ok t
instance (ts : List Trp) : Decidable (OkTs ts) := by unfold OkTs; infer_instance
end Go.Proofs.Ytaamjnpknmimmaa.L5
