/- Chapter 3's instructions and registers as data, and what a step does. No program's text. -/
import Derived.Test.YtadpjkghfgnbbaaCells
import Derived.Test.YtadpjkghfgnbbaaBit
namespace Go.Proofs.Ytadpjkghfgnbbaa.L3
open Go Go.Proofs.Ytadpjkghfgnbbaa.Own Go.Proofs.Ytadpjkghfgnbbaa.Bit
structure Ins where
  op : Int
  a : Int
  b : Int
  n : Int
deriving DecidableEq, Inhabited
instance : Cells Ins where
  size := 4
  cells x := [.int .i64 x.op, .int .i64 x.a, .int .i64 x.b, .int .i64 x.n]
  len _ := rfl
  pos := by decide
def Ins.val (x : Ins) : Value := .agg #[.int .i64 x.op, .int .i64 x.a, .int .i64 x.b, .int .i64 x.n]
/-- how many numbers an operand may be -/
def cntA (op : Int) : Int := if 1 ≤ op ∧ op ≤ 6 then 4 else 1
def cntB (op : Int) : Int := if 2 ≤ op ∧ op ≤ 5 then 4 else 1
def mostN (op : Int) : Int := if op = 1 then 65535 else if 6 ≤ op ∧ op ≤ 8 then 15 else if op = 9 then 255 else 0
def Ok (x : Ins) : Prop := (0 ≤ x.op ∧ x.op ≤ 9) ∧ (0 ≤ x.a ∧ x.a < cntA x.op) ∧ (0 ≤ x.b ∧ x.b < cntB x.op) ∧ (0 ≤ x.n ∧ x.n ≤ mostN x.op)
instance (x : Ins) : Decidable (Ok x) := by unfold Ok; infer_instance
theorem ops {op : Int} (h0 : 0 ≤ op) (h1 : op ≤ 9) : op = 0 ∨ op = 1 ∨ op = 2 ∨ op = 3 ∨ op = 4 ∨ op = 5 ∨ op = 6 ∨ op = 7 ∨ op = 8 ∨ op = 9 := by omega
theorem cntA_le (op : Int) : cntA op ≤ 4 := by unfold cntA; split <;> omega
theorem cntB_le (op : Int) : cntB op ≤ 4 := by unfold cntB; split <;> omega
theorem mostN_le (op : Int) : mostN op ≤ 65535 := by unfold mostN; repeat' split
                                                     all_goals omega
def OkP (p : List Ins) : Prop := (∀ x ∈ p, Ok x) ∧ 1 ≤ p.length ∧ p.length ≤ 16
instance (p : List Ins) : Decidable (OkP p) := by unfold OkP; infer_instance
structure Regs where
  r : List Int
  place : Int
  zero : Bool
  stopped : Bool
deriving DecidableEq, Inhabited
def OkG (p : List Ins) (g : Regs) : Prop := OkP p ∧ g.r.length = 4 ∧ (0 ≤ g.place ∧ g.place < p.length) ∧ ∀ z ∈ g.r, 0 ≤ z ∧ z ≤ 65535
instance (p : List Ins) (g : Regs) : Decidable (OkG p g) := by unfold OkG; infer_instance
/-- what an instruction puts into its register -/
def valueOf (x : Ins) (u v : Int) : Int :=
  if x.op = 1 then x.n else if x.op = 2 then v else if x.op = 3 then (u + v) % 65536 else if x.op = 4 then (u - v + 65536) % 65536 else if x.op = 5 then bits .and .i64 u v else u * 2 ^ x.n.toNat % 65536
theorem valueOf_range {x : Ins} {u v : Int} (hx : Ok x) (hu : 0 ≤ u ∧ u ≤ 65535) (hv : 0 ≤ v ∧ v ≤ 65535) : 0 ≤ valueOf x u v ∧ valueOf x u v ≤ 65535 := by
  unfold valueOf
  have h1 := hx.2.2.2
  have h2 := mostN_le x.op
  have h3 := and16 u v hu.1 (by omega) hv.1 (by omega)
  repeat' split
  all_goals omega
def nextOf (x : Ins) (place : Int) (zero : Bool) : Int := if x.op = 0 then place else if x.op = 7 ∨ (x.op = 8 ∧ zero = true) then x.n else place + 1
def stepOf (p : List Ins) (g : Regs) : Regs :=
  let x := p.getD g.place.toNat default
  let y := valueOf x (g.r.getD x.a.toNat 0) (g.r.getD x.b.toNat 0)
  let puts : Prop := 1 ≤ x.op ∧ x.op ≤ 6
  let next := nextOf x g.place g.zero
  { r := if puts then g.r.set x.a.toNat y else g.r
    zero := if puts then decide (y = 0) else g.zero
    place := if next < p.length then next else g.place
    stopped := decide (x.op = 0 ∨ x.op = 9 ∨ (p.length : Int) ≤ next) }
theorem getD_range {r : List Int} {k : Nat} (h : ∀ z ∈ r, 0 ≤ z ∧ z ≤ 65535) : 0 ≤ r.getD k 0 ∧ r.getD k 0 ≤ 65535 := by
  by_cases hk : k < r.length
  · have := h r[k] (List.getElem_mem hk)
    rw [List.getD, List.getElem?_eq_getElem hk]
    exact this
  · rw [List.getD, List.getElem?_eq_none (by omega)]; exact ⟨Int.le_refl _, by decide⟩
theorem ok_get {p : List Ins} {k : Nat} (h : OkP p) (hk : k < p.length) : Ok (p.getD k default) := by
  rw [List.getD, List.getElem?_eq_getElem hk]
  exact h.1 _ (List.getElem_mem hk)
theorem nextOf_nonneg {x : Ins} {i : Int} {z : Bool} (hx : Ok x) (hi : 0 ≤ i) : 0 ≤ nextOf x i z := by
  have := hx.2.2.2
  unfold nextOf
  repeat' split
  all_goals omega
theorem step_ok {p : List Ins} {g : Regs} (h : OkG p g) : OkG p (stepOf p g) := by
  obtain ⟨hp, hr, hi, hz⟩ := h
  have hx := ok_get hp (show g.place.toNat < p.length by omega)
  have hn := nextOf_nonneg (z := g.zero) hx hi.1
  have hv := valueOf_range hx (getD_range (k := (p.getD g.place.toNat default).a.toNat) hz) (getD_range (k := (p.getD g.place.toNat default).b.toNat) hz)
  refine ⟨hp, ?_, ?_, ?_⟩
  · unfold stepOf
    simp only
    split
    · rw [List.length_set]; exact hr
    · exact hr
  · unfold stepOf
    simp only
    split
    · exact ⟨hn, by assumption⟩
    · exact hi
  · unfold stepOf
    simp only
    split
    · intro z hz'
      rcases List.mem_or_eq_of_mem_set hz' with h1 | h1
      · exact hz z h1
      · rw [h1]; exact hv
    · exact hz
/-- registers after k steps -/
def itOf (p : List Ins) (g : Regs) : Nat → Regs
  | 0 => g
  | k + 1 => stepOf p (itOf p g k)
theorem it_ok {p : List Ins} {g : Regs} (h : OkG p g) (k : Nat) : OkG p (itOf p g k) := by
  induction k with
  | zero => exact h
  | succ k ih => exact step_ok ih
/-- n is the number of steps of a run -/
def Fin (p : List Ins) (g : Regs) (most n : Nat) : Prop := n ≤ most ∧ (∀ j, j < n → (itOf p g j).stopped = false) ∧ (n = most ∨ (itOf p g n).stopped = true)
theorem fin_one {p : List Ins} {g : Regs} {most n m : Nat} (h : Fin p g most n) (k : Fin p g most m) : n = m := by
  rcases Nat.lt_trichotomy n m with hl | he | hl
  · have h1 := k.2.1 n hl
    rcases h.2.2 with h2 | h2
    · have := k.1; omega
    · rw [h1] at h2; cases h2
  · exact he
  · have h1 := h.2.1 m hl
    rcases k.2.2 with h2 | h2
    · have := h.1; omega
    · rw [h1] at h2; cases h2
/-- an instruction's number -/
def packOf (x : Ins) : Int := x.op * 1048576 + x.a * 262144 + x.b * 65536 + x.n
def unpackOf (n : Int) : Ins := ⟨n / 1048576, n / 262144 % 4, n / 65536 % 4, n % 65536⟩
theorem unpack_pack {x : Ins} (h : Ok x) : unpackOf (packOf x) = x := by
  have h1 := h.1
  have h2 := h.2.1
  have h3 := h.2.2.1
  have h4 := h.2.2.2
  have h5 := cntA_le x.op
  have h6 := cntB_le x.op
  have h7 := mostN_le x.op
  obtain ⟨op, a, b, n⟩ := x
  simp only [unpackOf, packOf, Ins.mk.injEq] at *
  refine ⟨?_, ?_, ?_, ?_⟩ <;> omega
end Go.Proofs.Ytadpjkghfgnbbaa.L3
