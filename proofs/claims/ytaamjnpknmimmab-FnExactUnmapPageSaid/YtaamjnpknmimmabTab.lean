/- Chapter 4's tables as data, and how they lie in memory. No program's text. -/
import Derived.Test.YtaamjnpknmimmabCells
import Derived.Test.YtaamjnpknmimmabBlk
namespace Go.Proofs.Ytaamjnpknmimmab.L4
open Go Go.RowKit Go.ChangeShapes Go.WideShapes Go.Proofs.Ytaamjnpknmimmab.Mem Go.Proofs.Ytaamjnpknmimmab.Own
structure Ent where
  f : Int
  wr : Bool
deriving DecidableEq, Inhabited
instance : Cells Ent where
  size := 2
  cells x := [.int .i64 x.f, .bool x.wr]
  len _ := rfl
  pos := by decide
def Ent.val (x : Ent) : Value := .agg #[.int .i64 x.f, .bool x.wr]
structure Tab where
  dirs : List Int
  leaves : List (List Ent)
deriving DecidableEq, Inhabited
/-- an entry without a frame -/
def noEnt : Ent := ⟨-1, false⟩
def Wrong (x : Ent) : Prop := if x.f = -1 then x.wr = true else ¬ (0 ≤ x.f ∧ x.f < 16)
instance (x : Ent) : Decidable (Wrong x) := by unfold Wrong; infer_instance
def OkL (l : List Ent) : Prop := l.length = 4 ∧ (∃ x ∈ l, x.f ≠ -1) ∧ ∀ x ∈ l, ¬ Wrong x
instance (l : List Ent) : Decidable (OkL l) := by unfold OkL; infer_instance
def OkD (d : Int) (m : Nat) : Prop := d = -1 ∨ (0 ≤ d ∧ d < m)
instance (d : Int) (m : Nat) : Decidable (OkD d m) := by unfold OkD; infer_instance
def OkT (t : Tab) : Prop := t.dirs.length = 4 ∧ (∀ d ∈ t.dirs, OkD d t.leaves.length) ∧ ∀ i, i < t.leaves.length → t.dirs.count (i : Int) = 1 ∧ OkL (t.leaves.getD i ([] : List Ent))
instance (t : Tab) : Decidable (OkT t) := by unfold OkT; infer_instance
def dirOf (t : Tab) (page : Nat) : Int := t.dirs.getD (page / 4) (-1)
/-- the entry of a page -/
def get (t : Tab) (page : Nat) : Ent := if dirOf t page = -1 then noEnt else (t.leaves.getD (dirOf t page).toNat ([] : List Ent)).getD (page % 4) noEnt
def faultOf (t : Tab) (page : Nat) : Int := if dirOf t page = -1 then 1 else if (get t page).f = -1 then 2 else 0
/-- a leaf's slice value in memory -/
def LeafAt (w : World) (B : Nat) (v : Value) (xs : List Ent) : Prop := ∃ (A : Option Addr) (n c : Nat), v = .slice A n c ∧ n ≤ c ∧ c ≤ maxLen ∧ Reads w B 2 A n (FL xs)
/-- the rows of a list of leaves -/
def Rows (w : World) (B : Nat) (vs : List Value) (xss : List (List Ent)) : Prop := vs.length = xss.length ∧ ∀ (i : Nat) v xs, vs[i]? = some v → xss[i]? = some xs → LeafAt w B v xs
/-- a slice of leaves -/
def ReadsL (w : World) (B : Nat) (D : Option Addr) (m : Nat) (xss : List (List Ent)) : Prop := ∃ vs, Reads w B 1 D m vs ∧ Rows w B vs xss
/-- a table's two slices -/
structure ReadsT (w : World) (B : Nat) (A : Option Addr) (n : Nat) (D : Option Addr) (m : Nat) (t : Tab) : Prop where
  dirs : Reads w B 1 A n (I t.dirs)
  leaves : ReadsL w B D m t.leaves
section
variable {w w' : World} {B B' n m : Nat} {A D : Option Addr} {t : Tab} {xss : List (List Ent)} {vs : List Value}
theorem LeafAt.keep {v : Value} {xs : List Ent} (h : LeafAt w B v xs) (hk : ∀ p : Addr, p.block < B → w'.cell? p = w.cell? p) : LeafAt w' B v xs := by
  obtain ⟨A, n, c, e, h1, h2, h3⟩ := h
  exact ⟨A, n, c, e, h1, h2, h3.keep hk⟩
theorem LeafAt.more {v : Value} {xs : List Ent} (h : LeafAt w B v xs) (hB : B ≤ B') : LeafAt w B' v xs := by
  obtain ⟨A, n, c, e, h1, h2, h3⟩ := h
  exact ⟨A, n, c, e, h1, h2, h3.more hB⟩
theorem Rows.keep (h : Rows w B vs xss) (hk : ∀ p : Addr, p.block < B → w'.cell? p = w.cell? p) : Rows w' B vs xss := ⟨h.1, fun i v xs h1 h2 => (h.2 i v xs h1 h2).keep hk⟩
theorem Rows.more (h : Rows w B vs xss) (hB : B ≤ B') : Rows w B' vs xss := ⟨h.1, fun i v xs h1 h2 => (h.2 i v xs h1 h2).more hB⟩
theorem ReadsL.keep (h : ReadsL w B D m xss) (hk : ∀ p : Addr, p.block < B → w'.cell? p = w.cell? p) : ReadsL w' B D m xss := by
  obtain ⟨vs, h1, h2⟩ := h
  exact ⟨vs, h1.keep hk, h2.keep hk⟩
theorem ReadsL.more (h : ReadsL w B D m xss) (hB : B ≤ B') : ReadsL w B' D m xss := by
  obtain ⟨vs, h1, h2⟩ := h
  exact ⟨vs, h1.more hB, h2.more hB⟩
theorem ReadsL.below (h : ReadsL w B D m xss) (hb : Below B w w') : ReadsL w' B D m xss := h.keep fun _ hp => hb.cell hp
theorem ReadsL.len (h : ReadsL w B D m xss) : xss.length = m := by
  obtain ⟨vs, h1, h2⟩ := h
  rw [← h2.1]
  exact h1.len
theorem ReadsT.keep (h : ReadsT w B A n D m t) (hk : ∀ p : Addr, p.block < B → w'.cell? p = w.cell? p) : ReadsT w' B A n D m t := ⟨h.dirs.keep hk, h.leaves.keep hk⟩
theorem ReadsT.more (h : ReadsT w B A n D m t) (hB : B ≤ B') : ReadsT w B' A n D m t := ⟨h.dirs.more hB, h.leaves.more hB⟩
theorem ReadsT.below (h : ReadsT w B A n D m t) (hb : Below B w w') : ReadsT w' B A n D m t := h.keep fun _ hp => hb.cell hp
theorem ReadsT.drew (h : ReadsT w B A n D m t) : ReadsT w.drew B A n D m t := h.keep fun _ _ => rfl
theorem ReadsT.dlen (h : ReadsT w B A n D m t) : t.dirs.length = n := by have := h.dirs.len; rwa [I_len] at this
/-- behind more memory -/
theorem ReadsT.grow (h : ReadsT w w.heap.size A n D m t) (hb : Below w.heap.size w w') : ReadsT w' w'.heap.size A n D m t := (h.below hb).more hb.size
theorem ReadsL.grow (h : ReadsL w w.heap.size D m xss) (hb : Below w.heap.size w w') : ReadsL w' w'.heap.size D m xss := (h.below hb).more hb.size
/-- a leaf of a slice of them -/
theorem ReadsL.at_ {k : Nat} (h : ReadsL w B D m xss) (hk : k < m) : ∃ b off A n c xs, D = some ⟨b, off, none⟩ ∧ b < B ∧ xss[k]? = some xs ∧ w.cell? ⟨b, off + k, none⟩ = some (.slice A n c) ∧ Reads w B 2 A n (FL xs) ∧ n = xs.length ∧ n ≤ c ∧ c ≤ maxLen := by
  have hl := h.len
  obtain ⟨vs, h1, h2⟩ := h
  obtain ⟨b, off, u, e, hb, hu, hc⟩ := h1.at_ hk
  have hx : xss[k]? = some xss[k] := List.getElem?_eq_getElem (by omega)
  obtain ⟨A, n, c, rfl, h3, h4, h5⟩ := h2.2 k u _ hu hx
  exact ⟨b, off, A, n, c, _, e, hb, hx, hc, h5, (reads_len h5).symm, h3, h4⟩
/-- an entry of a leaf -/
theorem ent_at {k : Nat} {xs : List Ent} (h : Reads w B 2 A n (FL xs)) (hk : k < n) :
    ∃ b off x, A = some ⟨b, off, none⟩ ∧ b < B ∧ xs[k]? = some x ∧ w.cell? ⟨b, off + k * 2, none⟩ = some (.int .i64 x.f) ∧ w.cell? ⟨b, off + k * 2 + 1, none⟩ = some (.bool x.wr) := by
  obtain ⟨b, off, x, rfl, hb, hx, hc⟩ := reads_elem (α := Ent) h hk
  exact ⟨b, off, x, rfl, hb, hx, hc 0 _ rfl, hc 1 _ rfl⟩
end
end Go.Proofs.Ytaamjnpknmimmab.L4
