/- Worlds that differ in blocks between two bounds alone. No program's text. -/
import Derived.Test.YtaamjnpknmimmabOwnT
namespace Go.Proofs.Ytaamjnpknmimmab.L4
open Go Go.RowKit Go.Proofs.Ytaamjnpknmimmab.Mem Go.Proofs.Ytaamjnpknmimmab.Own
section
variable {w w' w2 : World} {lo lo' hi hi' a b size n m c d g : Nat} {e : TypeId} {u v : Value} {xs : List Value} {vs : List Value} {xss : List (List Ent)} {A D : Option Addr} {t : Tab} {cs : Array Value} {ty : TypeId}
theorem Inn.only (h : Inn w a b vs xss) (ho : Only lo hi w w') (hd : b ≤ lo ∨ hi ≤ a) : Inn w' a b vs xss := ⟨h.len, fun i v xs h1 h2 => (h.row i v xs h1 h2).only ho hd, h.apart⟩
theorem OwnL.only (h : OwnL w a b v m xss) (ho : Only lo hi w w') (hd : b ≤ lo ∨ hi ≤ a) : OwnL w' a b v m xss := by
  obtain ⟨vs, h1, h2⟩ := h
  exact ⟨vs, h1.only ho hd, h2.only ho hd⟩
theorem OwnT.only (h : OwnT w a b A n c D m d t) (ho : Only lo hi w w') (hd : b ≤ lo ∨ hi ≤ a) : OwnT w' a b A n c D m d t := ⟨h.dirs.only ho hd, h.leaves.only ho hd⟩
end
end Go.Proofs.Ytaamjnpknmimmab.L4
