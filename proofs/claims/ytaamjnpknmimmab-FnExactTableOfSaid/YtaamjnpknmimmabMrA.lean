/- Where a loop over MapPage stands. -/
import Derived.Test.YtaamjnpknmimmabMrP
import Derived.Test.YtaamjnpknmimmabOnly
import Derived.Deep.Cut
import Derived.Deep.CutRange
namespace Go.Proofs.Ytaamjnpknmimmab.L4
open Go Go.RowKit Go.Proofs.Ytaamjnpknmimmab.Mem Go.Proofs.Ytaamjnpknmimmab.Own Go.Proofs.Ytaamjnpknmimmab.L1
theorem OwnT.onlyB {w w' : World} {lo hi g n c m d : Nat} {A D : Option Addr} {t : Tab} {cs : Array Value} (h : OwnT w lo hi A n c D m d t) (hb : Blk w g 29 cs) (ho : Only g (g + 1) w w') : OwnT w' lo w'.heap.size A n c D m d t ∨ w'.heap.size < hi := by
  by_cases hh : hi ≤ w'.heap.size
  · left
    obtain ⟨vs, h1, h2⟩ := h.leaves
    exact ⟨(h.dirs.onlyT hb (by decide) ho).mono (Nat.le_refl _) hh, vs, (h1.onlyT hb (by decide) ho).mono (Nat.le_refl _) hh, (h2.onlyT hb (by decide) ho).mono (Nat.le_refl _) hh⟩
  · right; omega
theorem OwnT.kept1 {w w' : World} {lo g n c m d : Nat} {A D : Option Addr} {t : Tab} {cs : Array Value} (h : OwnT w lo w.heap.size A n c D m d t) (hb : Blk w g 29 cs) (ho : Only g (g + 1) w w') : OwnT w' lo w'.heap.size A n c D m d t := by
  rcases h.onlyB hb ho with h1 | h1
  · exact h1
  · exact absurd ho.size (by omega)
structure AtMR (w wr : World) (O R : Nat) (A : Option Addr) (c : Nat) (D : Option Addr) (d : Nat) (T : Tab) (k : Nat) : Prop where
  out : Blk wr O 29 #[.slice A T.dirs.length c, .slice D T.leaves.length d]
  res : Blk wr R 29 #[.slice none 0 0, .slice none 0 0]
  reads : ReadsT wr wr.heap.size A T.dirs.length D T.leaves.length T
  own : 0 < k → OwnT wr w.heap.size wr.heap.size A T.dirs.length c D T.leaves.length d T
  cap : T.dirs.length ≤ c
  small : Small T
  below : Below w.heap.size w wr
  hO : w.heap.size ≤ O
  hR : w.heap.size ≤ R
  hne : O ≠ R
structure AtMN (w wn : World) (O R N : Nat) (v0 v1 : Value) (A : Option Addr) (c : Nat) (D : Option Addr) (d : Nat) (T : Tab) : Prop where
  out : Blk wn O 29 #[v0, v1]
  res : Blk wn R 29 #[.slice none 0 0, .slice none 0 0]
  nxt : Blk wn N 29 #[.slice A T.dirs.length c, .slice D T.leaves.length d]
  own : OwnT wn w.heap.size wn.heap.size A T.dirs.length c D T.leaves.length d T
  cap : T.dirs.length ≤ c
  small : Small T
  below : Below w.heap.size w wn
  hO : w.heap.size ≤ O
  hR : w.heap.size ≤ R
  hne : O ≠ R
theorem OwnT.cap {w : World} {lo hi n c m d : Nat} {A D : Option Addr} {t : Tab} (h : OwnT w lo hi A n c D m d t) : n ≤ c := by
  obtain ⟨A', c', e, h1, _⟩ := own_form h.dirs.own
  simp only [Value.slice.injEq] at e
  omega
theorem AtMN.of {w wr w2 : World} {O R c d c' d' k : Nat} {A D A' D' : Option Addr} {T T' : Tab} (h : AtMR w wr O R A c D d T k) (hown : OwnT w2 wr.heap.size w2.heap.size A' T'.dirs.length c' D' T'.leaves.length d' T') (hb : Below wr.heap.size wr w2) (hs : Small T') :
    AtMN w (w2.alloc (.cells #[.slice A' T'.dirs.length c', .slice D' T'.leaves.length d'] 29)) O R w2.heap.size (.slice A T.dirs.length c) (.slice D T.leaves.length d) A' c' D' d' T' :=
  ⟨(Blk.kept hb h.out).alloc _, (Blk.kept hb h.res).alloc _, Blk.new _ _ _, (hown.below (below_more (Below.refl _ _) _)).mono h.below.size (alloc_le _ _), hown.cap, hs, below_more (below_then h.below hb) _, h.hO, h.hR, h.hne⟩
theorem AtMN.store {w wn : World} {O R N c d k : Nat} {v0 v1 : Value} {A D : Option Addr} {T : Tab} (h : AtMN w wn O R N v0 v1 A c D d T) :
    AtMR w ((wn.setCell ⟨O, 0, none⟩ (.slice A T.dirs.length c)).setCell ⟨O, 1, none⟩ (.slice D T.leaves.length d)) O R A c D d T (k + 1) := by
  have ho := (Only.set wn O 0 (.slice A T.dirs.length c)).trans (Only.set _ O 1 (.slice D T.leaves.length d))
  have hT := h.own.kept1 h.out ho
  exact ⟨Blk.set (Blk.set h.out 0 _) 1 _, (h.res.other _ (fun e => h.hne e.symm)).other _ (fun e => h.hne e.symm), hT.reads, fun _ => hT, h.cap, h.small, below_set (below_set h.below h.hO _) h.hO _, h.hO, h.hR, h.hne⟩
/-- what is left: a table of the call's own, and whether it is one -/
def MrPost (w : World) (T : Tab) (b : Bool) (e : Ending) (w' : World) : Prop :=
  ∃ A' c' D' d', e = .returned (.tuple #[.agg #[.slice A' T.dirs.length c', .slice D' T.leaves.length d'], .bool b]) ∧ OwnT w' w.heap.size w'.heap.size A' T.dirs.length c' D' T.leaves.length d' T ∧ Below w.heap.size w w'
theorem MrPost.none {w w' : World} (hb : Below w.heap.size w w') : MrPost w noTab false (.returned (.tuple #[.agg #[.slice none 0 0, .slice none 0 0], .bool false])) w' :=
  ⟨.none, 0, .none, 0, rfl, own_none _ _ _, hb⟩
/-- the table handed out of its variable -/
theorem AtMR.last {w wr : World} {O R c d k : Nat} {A D : Option Addr} {T : Tab} (h : AtMR w wr O R A c D d T k) (hk : 0 < k) :
    MrPost w T true (.returned (.tuple #[.agg #[.slice A T.dirs.length c, .slice D T.leaves.length d], .bool true])) ((wr.setCell ⟨R, 0, none⟩ (.slice A T.dirs.length c)).setCell ⟨R, 1, none⟩ (.slice D T.leaves.length d)) := by
  have ho := (Only.set wr R 0 (.slice A T.dirs.length c)).trans (Only.set _ R 1 (.slice D T.leaves.length d))
  exact ⟨A, c, D, d, rfl, (h.own hk).kept1 h.res ho, below_set (below_set h.below h.hR _) h.hR _⟩
theorem AtMR.zero {w wr : World} {R : Nat} (h : Below w.heap.size w wr) (hR : w.heap.size ≤ R) :
    MrPost w noTab false (.returned (.tuple #[.agg #[.slice none 0 0, .slice none 0 0], .bool false])) ((wr.setCell ⟨R, 0, none⟩ (.slice none 0 0)).setCell ⟨R, 1, none⟩ (.slice none 0 0)) :=
  MrPost.none (below_set (below_set h hR _) hR _)
theorem run_no {t : Tab} {p f c : Int} {wr b : Bool} {T : Tab} (h : runOf t p f c wr = (T, b)) (hn : ¬ (OkT t ∧ 1 ≤ c ∧ c ≤ 16)) : T = noTab ∧ b = false := by
  unfold runOf at h
  rw [if_neg hn] at h
  exact ⟨(congrArg Prod.fst h).symm, (congrArg Prod.snd h).symm⟩
theorem run_stop {t : Tab} {p f c : Int} {wr b : Bool} {T T' : Tab} {k : Nat} (h : runOf t p f c wr = (T, b)) (hk : mapN t p f wr k = some T') (hn : ¬ CanM T' (p + k) (f + k)) (hc : (k : Int) < c) : T = noTab ∧ b = false := by
  by_cases hh : OkT t ∧ 1 ≤ c ∧ c ≤ 16
  · unfold runOf at h
    rw [if_pos hh, mapN_none (mapN_stop hk hn) c.toNat (by omega)] at h
    exact ⟨(congrArg Prod.fst h).symm, (congrArg Prod.snd h).symm⟩
  · exact run_no h hh
theorem run_end {t : Tab} {p f c : Int} {wr b : Bool} {T T' : Tab} {k : Nat} (h : runOf t p f c wr = (T, b)) (hk : mapN t p f wr k = some T') (h0 : 0 < k) (hc : (k : Int) = c) : T = T' ∧ b = true := by
  have h1 := mapN_first h0 hk
  unfold runOf at h
  rw [if_pos ⟨h1.1, by omega, by omega⟩, show c.toNat = k by omega, hk] at h
  exact ⟨(congrArg Prod.fst h).symm, (congrArg Prod.snd h).symm⟩
end Go.Proofs.Ytaamjnpknmimmab.L4
