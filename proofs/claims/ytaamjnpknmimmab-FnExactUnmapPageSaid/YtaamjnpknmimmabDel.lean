/- slices.Delete of leaves, laid from the shelf's contract over one-cell elements. -/
import Derived.Shelf.SlicesE.Delete
import Derived.Ground.SlgnProg
import Derived.Lib.OwnBridge
import Derived.Test.YtaamjnpknmimmabOwnT
namespace Go.Proofs.Ytaamjnpknmimmab.L4
open Go Go.RowKit Go.Lib Go.Shelf Go.Proofs.Ytaamjnpknmimmab.Mem Go.Proofs.Ytaamjnpknmimmab.Own
def delRen : Go.Shelf.Ren := ⟨fun | 45 => 102 | n => n, fun | 0 => 0 | 3 => 3 | 4 => 4 | 22 => 27 | 23 => 74 | n => n, fun | n => n⟩
theorem delLays : Go.Proofs.SlLaysE.n45 Try.prog delRen := {
  mixed := by kernel_rfl
  f45 := ⟨Try.f102.name, by decide, Try.func102.trans (congrArg some (by kernel_rfl))⟩
  t0 := Try.underlying0
  a0 := Try.isAgg0
  z0 := Try.sizeOf0
  v0 := Try.zeroValue0
  t3 := Try.underlying3
  a3 := Try.isAgg3
  z3 := Try.sizeOf3
  v3 := Try.zeroValue3
  t4 := Try.underlying4
  a4 := Try.isAgg4
  z4 := Try.sizeOf4
  v4 := Try.zeroValue4
  t22 := Try.underlying27
  a22 := Try.isAgg27
  z22 := Try.sizeOf27
  v22 := Try.zeroValue27
  a23 := Try.isAgg74
  z23 := Try.sizeOf74 }
/-- values of one cell -/
abbrev One1 := {v : Value // v.oneCell' = true}
instance : Inhabited One1 := ⟨⟨.slice none 0 0, rfl⟩⟩
def nil1 : One1 := ⟨.slice none 0 0, rfl⟩
theorem leafOne : ∃ i0, Try.prog.info? 74 = some i0 ∧ i0.size = 1 := by
  have h : (Try.prog.info? 74).map (fun i => i.size) = some 1 := by kernel_rfl
  cases hi : Try.prog.info? 74 with
  | none => rw [hi] at h; cases h
  | some i0 => rw [hi] at h; exact ⟨i0, rfl, by simpa using h⟩
theorem ones_map (vs : List Value) (h : ∀ v ∈ vs, v.oneCell' = true) : ∃ zs : List One1, zs.map Subtype.val = vs := by
  induction vs with
  | nil => exact ⟨[], rfl⟩
  | cons v vs ih =>
    obtain ⟨zs, hz⟩ := ih (fun u hu => h u (List.mem_cons_of_mem _ hu))
    exact ⟨⟨v, h v (List.mem_cons_self ..)⟩ :: zs, by simp [hz]⟩
theorem grown_putRow {enc : One1 → Value} {w : World} {g q : Nat} {d : Array One1} : w.grownBy (Go.Sort.putRow enc (Go.Sort.ahead w q) g 0 d) (some g) :=
  ⟨rfl, rfl, rfl, by simp [Go.Sort.putRow, Go.Sort.mapBlock, Go.Sort.ahead], fun k hk hne => by
    have : g ≠ k := fun e => hne (by rw [e])
    simp [Go.Sort.putRow, Go.Sort.mapBlock, Go.Sort.ahead, Array.getElem?_modify, this]⟩
/-- one leaf of an own slice of them is taken out -/
theorem delete_any (w : World) (lo hi g m d k : Nat) (vs : List Value) (h : Row w lo hi 74 1 (.slice (some ⟨g, 0, none⟩) m d) m vs) (h1 : ∀ v ∈ vs, v.oneCell' = true) (hk : k < m) :
    Calls Try.prog 102 #[.slice (some ⟨g, 0, none⟩) m d, .int .i64 k, .int .i64 ((k : Int) + 1)] w fun e w' => e = .returned (.slice (some ⟨g, 0, none⟩) (m - 1) d) ∧ Row w' lo hi 74 1 (.slice (some ⟨g, 0, none⟩) (m - 1) d) (m - 1) (vs.eraseIdx k) ∧ w.grownBy w' (some g) := by
  rw [show ((k : Int) + 1) = ((k + 1 : Nat) : Int) by omega]
  obtain ⟨zs, hz⟩ := ones_map vs h1
  subst hz
  obtain ⟨g', cap, e1, hb, hlt, hn, hm, hl, hH⟩ := holds_of_ownsRow h.own (by simp)
  simp only [Value.slice.injEq, Option.some.injEq, Addr.mk.injEq, and_true, true_and] at e1
  obtain ⟨rfl, rfl⟩ := e1
  obtain ⟨i0, hi0, hi1⟩ := leafOne
  have hc := AnyE.slices_Delete (α := One1) delLays Subtype.val (fun x => x.2) nil1 (Try.zeroValue74) i0 hi0 hi1 g 0 d k (k + 1) zs.toArray w hH (by simp; omega) (by unfold maxLen at hm; omega) (by omega) (by simp; omega)
  have hsz : zs.toArray.size = m := by simp [hl]
  rw [hsz] at hc
  refine hc.mono ?_
  rintro e w' ⟨rfl, q, rfl⟩
  have hE : (k + 1 - k) = 1 := by omega
  rw [hE]
  have hlen : (zs.take k ++ zs.drop (k + 1) ++ List.replicate 1 nil1).length = m := by simp; omega
  have ho := ownsRow_putRow (q := q) (k := m - 1) h.own hlen (by omega)
  refine ⟨rfl, ⟨?_, fun g2 hg2 => h.lt g2 hg2⟩, grown_putRow⟩
  have he : (zs.map Subtype.val).eraseIdx k = (((zs.take k ++ zs.drop (k + 1) ++ List.replicate 1 nil1).take (m - 1)).map Subtype.val) := by
    rw [List.take_append_of_le_length (by simp; omega), List.take_of_length_le (by simp; omega), List.eraseIdx_eq_take_drop_succ]
    simp [List.map_append, List.map_take, List.map_drop]
  rw [he]
  simpa using ho
end Go.Proofs.Ytaamjnpknmimmab.L4
