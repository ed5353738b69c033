/- What slices.Clone of a slice of Irq answers. -/
import Derived.Test.YtclnhdjnmfkeaaaIrqA
import Derived.Test.YtclnhdjnmfkeaaaIrqT
import Derived.Lib.SliceRun
namespace Go.Proofs.Ytclnhdjnmfkeaaa.L6
open Go Go.RowKit Go.Proofs.Ytclnhdjnmfkeaaa.Mem Go.Proofs.Ytclnhdjnmfkeaaa.Own
set_option maxRecDepth 100000 in
set_option maxHeartbeats 2000000 in
theorem irq_clone (b off n c B : Nat) (xs : List Irq) (w : World) (hr : Reads w B 5 (some ⟨b, off, none⟩) n (FL xs)) (h0 : 0 < n) (hn : n ≤ 1048576) :
    Calls Try.prog 72 #[.slice (some ⟨b, off, none⟩) n c] w fun e w' => ∃ g cc, e = .returned (.slice (some ⟨g, 0, none⟩) n cc) ∧ w'.ownsRow w.heap.size 53 5 (.slice (some ⟨g, 0, none⟩) n cc) n (FL xs) ∧ Below w.heap.size w w' := by
  obtain ⟨i0, hi, hz0, hz1, hz2⟩ := info_parts infoIrq
  have hown0 : (w.alloc (.cells #[] 53)).ownsRow w.heap.size 53 5 (.slice (some ⟨w.heap.size, 0, none⟩) 0 0) 0 [] :=
    World.ownsRow_made w #[] 0 (Nat.le_refl _) (Nat.zero_le _) rfl
  have hbel0 : Below w.heap.size w (w.alloc (.cells #[] 53)) := (Below.refl _ _).alloc (Nat.le_refl _) _
  have hl : xs.length = n := reads_len hr
  have hcells : ∀ j u, (FL xs)[j]? = some u → (w.alloc (.cells #[] 53)).cell? ((⟨b, off, none⟩ : Addr).add j) = some u := by
    intro j u hu
    obtain ⟨b', off', e, hb, hc⟩ := hr.2 (by omega)
    simp only [Option.some.injEq, Addr.mk.injEq, and_true] at e
    obtain ⟨rfl, rfl⟩ := e
    rw [Go.WideShapes.add_plain, World.cell?_alloc_lt _ _ _ (World.block_lt_of_cell? w _ (hc j u hu))]
    exact hc j u hu
  have h1 := irq_one xs
  have hl2 : (FL xs).length = n * 5 := hr.1
  obtain ⟨L, hL⟩ : ∃ L, L = FL xs := ⟨_, rfl⟩
  rw [← hL] at hcells h1 hl2
  rw [← hL]
  have HL := Lib.hid hL
  clear hL hr hl
  have hnil : ∀ w', (binOp .eql 25 (.slice (some ⟨b, off, none⟩) n c) (.slice none 0 0)).run Try.prog w' = .ok (.bool false) w' := fun w' => Lib.run_eql_slice_nil w' 25 53 _ n c 0 0 Try.underlying25
  go_enter Try.func72, Try.ntmps72
  go_wp2_with (at_builtin; refine wpList_append_own _ rfl _ _ 25 rfl w.heap.size 53 i0 (.agg #[.bool false, .bool false, .bool false, .int .i64 0, .int .i64 0]) 5 24 Try.underlying25 hi hz0 hz1 hz2 rfl (by decide) _ _ _ rfl hown0 ⟨b, off, none⟩ n c L rfl hl2 hcells h1 (by unfold maxLen; omega) (by omega) (by simp) ?_; intro v' w1 hown1 hgrow1 _)
  have hbel1 : Below w.heap.size w w1 := hbel0.grown hgrow1 (by simp) (fun q hq => (hown0.lt q hq).1)
  have hown2 : w1.ownsRow w.heap.size 53 5 v' n L := by simpa using hown1
  obtain ⟨A', c', rfl, _, _⟩ := own_form hown2
  obtain ⟨g, rfl⟩ := own_head hown2 h0
  go_ret
  exact ⟨g, c', rfl, hown2, hbel1⟩
end Go.Proofs.Ytclnhdjnmfkeaaa.L6
