/- What slices.Clone of a slice of Line answers. -/
import Derived.Test.YtfdbnolifimnhaaLinA
import Derived.Test.YtfdbnolifimnhaaLinT
import Derived.Lib.SliceRun
namespace Go.Proofs.Ytfdbnolifimnhaa.L7
open Go Go.RowKit Go.Proofs.Ytfdbnolifimnhaa.Mem Go.Proofs.Ytfdbnolifimnhaa.Own
set_option maxRecDepth 100000 in
set_option maxHeartbeats 2000000 in
theorem lin_clone (b off n c B : Nat) (xs : List Lin) (w : World) (hr : Reads w B 4 (some ⟨b, off, none⟩) n (FL xs)) (h0 : 0 < n) (hn : n ≤ 1048576) :
    Calls Try.prog 139 #[.slice (some ⟨b, off, none⟩) n c] w fun e w' => ∃ g cc, e = .returned (.slice (some ⟨g, 0, none⟩) n cc) ∧ w'.ownsRow w.heap.size 58 4 (.slice (some ⟨g, 0, none⟩) n cc) n (FL xs) ∧ Below w.heap.size w w' := by
  obtain ⟨i0, hi, hz0, hz1, hz2⟩ := info_parts infoLin
  have hown0 : (w.alloc (.cells #[] 58)).ownsRow w.heap.size 58 4 (.slice (some ⟨w.heap.size, 0, none⟩) 0 0) 0 [] :=
    World.ownsRow_made w #[] 0 (Nat.le_refl _) (Nat.zero_le _) rfl
  have hbel0 : Below w.heap.size w (w.alloc (.cells #[] 58)) := (Below.refl _ _).alloc (Nat.le_refl _) _
  have hl : xs.length = n := reads_len hr
  have hcells : ∀ j u, (FL xs)[j]? = some u → (w.alloc (.cells #[] 58)).cell? ((⟨b, off, none⟩ : Addr).add j) = some u := by
    intro j u hu
    obtain ⟨b', off', e, hb, hc⟩ := hr.2 (by omega)
    simp only [Option.some.injEq, Addr.mk.injEq, and_true] at e
    obtain ⟨rfl, rfl⟩ := e
    rw [Go.WideShapes.add_plain, World.cell?_alloc_lt _ _ _ (World.block_lt_of_cell? w _ (hc j u hu))]
    exact hc j u hu
  have h1 := lin_one xs
  have hl2 : (FL xs).length = n * 4 := hr.1
  obtain ⟨L, hL⟩ : ∃ L, L = FL xs := ⟨_, rfl⟩
  rw [← hL] at hcells h1 hl2
  rw [← hL]
  have HL := Lib.hid hL
  clear hL hr hl
  have hnil : ∀ w', (binOp .eql 66 (.slice (some ⟨b, off, none⟩) n c) (.slice none 0 0)).run Try.prog w' = .ok (.bool false) w' := fun w' => Lib.run_eql_slice_nil w' 66 58 _ n c 0 0 Try.underlying66
  go_enter Try.func139, Try.ntmps139
  go_wp2_with (at_builtin; refine wpList_append_own _ rfl _ _ 66 rfl w.heap.size 58 i0 (.agg #[.int .i64 0, .int .i64 0, .bool false, .bool false]) 4 24 Try.underlying66 hi hz0 hz1 hz2 rfl (by decide) _ _ _ rfl hown0 ⟨b, off, none⟩ n c L rfl hl2 hcells h1 (by unfold maxLen; omega) (by omega) (by simp) ?_; intro v' w1 hown1 hgrow1 _)
  have hbel1 : Below w.heap.size w w1 := hbel0.grown hgrow1 (by simp) (fun q hq => (hown0.lt q hq).1)
  have hown2 : w1.ownsRow w.heap.size 58 4 v' n L := by simpa using hown1
  obtain ⟨A', c', rfl, _, _⟩ := own_form hown2
  obtain ⟨g, rfl⟩ := own_head hown2 h0
  go_ret
  exact ⟨g, c', rfl, hown2, hbel1⟩
end Go.Proofs.Ytfdbnolifimnhaa.L7
