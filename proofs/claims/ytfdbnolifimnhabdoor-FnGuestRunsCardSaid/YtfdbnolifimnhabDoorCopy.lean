/- What the copies of a slice of numbers answer: spec.l1Own, slices.Clone. -/
import Derived.Test.YtfdbnolifimnhabDoorStepO
import Derived.Test.YtfdbnolifimnhabDoorInf
import Derived.Lib.SliceRun
namespace Go.Proofs.YtfdbnolifimnhabDoor.Own
open Go Go.RowKit Go.Proofs.YtfdbnolifimnhabDoor.Mem
set_option maxRecDepth 100000 in
set_option maxHeartbeats 2000000 in
theorem l1Own_some (b off n c B : Nat) (xs : List Int) (w : World) (hr : Reads w B 1 (some ⟨b, off, none⟩) n (I xs)) (h0 : 0 < n) (hn : n ≤ 1048576) :
    Calls Tryd.prog 58 #[.slice (some ⟨b, off, none⟩) n c] w fun e w' => ∃ g cc, e = .returned (.slice (some ⟨g, 0, none⟩) n cc) ∧ w'.ownsRow w.heap.size 3 1 (.slice (some ⟨g, 0, none⟩) n cc) n (I xs) ∧ Below w.heap.size w w' := by
  obtain ⟨i0, hi, hz0, hz1, hz2⟩ := info_parts intInfo
  have hown0 : (w.alloc (.cells #[] 3)).ownsRow w.heap.size 3 1 (.slice (some ⟨w.heap.size, 0, none⟩) 0 0) 0 [] :=
    World.ownsRow_made w #[] 0 (Nat.le_refl _) (Nat.zero_le _) rfl
  have hbel0 : Below w.heap.size w (w.alloc (.cells #[] 3)) := (Below.refl _ _).alloc (Nat.le_refl _) _
  have hl : xs.length = n := by have := hr.len; simpa [I] using this
  have hcells : ∀ j u, (I xs)[j]? = some u → (w.alloc (.cells #[] 3)).cell? ((⟨b, off, none⟩ : Addr).add j) = some u := by
    intro j u hu
    have hj : j < n := by have := (List.getElem?_eq_some_iff.1 hu).1; rw [I_len] at this; omega
    obtain ⟨b', off', e, hb, hc⟩ := hr.2 (by omega)
    simp only [Option.some.injEq, Addr.mk.injEq, and_true] at e
    obtain ⟨rfl, rfl⟩ := e
    rw [Go.WideShapes.add_plain, World.cell?_alloc_lt _ _ _ (World.block_lt_of_cell? w _ (hc j u hu))]
    exact hc j u hu
  have h1 := I_one xs
  have hl2 : (I xs).length = n * 1 := by rw [I_len]; omega
  obtain ⟨L, hL⟩ : ∃ L, L = I xs := ⟨_, rfl⟩
  rw [← hL] at hcells h1 hl2
  rw [← hL]
  have HL := Lib.hid hL
  clear hL hr hl
  go_enter Tryd.func58, Tryd.ntmps58
  go_wp2_with (at_builtin; refine wpList_append_own _ rfl _ _ 38 rfl w.heap.size 3 i0 (.int .i64 0) 1 8 Tryd.underlying38 hi hz0 hz1 hz2 rfl (by decide) _ _ _ rfl hown0 ⟨b, off, none⟩ n c L rfl hl2 hcells h1 (by unfold maxLen; omega) (by omega) (by simp) ?_; intro v' w1 hown1 hgrow1 _)
  have hbel1 : Below w.heap.size w w1 := hbel0.grown hgrow1 (by simp) (fun q hq => (hown0.lt q hq).1)
  have hown2 : w1.ownsRow w.heap.size 3 1 v' n L := by simpa using hown1
  obtain ⟨A', c', rfl, _, _⟩ := own_form hown2
  obtain ⟨g, rfl⟩ := own_head hown2 h0
  go_ret
  exact ⟨g, c', rfl, hown2, hbel1⟩
set_option maxRecDepth 100000 in
set_option maxHeartbeats 2000000 in
theorem clone_some (b off n c B : Nat) (xs : List Int) (w : World) (hr : Reads w B 1 (some ⟨b, off, none⟩) n (I xs)) (h0 : 0 < n) (hn : n ≤ 1048576) :
    Calls Tryd.prog 54 #[.slice (some ⟨b, off, none⟩) n c] w fun e w' => ∃ g cc, e = .returned (.slice (some ⟨g, 0, none⟩) n cc) ∧ w'.ownsRow w.heap.size 3 1 (.slice (some ⟨g, 0, none⟩) n cc) n (I xs) ∧ Below w.heap.size w w' := by
  obtain ⟨i0, hi, hz0, hz1, hz2⟩ := info_parts intInfo
  have hown0 : (w.alloc (.cells #[] 3)).ownsRow w.heap.size 3 1 (.slice (some ⟨w.heap.size, 0, none⟩) 0 0) 0 [] :=
    World.ownsRow_made w #[] 0 (Nat.le_refl _) (Nat.zero_le _) rfl
  have hbel0 : Below w.heap.size w (w.alloc (.cells #[] 3)) := (Below.refl _ _).alloc (Nat.le_refl _) _
  have hl : xs.length = n := by have := hr.len; simpa [I] using this
  have hcells : ∀ j u, (I xs)[j]? = some u → (w.alloc (.cells #[] 3)).cell? ((⟨b, off, none⟩ : Addr).add j) = some u := by
    intro j u hu
    have hj : j < n := by have := (List.getElem?_eq_some_iff.1 hu).1; rw [I_len] at this; omega
    obtain ⟨b', off', e, hb, hc⟩ := hr.2 (by omega)
    simp only [Option.some.injEq, Addr.mk.injEq, and_true] at e
    obtain ⟨rfl, rfl⟩ := e
    rw [Go.WideShapes.add_plain, World.cell?_alloc_lt _ _ _ (World.block_lt_of_cell? w _ (hc j u hu))]
    exact hc j u hu
  have h1 := I_one xs
  have hl2 : (I xs).length = n * 1 := by rw [I_len]; omega
  obtain ⟨L, hL⟩ : ∃ L, L = I xs := ⟨_, rfl⟩
  rw [← hL] at hcells h1 hl2
  rw [← hL]
  have HL := Lib.hid hL
  clear hL hr hl
  have hnil : ∀ w', (binOp .eql 38 (.slice (some ⟨b, off, none⟩) n c) (.slice none 0 0)).run Tryd.prog w' = .ok (.bool false) w' := fun w' => Lib.run_eql_slice_nil w' 38 3 _ n c 0 0 Tryd.underlying38
  go_enter Tryd.func54, Tryd.ntmps54
  go_wp2_with (at_builtin; refine wpList_append_own _ rfl _ _ 38 rfl w.heap.size 3 i0 (.int .i64 0) 1 8 Tryd.underlying38 hi hz0 hz1 hz2 rfl (by decide) _ _ _ rfl hown0 ⟨b, off, none⟩ n c L rfl hl2 hcells h1 (by unfold maxLen; omega) (by omega) (by simp) ?_; intro v' w1 hown1 hgrow1 _)
  have hbel1 : Below w.heap.size w w1 := hbel0.grown hgrow1 (by simp) (fun q hq => (hown0.lt q hq).1)
  have hown2 : w1.ownsRow w.heap.size 3 1 v' n L := by simpa using hown1
  obtain ⟨A', c', rfl, _, _⟩ := own_form hown2
  obtain ⟨g, rfl⟩ := own_head hown2 h0
  go_ret
  exact ⟨g, c', rfl, hown2, hbel1⟩
end Go.Proofs.YtfdbnolifimnhabDoor.Own
