/- What slices.Clone of any slice of Line answers. -/
import Derived.Test.YtfdbnolifimnhaaLinK
import Derived.Laws.AppendOwnNone
namespace Go.Proofs.Ytfdbnolifimnhaa.L7
open Go Go.RowKit Go.Proofs.Ytfdbnolifimnhaa.Mem Go.Proofs.Ytfdbnolifimnhaa.Own
set_option maxRecDepth 100000 in
set_option maxHeartbeats 2000000 in
theorem lin_clone_any (A : Option Addr) (n c B : Nat) (xs : List Lin) (w : World) (hr : Reads w B 4 A n (FL xs)) (hc0 : A = none → n = 0 ∧ c = 0) (hn : n ≤ 1048576) :
    Calls Try.prog 139 #[.slice A n c] w fun e w' => ∃ A' cc, e = .returned (.slice A' n cc) ∧ w'.ownsRow w.heap.size 58 4 (.slice A' n cc) n (FL xs) ∧ Below w.heap.size w w' := by
  have hl : xs.length = n := reads_len hr
  by_cases h0 : 0 < n
  · obtain ⟨b, off, rfl, _, _⟩ := hr.2 h0
    refine (lin_clone b off n c B xs w hr h0 hn).mono ?_
    rintro e w1 ⟨g, cc, rfl, hown, hb⟩
    exact ⟨_, cc, rfl, hown, hb⟩
  obtain rfl : n = 0 := by omega
  obtain rfl : xs = [] := List.eq_nil_of_length_eq_zero hl
  clear hr hl
  cases A with
  | none =>
    obtain ⟨_, rfl⟩ := hc0 rfl
    have hnil : ∀ w', (binOp .eql 66 (.slice none 0 0) (.slice none 0 0)).run Try.prog w' = .ok (.bool true) w' := fun w' => Lib.run_eql_slice_nil w' 66 58 _ 0 0 0 0 Try.underlying66
    clear hc0 h0
    go_enter Try.func139, Try.ntmps139
    go_wp2_with fail
    go_ret
    exact ⟨none, 0, rfl, World.ownsRow_nil _ _ _ _, Below.refl _ _⟩
  | some a =>
    obtain ⟨i0, hi, hz0, hz1, hz2⟩ := info_parts infoLin
    have hown0 : (w.alloc (.cells #[] 58)).ownsRow w.heap.size 58 4 (.slice (some ⟨w.heap.size, 0, none⟩) 0 0) 0 [] :=
      World.ownsRow_made w #[] 0 (Nat.le_refl _) (Nat.zero_le _) rfl
    have hbel0 : Below w.heap.size w (w.alloc (.cells #[] 58)) := (Below.refl _ _).alloc (Nat.le_refl _) _
    have hnil : ∀ w', (binOp .eql 66 (.slice (some a) 0 c) (.slice none 0 0)).run Try.prog w' = .ok (.bool false) w' := fun w' => Lib.run_eql_slice_nil w' 66 58 _ 0 c 0 0 Try.underlying66
    clear hc0 h0
    go_enter Try.func139, Try.ntmps139
    go_wp2_with (at_builtin; refine wpList_append_own _ rfl _ _ 66 rfl w.heap.size 58 i0 (.agg #[.int .i64 0, .int .i64 0, .bool false, .bool false]) 4 24 Try.underlying66 hi hz0 hz1 hz2 rfl (by decide) _ _ _ rfl hown0 a 0 c [] rfl rfl (fun j u hu => by simp at hu) (fun u hu => by simp at hu) (by unfold maxLen; omega) (by omega) (by simp) ?_; intro v' w1 hown1 hgrow1 _)
    have hbel1 : Below w.heap.size w w1 := hbel0.grown hgrow1 (by simp) (fun q hq => (hown0.lt q hq).1)
    have hown2 : w1.ownsRow w.heap.size 58 4 v' 0 [] := by simpa using hown1
    obtain ⟨A', c', rfl, _, _⟩ := own_form hown2
    go_ret
    exact ⟨A', c', rfl, hown2, hbel1⟩
end Go.Proofs.Ytfdbnolifimnhaa.L7
