/- What spec.l4New answers. -/
import Derived.Test.YtaamjnpknmimmabGet
namespace Go.Proofs.Ytaamjnpknmimmab.L4
open Go Go.RowKit Go.Proofs.Ytaamjnpknmimmab.Mem Go.Proofs.Ytaamjnpknmimmab.Own Go.Proofs.Ytaamjnpknmimmab.L1
/-- a table without leaves -/
def newTab : Tab := ⟨[-1, -1, -1, -1], []⟩
set_option maxRecDepth 100000 in
set_option maxHeartbeats 2000000 in
theorem l4New_any (w : World) :
    Calls Try.prog 65 #[] w fun e w' => ∃ A' D', e = .returned (.agg #[.slice A' 4 4, .slice D' 0 0]) ∧ OwnT w' w.heap.size w'.heap.size A' 4 4 D' 0 0 newTab ∧ Below w.heap.size w w' := by
  obtain ⟨wb, hwb⟩ : ∃ wb, ((w.alloc (.cells #[.slice (some ⟨w.heap.size + 1, 0, none⟩) 4 4, .slice (some ⟨w.heap.size + 1 + 1, 0, none⟩) 0 0] 29)).alloc (.cells #[.int .i64 (-1), .int .i64 (-1), .int .i64 (-1), .int .i64 (-1)] 3)).alloc (.cells #[] 74) = wb := ⟨_, rfl⟩
  have hb0 : Below w.heap.size w wb := by rw [← hwb]; exact below_more (below_more (below_more (Below.refl _ _) _) _) _
  have h0 : Blk wb w.heap.size 29 #[.slice (some ⟨w.heap.size + 1, 0, none⟩) 4 4, .slice (some ⟨w.heap.size + 1 + 1, 0, none⟩) 0 0] := by rw [← hwb]; exact Blk.alloc (Blk.alloc (Blk.new _ _ _) _) _
  have h1 : Blk wb (w.heap.size + 1) 3 #[.int .i64 (-1), .int .i64 (-1), .int .i64 (-1), .int .i64 (-1)] := by
    rw [← hwb]
    have h := Blk.new (w.alloc (.cells #[.slice (some ⟨w.heap.size + 1, 0, none⟩) 4 4, .slice (some ⟨w.heap.size + 1 + 1, 0, none⟩) 0 0] 29)) #[.int .i64 (-1), .int .i64 (-1), .int .i64 (-1), .int .i64 (-1)] 3
    rw [size1] at h
    exact h.alloc _
  have h2 : Blk wb (w.heap.size + 1 + 1) 74 #[] := by
    rw [← hwb]
    have h := Blk.new ((w.alloc (.cells #[.slice (some ⟨w.heap.size + 1, 0, none⟩) 4 4, .slice (some ⟨w.heap.size + 1 + 1, 0, none⟩) 0 0] 29)).alloc (.cells #[.int .i64 (-1), .int .i64 (-1), .int .i64 (-1), .int .i64 (-1)] 3)) #[] 74
    rwa [size1, size1] at h
  have hT : OwnT wb w.heap.size wb.heap.size (some ⟨w.heap.size + 1, 0, none⟩) 4 4 (some ⟨w.heap.size + 1 + 1, 0, none⟩) 0 0 newTab :=
    ⟨⟨⟨by simp [I, newTab], .inr ⟨w.heap.size + 1, 4, _, rfl, by omega, h1, Nat.le_refl _, by decide, by rfl, by rfl⟩⟩, fun g hg => by simp [Value.ownBlock] at hg; subst hg; exact h1.lt⟩,
     [], ⟨⟨rfl, .inr ⟨w.heap.size + 1 + 1, 0, _, rfl, by omega, h2, Nat.le_refl _, by decide, by rfl, by rfl⟩⟩, fun g hg => by simp [Value.ownBlock] at hg; subst hg; exact h2.lt⟩, Inn.nil⟩
  have HX := Lib.hid hb0
  have HT := Lib.hid hT
  have HWB := Lib.hid hwb
  have H0 := Lib.hid h0
  clear hb0 h0 h1 h2 hT hwb
  go_enter Try.func65, Try.ntmps65
  go_wp2_with fail
  rw [HWB.out]
  have z0 := H0.out.cell 0 _ rfl
  have z1 := H0.out.cell 1 _ rfl
  exact bodyPost_ret (v := .agg #[.slice (some ⟨w.heap.size + 1, 0, none⟩) 4 4, .slice (some ⟨w.heap.size + 1 + 1, 0, none⟩) 0 0]) (by simp [results, Try.results65, go_sem, z0, z1]) rfl ⟨_, _, rfl, HT.out, HX.out⟩
end Go.Proofs.Ytaamjnpknmimmab.L4
