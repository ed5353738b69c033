/- slices.Repeat of one number, four times. -/
import Derived.Test.YtaamjnpknmimmabRepE
import Derived.Test.YtaamjnpknmimmabPages
namespace Go.Proofs.Ytaamjnpknmimmab.L4
open Go Go.RowKit Go.Proofs.Ytaamjnpknmimmab.Mem Go.Proofs.Ytaamjnpknmimmab.Own Go.Proofs.Ytaamjnpknmimmab.L1
theorem intMade : (Try.prog.info? 3).map (·.size) = some 1 := by
  obtain ⟨i, hi, _, h1, _⟩ := info_parts intInfo
  rw [hi]
  simp [h1]
/-- the new row when q of its four entries are there -/
def repInts (f : Int) : Nat → Array Value
  | 1 => #[.int .i64 f, .int .i64 0, .int .i64 0, .int .i64 0]
  | 2 => #[.int .i64 f, .int .i64 f, .int .i64 0, .int .i64 0]
  | _ => #[.int .i64 f, .int .i64 f, .int .i64 f, .int .i64 f]
set_option maxRecDepth 100000 in
set_option maxHeartbeats 4000000 in
theorem repeatI_any (b : Nat) (f : Int) (w : World) (h : Blk w b 3 #[.int .i64 f]) :
    Calls Try.prog 66 #[.slice (some ⟨b, 0, none⟩) 1 1, .int .i64 4] w fun e w' => ∃ g, e = .returned (.slice (some ⟨g, 0, none⟩) 4 4) ∧ w.heap.size ≤ g ∧ Blk w' g 3 #[.int .i64 f, .int .i64 f, .int .i64 f, .int .i64 f] ∧ Below w.heap.size w w' := by
  obtain ⟨i1, hj, hy0, hy1, hy2⟩ := info_parts intInfo
  have HB := Lib.hid h
  have hmk : (Instr.makeSlice 22 (.int .i64 4) (.int .i64 4)).run Try.prog w = .ok (.slice (some ⟨w.heap.size, 0, none⟩) 4 4) (w.alloc (.cells #[.int .i64 0, .int .i64 0, .int .i64 0, .int .i64 0] 3)) := by
    have h := run_makeSlice (P := Try.prog) w 22 3 i1 _ Try.underlying22 hj hy0 .i64 .i64 4 4 (by decide) (by decide) (by rw [hy1]; decide) (by rw [hy2]; decide) (by decide)
    rw [hy1, show madeCells (Value.int .i64 0).cells ((4 : Int).toNat * 1) = #[.int .i64 0, .int .i64 0, .int .i64 0, .int .i64 0] from by kernel_rfl] at h
    exact h
  have hnew := Blk.new w #[.int .i64 0, .int .i64 0, .int .i64 0, .int .i64 0] 3
  have hb0 := below_more (Below.refl w.heap.size w) (.cells #[.int .i64 0, .int .i64 0, .int .i64 0, .int .i64 0] 3)
  have hB1 := h.alloc (.cells #[.int .i64 0, .int .i64 0, .int .i64 0, .int .i64 0] 3)
  obtain ⟨wa, hwa⟩ : ∃ wa, w.alloc (.cells #[.int .i64 0, .int .i64 0, .int .i64 0, .int .i64 0] 3) = wa := ⟨_, rfl⟩
  obtain ⟨g, hg⟩ : ∃ g, w.heap.size = g := ⟨_, rfl⟩
  rw [hwa] at hnew hb0 hB1 hmk
  rw [hg] at hnew
  have hcp : (Builtin.copy_ #[22, 22] 3 #[.slice (some ⟨g, 0, none⟩) 4 4, .slice (some ⟨b, 0, none⟩) 1 1]).run Try.prog wa = .ok (goInt 1) (wa.setRow g (repInts f 1)) := by
    exact run_copy_rows wa 22 22 3 3 g 0 4 4 ⟨b, 0, none⟩ 1 1 1 1 #[.int .i64 0, .int .i64 0, .int .i64 0, .int .i64 0] 3 [.int .i64 f] Try.underlying22 intMade hnew rfl rfl (World.news_of_block hB1) (by simp) (by intro v hv; simp at hv; subst hv; rfl)
  have hrow : Blk (wa.setRow g (repInts f 1)) g 3 (repInts f 1) := setRow_heap wa g _ _ _ _ hnew
  have hbl : Below w.heap.size w (wa.setRow g (repInts f 1)) := below_setRow hb0 (by omega) _
  obtain ⟨wq, hwq⟩ : ∃ wq, wa.setRow g (repInts f 1) = wq := ⟨_, rfl⟩
  rw [hwq] at hcp hrow hbl
  have HR := Lib.hid hrow
  have HBL := Lib.hid hbl
  have HG := Lib.hid hg
  clear h hnew hb0 hB1 hwa hrow hbl hwq HB hj hy0 hy1 hy2
  go_enter Try.func66, Try.ntmps66
  go_wp2_with fail
  refine (mul32_one _).mono ?_
  rintro e w1 ⟨rfl, rfl⟩
  go_wp2_with fail
  go_loopw [8] (fun i wx => ∃ (q : Nat), i = .int .i64 q ∧ (q = 1 ∨ q = 2 ∨ q = 4) ∧ Hid (Blk wx g 3 (repInts f q)) ∧ Hid (Below w1.heap.size w1 wx)) (fun i _ => 4 - (intOf i).toNat)
  case atStart => exact ⟨1, rfl, .inl rfl, HR, HBL⟩
  case round =>
    clear hmk hcp HR HBL
    obtain ⟨q, rfl, hq, HR, HBL⟩ := hrel
    rcases hq with rfl | rfl | rfl
    · have hcp : (Builtin.copy_ #[22, 22] 3 #[.slice (some ⟨g, 1, none⟩) 3 3, .slice (some ⟨g, 0, none⟩) 1 4]).run Try.prog wr.drew = .ok (goInt 1) (wr.drew.setRow g (repInts f 2)) :=
        run_copy_rows wr.drew 22 22 3 3 g 1 3 3 ⟨g, 0, none⟩ 1 4 1 1 (repInts f 1) 3 [.int .i64 f] Try.underlying22 intMade HR.out rfl rfl (fun j u hu => World.news_of_block (w := wr.drew) HR.out j u (by
          have hj : j < 1 := (List.getElem?_eq_some_iff.1 hu).1
          rw [← hu]
          have : j = 0 := by omega
          subst this
          rfl)) (by simp [repInts]) (by intro v hv; simp at hv; subst hv; rfl)
      have hrow : Blk (wr.drew.setRow g (repInts f 2)) g 3 (repInts f 2) := setRow_heap wr.drew g _ _ _ _ HR.out
      have hbl : Below w1.heap.size w1 (wr.drew.setRow g (repInts f 2)) := below_setRow (HBL.out.trans ((below_drew1 wr).mono HBL.out.size)) (by rw [HG.out]; exact Nat.le_refl _) _
      obtain ⟨wq, hwq⟩ : ∃ wq, wr.drew.setRow g (repInts f 2) = wq := ⟨_, rfl⟩
      rw [hwq] at hcp hrow hbl
      have HR2 := Lib.hid hrow
      have HB2 := Lib.hid hbl
      clear hrow hbl hwq HR HBL
      go_upto_region 9 with fail
      go_region
      go_wp2_with fail
      go_roundw
      case rel => exact ⟨2, rfl, .inr (.inl rfl), HR2, HB2⟩
      case measure => simp [intOf]
    · have hcp : (Builtin.copy_ #[22, 22] 3 #[.slice (some ⟨g, 2, none⟩) 2 2, .slice (some ⟨g, 0, none⟩) 2 4]).run Try.prog wr.drew = .ok (goInt 2) (wr.drew.setRow g (repInts f 4)) :=
        run_copy_rows wr.drew 22 22 3 3 g 2 2 2 ⟨g, 0, none⟩ 2 4 1 2 (repInts f 2) 3 [.int .i64 f, .int .i64 f] Try.underlying22 intMade HR.out rfl rfl (fun j u hu => World.news_of_block (w := wr.drew) HR.out j u (by
          have hj : j < 2 := (List.getElem?_eq_some_iff.1 hu).1
          rw [← hu]
          have : j = 0 ∨ j = 1 := by omega
          rcases this with rfl | rfl <;> rfl)) (by simp [repInts]) (by intro v hv; simp at hv; subst hv; rfl)
      have hrow : Blk (wr.drew.setRow g (repInts f 4)) g 3 (repInts f 4) := setRow_heap wr.drew g _ _ _ _ HR.out
      have hbl : Below w1.heap.size w1 (wr.drew.setRow g (repInts f 4)) := below_setRow (HBL.out.trans ((below_drew1 wr).mono HBL.out.size)) (by rw [HG.out]; exact Nat.le_refl _) _
      obtain ⟨wq, hwq⟩ : ∃ wq, wr.drew.setRow g (repInts f 4) = wq := ⟨_, rfl⟩
      rw [hwq] at hcp hrow hbl
      have HR2 := Lib.hid hrow
      have HB2 := Lib.hid hbl
      clear hrow hbl hwq HR HBL
      go_upto_region 9 with fail
      go_region
      go_wp2_with fail
      go_roundw
      case rel => exact ⟨4, rfl, .inr (.inr rfl), HR2, HB2⟩
      case measure => simp [intOf]
    · go_wp2_with fail
      go_ret
      exact ⟨g, rfl, Nat.le_of_eq HG.out, HR.out, HBL.out⟩
end Go.Proofs.Ytaamjnpknmimmab.L4
