/- slices.Repeat of one entry, four times. -/
import Derived.Test.YtaamjnpknmimmabL4MapN
import Derived.Laws.CopyRow
import Derived.Laws.MakeOwn
import Derived.Laws.CopyOwn
import Derived.Deep.RegionLaw
import Derived.Deep.Cut
namespace Go.Proofs.Ytaamjnpknmimmab.L4
open Go Go.RowKit Go.Proofs.Ytaamjnpknmimmab.Mem Go.Proofs.Ytaamjnpknmimmab.Own Go.Proofs.Ytaamjnpknmimmab.L1
/-- a copy within rows of elements of any size -/
theorem run_copy_rows {P : Program} (w : World) (dT sT ty elem : TypeId) (g o dLen dCap : Nat) (a : Addr) (sLen sCap size k : Nat) (cur : Array Value) (t : TypeId) (cs : List Value)
    (hu : P.underlying dT = some (.slice elem)) (hs : (P.info? elem).map (·.size) = some size)
    (hg : w.heap[g]? = some (.cells cur t (0, 0))) (hk : Nat.min sLen dLen = k) (hn : cs.length = k * size)
    (hsrc : ∀ j v, cs[j]? = some v → w.cell? (a.add j) = some v) (hfit : o + cs.length ≤ cur.size) (h1 : ∀ v ∈ cs, v.oneCell' = true) :
    (Builtin.copy_ #[dT, sT] ty #[.slice (some ⟨g, o, none⟩) dLen dCap, .slice (some a) sLen sCap]).run P w =
      .ok (goInt k) (w.setRow g (cur.toList.take o ++ cs ++ cur.toList.drop (o + cs.length)).toArray) := by
  have hl := run_loadCells_list (P := P) w a cs hsrc
  have hst := run_storeCells_at P g o t cs 0 cur w hg (by simpa using hfit) h1
  cases hq : P.info? elem with
  | none => simp [hq] at hs
  | some i =>
    have hi : i.size = size := by simpa [hq] using hs
    subst hi
    rw [hn] at hl
    simp [Builtin.copy_, run_underlying hu, Builtin.lenOf, Builtin.firstCells, sizeOf, typeInfo, hq, hk, hl, hst]
theorem mul32_one (w : World) : Calls Try.prog 106 #[.int .u64 1, .int .u64 4] w fun e w' => e = .returned (.tuple #[.int .u64 0, .int .u64 4]) ∧ w' = w := by
  have h64 : Calls Try.prog 114 #[.int .u64 1, .int .u64 4] w fun e w' => e = .returned (.tuple #[.int .u64 0, .int .u64 4]) ∧ w' = w := by
    go_enter Try.func114, Try.ntmps114
    go_wp2
    first | go_ret2 | go_ret3
    exact ⟨rfl, rfl⟩
  go_enter Try.func106, Try.ntmps106
  go_wp2_with fail
  refine h64.mono ?_
  rintro e w2 ⟨rfl, rfl⟩
  go_wp2_with fail
  first | go_ret2 | go_ret3
  exact ⟨rfl, rfl⟩
theorem entMade : (Try.prog.info? 70).map (·.size) = some 2 := by
  obtain ⟨i, hi, _, h1, _⟩ := info_parts entInfo
  rw [hi]
  simp [h1]
/-- the new row when q of its four entries are there -/
def repCells (f : Int) (bw : Bool) : Nat → Array Value
  | 1 => #[.int .i64 f, .bool bw, .int .i64 0, .bool false, .int .i64 0, .bool false, .int .i64 0, .bool false]
  | 2 => #[.int .i64 f, .bool bw, .int .i64 f, .bool bw, .int .i64 0, .bool false, .int .i64 0, .bool false]
  | _ => #[.int .i64 f, .bool bw, .int .i64 f, .bool bw, .int .i64 f, .bool bw, .int .i64 f, .bool bw]
set_option maxRecDepth 100000 in
set_option maxHeartbeats 4000000 in
theorem repeatE_any (b : Nat) (f : Int) (bw : Bool) (w : World) (h : Blk w b 70 #[.int .i64 f, .bool bw]) :
    Calls Try.prog 91 #[.slice (some ⟨b, 0, none⟩) 1 1, .int .i64 4] w fun e w' => ∃ g, e = .returned (.slice (some ⟨g, 0, none⟩) 4 4) ∧ w.heap.size ≤ g ∧ Blk w' g 70 #[.int .i64 f, .bool bw, .int .i64 f, .bool bw, .int .i64 f, .bool bw, .int .i64 f, .bool bw] ∧ Below w.heap.size w w' := by
  obtain ⟨i1, hj, hy0, hy1, hy2⟩ := info_parts entInfo
  have HB := Lib.hid h
  have hmk : (Instr.makeSlice 74 (.int .i64 4) (.int .i64 4)).run Try.prog w = .ok (.slice (some ⟨w.heap.size, 0, none⟩) 4 4) (w.alloc (.cells #[.int .i64 0, .bool false, .int .i64 0, .bool false, .int .i64 0, .bool false, .int .i64 0, .bool false] 70)) := by
    have h := run_makeSlice (P := Try.prog) w 74 70 i1 _ Try.underlying74 hj hy0 .i64 .i64 4 4 (by decide) (by decide) (by rw [hy1]; decide) (by rw [hy2]; decide) (by decide)
    rw [hy1, show madeCells (Value.agg #[.int .i64 0, .bool false]).cells ((4 : Int).toNat * 2) = #[.int .i64 0, .bool false, .int .i64 0, .bool false, .int .i64 0, .bool false, .int .i64 0, .bool false] from by kernel_rfl] at h
    exact h
  have hnew := Blk.new w #[.int .i64 0, .bool false, .int .i64 0, .bool false, .int .i64 0, .bool false, .int .i64 0, .bool false] 70
  have hb0 := below_more (Below.refl w.heap.size w) (.cells #[.int .i64 0, .bool false, .int .i64 0, .bool false, .int .i64 0, .bool false, .int .i64 0, .bool false] 70)
  have hB1 := h.alloc (.cells #[.int .i64 0, .bool false, .int .i64 0, .bool false, .int .i64 0, .bool false, .int .i64 0, .bool false] 70)
  obtain ⟨wa, hwa⟩ : ∃ wa, w.alloc (.cells #[.int .i64 0, .bool false, .int .i64 0, .bool false, .int .i64 0, .bool false, .int .i64 0, .bool false] 70) = wa := ⟨_, rfl⟩
  obtain ⟨g, hg⟩ : ∃ g, w.heap.size = g := ⟨_, rfl⟩
  rw [hwa] at hnew hb0 hB1 hmk
  rw [hg] at hnew
  have hcp : (Builtin.copy_ #[74, 74] 3 #[.slice (some ⟨g, 0, none⟩) 4 4, .slice (some ⟨b, 0, none⟩) 1 1]).run Try.prog wa = .ok (goInt 1) (wa.setRow g (repCells f bw 1)) := by
    exact run_copy_rows wa 74 74 3 70 g 0 4 4 ⟨b, 0, none⟩ 1 1 2 1 #[.int .i64 0, .bool false, .int .i64 0, .bool false, .int .i64 0, .bool false, .int .i64 0, .bool false] 70 [.int .i64 f, .bool bw] Try.underlying74 entMade hnew rfl rfl (World.news_of_block hB1) (by simp) (by intro v hv; simp at hv; rcases hv with rfl | rfl <;> rfl)
  have hrow : Blk (wa.setRow g (repCells f bw 1)) g 70 (repCells f bw 1) := setRow_heap wa g _ _ _ _ hnew
  have hbl : Below w.heap.size w (wa.setRow g (repCells f bw 1)) := below_setRow hb0 (by omega) _
  obtain ⟨wq, hwq⟩ : ∃ wq, wa.setRow g (repCells f bw 1) = wq := ⟨_, rfl⟩
  rw [hwq] at hcp hrow hbl
  have HR := Lib.hid hrow
  have HBL := Lib.hid hbl
  have HG := Lib.hid hg
  clear h hnew hb0 hB1 hwa hrow hbl hwq HB hj hy0 hy1 hy2
  go_enter Try.func91, Try.ntmps91
  go_wp2_with fail
  refine (mul32_one _).mono ?_
  rintro e w1 ⟨rfl, rfl⟩
  go_wp2_with fail
  go_loopw [8] (fun i wx => ∃ (q : Nat), i = .int .i64 q ∧ (q = 1 ∨ q = 2 ∨ q = 4) ∧ Hid (Blk wx g 70 (repCells f bw q)) ∧ Hid (Below w1.heap.size w1 wx)) (fun i _ => 4 - (intOf i).toNat)
  case atStart => exact ⟨1, rfl, .inl rfl, HR, HBL⟩
  case round =>
    clear hmk hcp HR HBL
    obtain ⟨q, rfl, hq, HR, HBL⟩ := hrel
    rcases hq with rfl | rfl | rfl
    · have hcp : (Builtin.copy_ #[74, 74] 3 #[.slice (some ⟨g, 2, none⟩) 3 3, .slice (some ⟨g, 0, none⟩) 1 4]).run Try.prog wr.drew = .ok (goInt 1) (wr.drew.setRow g (repCells f bw 2)) :=
        run_copy_rows wr.drew 74 74 3 70 g 2 3 3 ⟨g, 0, none⟩ 1 4 2 1 (repCells f bw 1) 70 [.int .i64 f, .bool bw] Try.underlying74 entMade HR.out rfl rfl (fun j u hu => World.news_of_block (w := wr.drew) HR.out j u (by
          have hj : j < 2 := (List.getElem?_eq_some_iff.1 hu).1
          rw [← hu]
          have : j = 0 ∨ j = 1 := by omega
          rcases this with rfl | rfl <;> rfl)) (by simp [repCells]) (by intro v hv; simp at hv; rcases hv with rfl | rfl <;> rfl)
      have hrow : Blk (wr.drew.setRow g (repCells f bw 2)) g 70 (repCells f bw 2) := setRow_heap wr.drew g _ _ _ _ HR.out
      have hbl : Below w1.heap.size w1 (wr.drew.setRow g (repCells f bw 2)) := below_setRow (HBL.out.trans ((below_drew1 wr).mono HBL.out.size)) (by rw [HG.out]; exact Nat.le_refl _) _
      obtain ⟨wq, hwq⟩ : ∃ wq, wr.drew.setRow g (repCells f bw 2) = wq := ⟨_, rfl⟩
      rw [hwq] at hcp hrow hbl
      have HR2 := Lib.hid hrow
      have HB2 := Lib.hid hbl
      clear hrow hbl hwq HR HBL
      go_upto_region 9 with fail
      go_region
      go_wp2_with fail
      go_roundw
      case rel => exact ⟨2, rfl, .inr (.inl rfl), HR2, HB2⟩
      case measure => simp [intOf]
    · have hcp : (Builtin.copy_ #[74, 74] 3 #[.slice (some ⟨g, 4, none⟩) 2 2, .slice (some ⟨g, 0, none⟩) 2 4]).run Try.prog wr.drew = .ok (goInt 2) (wr.drew.setRow g (repCells f bw 4)) :=
        run_copy_rows wr.drew 74 74 3 70 g 4 2 2 ⟨g, 0, none⟩ 2 4 2 2 (repCells f bw 2) 70 [.int .i64 f, .bool bw, .int .i64 f, .bool bw] Try.underlying74 entMade HR.out rfl rfl (fun j u hu => World.news_of_block (w := wr.drew) HR.out j u (by
          have hj : j < 4 := (List.getElem?_eq_some_iff.1 hu).1
          rw [← hu]
          have : j = 0 ∨ j = 1 ∨ j = 2 ∨ j = 3 := by omega
          rcases this with rfl | rfl | rfl | rfl <;> rfl)) (by simp [repCells]) (by intro v hv; simp at hv; rcases hv with rfl | rfl | rfl | rfl <;> rfl)
      have hrow : Blk (wr.drew.setRow g (repCells f bw 4)) g 70 (repCells f bw 4) := setRow_heap wr.drew g _ _ _ _ HR.out
      have hbl : Below w1.heap.size w1 (wr.drew.setRow g (repCells f bw 4)) := below_setRow (HBL.out.trans ((below_drew1 wr).mono HBL.out.size)) (by rw [HG.out]; exact Nat.le_refl _) _
      obtain ⟨wq, hwq⟩ : ∃ wq, wr.drew.setRow g (repCells f bw 4) = wq := ⟨_, rfl⟩
      rw [hwq] at hcp hrow hbl
      have HR2 := Lib.hid hrow
      have HB2 := Lib.hid hbl
      clear hrow hbl hwq HR HBL
      go_upto_region 9 with fail
      go_region
      go_wp2_with fail
      go_roundw
      case rel => exact ⟨4, rfl, .inr (.inr rfl), HR2, HB2⟩
      case measure => simp [intOf]
    · go_wp2_with fail
      go_ret
      exact ⟨g, rfl, Nat.le_of_eq HG.out, HR.out, HBL.out⟩
end Go.Proofs.Ytaamjnpknmimmab.L4
