/- What the draws of FnTrapValues' last two answer: a page and an answer, an access. -/
import Derived.Test.YtaamjnpknmimmaaDSt
import Derived.Test.YtaamjnpknmimmaaOne
import Derived.Test.YtaamjnpknmimmaaNew
import Derived.Deep.Cut
import Derived.Deep.CutRange
namespace Go.Proofs.Ytaamjnpknmimmaa.Draw
open Go Go.RowKit Go.Proofs.Ytaamjnpknmimmaa.Mem Go.Proofs.Ytaamjnpknmimmaa.Own
set_option linter.unusedVariables false
theorem size_list (w : World) (o : Obj) : (w.alloc o).heap.size = w.heap.size + 1 := size1 w o
theorem quo11 (x : Int) (h0 : 0 ≤ x) (h1 : x ≤ 23) : 0 ≤ x.tdiv 11 ∧ x.tdiv 11 ≤ 2 := by
  rw [Int.tdiv_eq_ediv_of_nonneg h0]; omega
set_option maxRecDepth 100000 in
set_option maxHeartbeats 1000000 in
theorem drawFault_any (w : World) (A : Option Addr) (n cp : Nat) (zs : List Int) (hz : ∀ z ∈ zs, 0 ≤ z ∧ z ≤ 255) (hr : Reads w w.heap.size 1 A n (zs.map (Value.int .u8))) (hn : n ≤ 1000000) :
    Calls Try.prog 45 #[.slice A n cp] w fun e w' => (∃ (x : Int) (q : Bool), e = .returned (.tuple #[.int .i64 x, .bool q])) ∧ Below w.heap.size w w' := by
  have HC := Lib.hid (cur_new w A n cp zs hr)
  have HZ := Lib.hid hz
  have HB := Lib.hid (below_more (Below.refl w.heap.size w) (.cells #[.slice A n cp, .int .i64 0, .int .u64 0] 75))
  have hg0 : w.heap.size < (w.alloc (.cells #[.slice A n cp, .int .i64 0, .int .u64 0] 75)).heap.size := by rw [size_list]; omega
  obtain ⟨v0, hwr⟩ : ∃ wr, w.alloc (.cells #[.slice A n cp, .int .i64 0, .int .u64 0] 75) = wr := ⟨_, rfl⟩
  rw [hwr] at HC HB hg0
  have HW := Lib.hid hwr
  clear hr hz hwr
  go_enter Try.func45, Try.ntmps45
  go_upto_region 2 with fail
  rw [HW.out]
  clear HW
  go_wp2_with fail
  have hb := Blk.new v0 (I [0, 7, 15, -1, 16]).toArray 3
  have ha := HC.out.alloc (.cells (I [0, 7, 15, -1, 16]).toArray 3)
  have hlt := hg0
  refine (pick_any _ w.heap.size w.heap.size A n cp zs _ HZ.out ha (by omega) hn 24 (by omega) (by omega)).mono ?_
  rintro e v1 ⟨x1, rfl, hx, hy, ⟨t1, ht1, hc⟩, hg⟩
  replace hb := blk_draw hb hg (by omega)
  replace HB := Lib.hid (below_cur (below_more HB.out (.cells (I [0, 7, 15, -1, 16]).toArray 3)) hg (Nat.le_refl _))
  replace HC := Lib.hid hc
  have hs := hg.size
  rw [size_list] at hs
  clear ha hg hc
  obtain ⟨hq, hr⟩ := quo11 x1 hx (by omega)
  obtain ⟨m1, hm⟩ : ∃ m : Nat, x1.tdiv 11 = m := ⟨(x1.tdiv 11).toNat, by omega⟩
  rw [hm] at hq hr
  go_wp2_with fail
  refine (among_part v1 w.heap.size w.heap.size A n cp zs _ v0.heap.size (3 + m1) 5 HZ.out HC.out (by omega) hn [0, 7, 15, -1, 16] 3 hb (by omega) (by omega) (by simp only [List.length_cons, List.length_nil]; omega) (by decide) (by omega)).mono ?_
  rintro e v2 ⟨z1, rfl, ⟨t2, ht2, hc⟩, hg⟩
  replace HB := Lib.hid (below_cur HB.out hg (Nat.le_refl _))
  replace HC := Lib.hid hc
  have hs2 := hg.size
  replace hg0 : w.heap.size < v2.heap.size := by omega
  clear hc hg hb hq hr hm hx hy hlt hs hs2
  go_wp2_with fail
  refine (one_any _ w.heap.size w.heap.size A n cp zs _ HZ.out HC.out (by omega) hn 2 (by omega) (by omega)).mono ?_
  rintro e v9 ⟨q, rfl, _, hg⟩
  replace HB := Lib.hid (below_cur HB.out hg (Nat.le_refl _))
  clear hg HC
  go_wp2_with fail
  exact bodyPost_ret (v := .tuple #[.int .i64 z1, .bool q]) (by simp [results, Try.results45, go_sem]) rfl ⟨⟨_, _, rfl⟩, HB.out⟩
set_option maxRecDepth 100000 in
set_option maxHeartbeats 1000000 in
theorem drawDevice_any (w : World) (A : Option Addr) (n cp : Nat) (zs : List Int) (hz : ∀ z ∈ zs, 0 ≤ z ∧ z ≤ 255) (hr : Reads w w.heap.size 1 A n (zs.map (Value.int .u8))) (hn : n ≤ 1000000) :
    Calls Try.prog 46 #[.slice A n cp] w fun e w' => (∃ (x y z : Int) (q : Bool), e = .returned (.tuple #[.int .i64 x, .int .i64 y, .int .i64 z, .bool q])) ∧ Below w.heap.size w w' := by
  have HC := Lib.hid (cur_new w A n cp zs hr)
  have HZ := Lib.hid hz
  have HB := Lib.hid (below_more (Below.refl w.heap.size w) (.cells #[.slice A n cp, .int .i64 0, .int .u64 0] 75))
  have hg0 : w.heap.size < (w.alloc (.cells #[.slice A n cp, .int .i64 0, .int .u64 0] 75)).heap.size := by rw [size_list]; omega
  obtain ⟨v0, hwr⟩ : ∃ wr, w.alloc (.cells #[.slice A n cp, .int .i64 0, .int .u64 0] 75) = wr := ⟨_, rfl⟩
  rw [hwr] at HC HB hg0
  have HW := Lib.hid hwr
  clear hr hz hwr
  go_enter Try.func46, Try.ntmps46
  go_upto_region 2 with fail
  rw [HW.out]
  clear HW
  go_wp2_with fail
  have hb := Blk.new v0 (I [0, 4, 10, 65532, 65535, -1, 65536]).toArray 3
  have ha := HC.out.alloc (.cells (I [0, 4, 10, 65532, 65535, -1, 65536]).toArray 3)
  have hlt := hg0
  refine (pick_any _ w.heap.size w.heap.size A n cp zs _ HZ.out ha (by omega) hn 24 (by omega) (by omega)).mono ?_
  rintro e v1 ⟨x1, rfl, hx, hy, ⟨t1, ht1, hc⟩, hg⟩
  replace hb := blk_draw hb hg (by omega)
  replace HB := Lib.hid (below_cur (below_more HB.out (.cells (I [0, 4, 10, 65532, 65535, -1, 65536]).toArray 3)) hg (Nat.le_refl _))
  replace HC := Lib.hid hc
  have hs := hg.size
  rw [size_list] at hs
  clear ha hg hc
  obtain ⟨hq, hr⟩ := quo11 x1 hx (by omega)
  obtain ⟨m1, hm⟩ : ∃ m : Nat, x1.tdiv 11 = m := ⟨(x1.tdiv 11).toNat, by omega⟩
  rw [hm] at hq hr
  go_wp2_with fail
  refine (among_part v1 w.heap.size w.heap.size A n cp zs _ v0.heap.size (5 + m1) 7 HZ.out HC.out (by omega) hn [0, 4, 10, 65532, 65535, -1, 65536] 3 hb (by omega) (by omega) (by simp only [List.length_cons, List.length_nil]; omega) (by decide) (by omega)).mono ?_
  rintro e v2 ⟨z1, rfl, ⟨t2, ht2, hc⟩, hg⟩
  replace HB := Lib.hid (below_cur HB.out hg (Nat.le_refl _))
  replace HC := Lib.hid hc
  have hs2 := hg.size
  replace hg0 : w.heap.size < v2.heap.size := by omega
  clear hc hg hb hq hr hm hx hy hlt hs hs2
  go_wp2_with fail
  have hb := Blk.new v2 (I [1, 2, 4, 0, 3]).toArray 3
  have ha := HC.out.alloc (.cells (I [1, 2, 4, 0, 3]).toArray 3)
  have hlt := hg0
  refine (pick_any _ w.heap.size w.heap.size A n cp zs _ HZ.out ha (by omega) hn 24 (by omega) (by omega)).mono ?_
  rintro e v3 ⟨x2, rfl, hx, hy, ⟨t3, ht3, hc⟩, hg⟩
  replace hb := blk_draw hb hg (by omega)
  replace HB := Lib.hid (below_cur (below_more HB.out (.cells (I [1, 2, 4, 0, 3]).toArray 3)) hg (Nat.le_refl _))
  replace HC := Lib.hid hc
  have hs := hg.size
  rw [size_list] at hs
  clear ha hg hc
  obtain ⟨hq, hr⟩ := quo11 x2 hx (by omega)
  obtain ⟨m2, hm⟩ : ∃ m : Nat, x2.tdiv 11 = m := ⟨(x2.tdiv 11).toNat, by omega⟩
  rw [hm] at hq hr
  go_wp2_with fail
  refine (among_part v3 w.heap.size w.heap.size A n cp zs _ v2.heap.size (3 + m2) 5 HZ.out HC.out (by omega) hn [1, 2, 4, 0, 3] 3 hb (by omega) (by omega) (by simp only [List.length_cons, List.length_nil]; omega) (by decide) (by omega)).mono ?_
  rintro e v4 ⟨z2, rfl, ⟨t4, ht4, hc⟩, hg⟩
  replace HB := Lib.hid (below_cur HB.out hg (Nat.le_refl _))
  replace HC := Lib.hid hc
  have hs2 := hg.size
  replace hg0 : w.heap.size < v4.heap.size := by omega
  clear hc hg hb hq hr hm hx hy hlt hs hs2
  go_wp2_with fail
  have hb := Blk.new v4 (I [0, 1, 3, -1, 4]).toArray 3
  have ha := HC.out.alloc (.cells (I [0, 1, 3, -1, 4]).toArray 3)
  have hlt := hg0
  refine (pick_any _ w.heap.size w.heap.size A n cp zs _ HZ.out ha (by omega) hn 24 (by omega) (by omega)).mono ?_
  rintro e v5 ⟨x3, rfl, hx, hy, ⟨t5, ht5, hc⟩, hg⟩
  replace hb := blk_draw hb hg (by omega)
  replace HB := Lib.hid (below_cur (below_more HB.out (.cells (I [0, 1, 3, -1, 4]).toArray 3)) hg (Nat.le_refl _))
  replace HC := Lib.hid hc
  have hs := hg.size
  rw [size_list] at hs
  clear ha hg hc
  obtain ⟨hq, hr⟩ := quo11 x3 hx (by omega)
  obtain ⟨m3, hm⟩ : ∃ m : Nat, x3.tdiv 11 = m := ⟨(x3.tdiv 11).toNat, by omega⟩
  rw [hm] at hq hr
  go_wp2_with fail
  refine (among_part v5 w.heap.size w.heap.size A n cp zs _ v4.heap.size (3 + m3) 5 HZ.out HC.out (by omega) hn [0, 1, 3, -1, 4] 3 hb (by omega) (by omega) (by simp only [List.length_cons, List.length_nil]; omega) (by decide) (by omega)).mono ?_
  rintro e v6 ⟨z3, rfl, ⟨t6, ht6, hc⟩, hg⟩
  replace HB := Lib.hid (below_cur HB.out hg (Nat.le_refl _))
  replace HC := Lib.hid hc
  have hs2 := hg.size
  replace hg0 : w.heap.size < v6.heap.size := by omega
  clear hc hg hb hq hr hm hx hy hlt hs hs2
  go_wp2_with fail
  refine (one_any _ w.heap.size w.heap.size A n cp zs _ HZ.out HC.out (by omega) hn 2 (by omega) (by omega)).mono ?_
  rintro e v9 ⟨q, rfl, _, hg⟩
  replace HB := Lib.hid (below_cur HB.out hg (Nat.le_refl _))
  clear hg HC
  go_wp2_with fail
  exact bodyPost_ret (v := .tuple #[.int .i64 z1, .int .i64 z2, .int .i64 z3, .bool q]) (by simp [results, Try.results46, go_sem]) rfl ⟨⟨_, _, _, _, rfl⟩, HB.out⟩
end Go.Proofs.Ytaamjnpknmimmaa.Draw
