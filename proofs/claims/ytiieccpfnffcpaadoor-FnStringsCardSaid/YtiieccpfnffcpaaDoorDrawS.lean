/- What the draws of FnStrings answer: a number, a short text, a text of at most 4010 bytes; and vAt. -/
import Derived.Test.YtiieccpfnffcpaaDoorAny1
import Derived.Test.YtiieccpfnffcpaaDoorZeros
import Derived.Test.YtiieccpfnffcpaaDoorNum
import Derived.Test.YtiieccpfnffcpaaDoorSeal
import Derived.OwnWalk
namespace Go.Proofs.YtiieccpfnffcpaaDoor.Draw
open Go.RowKit Go.Proofs.YtiieccpfnffcpaaDoor.Mem Go.Proofs.YtiieccpfnffcpaaDoor.L1
set_option linter.unusedVariables false
theorem cells_ints {w : World} {h : Nat} {t : TypeId} {cs : Array Value} (hb : w.heap[h]? = some (.cells cs t (0, 0))) {ss : List Int} (hcs : cs = (ss.map (Value.int .i64)).toArray) : ∀ j x, ss[j]? = some x → w.cell? ⟨h, j, none⟩ = some (.int .i64 x) := by
  intro j x hx
  rw [hcs] at hb
  simp [World.cell?, hb, hx]
set_option maxHeartbeats 1000000 in
theorem among_any (w : World) (g B : Nat) (A : Option Addr) (n cp : Nat) (zs : List Int) (t : Nat) (hz : ∀ z ∈ zs, 0 ≤ z ∧ z ≤ 255) (hc : Cur w g B A n cp zs t) (ht : t ≤ 900000) (hn : n ≤ 1000000)
    (h m c : Nat) (ss : List Int) (hne : h ≠ g) (hh : h < w.heap.size) (hm0 : 1 ≤ m) (hm1 : m ≤ 60000) (hmc : m ≤ c) (hl : ss.length = m) (hcell : ∀ j x, ss[j]? = some x → w.cell? ⟨h, j, none⟩ = some (.int .i64 x)) :
    Calls Tryd.prog 21 #[.pointer (some ⟨g, 0, none⟩), .slice (some ⟨h, 0, none⟩) m c] w fun e w' => ∃ x, e = .returned (.int .i64 x) ∧ x ∈ ss ∧ (∃ t', t' ≤ t + 2 ∧ Cur w' g B A n cp zs t') ∧ w.grownBy w' (some g) := by
  have HC := Lib.hid hc
  have HZ := Lib.hid hz
  have HL := Lib.hid hl
  have HX := Lib.hid hcell
  clear hc hz hl hcell
  go_enter Tryd.func21, Tryd.ntmps21
  go_wp2_with fail
  refine (pick_any _ g B A n cp zs t HZ.out HC.out ht hn m (by omega) (by omega)).mono ?_
  rintro e w1 ⟨x, rfl, hx0, hx1, hc1, hg1⟩
  obtain ⟨q, rfl⟩ : ∃ q : Nat, x = q := ⟨x.toNat, by omega⟩
  have hq : q < m := by omega
  obtain ⟨y, hy⟩ : ∃ y, ss[q]? = some y := ⟨ss[q]'(by rw [HL.out]; exact hq), List.getElem?_eq_getElem _⟩
  have hcy : w1.cell? ⟨h, q, none⟩ = some (.int .i64 y) := (World.cell?_of_block (hg1.block h hh (fun e => hne (by injection e)))).trans (HX.out q y hy)
  have HM := Lib.hid (List.mem_of_getElem? hy)
  have HC1 := Lib.hid hc1
  have HG1 := Lib.hid hg1
  clear hc1 hg1 hy
  go_wp2_with fail
  go_ret
  exact ⟨y, rfl, HM.out, HC1.out, HG1.out⟩
def OneInt (w : World) (e : Ending) (w' : World) : Prop := ∃ x : Int, e = .returned (.int .i64 x) ∧ -1000000 ≤ x ∧ x ≤ 1000000 ∧ Below w.heap.size w w'
def OneText (m : Nat) (w : World) (e : Ending) (w' : World) : Prop := ∃ x : ByteArray, e = .returned (.string x) ∧ x.size ≤ m ∧ Below w.heap.size w w'
set_option maxHeartbeats 1000000 in
theorem drawFmt_any (w : World) (A : Option Addr) (n cp : Nat) (zs : List Int) (hz : ∀ z ∈ zs, 0 ≤ z ∧ z ≤ 255) (hr : Reads w w.heap.size 1 A n (zs.map (Value.int .u8))) (hn : n ≤ 1000000) :
    Calls Tryd.prog 9 #[.slice A n cp] w (OneInt w) := by
  have HC := Lib.hid (cur_new w A n cp zs hr)
  have HZ := Lib.hid hz
  have HB := Lib.hid ((Below.refl w.heap.size w).alloc (Nat.le_refl _) (.cells #[.slice A n cp, .int .i64 0, .int .u64 0] 37))
  clear hr hz
  go_enter Tryd.func9, Tryd.ntmps9
  go_wp2_with fail
  refine (pick_any _ w.heap.size w.heap.size A n cp zs 0 HZ.out HC.out (by omega) hn 1000 (by omega) (by omega)).mono ?_
  rintro e w1 ⟨x, rfl, hx0, hx1, ⟨t1, ht1, hc1⟩, hg1⟩
  have HC1 := Lib.hid hc1
  have hlt1 := hc1.lt
  have HB1 := Lib.hid (below_cur HB.out hg1 (Nat.le_refl _))
  clear hc1 hg1 HC HB
  go_wp2_with fail
  refine (among_any _ w.heap.size w.heap.size A n cp zs t1 HZ.out (HC1.out.alloc _) (by omega) hn w1.heap.size 9 9 [0, 1, -1, 10, 999999, -999999, 1000000, -1000000, x - 500] (by omega) (by simp) (by omega) (by omega) (Nat.le_refl _) rfl (cells_ints (heap_alloc_new w1 _) rfl)).mono ?_
  rintro e w2 ⟨y, rfl, hy, _, hg2⟩
  have hyb : -1000000 ≤ y ∧ y ≤ 1000000 := by
    simp only [List.mem_cons, List.not_mem_nil, or_false] at hy
    omega
  have HR : Hid (OneInt w (.returned (.int .i64 y)) w2) := Lib.hid ⟨y, rfl, hyb.1, hyb.2, below_cur HB1.out (grown_alloc hg2) (Nat.le_refl _)⟩
  clear hg2 hy
  go_wp2_with fail
  go_ret
  exact HR.out
def odd11 : List ByteArray := [⟨#[]⟩, ⟨#[45]⟩, ⟨#[45, 48]⟩, ⟨#[48, 48]⟩, ⟨#[48, 49]⟩, ⟨#[45, 45, 49]⟩, ⟨#[49, 120]⟩, ⟨#[57, 57, 57, 57, 57, 57]⟩, ⟨#[49, 48, 48, 48, 48, 48, 48]⟩, ⟨#[45, 57, 57, 57, 57, 57, 57]⟩, ⟨#[49, 56, 52, 52, 54, 55, 52, 52, 48, 55, 51, 55, 48, 57, 53, 53, 49, 54, 49, 55]⟩]
theorem odd11_size : ∀ s ∈ odd11, s.size ≤ 25 := by decide
set_option maxHeartbeats 1000000 in
theorem drawParse_any (w : World) (A : Option Addr) (n cp : Nat) (zs : List Int) (hz : ∀ z ∈ zs, 0 ≤ z ∧ z ≤ 255) (hr : Reads w w.heap.size 1 A n (zs.map (Value.int .u8))) (hn : n ≤ 1000000) :
    Calls Tryd.prog 12 #[.slice A n cp] w (OneText 25 w) := by
  have HC := Lib.hid (cur_new w A n cp zs hr)
  have HZ := Lib.hid hz
  have HB := Lib.hid ((Below.refl w.heap.size w).alloc (Nat.le_refl _) (.cells #[.slice A n cp, .int .i64 0, .int .u64 0] 37))
  clear hr hz
  go_enter Tryd.func12, Tryd.ntmps12
  go_wp2_with fail
  refine (one_any _ w.heap.size w.heap.size A n cp zs 0 HZ.out HC.out (by omega) hn 2 (by omega) (by omega)).mono ?_
  rintro e w1 ⟨b, rfl, ⟨t1, ht1, hc1⟩, hg1⟩
  have HC1 := Lib.hid hc1
  have hlt1 := hc1.lt
  have HB1 := Lib.hid (below_cur HB.out hg1 (Nat.le_refl _))
  clear hc1 hg1 HC HB
  cases b with
  | true =>
    go_wp2_with fail
    refine (of_any _ w.heap.size w.heap.size A n cp zs t1 HZ.out (HC1.out.alloc _) (by omega) hn w1.heap.size 11 11 odd11 (by omega) (by simp) (by omega) (by omega) (Nat.le_refl _) rfl (cells_list (heap_alloc_new w1 _) rfl)).mono ?_
    rintro e w2 ⟨y, rfl, hy, _, hg2⟩
    have HR : Hid (OneText 25 w (.returned (.string y)) w2) := Lib.hid ⟨y, rfl, odd11_size y hy, below_cur HB1.out (grown_alloc hg2) (Nat.le_refl _)⟩
    clear hg2 hy
    go_wp2_with fail
    go_ret
    exact HR.out
  | false =>
    go_wp2_with fail
    refine (pick_any _ w.heap.size w.heap.size A n cp zs t1 HZ.out HC1.out (by omega) hn 2000 (by omega) (by omega)).mono ?_
    rintro e w2 ⟨x, rfl, hx0, hx1, _, hg2⟩
    have HB2 := Lib.hid (below_cur HB1.out hg2 (Nat.le_refl _))
    clear hg2
    go_wp2_with fail
    refine (l1Num_int (x - 1000) (by omega) (by omega) _).mono ?_
    rintro e w3 ⟨rfl, j, rfl⟩
    have HR : Hid (OneText 25 w (.returned (.string (NumB (x - 1000)))) (w2.drewN j)) := Lib.hid ⟨_, rfl, by have := numB_size (x - 1000) (by omega) (by omega); omega, HB2.out.trans ⟨rfl, rfl, rfl, Nat.le_refl _, fun _ _ => rfl⟩⟩
    go_wp2_with fail
    go_ret
    exact HR.out
set_option maxHeartbeats 1000000 in
theorem drawApp_any (w : World) (A : Option Addr) (n cp : Nat) (zs : List Int) (hz : ∀ z ∈ zs, 0 ≤ z ∧ z ≤ 255) (hr : Reads w w.heap.size 1 A n (zs.map (Value.int .u8))) (hn : n ≤ 1000000) :
    Calls Tryd.prog 15 #[.slice A n cp] w (OneText 4010 w) := by
  obtain ⟨i1, ui, uz0, uz1, uz2⟩ := info_parts u8Info
  have HC := Lib.hid (cur_new w A n cp zs hr)
  have HZ := Lib.hid hz
  have HB := Lib.hid ((Below.refl w.heap.size w).alloc (Nat.le_refl _) (.cells #[.slice A n cp, .int .i64 0, .int .u64 0] 37))
  clear hr hz
  go_enter Tryd.func15, Tryd.ntmps15
  go_wp2_with fail
  refine (one_any _ w.heap.size w.heap.size A n cp zs 0 HZ.out HC.out (by omega) hn 20 (by omega) (by omega)).mono ?_
  rintro e w1 ⟨b, rfl, ⟨t1, ht1, hc1⟩, hg1⟩
  have HC1 := Lib.hid hc1
  have HB1 := Lib.hid (below_cur HB.out hg1 (Nat.le_refl _))
  clear hc1 hg1 HC HB
  cases b with
  | true =>
    go_wp2_with fail
    refine (pick_any _ w.heap.size w.heap.size A n cp zs t1 HZ.out HC1.out (by omega) hn 10 (by omega) (by omega)).mono ?_
    rintro e w3 ⟨z, rfl, hz0', hz1', _, hg3⟩
    obtain ⟨m, rfl⟩ : ∃ m : Nat, z = m := ⟨z.toNat, by omega⟩
    have HB3 := Lib.hid (below_cur HB1.out hg3 (Nat.le_refl _))
    have e39 : (3990 : Int) + (m : Int) = ((3990 + m : Nat) : Int) := by omega
    have hm20 : 3990 + m ≤ 4010 := by omega
    have HE := Lib.hid e39
    clear e39 hg3
    go_wp2_with (at_make; refine wpList_make_full _ rfl _ _ 22 rfl w3.heap.size 5 i1 (.int .u8 0) 1 Tryd.underlying22 ui uz0 uz1 .i64 .i64 _ _ (3990 + m) rfl rfl HE.out HE.out (by rw [uz2]; omega) (by unfold maxLen; omega) (Nat.le_refl _) ?_; intro w4 hown4 hg4; have hcv := conv_zeros hown4)
    have HR : Hid (OneText 4010 w (.returned (.string (Zb (3990 + m)))) w4) := Lib.hid ⟨_, rfl, by rw [zeros_size]; omega, HB3.out.grown hg4 HB3.out.size (by simp)⟩
    clear hcv hown4 hg4
    go_ret
    exact HR.out
  | false =>
    go_wp2_with fail
    refine (any1_any _ w.heap.size w.heap.size A n cp zs t1 HZ.out HC1.out (by omega) hn).mono ?_
    rintro e w2 ⟨x, rfl, hx, _, hg2⟩
    have HR : Hid (OneText 4010 w (.returned (.string x)) w2) := Lib.hid ⟨x, rfl, by omega, below_cur HB1.out hg2 (Nat.le_refl _)⟩
    clear hg2
    go_wp2_with fail
    go_ret
    exact HR.out
theorem vAt_any (w : World) (A : Option Addr) (n cp B : Nat) (zs : List Int) (hz : ∀ z ∈ zs, 0 ≤ z ∧ z ≤ 255) (hr : Reads w B 1 A n (zs.map (Value.int .u8))) (hn : n ≤ 1000000) (i : Nat) (hi : i ≤ 1000) :
    ∃ x : Int, 0 ≤ x ∧ x ≤ 255 ∧ ∀ w', (∀ p : Addr, p.block < B → w'.cell? p = w.cell? p) → Calls Tryd.prog 19 #[.slice A n cp, .int .i64 i] w' fun e w'' => e = .returned (.int .i64 x) ∧ w'' = w' := by
  by_cases h : i < n
  · obtain ⟨b, off, x, rfl, hb, hu, hc⟩ := hr.int_at h
    obtain ⟨h0, h1⟩ := hz x (List.mem_of_getElem? hu)
    refine ⟨x, h0, h1, fun w' hk => ?_⟩
    have hc' := (hk ⟨b, off + i, none⟩ hb).trans hc
    clear hk hc hu hr hz
    go_enter Tryd.func19, Tryd.ntmps19
    go_wp2
    go_ret
    exact ⟨rfl, rfl⟩
  · refine ⟨((i : Int) * 7 + n) % 256, by omega, by omega, fun w' _ => ?_⟩
    clear hr hz
    go_enter Tryd.func19, Tryd.ntmps19
    go_wp2
    go_ret
    exact ⟨rfl, rfl⟩
end Go.Proofs.YtiieccpfnffcpaaDoor.Draw
