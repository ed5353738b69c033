/- What impl.SplitString answers: the parts of a text, in a slice of its own. -/
import Derived.Test.YtadpjkghfgnbbaaDoorSplitImpl
import Derived.Outline
import Derived.Deep.DeepMust
import Derived.OwnWalkIn
namespace Go.Proofs.YtadpjkghfgnbbaaDoor.L1
open Go.RowKit Go.Shelf
attribute [local go_sem] Oper.semAt_some
set_option maxHeartbeats 1000000 in
theorem partsOf_in (F : Fence) (n : Nat) (h5 : F.fn 36) (hro : F.round = none) (s : ByteArray) (cn : Int) (w : World) :
    CallsIn F n Tryd.prog 36 #[.string s, .int .u8 cn] w fun e w' => e = .returned (.func (.func 47) #[] #[.pointer (some ⟨w.heap.size, 0, none⟩), .pointer (some ⟨w.heap.size + 1, 0, none⟩)]) ∧ w' = (w.alloc (.cells #[.string s] 9)).alloc (.cells #[.int .u8 cn] 5) := by
  refine callsIn_of_wp Tryd.func36 rfl h5 ?_ hro
  simp only [Tryd.ntmps36, List.size_toArray, List.length_cons, List.length_nil, Nat.reduceAdd, Nat.reduceSub, Array.replicate_succ, Array.replicate_zero, List.push_toArray, List.append_toArray, List.nil_append, List.cons_append]
  gi_wp2
  go_ret
  exact ⟨rfl, rfl⟩
theorem parts_stops (F : Fence) (n : Nat) (h6 : F.fn 47) (hro : F.round = none) (hn : 1 ≤ n) (Bs Bc : Nat) (s : ByteArray) (c : UInt8) (hs : s.size ≤ 1048576) (w : World) (hBs : Bs < w.heap.size) (hBc : Bc < w.heap.size)
    (hS : w.cell? ⟨Bs, 0, none⟩ = some (.string s)) (hC : w.cell? ⟨Bc, 0, none⟩ = some (.int .u8 c.toNat)) :
    SeqStopsK F n Tryd.prog 47 #[.pointer (some ⟨Bs, 0, none⟩), .pointer (some ⟨Bc, 0, none⟩)] (fun x : ByteArray => #[Value.string x]) (Keep2 Bs Bc) (fun ys => ys = Parts s c) (fun pre => pre <+: Parts s c) (Parts s c).length w := fun l J Jx W hW hJ _ hY h0 =>
  parts1_in F n h6 hro hn l Bs Bc s c hs J Jx W hJ hY W (Nat.le_refl _) ((hW.cell (p := ⟨Bs, 0, none⟩) hBs).trans hS) ((hW.cell (p := ⟨Bc, 0, none⟩) hBc).trans hC) h0
theorem keep2_t {Bs Bc : Nat} {A B C : World} (h : Keep2 Bs Bc A B) (k : Keep2 Bs Bc B C) : Keep2 Bs Bc A C :=
  ⟨fun v hv => k.1 v (h.1 v hv), fun v hv => k.2.1 v (h.2.1 v hv), Nat.le_trans h.2.2 k.2.2⟩
theorem putObj_cell {W : World} {l B : Nat} {o o' : Obj} (h : W.heap[l]? = some o) (ho : o.isCells = false) {v : Value} (hv : W.cell? ⟨B, 0, none⟩ = some v) : (W.putObj l o').cell? ⟨B, 0, none⟩ = some v := by
  refine (World.cell?_of_block ((grownBy_putObj' W l o').block B (World.block_lt_of_cell? W _ hv) ?_)).trans hv
  intro e
  obtain rfl : B = l := by simpa using e
  simp only [World.cell?, h] at hv
  cases o <;> simp_all [Obj.isCells]
theorem keep2_b {Bs Bc : Nat} {m : Nat} (W : World) (l : Nat) (o o' : Obj) (_ : m ≤ l) (h : W.heap[l]? = some o) (ho : o.isCells = false) (_ : o.isWalk = false) : Keep2 Bs Bc W (W.putObj l o') :=
  ⟨fun _ hv => putObj_cell h ho hv, fun _ hv => putObj_cell h ho hv, (grownBy_putObj' W l o').size⟩
theorem ownsRow_base {W : World} {b b' : Nat} {e : TypeId} {size n : Nat} {v : Value} {xs : List Value} (h : W.ownsRow b e size v n xs) (hb : b' ≤ b) : W.ownsRow b' e size v n xs := by
  refine ⟨h.1, ?_⟩
  rcases h.2 with h | ⟨g, cap, cur, h1, h2, h3⟩
  · exact .inl h
  · exact .inr ⟨g, cap, cur, h1, Nat.le_trans hb h2, h3⟩
theorem append_cell {W w1 : World} {base B g : Nat} {e : TypeId} {size n : Nat} {v u u' : Value} {xs : List Value} {tmp : Obj} (hrow : W.ownsRow base e size v n xs) (hgrow : (W.alloc tmp).grownBy w1 v.ownBlock) (hB : g < base) (hne : B ≠ g)
    (hu : W.cell? ⟨g, 0, none⟩ = some u) : (w1.setCell ⟨B, 0, none⟩ u').cell? ⟨g, 0, none⟩ = some u := by
  have h1 : (W.alloc tmp).cell? ⟨g, 0, none⟩ = some u := (World.cell?_alloc_lt W tmp _ (World.block_lt_of_cell? W _ hu)).trans hu
  have h2 : w1.cell? ⟨g, 0, none⟩ = some u := hgrow.cell h1 (fun e' => by have := (hrow.lt g e'.symm).1; omega)
  rw [World.cell?_setCell_other _ _ _ _ (fun e' => hne (by cases e'; rfl))]
  exact h2
theorem keep2_append {W w1 : World} {base B Bs Bc : Nat} {e : TypeId} {size n : Nat} {v u' : Value} {xs : List Value} {tmp : Obj} (hrow : W.ownsRow base e size v n xs) (hgrow : (W.alloc tmp).grownBy w1 v.ownBlock) (h1 : Bs < base) (h2 : Bc < base) (h3 : B ≠ Bs) (h4 : B ≠ Bc) :
    Keep2 Bs Bc W (w1.setCell ⟨B, 0, none⟩ u') :=
  ⟨fun _ hu => append_cell hrow hgrow h1 h3 hu, fun _ hu => append_cell hrow hgrow h2 h4 hu, by
    have := hgrow.size
    simp at this ⊢
    omega⟩
theorem one_pos (c : UInt8) : 0 < ({ data := #[c] } : ByteArray).size := Nat.zero_lt_one
theorem strInfo2 : (Tryd.prog.info? 9).map (fun i => (i.zero, i.size, i.bytes)) = some (some (.string ByteArray.empty), 1, 16) := by kernel_rfl
set_option maxRecDepth 100000 in
set_option maxHeartbeats 2000000 in
theorem splitString_in (F : Fence) (n : Nat) (h3 : F.fn 23) (h4 : F.fn 36) (h5 : F.fn 47) (hro : F.round = none) (hn : 3 ≤ n) (s : ByteArray) (c : UInt8) (hs : s.size ≤ 4000) (w : World) :
    CallsIn F n Tryd.prog 23 #[.string s, .string ⟨#[c]⟩] w fun e W' => ∃ v, e = .returned (.tuple #[v, .bool true]) ∧ W'.ownsRow w.heap.size 9 1 v (Parts s c).length ((Parts s c).map Value.string) ∧ Below w.heap.size w W' := by
  have h1 : 1 ≤ n := by omega
  have hd : decide (4000 < (s.size : Int)) = false := decide_eq_false (by omega)
  have hsep : ({ data := #[c] } : ByteArray).size = 1 := rfl
  obtain ⟨i0, hi, hz0, hz1, hz2⟩ := info_parts strInfo2
  refine callsIn_of_wp_marks Tryd.func23 rfl h3 ?_ hro
  simp only [Tryd.ntmps23, List.size_toArray, List.length_cons, List.length_nil, Nat.reduceAdd, Nat.reduceSub, Array.replicate_succ, Array.replicate_zero, List.push_toArray, List.append_toArray, List.nil_append, List.cons_append]
  gi_wp2_with (gi_at_call 36; refine (partsOf_in F (n - 1) h4 hro _ _ _).mono ?_; rintro e w' ⟨rfl, rfl⟩)
  generalize hq : ((({ data := #[c] } : ByteArray)[0]'(one_pos c)).toNat : Int) = cq
  have hcq : cq = c.toNat := hq.symm
  clear hq
  obtain ⟨wL, hwL⟩ : ∃ wL, ((w.alloc (.cells #[.slice none 0 0] 43)).alloc (.cells #[.string s] 9)).alloc (.cells #[.int .u8 cq] 5) = wL := ⟨_, rfl⟩
  have hz : wL.heap.size = w.heap.size + 3 := by rw [← hwL]; simp
  have hB0 : Below w.heap.size w wL := by
    rw [← hwL]
    exact (((Below.refl _ w).alloc (Nat.le_refl _) _).alloc (by simp) _).alloc (by simp; omega) _
  have bO : Boxed wL w.heap.size 43 (.slice none 0 0) := by
    rw [← hwL]
    exact ((Boxed.new w 43 (.slice none 0 0)).alloc _).alloc _
  have bS : Boxed wL (w.heap.size + 1) 9 (.string s) := by
    rw [← hwL]
    have := Boxed.new (w.alloc (.cells #[.slice none 0 0] 43)) 9 (.string s)
    rw [World.size_alloc] at this
    exact this.alloc _
  have bC : Boxed wL (w.heap.size + 1 + 1) 5 (.int .u8 c.toNat) := by
    rw [← hwL, ← hcq]
    have := Boxed.new ((w.alloc (.cells #[.slice none 0 0] 43)).alloc (.cells #[.string s] 9)) 5 (.int .u8 cq)
    rw [World.size_alloc, World.size_alloc] at this
    exact this
  rw [hwL]
  clear hcq hwL
  have hpl : (Parts s c).length ≤ 4001 := by have := cuts_le s c s.size; unfold Parts; rw [List.length_append]; simp; omega
  refine wpIn_rangeFunc_ownG hro h1 (gf := 47) (lb := #[.pointer (some ⟨w.heap.size + 1, 0, none⟩), .pointer (some ⟨w.heap.size + 1 + 1, 0, none⟩)]) rfl h5 (enters_of Tryd.func47 (by kernel_rfl) rfl)
    (parts_stops F (n - 1) h5 hro (by omega) (w.heap.size + 1) (w.heap.size + 1 + 1) s c (by omega) wL (by omega) (by omega) bS.cell bC.cell) keep2_t keep2_b (Below.refl _ _) (fun _ => rfl)
    (fun pre W => (∃ v, Boxed W w.heap.size 43 v ∧ W.ownsRow (w.heap.size + 3) 9 1 v pre.length (pre.map Value.string) ∧ True) ∧ Below w.heap.size wL W)
    (fun _ _ _ => False)
    (OwnFrom.and (Own.from (holdsRow_own (w.heap.size + 3) w.heap.size 43 9 1 (fun pre : List ByteArray => pre.length) (fun pre => pre.map Value.string) (fun _ _ => True)) _) (ownFrom_below hB0.size hB0.size))
    (fun _ _ _ _ _ hs _ _ => hs)
    ⟨⟨_, bO, World.ownsRow_nil _ _ _ _, trivial⟩, Below.refl _ _⟩
    (fun x => { tmps := #[.string s, .string { data := #[c] }, undef, undef, .slice none 0 0, .bool false, .pointer (some ⟨w.heap.size, 0, none⟩), .string x, .string s, .int .i64 s.size, .bool false, .bool false, .string { data := #[c] }, .int .i64 1, .bool false, .bool false, .string s, .string { data := #[c] }, .int .u8 cq,
      .func (.func 47) #[] #[.pointer (some ⟨w.heap.size + 1, 0, none⟩), .pointer (some ⟨w.heap.size + 1 + 1, 0, none⟩)], .string x, undef, undef, undef, undef, undef], defers := [] }) ?assign ?body ?done ?stop
  case assign =>
    intro l x W K hK
    gi_wp2
    exact hK
  case body =>
    rintro l pre x W ⟨⟨v, hv, hrow, _⟩, hB⟩ hlt
    have hc := hv.cell
    have hWz := hB.size
    gi_wp2_with (gi_at_builtin; go_must (refine wpListIn_append_own _ rfl _ _ 43 rfl (w.heap.size + 3) 9 i0 (.string ByteArray.empty) 1 16 Tryd.underlying43 hi hz0 hz1 hz2 rfl (by decide) _ _ _ rfl (hrow.alloc _) ⟨W.heap.size, 0, none⟩ 1 1 [.string x] rfl rfl (cell_one_new _ _ _) (by simp [Value.oneCell']) (by unfold maxLen; omega) (by omega) (by simp; omega) ?_); intro v' w1 hown' hgrow _; go_must (obtain ⟨g', cap', rfl⟩ := ownsRow_succ hown'; obtain ⟨hv1, hv2, hr2, hk2, hb2⟩ := hv.appended (by decide) (ownsRow_base hrow (Nat.le_add_right _ 3)) (by omega) (Nat.le_refl _) (ownsRow_base hown' (Nat.le_add_right _ 3)) hgrow; have hc1 := hv1.cell; have hf1 := hv1.frozen; have hr3 := hown'.kept (grownBy_setCell' w1 w.heap.size (.slice (some ⟨g', 0, none⟩) (pre.length + 1) cap')) (.inr (hv1.not_row (by decide) hown').symm)))
    have hkp : Keep2 (w.heap.size + 1) (w.heap.size + 1 + 1) W (w1.setCell ⟨w.heap.size, 0, none⟩ (.slice (some ⟨g', 0, none⟩) (pre.length + 1) cap')) := by
      exact keep2_append hrow hgrow (by omega) (by omega) (by omega) (by omega)
    exact ⟨hk2.from _, hkp, ⟨_, hv2, by simpa using hr3, trivial⟩, hB.trans hb2⟩
  case done =>
    rintro D ys W hD rfl ⟨⟨v, hv, hrow, _⟩, hB⟩ hK
    have hc := hv.cell
    gi_wp2
    refine ⟨by simp, .inl ⟨_, _, rfl, run_takeDeferred hK, ?_⟩⟩
    exact ⟨_, results_tmp2 rfl _ _ _, v, rfl, ownsRow_putObj (ownsRow_base hrow (Nat.le_add_right _ 3)) _ hK rfl, (hB0.trans hB).trans (belowK_b (w := w) (Nat.le_refl _) W D _ _ (by omega) hK rfl rfl)⟩
  case stop =>
    rintro D c pre W _ _ h _
    exact h.elim
end Go.Proofs.YtadpjkghfgnbbaaDoor.L1
