/- For every argument the law FnExactSlotsText returns true; the listed variables read as the program's text lays them (the card ties them). -/
import Derived.Test.YtadpjkghfgnbbaaDoorCards
import Derived.Test.YtadpjkghfgnbbaaDoorTie
import Derived.Test.YtadpjkghfgnbbaaDoorFrame
import Derived.Test.YtadpjkghfgnbbaaDoorSlTz
import Derived.Test.YtadpjkghfgnbbaaDoorSltM
import Derived.Test.YtadpjkghfgnbbaaDoorSltH
import Derived.Test.YtadpjkghfgnbbaaDoorSltP
import Derived.Deep.RegionHeld3
import Derived.Deep.Cut
import Derived.Deep.CutRange
namespace Go.Proofs.YtadpjkghfgnbbaaDoor.fnExactSlotsText
open Go.ChangeShapes Go.WideShapes Go.ChangeAt Go.RowKit
open Go.ChangeMaps (open_string shut_string)
open Go Go.Proofs.YtadpjkghfgnbbaaDoor.L8 Go.Proofs.YtadpjkghfgnbbaaDoor.Mem Go.Proofs.YtadpjkghfgnbbaaDoor.Own
set_option linter.unusedVariables false
theorem own : ownKnob Tryd.prog.godebug = none := by kernel_rfl
theorem laidOut : laidOutB Tryd.prog = true := by kernel_rfl
theorem tab {W : World} (h : laidMetH Tryd.prog Rows.fnExactSlotsTextRow.laid W) : TbIs W := tbIs_of_mem h (.tail _ (.tail _ (.head _)))
set_option maxRecDepth 100000 in
set_option maxHeartbeats 20000000 in
theorem big0 (W : World) (A0 : Option Addr) (n0 c0 : Nat) (xs0 : List Slt) (hr0 : Reads W W.heap.size 3 A0 n0 (FL xs0)) (hx0 : n0 ≤ maxLen) (hy0 : 1048576 < n0) :
    Calls Tryd.prog 3 #[.slice A0 n0 c0] W fun e W' => e = .returned (.bool true) ∧ Below W.heap.size W W' := by
  unfold maxLen at hx0
  have hW0 : Hid (Below W.heap.size W W) := Lib.hid (Below.refl _ _)
  replace hr0 := Lib.hid hr0
  go_enter Tryd.func3, Tryd.ntmps3
  go_wp2_with fail
  refine (szSlotS_no A0 n0 c0 (1048576) (by omega) (by omega) _ (by omega) (by omega)).mono ?_
  rintro e w0 ⟨rfl, hw⟩
  subst hw
  go_wp2_with fail
  go_ret
  exact ⟨rfl, hW0.out⟩
set_option maxRecDepth 100000 in
set_option maxHeartbeats 20000000 in
theorem walk0 (W : World) (A0 : Option Addr) (n0 c0 : Nat) (xs0 : List Slt) (hr0 : Reads W W.heap.size 3 A0 n0 (FL xs0)) (hx0 : n0 ≤ maxLen) (hy0 : n0 ≤ 1048576) (ho : TbIs W) :
    Calls Tryd.prog 3 #[.slice A0 n0 c0] W fun e W' => e = .returned (.bool true) ∧ Below W.heap.size W W' := by
  unfold maxLen at hx0
  have hn0 : n0 ≤ 1048576 := by omega
  have HO := Lib.hid ho
  clear ho
  obtain ⟨r, hr_⟩ : ∃ r, stAns xs0 = r := ⟨_, rfl⟩
  obtain ⟨s, b⟩ := r
  have HS := fun (A5 : Option Addr) (w : World) (hx : Reads w w.heap.size 3 A5 n0 (FL xs0)) => specText_any A5 n0 n0 xs0 w hx hn0 s b hr_
  have HI := fun (A5 : Option Addr) (w : World) (hx : Reads w w.heap.size 3 A5 n0 (FL xs0)) (ho : TbIs w) => implText_any A5 n0 n0 xs0 w hx (Nat.le_refl _) ho s b hr_
  replace HS := Lib.hid HS
  replace HI := Lib.hid HI
  clear hr_
  replace hr0 := Lib.hid hr0
  have hW0 : Hid (Below W.heap.size W W) := Lib.hid (Below.refl _ _)
  go_enter Tryd.func3, Tryd.ntmps3
  go_wp2_with fail
  refine (szSlotS_yes A0 n0 c0 (1048576) (by omega) _ (by omega)).mono ?_
  rintro e w0 ⟨rfl, hw⟩
  subst hw
  go_wp2_with fail
  refine (toSlotS_any A0 n0 c0 _ xs0 _ ((hr0.out.below hW0.out).more hW0.out.size) (Nat.le_refl _) hn0).mono ?_
  rintro e u1 ⟨g_t0, rfl, h_t0, hb⟩
  have hW1 := Lib.hid (below_then hW0.out hb)
  have sz1 := Lib.hid hb.size
  clear hb hW0
  have o_t0 : Hid (Row u1 W.heap.size u1.heap.size 37 3 (.slice (some ⟨g_t0, 0, none⟩) n0 n0) n0 (FL xs0)) := Lib.hid (by first | exact h_t0 | exact Row.of h_t0)
  clear h_t0
  go_wp2_with fail
  refine (HS.out _ _ o_t0.out.reads).mono ?_
  rintro e u2 ⟨rfl, hb⟩
  have hW2 := Lib.hid (below_then hW1.out hb)
  replace o_t0 := Lib.hid (o_t0.out.below hb)
  have sz2 := Lib.hid hb.size
  clear hb hW1
  clear o_t0
  go_wp2_with fail
  refine (toSlotS_any A0 n0 c0 _ xs0 _ ((hr0.out.below hW2.out).more hW2.out.size) (Nat.le_refl _) hn0).mono ?_
  rintro e u3 ⟨g_x0, rfl, h_x0, hb⟩
  have hW3 := Lib.hid (below_then hW2.out hb)
  have sz3 := Lib.hid hb.size
  clear hb hW2
  have o_x0 : Hid (Row u3 u2.heap.size u3.heap.size 37 3 (.slice (some ⟨g_x0, 0, none⟩) n0 n0) n0 (FL xs0)) := Lib.hid (by first | exact h_x0 | exact Row.of h_x0)
  clear h_x0
  go_wp2_with fail
  refine (HI.out _ _ o_x0.out.reads (tb_below hW3.out HO.out)).mono ?_
  rintro e u4 ⟨rfl, hb⟩
  have hW4 := Lib.hid (below_then hW3.out hb)
  replace o_x0 := Lib.hid (o_x0.out.below hb)
  have sz4 := Lib.hid hb.size
  clear hb hW3
  go_wp2_with fail
  refine (toSlotS_any A0 n0 c0 _ xs0 _ ((hr0.out.below hW4.out).more hW4.out.size) (Nat.le_refl _) hn0).mono ?_
  rintro e u5 ⟨g_y0, rfl, h_y0, hb⟩
  have hW5 := Lib.hid (below_then hW4.out hb)
  replace o_x0 := Lib.hid (o_x0.out.below hb)
  have sz5 := Lib.hid hb.size
  clear hb hW4
  have o_y0 : Hid (Row u5 u4.heap.size u5.heap.size 37 3 (.slice (some ⟨g_y0, 0, none⟩) n0 n0) n0 (FL xs0)) := Lib.hid (by first | exact h_y0 | exact Row.of h_y0)
  clear h_y0
  go_wp2_with fail
  refine (eqSlotS_step _ _ _ _ _ xs0 _ hn0 o_x0.out.reads o_y0.out.reads).mono ?_
  rintro e u6 ⟨rfl, hb⟩
  have hW6 := Lib.hid (below_then hW5.out hb)
  replace o_x0 := Lib.hid (o_x0.out.below hb)
  replace o_y0 := Lib.hid (o_y0.out.below hb)
  have sz6 := Lib.hid hb.size
  clear hb hW5
  clear o_y0
  go_wp2_with fail
  go_ret
  exact ⟨rfl, hW6.out⟩

set_option maxHeartbeats 4000000 in
set_option maxRecDepth 100000 in
/-- the law's Go text returns true, and nothing that was there has turned -/
theorem walk {H : Type} {enc : TypeId × Value → H} (W : World) (base : Nat) (v0 : Value) (d0 : DataW H) (p0 : List MemPlace) (q0 : Value.okWide Tryd.prog W .any base 22 v0) (h0 : DataW.Trod enc Tryd.prog W 0 (fun _ => true) true 22 v0 d0 p0) (l0 : ∀ x ∈ p0, x.block < W.heap.size) (hL : laidMetH Tryd.prog Rows.fnExactSlotsTextRow.laid W) (hsh : W.ShapedOpen Tryd.prog) :
    Calls Tryd.prog 3 #[v0] W fun e W' => e = .returned (.bool true) ∧ Below W.heap.size W W' := by
  obtain ⟨A0, n0, c0, xs0, rfl, hx0, hr0⟩ := open_slts q0 h0
  by_cases hy0 : 1048576 < n0
  · exact big0 W A0 n0 c0 xs0 hr0 hx0  hy0
  exact walk0 W A0 n0 c0 xs0 hr0 hx0 (by omega) (tab hL)
noncomputable def laidWorld (os : Os) : World := { World.holding Tryd.prog os ⟨#[], #[], []⟩ with heap := ((((World.holding Tryd.prog os ⟨#[], #[], []⟩).heap).modify 4 (Fr.lay #[.int .u8 0, .int .u8 1, .int .u8 28, .int .u8 2, .int .u8 29, .int .u8 14, .int .u8 24, .int .u8 3, .int .u8 30, .int .u8 22, .int .u8 20, .int .u8 15, .int .u8 25, .int .u8 17, .int .u8 4, .int .u8 8, .int .u8 31, .int .u8 27, .int .u8 13, .int .u8 23, .int .u8 21, .int .u8 19, .int .u8 16, .int .u8 7, .int .u8 26, .int .u8 12, .int .u8 18, .int .u8 6, .int .u8 11, .int .u8 5, .int .u8 10, .int .u8 9])).modify 5 (Fr.lay #[.int .u8 0, .int .u8 1, .int .u8 56, .int .u8 2, .int .u8 57, .int .u8 49, .int .u8 28, .int .u8 3, .int .u8 61, .int .u8 58, .int .u8 42, .int .u8 50, .int .u8 38, .int .u8 29, .int .u8 17, .int .u8 4, .int .u8 62, .int .u8 47, .int .u8 59, .int .u8 36, .int .u8 45, .int .u8 43, .int .u8 51, .int .u8 22, .int .u8 53, .int .u8 39, .int .u8 33, .int .u8 30, .int .u8 24, .int .u8 18, .int .u8 12, .int .u8 5, .int .u8 63, .int .u8 55, .int .u8 48, .int .u8 27, .int .u8 60, .int .u8 41, .int .u8 37, .int .u8 16, .int .u8 46, .int .u8 35, .int .u8 44, .int .u8 21, .int .u8 52, .int .u8 32, .int .u8 23, .int .u8 11, .int .u8 54, .int .u8 26, .int .u8 40, .int .u8 15, .int .u8 34, .int .u8 20, .int .u8 31, .int .u8 10, .int .u8 25, .int .u8 14, .int .u8 19, .int .u8 9, .int .u8 13, .int .u8 8, .int .u8 7, .int .u8 6])).modify 3 (Fr.lay #[.int .u64 1, .int .u64 10, .int .u64 100, .int .u64 1000, .int .u64 10000, .int .u64 100000, .int .u64 1000000, .int .u64 10000000, .int .u64 100000000, .int .u64 1000000000, .int .u64 10000000000, .int .u64 100000000000, .int .u64 1000000000000, .int .u64 10000000000000, .int .u64 100000000000000, .int .u64 1000000000000000, .int .u64 10000000000000000, .int .u64 100000000000000000, .int .u64 1000000000000000000, .int .u64 10000000000000000000]) }
theorem laid_met (os : Os) : laidMetH Tryd.prog Rows.fnExactSlotsTextRow.laid ((laidWorld os).forCall (fun _ _ => 0) ⟨#[], #[(.slice none 0 0 : Value)], []⟩).memory := laidMet_of_run' 8 (by kernel_rfl) (by kernel_rfl)
theorem reads (os : Os) {H : Type} (enc : TypeId × Value → H) : (DataW.whole enc Tryd.prog ((laidWorld os).forCall (fun _ _ => 0) ⟨#[], #[(.slice none 0 0 : Value)], []⟩).memory Tryd.f3.params.toList Rows.fnExactSlotsTextSpec.vars false #[(.slice none 0 0 : Value)].toList 8).isSome = true := by kernel_rfl
set_option maxRecDepth 100000 in
theorem lifted (os : Os) (started : os.Started) (H : Type) (enc : TypeId × Value → H) (F : Stop.Interp) :
    ReturnsInHanded {} Tryd.checked os 3 .any ((OpenSpec.ofChange Rows.fnExactSlotsTextSpec).preRow enc Tryd.prog Tryd.f3 Rows.fnExactSlotsTextRow.domain false Rows.fnExactSlotsTextRow.laid) (((OpenSpec.ofChange Rows.fnExactSlotsTextSpec).at F).post enc Tryd.prog Tryd.f3 false true false false) := by
  obtain ⟨x, hx⟩ := Option.isSome_iff_exists.1 (reads os enc)
  refine returnsInHanded_of_row (C := Tryd.checked) (s := OpenSpec.ofChange Rows.fnExactSlotsTextSpec) own started (by kernel_rfl) Tryd.func3
    (witness_row_at (enc := enc) (C := Tryd.checked) false (laidWorld os) #[(.slice none 0 0 : Value)] rfl (by kernel_rfl) (by kernel_rfl) (by kernel_rfl)
      (OpenSpec.preRow_of_cond 8 hx (by rfl) (fun k hk => by cases hk) (by kernel_rfl) (laid_met os))) ?_
  intro W base args ds gs before hval0 hW _ hcond hsz hL hsh _
  have hval : ∀ (j : Nat) t v, Tryd.f3.params[j]? = some t → args[j]? = some v → Value.okWide Tryd.prog W .any base t v := hval0
  have hW' := hW
  obtain ⟨p, q, hA0, hV, rfl, hfz, hnd⟩ := hW
  have hA : DataW.TrodAll enc Tryd.prog W 0 (fun _ => true) true Tryd.f3.params.toList args.toList ds p := hA0
  rw [Tryd.params3] at hA hval
  obtain ⟨v0, vs0, d0, ds0, p0, q0, hargs, rfl, rfl, h0, r0⟩ := trodAll_cons hA
  obtain ⟨rfl, rfl, rfl⟩ := trodAll_nil r0
  obtain rfl : args = #[v0] := by cases args; simp_all
  obtain ⟨rfl, rfl⟩ := trodVars_none hV
  clear hA0 hval0
  simp only [List.append_nil] at hW'
  refine (walk (enc := enc) W base v0 d0 p0 (hval 0 22 v0 rfl rfl) h0 (fun x hx => hW'.lt x (by simp [hx])) hL hsh).mono fun e W' ⟨he, hb⟩ => ⟨_, he, Fr.post_true laidOut (by kernel_rfl) (by kernel_rfl) Tryd.underlying4 rfl hW' (fun xs hx => by match xs, hx with | [x0], _ => rfl) hb⟩
theorem said : Rows.FnExactSlotsTextSaid :=
  OpenClaim.holds_of_cond 3 Tryd.f3 rfl rfl rfl rfl rfl rfl rfl ⟨rfl, rfl, rfl, rfl, rfl⟩ rfl rfl rfl rfl rfl (by kernel_rfl) Tryd.func3 (by kernel_rfl)
    (of_decide_eq_true (by kernel_rfl)) (by unfold Func.isWrapper; first | (rw [if_pos (by decide +kernel)]; kernel_rfl) | (rw [if_neg (by decide +kernel)]; exact ⟨rfl, rfl⟩))
    (fun os started H enc _ F => by rw [OpenClaim.pre_eq_preRow]; exact lifted os started H enc F)
theorem plain (f : FuncId) (fn : Func) (hf : Tryd.pinned.checked.prog.funcNamed "loop.example/g00843/laws.FnExactSlotsText" = some f) (hfn : Tryd.pinned.checked.prog.funcs[f]? = some fn) :
    true = Tryd.pinned.checked.prog.looks [] ∧ ∀ (j : Nat) t, fn.params[j]? = some t → Tryd.pinned.checked.prog.wantsStandIn t = false := by
  obtain rfl : f = 3 := Option.some.inj ((show Tryd.prog.funcNamed "loop.example/g00843/laws.FnExactSlotsText" = some 3 by kernel_rfl).symm.trans hf) |>.symm
  obtain rfl : fn = Tryd.f3 := (Option.some.inj (Tryd.func3.symm.trans hfn)).symm
  refine ⟨by kernel_rfl, fun j t ht => ?_⟩
  have hall : Tryd.f3.params.toList.all (fun t => !Tryd.prog.wantsStandIn t) = true := by kernel_rfl
  have := List.all_eq_true.1 hall t (by simpa using Array.mem_of_getElem? ht)
  show Tryd.prog.wantsStandIn t = false
  simpa using this
theorem card : Rows.FnExactSlotsTextCardSaid :=
  Claim7.holds_tied_plain_at .later [] _ _ _ _ said (fun _ h => by cases h) (by kernel_rfl) (fun _ h => by cases h) fnExactSlotsText_row_tie rfl ⟨rfl, rfl⟩ (by kernel_rfl) rfl plain (by kernel_rfl)
#print axioms card
end Go.Proofs.YtadpjkghfgnbbaaDoor.fnExactSlotsText
