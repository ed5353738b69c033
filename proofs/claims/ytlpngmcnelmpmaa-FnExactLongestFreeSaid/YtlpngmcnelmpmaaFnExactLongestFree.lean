/- For every argument the law FnExactLongestFree returns true; no condition. -/
import Derived.Test.YtlpngmcnelmpmaaRows
import Derived.Test.YtlpngmcnelmpmaaFrame
import Derived.Test.YtlpngmcnelmpmaaRun3
namespace Go.Proofs.Ytlpngmcnelmpmaa.fnExactLongestFree
open Go.ChangeShapes Go.WideShapes Go.ChangeAt Go.RowKit
open Go.ChangeMaps (open_string shut_string)
open Go.Proofs.Ytlpngmcnelmpmaa.L1 Go.Proofs.Ytlpngmcnelmpmaa.Mem Go.Proofs.Ytlpngmcnelmpmaa.Own Go.Proofs.Ytlpngmcnelmpmaa.Fra
set_option linter.unusedVariables false
theorem own : ownKnob Try.prog.godebug = none := by kernel_rfl
theorem laidOut : laidOutB Try.prog = true := by kernel_rfl
set_option maxHeartbeats 4000000 in
theorem walk0 (W : World) (A : Option Addr) (n c : Nat) (zs : List Int) (hr : Reads W W.heap.size 1 A n (I zs)) (hm : n ≤ maxLen)  :
    Calls Try.prog 9 #[.slice A n c] W fun e W' => e = .returned (.bool true) ∧ Below W.heap.size W W' := by
  unfold maxLen at hm
  by_cases h1 : 1048576 < n
  · go_enter Try.func9, Try.ntmps9
    go_wp2_with fail
    go_ret
    exact ⟨rfl, Below.refl _ _⟩
  have hn : n ≤ 1048576 := by omega
  have hr0 := Lib.hid hr
  clear hr
  obtain ⟨x, m, ok, hx⟩ := longIs_ex zs
  have HS := Lib.hid fun (A' : Option Addr) (c' : Nat) (w : World) (hr' : Reads w w.heap.size 1 A' n (I zs)) (_ : A' = none → n = 0 ∧ c' = 0) => specLongestFree_any A' n c' zs x m ok hx hn w hr'
  have HI := Lib.hid fun (A' : Option Addr) (c' : Nat) (w : World) (hr' : Reads w w.heap.size 1 A' n (I zs)) (_ : A' = none → n = 0 ∧ c' = 0) => implLongestFree_any A' n c' zs x m ok hx hn w hr'
  clear hx
  have HT := Lib.hid fun (w : World) (hx : Reads w w.heap.size 1 A n (I zs)) (hB : w.heap.size ≤ w.heap.size) => toIntS_any A n c w.heap.size zs w hx hB hn
  have HE := Lib.hid eq_step
  have hW0 : Hid (Below W.heap.size W W) := Lib.hid (Below.refl _ _)
  go_enter Try.func9, Try.ntmps9
  go_wp2_with fail
  refine (HT.out _ ((hr0.out.below hW0.out).more hW0.out.size) (Nat.le_refl _)).mono ?_
  rintro e u1 ⟨g_t0, rfl, h_t0, hb⟩
  have hW1 := Lib.hid (hW0.out.trans (hb.mono hW0.out.size))
  clear hb
  have o_t0 := Lib.hid (own_mono h_t0 hW0.out.size)
  clear h_t0
  go_wp2_with fail
  have p_t0 := o_t0.out
  refine (HS.out _ _ _ (own_reads o_t0.out) (own_cap o_t0.out)).mono ?_
  rintro e u2 ⟨rfl, hb⟩
  clear p_t0
  have hW2 := Lib.hid (hW1.out.trans (hb.mono hW1.out.size))
  replace o_t0 := Lib.hid (own_below o_t0.out hb)
  clear hb
  clear o_t0
  go_wp2_with fail
  refine (HT.out _ ((hr0.out.below hW2.out).more hW2.out.size) (Nat.le_refl _)).mono ?_
  rintro e u3 ⟨g_x0, rfl, h_x0, hb⟩
  have hW3 := Lib.hid (hW2.out.trans (hb.mono hW2.out.size))
  clear hb
  have o_x0 := Lib.hid (own_mono h_x0 hW2.out.size)
  clear h_x0
  go_wp2_with fail
  have p_x0 := o_x0.out
  refine (HI.out _ _ _ (own_reads o_x0.out) (own_cap o_x0.out)).mono ?_
  rintro e u4 ⟨rfl, hb⟩
  clear p_x0
  have hW4 := Lib.hid (hW3.out.trans (hb.mono hW3.out.size))
  replace o_x0 := Lib.hid (own_below o_x0.out hb)
  clear hb
  go_wp2_with fail
  have p_x0 := o_x0.out
  refine (HT.out _ ((hr0.out.below hW4.out).more hW4.out.size) (Nat.le_refl _)).mono ?_
  rintro e u5 ⟨g_t1, rfl, h_t1, hb⟩
  have a_x0_t1 := apart_new p_x0 h_t1
  clear p_x0
  have hW5 := Lib.hid (hW4.out.trans (hb.mono hW4.out.size))
  replace o_x0 := Lib.hid (own_below o_x0.out hb)
  clear hb
  have o_t1 := Lib.hid (own_mono h_t1 hW4.out.size)
  clear h_t1
  go_wp2_with fail
  refine (HE.out _ _ _ _ _ _ _ hn (own_reads o_x0.out) (own_reads o_t1.out)).mono ?_
  rintro e u6 ⟨rfl, hb⟩
  have hW6 := Lib.hid (hW5.out.trans (hb.mono hW5.out.size))
  replace o_x0 := Lib.hid (own_below o_x0.out hb)
  replace o_t1 := Lib.hid (own_below o_t1.out hb)
  clear hb
  clear o_t1
  clear a_x0_t1
  go_wp2_with fail
  go_ret
  exact ⟨rfl, hW6.out⟩

/-- the law's Go text returns true, and nothing that was there has turned -/
theorem walk {H : Type} {enc : TypeId × Value → H} (W : World) (base : Nat) (v0 : Value) (d0 : DataW H) (p0 : List MemPlace) (q0 : Value.okWide Try.prog W .any base 24 v0) (h0 : DataW.Trod enc Try.prog W 0 (fun _ => true) true 24 v0 d0 p0) (l0 : ∀ x ∈ p0, x.block < W.heap.size) (hL : laidMetH Try.prog Rows.fnExactLongestFreeRow.laid W) (hsh : W.ShapedOpen Try.prog) :
    Calls Try.prog 9 #[v0] W fun e W' => e = .returned (.bool true) ∧ Below W.heap.size W W' := by
  obtain ⟨A, n, c, zs, rfl, hnc, hcm, _, _, hr⟩ := open_nums Try.underlying24 Try.underlying3 (by kernel_rfl) q0 h0
  exact walk0 W A n c zs hr (Nat.le_trans hnc hcm) 
theorem laid_met (os : Os) : laidMetH Try.prog Rows.fnExactLongestFreeRow.laid ((World.holding Try.prog os ⟨#[], #[], []⟩).forCall (fun _ _ => 0) ⟨#[], #[(.slice none 0 0 : Value)], []⟩).memory := ⟨[], rfl, List.nodup_nil, fun _ _ h => by cases h⟩
theorem reads (os : Os) {H : Type} (enc : TypeId × Value → H) : (DataW.whole enc Try.prog ((World.holding Try.prog os ⟨#[], #[], []⟩).forCall (fun _ _ => 0) ⟨#[], #[(.slice none 0 0 : Value)], []⟩).memory Try.f9.params.toList Rows.fnExactLongestFreeSpec.vars false #[(.slice none 0 0 : Value)].toList 8).isSome = true := by kernel_rfl
set_option maxRecDepth 100000 in
theorem lifted (os : Os) (started : os.Started) (H : Type) (enc : TypeId × Value → H) (F : Stop.Interp) :
    ReturnsInHanded {} Try.checked os 9 .any ((OpenSpec.ofChange Rows.fnExactLongestFreeSpec).preRow enc Try.prog Try.f9 Rows.fnExactLongestFreeRow.domain false Rows.fnExactLongestFreeRow.laid) (((OpenSpec.ofChange Rows.fnExactLongestFreeSpec).at F).post enc Try.prog Try.f9 false true false false) := by
  obtain ⟨x, hx⟩ := Option.isSome_iff_exists.1 (reads os enc)
  refine returnsInHanded_of_row (C := Try.checked) (s := OpenSpec.ofChange Rows.fnExactLongestFreeSpec) own started (by kernel_rfl) Try.func9
    (witness_row_at (enc := enc) (C := Try.checked) false (World.holding Try.prog os ⟨#[], #[], []⟩) #[(.slice none 0 0 : Value)] rfl (by kernel_rfl) (by kernel_rfl) (by kernel_rfl)
      (OpenSpec.preRow_of_cond 8 hx (by rfl) (fun k hk => by cases hk) (by kernel_rfl) (laid_met os))) ?_
  intro W base args ds gs before hval0 hW _ hcond hsz hL hsh _
  have hval : ∀ (j : Nat) t v, Try.f9.params[j]? = some t → args[j]? = some v → Value.okWide Try.prog W .any base t v := hval0
  have hW' := hW
  obtain ⟨p, q, hA0, hV, rfl, hfz, hnd⟩ := hW
  have hA : DataW.TrodAll enc Try.prog W 0 (fun _ => true) true Try.f9.params.toList args.toList ds p := hA0
  rw [Try.params9] at hA hval
  obtain ⟨v0, vs0, d0, ds0, p0, q0, hargs, rfl, rfl, h0, r0⟩ := trodAll_cons hA
  obtain ⟨rfl, rfl, rfl⟩ := trodAll_nil r0
  obtain rfl : args = #[v0] := by cases args; simp_all
  obtain ⟨rfl, rfl⟩ := trodVars_none hV
  clear hA0 hval0
  simp only [List.append_nil] at hW'
  refine (walk (enc := enc) W base v0 d0 p0 (hval 0 24 v0 rfl rfl) h0 (fun x hx => hW'.lt x (by simp [hx])) hL hsh).mono fun e W' ⟨he, hb⟩ => ⟨_, he, Fr.post_true laidOut (by kernel_rfl) (by kernel_rfl) Try.underlying4 rfl hW' (fun xs hx => by match xs, hx with | [x0], _ => rfl) hb⟩
theorem said : Rows.FnExactLongestFreeSaid :=
  OpenClaim.holds_of_cond 9 Try.f9 rfl rfl rfl rfl rfl rfl rfl ⟨rfl, rfl, rfl, rfl, rfl⟩ rfl rfl rfl rfl rfl (by kernel_rfl) Try.func9 (by kernel_rfl)
    (of_decide_eq_true (by kernel_rfl)) (by unfold Func.isWrapper; first | (rw [if_pos (by decide +kernel)]; kernel_rfl) | (rw [if_neg (by decide +kernel)]; exact ⟨rfl, rfl⟩))
    (fun os started H enc _ F => by rw [OpenClaim.pre_eq_preRow]; exact lifted os started H enc F)
#print axioms said
end Go.Proofs.Ytlpngmcnelmpmaa.fnExactLongestFree
