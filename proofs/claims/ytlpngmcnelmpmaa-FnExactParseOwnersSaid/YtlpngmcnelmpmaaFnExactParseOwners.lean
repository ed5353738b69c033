/- For every argument the law FnExactParseOwners returns true; no condition. -/
import Derived.Test.YtlpngmcnelmpmaaRows
import Derived.Test.YtlpngmcnelmpmaaFrame
import Derived.Test.YtlpngmcnelmpmaaFr8
namespace Go.Proofs.Ytlpngmcnelmpmaa.fnExactParseOwners
open Go.ChangeShapes Go.WideShapes Go.ChangeAt Go.RowKit
open Go.ChangeMaps (open_string shut_string)
open Go.Proofs.Ytlpngmcnelmpmaa.L1 Go.Proofs.Ytlpngmcnelmpmaa.Mem Go.Proofs.Ytlpngmcnelmpmaa.Own Go.Proofs.Ytlpngmcnelmpmaa.Fra
set_option linter.unusedVariables false
theorem own : ownKnob Try.prog.godebug = none := by kernel_rfl
theorem laidOut : laidOutB Try.prog = true := by kernel_rfl
set_option maxHeartbeats 4000000 in
theorem walk0 (W : World) (s0 : ByteArray) (w0 : s0.size ≤ maxLen)  :
    Calls Try.prog 13 #[.string s0] W fun e W' => e = .returned (.bool true) ∧ Below W.heap.size W W' := by
  unfold maxLen at w0
  by_cases h1 : 1048576 < s0.size
  · go_enter Try.func13, Try.ntmps13
    go_wp2_with fail
    go_ret
    exact ⟨rfl, Below.refl _ _⟩
  have hs : s0.size ≤ 1048576 := by omega
  obtain ⟨x0, b, hx, hm0⟩ := parseIs_ex s0
  have HS := Lib.hid fun (w : World) => specParseOwners_any s0 x0 b hx hs w
  have HI := Lib.hid fun (w : World) => implParseOwners_any s0 x0 b hx hs w
  unfold Row1 at HS HI
  obtain ⟨m0, hm⟩ : ∃ m, x0.length = m := ⟨_, rfl⟩
  rw [hm] at HS HI hm0
  replace hm0 : m0 ≤ 1048576 := by omega
  clear hx hm
  have HE := Lib.hid eq_step
  have hW0 : Hid (Below W.heap.size W W) := Lib.hid (Below.refl _ _)
  have HM := Lib.hid mark_step
  have HH := Lib.hid held_step
  go_enter Try.func13, Try.ntmps13
  go_wp2_with fail
  refine (HS.out _).mono ?_
  rintro e u1 ⟨A_w0, c_w0, rfl, h_w0, hb⟩
  have hW1 := Lib.hid (hW0.out.trans (hb.mono hW0.out.size))
  clear hb
  have o_w0 := Lib.hid (own_mono h_w0 hW0.out.size)
  clear h_w0
  go_wp2_with fail
  have p_w0 := o_w0.out
  refine (HI.out _).mono ?_
  rintro e u2 ⟨A_g0, c_g0, rfl, h_g0, hb⟩
  have a_w0_g0 := apart_new p_w0 h_g0
  clear p_w0
  have hW2 := Lib.hid (hW1.out.trans (hb.mono hW1.out.size))
  replace o_w0 := Lib.hid (own_below o_w0.out hb)
  clear hb
  have o_g0 := Lib.hid (own_mono h_g0 hW1.out.size)
  clear h_g0
  go_wp2_with fail
  refine (HE.out _ _ _ _ _ _ _ hm0 (own_reads o_g0.out) (own_reads o_w0.out)).mono ?_
  rintro e u3 ⟨rfl, hb⟩
  have hW3 := Lib.hid (hW2.out.trans (hb.mono hW2.out.size))
  replace o_w0 := Lib.hid (own_below o_w0.out hb)
  replace o_g0 := Lib.hid (own_below o_g0.out hb)
  clear hb
  go_wp2_with fail
  refine (HM.out _ _ _ _ (1) (1) (by first | rfl | (push_cast; omega)) _ _ hm0 (by omega) o_g0.out).mono ?_
  rintro e u4 ⟨rfl, h_g0, hg⟩
  have hW4 := Lib.hid (hW3.out.grown hg hW3.out.size (fun q hq => (o_g0.out.lt q hq).1))
  replace o_w0 := Lib.hid (own_apart o_w0.out hg (a_w0_g0).symm)
  clear hg
  replace o_g0 := Lib.hid h_g0
  clear h_g0
  go_wp2_with fail
  refine (HH.out _ _ _ (1) (1) (by first | rfl | (push_cast; omega)) _ hm0 (by omega) (own_reads o_g0.out)).mono ?_
  rintro e u5 ⟨rfl, hb⟩
  have hW5 := Lib.hid (hW4.out.trans (hb.mono hW4.out.size))
  replace o_w0 := Lib.hid (own_below o_w0.out hb)
  replace o_g0 := Lib.hid (own_below o_g0.out hb)
  clear hb
  go_wp2_with fail
  have p_w0 := o_w0.out
  have p_g0 := o_g0.out
  refine (HI.out _).mono ?_
  rintro e u6 ⟨A_h0, c_h0, rfl, h_h0, hb⟩
  have a_w0_h0 := apart_new p_w0 h_h0
  have a_g0_h0 := apart_new p_g0 h_h0
  clear p_w0 p_g0
  have hW6 := Lib.hid (hW5.out.trans (hb.mono hW5.out.size))
  replace o_w0 := Lib.hid (own_below o_w0.out hb)
  replace o_g0 := Lib.hid (own_below o_g0.out hb)
  clear hb
  have o_h0 := Lib.hid (own_mono h_h0 hW5.out.size)
  clear h_h0
  go_wp2_with fail
  refine (HE.out _ _ _ _ _ _ _ hm0 (own_reads o_h0.out) (own_reads o_w0.out)).mono ?_
  rintro e u7 ⟨rfl, hb⟩
  have hW7 := Lib.hid (hW6.out.trans (hb.mono hW6.out.size))
  replace o_w0 := Lib.hid (own_below o_w0.out hb)
  replace o_g0 := Lib.hid (own_below o_g0.out hb)
  replace o_h0 := Lib.hid (own_below o_h0.out hb)
  clear hb
  go_wp2_with fail
  refine (HH.out _ _ _ (1) (1) (by first | rfl | (push_cast; omega)) _ hm0 (by omega) (own_reads o_g0.out)).mono ?_
  rintro e u8 ⟨rfl, hb⟩
  have hW8 := Lib.hid (hW7.out.trans (hb.mono hW7.out.size))
  replace o_w0 := Lib.hid (own_below o_w0.out hb)
  replace o_g0 := Lib.hid (own_below o_g0.out hb)
  replace o_h0 := Lib.hid (own_below o_h0.out hb)
  clear hb
  go_wp2_with fail
  go_ret
  exact ⟨rfl, hW8.out⟩

/-- the law's Go text returns true, and nothing that was there has turned -/
theorem walk {H : Type} {enc : TypeId × Value → H} (W : World) (base : Nat) (s0 : ByteArray) (w0 : s0.size ≤ maxLen) (hL : laidMetH Try.prog Rows.fnExactParseOwnersRow.laid W) (hsh : W.ShapedOpen Try.prog) :
    Calls Try.prog 13 #[.string s0] W fun e W' => e = .returned (.bool true) ∧ Below W.heap.size W W' := by
  exact walk0 W s0 w0 
theorem laid_met (os : Os) : laidMetH Try.prog Rows.fnExactParseOwnersRow.laid ((World.holding Try.prog os ⟨#[], #[], []⟩).forCall (fun _ _ => 0) ⟨#[], #[(.string ByteArray.empty : Value)], []⟩).memory := ⟨[], rfl, List.nodup_nil, fun _ _ h => by cases h⟩
theorem reads (os : Os) {H : Type} (enc : TypeId × Value → H) : (DataW.whole enc Try.prog ((World.holding Try.prog os ⟨#[], #[], []⟩).forCall (fun _ _ => 0) ⟨#[], #[(.string ByteArray.empty : Value)], []⟩).memory Try.f13.params.toList Rows.fnExactParseOwnersSpec.vars false #[(.string ByteArray.empty : Value)].toList 8).isSome = true := by kernel_rfl
set_option maxRecDepth 100000 in
theorem lifted (os : Os) (started : os.Started) (H : Type) (enc : TypeId × Value → H) (F : Stop.Interp) :
    ReturnsInHanded {} Try.checked os 13 .any ((OpenSpec.ofChange Rows.fnExactParseOwnersSpec).preRow enc Try.prog Try.f13 Rows.fnExactParseOwnersRow.domain false Rows.fnExactParseOwnersRow.laid) (((OpenSpec.ofChange Rows.fnExactParseOwnersSpec).at F).post enc Try.prog Try.f13 false true false false) := by
  obtain ⟨x, hx⟩ := Option.isSome_iff_exists.1 (reads os enc)
  refine returnsInHanded_of_row (C := Try.checked) (s := OpenSpec.ofChange Rows.fnExactParseOwnersSpec) own started (by kernel_rfl) Try.func13
    (witness_row_at (enc := enc) (C := Try.checked) false (World.holding Try.prog os ⟨#[], #[], []⟩) #[(.string ByteArray.empty : Value)] rfl (by kernel_rfl) (by kernel_rfl) (by kernel_rfl)
      (OpenSpec.preRow_of_cond 8 hx (by rfl) (fun k hk => by cases hk) (by kernel_rfl) (laid_met os))) ?_
  intro W base args ds gs before hval0 hW _ hcond hsz hL hsh _
  have hval : ∀ (j : Nat) t v, Try.f13.params[j]? = some t → args[j]? = some v → Value.okWide Try.prog W .any base t v := hval0
  have hW' := hW
  obtain ⟨p, q, hA0, hV, rfl, hfz, hnd⟩ := hW
  have hA : DataW.TrodAll enc Try.prog W 0 (fun _ => true) true Try.f13.params.toList args.toList ds p := hA0
  rw [Try.params13] at hA hval
  obtain ⟨v0, vs0, d0, ds0, p0, q0, hargs, rfl, rfl, h0, r0⟩ := trodAll_cons hA
  obtain ⟨rfl, rfl, rfl⟩ := trodAll_nil r0
  obtain rfl : args = #[v0] := by cases args; simp_all
  obtain ⟨rfl, rfl⟩ := trodVars_none hV
  obtain ⟨s0, rfl, rfl, rfl, w0⟩ := open_string Try.underlying9 (hval 0 9 v0 rfl rfl) h0
  clear hA0 hval0
  simp only [List.append_nil] at hW'
  refine (walk (enc := enc) W base s0 w0 hL hsh).mono fun e W' ⟨he, hb⟩ => ⟨_, he, Fr.post_true laidOut (by kernel_rfl) (by kernel_rfl) Try.underlying4 rfl hW' (fun xs hx => by match xs, hx with | [x0], _ => rfl) hb⟩
theorem said : Rows.FnExactParseOwnersSaid :=
  OpenClaim.holds_of_cond 13 Try.f13 rfl rfl rfl rfl rfl rfl rfl ⟨rfl, rfl, rfl, rfl, rfl⟩ rfl rfl rfl rfl rfl (by kernel_rfl) Try.func13 (by kernel_rfl)
    (of_decide_eq_true (by kernel_rfl)) (by unfold Func.isWrapper; first | (rw [if_pos (by decide +kernel)]; kernel_rfl) | (rw [if_neg (by decide +kernel)]; exact ⟨rfl, rfl⟩))
    (fun os started H enc _ F => by rw [OpenClaim.pre_eq_preRow]; exact lifted os started H enc F)
#print axioms said
end Go.Proofs.Ytlpngmcnelmpmaa.fnExactParseOwners
