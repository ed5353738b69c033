/- For every list of numbers the law FnExactAreOwners returns true; no condition. -/
import Derived.Test.YtlpngmcnelmpmaaRows
import Derived.Test.YtlpngmcnelmpmaaFrame
import Derived.Test.YtlpngmcnelmpmaaFr1
import Derived.Test.YtlpngmcnelmpmaaIMark
namespace Go.Proofs.Ytlpngmcnelmpmaa.fnExactAreOwners
open Go.ChangeShapes Go.WideShapes Go.ChangeAt Go.RowKit
open Go.ChangeMaps (open_string shut_string)
open Go.Proofs.Ytlpngmcnelmpmaa.L1 Go.Proofs.Ytlpngmcnelmpmaa.Mem Go.Proofs.Ytlpngmcnelmpmaa.Own Go.Proofs.Ytlpngmcnelmpmaa.Fra
set_option linter.unusedVariables false
theorem own : ownKnob Try.prog.godebug = none := by kernel_rfl
theorem laidOut : laidOutB Try.prog = true := by kernel_rfl
set_option maxHeartbeats 2000000 in
theorem walk0 (W : World) (A : Option Addr) (n c : Nat) (zs : List Int) (hr : Reads W W.heap.size 1 A n (I zs)) (hm : n ≤ maxLen) :
    Calls Try.prog 4 #[.slice A n c] W fun e W' => e = .returned (.bool true) ∧ Below W.heap.size W W' := by
  unfold maxLen at hm
  by_cases h1 : 1048576 < n
  · go_enter Try.func4, Try.ntmps4
    go_wp2_with fail
    go_ret
    exact ⟨rfl, Below.refl _ _⟩
  have hn : n ≤ 1048576 := by omega
  obtain ⟨b, hb⟩ : ∃ b, decide (GoodOw zs) = b := ⟨_, rfl⟩
  have HT := Lib.hid fun (w : World) (hx : Reads w W.heap.size 1 A n (I zs)) (hB : W.heap.size ≤ w.heap.size) => toIntS_any A n c W.heap.size zs w hx hB hn
  have HS := Lib.hid fun (A' : Option Addr) (c' B : Nat) (w : World) (hx : Reads w B 1 A' n (I zs)) => specAreOwners_any A' n c' B zs w hx hn b hb
  have HI := Lib.hid fun (A' : Option Addr) (c' B : Nat) (w : World) (hx : Reads w B 1 A' n (I zs)) => implAreOwners_any A' n c' B zs w hx hn b hb
  have HE := Lib.hid fun (A1 A2 : Option Addr) (c1 c2 B : Nat) (w : World) (hx : Reads w B 1 A1 n (I zs)) (hy : Reads w B 1 A2 n (I zs)) => eqIntS_any A1 A2 n c1 n c2 B zs zs w hx hy (by omega) (by omega) true (by simp)
  have hr0 := Lib.hid hr
  clear hr hb
  go_enter Try.func4, Try.ntmps4
  go_wp2_with fail
  refine (HT.out _ hr0.out (Nat.le_refl _)).mono ?_
  rintro e w1 ⟨g1, rfl, hown1, hb1⟩
  have hr1 := Lib.hid (Reads.of_own hown1)
  have hW1 := Lib.hid hb1
  have hr01 := Lib.hid (hr0.out.below hb1)
  have hz1 := hb1.size
  clear hown1 hb1
  go_wp2_with fail
  refine (HS.out _ _ _ _ hr1.out).mono ?_
  rintro e w2 ⟨rfl, rfl⟩
  go_wp2_with fail
  refine (HT.out _ hr01.out hz1).mono ?_
  rintro e w3 ⟨g3, rfl, hown3, hb3⟩
  have hr3 := Lib.hid (Reads.of_own hown3)
  have hW3 := Lib.hid (hW1.out.trans (hb3.mono hz1))
  have hr03 := Lib.hid (hr0.out.below hW3.out)
  have hz3 := hb3.size
  clear hown3 hb3
  go_wp2_with fail
  refine (HI.out _ _ _ _ hr3.out).mono ?_
  rintro e w4 ⟨rfl, rfl⟩
  go_wp2_with fail
  refine (HT.out _ hr03.out (Nat.le_trans hz1 hz3)).mono ?_
  rintro e w5 ⟨g5, rfl, hown5, hb5⟩
  have hr5 := Lib.hid (Reads.of_own hown5)
  have hr35 := Lib.hid ((hr3.out.below hb5).more hb5.size)
  have hW5 := Lib.hid (hW3.out.trans (hb5.mono (Nat.le_trans hz1 hz3)))
  clear hown5 hb5
  go_wp2_with fail
  refine (HE.out _ _ _ _ _ _ hr35.out hr5.out).mono ?_
  rintro e w6 ⟨rfl, j, rfl⟩
  have hW6 : Below W.heap.size W (w5.drewN j) := hW5.out.trans ⟨rfl, rfl, rfl, Nat.le_refl _, fun _ _ => rfl⟩
  go_wp2_with fail
  go_ret
  exact ⟨rfl, hW6⟩

/-- the law's Go text returns true, and nothing that was there has turned -/
theorem walk {H : Type} {enc : TypeId × Value → H} (W : World) (base : Nat) (v0 : Value) (d0 : DataW H) (p0 : List MemPlace) (q0 : Value.okWide Try.prog W .any base 24 v0) (h0 : DataW.Trod enc Try.prog W 0 (fun _ => true) true 24 v0 d0 p0) (l0 : ∀ x ∈ p0, x.block < W.heap.size) (hL : laidMetH Try.prog Rows.fnExactAreOwnersRow.laid W) (hsh : W.ShapedOpen Try.prog) :
    Calls Try.prog 4 #[v0] W fun e W' => e = .returned (.bool true) ∧ Below W.heap.size W W' := by
  obtain ⟨A, n, c, zs, rfl, hnc, hcm, _, _, hr⟩ := open_nums Try.underlying24 Try.underlying3 (by kernel_rfl) q0 h0
  exact walk0 W A n c zs hr (Nat.le_trans hnc hcm)
theorem laid_met (os : Os) : laidMetH Try.prog Rows.fnExactAreOwnersRow.laid ((World.holding Try.prog os ⟨#[], #[], []⟩).forCall (fun _ _ => 0) ⟨#[], #[(.slice none 0 0 : Value)], []⟩).memory := ⟨[], rfl, List.nodup_nil, fun _ _ h => by cases h⟩
theorem reads (os : Os) {H : Type} (enc : TypeId × Value → H) : (DataW.whole enc Try.prog ((World.holding Try.prog os ⟨#[], #[], []⟩).forCall (fun _ _ => 0) ⟨#[], #[(.slice none 0 0 : Value)], []⟩).memory Try.f4.params.toList Rows.fnExactAreOwnersSpec.vars false #[(.slice none 0 0 : Value)].toList 8).isSome = true := by kernel_rfl
set_option maxRecDepth 100000 in
theorem lifted (os : Os) (started : os.Started) (H : Type) (enc : TypeId × Value → H) (F : Stop.Interp) :
    ReturnsInHanded {} Try.checked os 4 .any ((OpenSpec.ofChange Rows.fnExactAreOwnersSpec).preRow enc Try.prog Try.f4 Rows.fnExactAreOwnersRow.domain false Rows.fnExactAreOwnersRow.laid) (((OpenSpec.ofChange Rows.fnExactAreOwnersSpec).at F).post enc Try.prog Try.f4 false true false false) := by
  obtain ⟨x, hx⟩ := Option.isSome_iff_exists.1 (reads os enc)
  refine returnsInHanded_of_row (C := Try.checked) (s := OpenSpec.ofChange Rows.fnExactAreOwnersSpec) own started (by kernel_rfl) Try.func4
    (witness_row_at (enc := enc) (C := Try.checked) false (World.holding Try.prog os ⟨#[], #[], []⟩) #[(.slice none 0 0 : Value)] rfl (by kernel_rfl) (by kernel_rfl) (by kernel_rfl)
      (OpenSpec.preRow_of_cond 8 hx (by rfl) (fun k hk => by cases hk) (by kernel_rfl) (laid_met os))) ?_
  intro W base args ds gs before hval0 hW _ hcond hsz hL hsh _
  have hval : ∀ (j : Nat) t v, Try.f4.params[j]? = some t → args[j]? = some v → Value.okWide Try.prog W .any base t v := hval0
  have hW' := hW
  obtain ⟨p, q, hA0, hV, rfl, hfz, hnd⟩ := hW
  have hA : DataW.TrodAll enc Try.prog W 0 (fun _ => true) true Try.f4.params.toList args.toList ds p := hA0
  rw [Try.params4] at hA hval
  obtain ⟨v0, vs0, d0, ds0, p0, q0, hargs, rfl, rfl, h0, r0⟩ := trodAll_cons hA
  obtain ⟨rfl, rfl, rfl⟩ := trodAll_nil r0
  obtain rfl : args = #[v0] := by cases args; simp_all
  obtain ⟨rfl, rfl⟩ := trodVars_none hV
  clear hA0 hval0
  simp only [List.append_nil] at hW'
  refine (walk (enc := enc) W base v0 d0 p0 (hval 0 24 v0 rfl rfl) h0 (fun x hx => hW'.lt x (by simp [hx])) hL hsh).mono fun e W' ⟨he, hb⟩ => ⟨_, he, Fr.post_true laidOut (by kernel_rfl) (by kernel_rfl) Try.underlying4 rfl hW' (fun xs hx => by match xs, hx with | [x0], _ => rfl) hb⟩
theorem said : Rows.FnExactAreOwnersSaid :=
  OpenClaim.holds_of_cond 4 Try.f4 rfl rfl rfl rfl rfl rfl rfl ⟨rfl, rfl, rfl, rfl, rfl⟩ rfl rfl rfl rfl rfl (by kernel_rfl) Try.func4 (by kernel_rfl)
    (of_decide_eq_true (by kernel_rfl)) (by unfold Func.isWrapper; first | (rw [if_pos (by decide +kernel)]; kernel_rfl) | (rw [if_neg (by decide +kernel)]; exact ⟨rfl, rfl⟩))
    (fun os started H enc _ F => by rw [OpenClaim.pre_eq_preRow]; exact lifted os started H enc F)
#print axioms said
end Go.Proofs.Ytlpngmcnelmpmaa.fnExactAreOwners
