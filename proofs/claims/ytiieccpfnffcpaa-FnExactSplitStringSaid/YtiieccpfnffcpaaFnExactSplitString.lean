/- For every two strings the law FnExactSplitString returns true; no condition. -/
import Derived.Test.YtiieccpfnffcpaaRows
import Derived.Test.YtiieccpfnffcpaaFrame
import Derived.Test.YtiieccpfnffcpaaSplitBoth
import Derived.Test.YtiieccpfnffcpaaStrs
import Derived.Test.YtiieccpfnffcpaaMark
namespace Go.Proofs.Ytiieccpfnffcpaa.fnExactSplitString
open Go.ChangeShapes Go.WideShapes Go.ChangeAt Go.RowKit
open Go.ChangeMaps (open_string shut_string)
open Go.Proofs.Ytiieccpfnffcpaa.L1 Go.Proofs.Ytiieccpfnffcpaa.Mem
set_option linter.unusedVariables false
theorem own : ownKnob Try.prog.godebug = none := by kernel_rfl
theorem laidOut : laidOutB Try.prog = true := by kernel_rfl
theorem reads_grown {w w' : World} {B size n : Nat} {A : Option Addr} {xs : List Value} {v : Value} {base : Nat} {e : TypeId} {sz m : Nat} {ys : List Value} (h : Reads w B size A n xs) (hg : w.grownBy w' v.ownBlock) (hown : w.ownsRow base e sz v m ys) (hB : B ≤ base) (hB2 : B ≤ w.heap.size) : Reads w' B size A n xs :=
  h.grown hg hB2 fun g hg' => Nat.le_trans hB (hown.lt g hg').1
set_option maxHeartbeats 2000000 in
theorem walk0 (W : World) (s0 s1 : ByteArray) (w0 : s0.size ≤ maxLen) (w1 : s1.size ≤ maxLen) :
    Calls Try.prog 4 #[.string s0, .string s1] W fun e W' => e = .returned (.bool true) ∧ Below W.heap.size W W' := by
  unfold maxLen at w0 w1
  by_cases h1 : 1048576 < s0.size
  · go_enter Try.func4, Try.ntmps4
    go_wp2_with fail
    go_ret
    exact ⟨rfl, Below.refl _ _⟩
  by_cases h2 : 1048576 < s1.size
  · go_enter Try.func4, Try.ntmps4
    go_wp2_with fail
    go_ret
    exact ⟨rfl, Below.refl _ _⟩
  obtain ⟨ps, b, hps⟩ := splitIs_ex s0 s1
  have hlen := splitIs_len hps
  have HS := Lib.hid fun w => specSplit_any s0 s1 ps b hps (by omega) (by omega) w
  have HI := Lib.hid fun w => implSplit_any s0 s1 ps b hps (by omega) (by omega) w
  obtain ⟨n, hn⟩ : ∃ n, ps.length = n := ⟨_, rfl⟩
  have HE := Lib.hid fun (A A' : Option Addr) (c c' B : Nat) (w : World) (hx : Reads w B 1 A n (ps.map Value.string)) (hy : Reads w B 1 A' n (ps.map Value.string)) => eqStringS_any A A' n c n c' B ps ps w hx hy (by omega) (by omega) true (by simp)
  unfold Gives at HS HI
  rw [hn] at HS HI hlen
  clear hps hn
  go_enter Try.func4, Try.ntmps4
  go_wp2_with fail
  refine (HS.out _).mono ?_
  rintro e w1 ⟨A0, c0, rfl, hown0, hb1⟩
  have hr0 := Lib.hid (Reads.of_own hown0)
  clear hown0
  go_wp2_with fail
  refine (HI.out _).mono ?_
  rintro e w2 ⟨A1, c1, rfl, hown1, hb2⟩
  have hr0' := Lib.hid (hr0.out.below hb2)
  have hr1 := Lib.hid (Reads.of_own hown1)
  have hz12 := hb2.size
  have hzW1 := hb1.size
  have hW2 := hb1.trans (hb2.mono hb1.size)
  have hO1 := Lib.hid hown1
  clear hr0 hb1 hb2 hown1
  go_wp2_with fail
  refine (HE.out A1 A0 c1 c0 w2.heap.size _ hr1.out (hr0'.out.more hz12)).mono ?_
  rintro e w3 ⟨rfl, j, rfl⟩
  have hW3 : Below W.heap.size W (w2.drewN j) := hW2.trans ⟨rfl, rfl, rfl, Nat.le_refl _, fun _ _ => rfl⟩
  have hO1' : Hid ((w2.drewN j).ownsRow w1.heap.size 9 1 (.slice A1 n c1) n (ps.map Value.string)) := Lib.hid hO1.out
  have hr0'' := Lib.hid (hr0'.out.drewN j)
  clear hr1 hr0' hO1 hW2
  go_wp2_with fail
  have hm : Calls Try.prog 19 #[.slice A1 n c1, .int .i64 1] (w2.drewN j) fun e w' => e = .returned (.int .i64 (1 + n)) ∧ w'.ownsRow w1.heap.size 9 1 (.slice A1 n c1) n (marks 1 n) ∧ (w2.drewN j).grownBy w' (Value.slice A1 n c1).ownBlock :=
    markStringS_any A1 n c1 w1.heap.size 1 _ _ hO1'.out (by omega) (by omega) (by omega)
  refine hm.mono ?_
  clear hm
  rintro e w4 ⟨rfl, hown4, hg4⟩
  have hr04 := Lib.hid (reads_grown hr0''.out hg4 hO1'.out (Nat.le_refl _) hz12)
  have hW4 : Below W.heap.size W w4 := hW3.grown hg4 hW3.size (fun g hg => Nat.le_trans hzW1 (hO1'.out.lt g hg).1)
  have hr4 := Lib.hid (Reads.of_own hown4)
  have HH := Lib.hid fun (B : Nat) (w : World) (hr : Reads w B 1 A1 n (marks 1 n)) => show Calls Try.prog 20 #[.slice A1 n c1, .int .i64 1] w (fun e w' => e = .returned (.int .i64 (1 + n)) ∧ Below w.heap.size w w') from heldStringS_any A1 n c1 B 1 w hr (by omega) (by omega) (by omega)
  have hz4 : w1.heap.size ≤ w4.heap.size := Nat.le_trans hz12 hg4.size
  clear hown4 hg4 hO1' hr0'' hW3 hz12 hzW1
  go_wp2_with fail
  refine (HH.out _ _ hr4.out).mono ?_
  rintro e w5 ⟨rfl, hb5⟩
  have hr05 := Lib.hid (hr04.out.keep fun p hp => hb5.cell (by omega))
  have hr5 := Lib.hid (hr4.out.below hb5)
  have hW5 := hW4.trans (hb5.mono hW4.size)
  have hz5 := Nat.le_trans hz4 hb5.size
  have hz45 := hb5.size
  clear hr04 hr4 hb5 hW4
  go_wp2_with fail
  refine (HI.out _).mono ?_
  rintro e w6 ⟨A2, c2, rfl, hown6, hb6⟩
  have hr06 := Lib.hid ((hr05.out.keep fun p hp => hb6.cell (by omega)).more (B' := w6.heap.size) (Nat.le_trans hz5 hb6.size))
  have hr6 := Lib.hid (hr5.out.keep fun p hp => hb6.cell (by omega))
  have hr26 := Lib.hid (Reads.of_own hown6)
  have hW6 := hW5.trans (hb6.mono hW5.size)
  clear hr05 hr5 hown6 hb6 hW5 hz4 hz5 hz45
  go_wp2_with fail
  refine (HE.out A2 A0 c2 c0 w6.heap.size _ hr26.out hr06.out).mono ?_
  rintro e w7 ⟨rfl, j2, rfl⟩
  have hr7 := Lib.hid (hr6.out.drewN j2)
  have hW7 : Below W.heap.size W (w6.drewN j2) := hW6.trans ⟨rfl, rfl, rfl, Nat.le_refl _, fun _ _ => rfl⟩
  clear hr26 hr06 hr6 hW6
  go_wp2_with fail
  refine (HH.out _ _ hr7.out).mono ?_
  rintro e w8 ⟨rfl, hb8⟩
  have hW8 := hW7.trans (hb8.mono hW7.size)
  clear hr7 hW7 hb8
  go_wp2_with fail
  go_ret
  exact ⟨rfl, hW8⟩

/-- the law's Go text returns true, and nothing that was there has turned -/
theorem walk {H : Type} {enc : TypeId × Value → H} (W : World) (base : Nat) (s0 : ByteArray) (w0 : s0.size ≤ maxLen) (s1 : ByteArray) (w1 : s1.size ≤ maxLen) (hL : laidMetH Try.prog Rows.fnExactSplitStringRow.laid W) (hsh : W.ShapedOpen Try.prog) :
    Calls Try.prog 4 #[.string s0, .string s1] W fun e W' => e = .returned (.bool true) ∧ Below W.heap.size W W' := by
  exact walk0 W s0 s1 w0 w1
theorem laid_met (os : Os) : laidMetH Try.prog Rows.fnExactSplitStringRow.laid ((World.holding Try.prog os ⟨#[], #[], []⟩).forCall (fun _ _ => 0) ⟨#[], #[(.string ByteArray.empty : Value), .string ByteArray.empty], []⟩).memory := ⟨[], rfl, List.nodup_nil, fun _ _ h => by cases h⟩
theorem reads (os : Os) {H : Type} (enc : TypeId × Value → H) : (DataW.whole enc Try.prog ((World.holding Try.prog os ⟨#[], #[], []⟩).forCall (fun _ _ => 0) ⟨#[], #[(.string ByteArray.empty : Value), .string ByteArray.empty], []⟩).memory Try.f4.params.toList Rows.fnExactSplitStringSpec.vars false #[(.string ByteArray.empty : Value), .string ByteArray.empty].toList 8).isSome = true := by kernel_rfl
set_option maxRecDepth 100000 in
theorem lifted (os : Os) (started : os.Started) (H : Type) (enc : TypeId × Value → H) (F : Stop.Interp) :
    ReturnsInHanded {} Try.checked os 4 .any ((OpenSpec.ofChange Rows.fnExactSplitStringSpec).preRow enc Try.prog Try.f4 Rows.fnExactSplitStringRow.domain false Rows.fnExactSplitStringRow.laid) (((OpenSpec.ofChange Rows.fnExactSplitStringSpec).at F).post enc Try.prog Try.f4 false true false false) := by
  obtain ⟨x, hx⟩ := Option.isSome_iff_exists.1 (reads os enc)
  refine returnsInHanded_of_row (C := Try.checked) (s := OpenSpec.ofChange Rows.fnExactSplitStringSpec) own started (by kernel_rfl) Try.func4
    (witness_row_at (enc := enc) (C := Try.checked) false (World.holding Try.prog os ⟨#[], #[], []⟩) #[(.string ByteArray.empty : Value), .string ByteArray.empty] rfl (by kernel_rfl) (by kernel_rfl) (by kernel_rfl)
      (OpenSpec.preRow_of_cond 8 hx (by rfl) (fun k hk => by cases hk) (by kernel_rfl) (laid_met os))) ?_
  intro W base args ds gs before hval0 hW _ hcond hsz hL hsh _
  have hval : ∀ (j : Nat) t v, Try.f4.params[j]? = some t → args[j]? = some v → Value.okWide Try.prog W .any base t v := hval0
  have hW' := hW
  obtain ⟨p, q, hA0, hV, rfl, hfz, hnd⟩ := hW
  have hA : DataW.TrodAll enc Try.prog W 0 (fun _ => true) true Try.f4.params.toList args.toList ds p := hA0
  rw [Try.params4] at hA hval
  obtain ⟨v0, vs0, d0, ds0, p0, q0, hargs, rfl, rfl, h0, r0⟩ := trodAll_cons hA
  obtain ⟨v1, vs1, d1, ds1, p1, q1, rfl, rfl, rfl, h1, r1⟩ := trodAll_cons r0
  obtain ⟨rfl, rfl, rfl⟩ := trodAll_nil r1
  obtain rfl : args = #[v0, v1] := by cases args; simp_all
  obtain ⟨rfl, rfl⟩ := trodVars_none hV
  obtain ⟨s0, rfl, rfl, rfl, w0⟩ := open_string Try.underlying9 (hval 0 9 v0 rfl rfl) h0
  obtain ⟨s1, rfl, rfl, rfl, w1⟩ := open_string Try.underlying9 (hval 1 9 v1 rfl rfl) h1
  clear hA0 hval0
  simp only [List.append_nil] at hW'
  refine (walk (enc := enc) W base s0 w0 s1 w1 hL hsh).mono fun e W' ⟨he, hb⟩ => ⟨_, he, Fr.post_true laidOut (by kernel_rfl) (by kernel_rfl) Try.underlying4 rfl hW' (fun xs hx => by match xs, hx with | [x0, x1], _ => rfl) hb⟩
theorem said : Rows.FnExactSplitStringSaid :=
  OpenClaim.holds_of_cond 4 Try.f4 rfl rfl rfl rfl rfl rfl rfl ⟨rfl, rfl, rfl, rfl, rfl⟩ rfl rfl rfl rfl rfl (by kernel_rfl) Try.func4 (by kernel_rfl)
    (of_decide_eq_true (by kernel_rfl)) (by unfold Func.isWrapper; first | (rw [if_pos (by decide +kernel)]; kernel_rfl) | (rw [if_neg (by decide +kernel)]; exact ⟨rfl, rfl⟩))
    (fun os started H enc _ F => by rw [OpenClaim.pre_eq_preRow]; exact lifted os started H enc F)
#print axioms said
end Go.Proofs.Ytiieccpfnffcpaa.fnExactSplitString
