/- For every slice of strings and every string the law FnExactJoinStrings returns true; no condition. -/
import Derived.Test.YtiieccpfnffcpaaRows
import Derived.Test.YtiieccpfnffcpaaFrame
import Derived.Test.YtiieccpfnffcpaaJoinImpl
namespace Go.Proofs.Ytiieccpfnffcpaa.fnExactJoinStrings
open Go.ChangeShapes Go.WideShapes Go.ChangeAt Go.RowKit
open Go.ChangeMaps (open_string shut_string)
open Go.Proofs.Ytiieccpfnffcpaa.L1 Go.Proofs.Ytiieccpfnffcpaa.Mem
set_option linter.unusedVariables false
theorem own : ownKnob Try.prog.godebug = none := by kernel_rfl
theorem laidOut : laidOutB Try.prog = true := by kernel_rfl
theorem cellsStr : Try.prog.cellsOf 9 = 1 := by kernel_rfl
set_option maxHeartbeats 1000000 in
theorem walk0 (W : World) (A : Option Addr) (n c : Nat) (ss : List ByteArray) (s1 : ByteArray) (w1 : s1.size ≤ maxLen) (hc : n ≤ c) (hcm : c ≤ maxLen) (hss : ∀ s ∈ ss, s.size ≤ maxLen) (hr : Reads W W.heap.size 1 A n (ss.map Value.string)) :
    Calls Try.prog 5 #[.slice A n c, .string s1] W fun e W' => e = .returned (.bool true) ∧ Below W.heap.size W W' := by
  unfold maxLen at w1 hcm hss
  have HR := Lib.hid hr
  by_cases h1 : 1048576 < s1.size
  · go_enter Try.func5, Try.ntmps5
    go_wp2_with fail
    go_ret
    exact ⟨rfl, Below.refl _ _⟩
  by_cases h2 : n + tot ss ≤ 1048576
  · have hn : n ≤ 1048576 := by omega
    have ht : tot ss ≤ 1048576 := by omega
    have hss2 : ∀ s ∈ ss, s.size ≤ 1048576 := by
      intro s hs
      obtain ⟨k, hk⟩ := List.getElem?_of_mem hs
      have a := tot_snoc ss k s hk
      have b := tot_take ss (k + 1)
      omega
    have hL0 : ((1048576 : Int) - (n + tot ss)) = if (n : Int) + tot ss ≤ 1048576 then (1048576 : Int) - (n + tot ss) else -1 := by rw [if_pos (by omega)]
    have HL0 := Lib.hid hL0
    have hpos : (0 : Int) ≤ 1048576 - (n + tot ss) := by omega
    clear hL0 hr
    have hspec : ∀ (A' : Option Addr) (B : Nat) (w : World), Reads w B 1 A' n (ss.map Value.string) → ∀ (r : ByteArray) (b : Bool), ((∃ c, s1 = ⟨#[c]⟩ ∧ JoinIs ss c r b) ∨ (s1.size ≠ 1 ∧ r = ByteArray.empty ∧ b = false)) →
        Calls Try.prog 13 #[.slice A' n n, .string s1] w fun e w' => e = .returned (.tuple #[.string r, .bool b]) ∧ Below w.heap.size w w' := by
      intro A' B w hr' r b hj
      rcases hj with ⟨c, rfl, hj⟩ | ⟨hs, rfl, rfl⟩
      · exact (specJoin_any A' n n B ss c w hr' hn hss2 r b hj).mono fun e w' ⟨h, j, hw⟩ => ⟨h, by rw [hw]; exact ⟨rfl, rfl, rfl, Nat.le_refl _, fun _ _ => rfl⟩⟩
      · exact (specJoin_nosep A' n n s1 w hn (by omega) hs).mono fun e w' ⟨h, hw⟩ => ⟨h, by rw [← hw]; exact Below.refl _ _⟩
    have himpl : ∀ (A' : Option Addr) (B : Nat) (w : World), Reads w B 1 A' n (ss.map Value.string) → B ≤ w.heap.size → ∀ (r : ByteArray) (b : Bool), ((∃ c, s1 = ⟨#[c]⟩ ∧ JoinIs ss c r b) ∨ (s1.size ≠ 1 ∧ r = ByteArray.empty ∧ b = false)) →
        Calls Try.prog 12 #[.slice A' n n, .string s1] w fun e w' => e = .returned (.tuple #[.string r, .bool b]) ∧ Below w.heap.size w w' := by
      intro A' B w hr' hB r b hj
      rcases hj with ⟨c, rfl, hj⟩ | ⟨hs, rfl, rfl⟩
      · exact implJoin_any A' n n B ss c w hr' hB (Nat.le_refl _) hn ht hss2 r b hj
      · exact (implJoin_nosep A' n n s1 w hn (by omega) hs).mono fun e w' ⟨h, hw⟩ => ⟨h, by rw [← hw]; exact Below.refl _ _⟩
    obtain ⟨r, b, hj⟩ : ∃ (r : ByteArray) (b : Bool), (∃ c, s1 = ⟨#[c]⟩ ∧ JoinIs ss c r b) ∨ (s1.size ≠ 1 ∧ r = ByteArray.empty ∧ b = false) := by
      by_cases hs : s1.size = 1
      · obtain ⟨c, hc⟩ := one_of_size hs
        obtain ⟨r, b, h⟩ := joinIs_ex ss c
        exact ⟨r, b, .inl ⟨c, hc, h⟩⟩
      · exact ⟨_, _, .inr ⟨hs, rfl, rfl⟩⟩
    have HJ := Lib.hid hj
    have HS := Lib.hid hspec
    have HI := Lib.hid himpl
    have HT : Hid (∀ (B : Nat) (w : World), Reads w B 1 A n (ss.map Value.string) → B ≤ w.heap.size → Calls Try.prog 22 #[.slice A n c] w fun e w' => ∃ g, e = .returned (.slice (some ⟨g, 0, none⟩) n n) ∧ w'.ownsRow w.heap.size 9 1 (.slice (some ⟨g, 0, none⟩) n n) n (ss.map Value.string) ∧ Below w.heap.size w w') := Lib.hid fun B w h1 h2 => toStringS_any A n c B ss w h1 h2 hn
    have HSS := Lib.hid hss
    clear hj hspec himpl hss hss2
    go_enter Try.func5, Try.ntmps5
    go_wp2_with fail
    refine (szStringS_any A n c W.heap.size ss 1048576 (by omega) (by omega) _ HR.out (by omega) HSS.out _ HL0.out).mono ?_
    rintro e w1 ⟨rfl, rfl⟩
    generalize (1048576 : Int) - (n + tot ss) = z at hpos ⊢
    clear HL0
    go_wp2_with fail
    refine (HT.out W.heap.size W HR.out (Nat.le_refl _)).mono ?_
    rintro e w1 ⟨g1, rfl, hown1, hb1⟩
    have hr1 := Lib.hid (Reads.of_own hown1)
    clear hown1
    go_wp2_with fail
    refine (HS.out _ _ _ hr1.out r b HJ.out).mono ?_
    rintro e w2 ⟨rfl, hb2⟩
    have hb12 := hb1.trans (hb2.mono hb1.size)
    clear hr1 hb1 hb2
    go_wp2_with fail
    refine (HT.out W.heap.size w2 (HR.out.below hb12) hb12.size).mono ?_
    rintro e w3 ⟨g3, rfl, hown3, hb3⟩
    have hr3 := Lib.hid (Reads.of_own hown3)
    have hb13 := hb12.trans (hb3.mono hb12.size)
    clear hown3 hb3 hb12
    go_wp2_with fail
    refine (HI.out _ _ _ hr3.out (Nat.le_refl _) r b HJ.out).mono ?_
    rintro e w4 ⟨rfl, hb4⟩
    have hr4 := Lib.hid (hr3.out.below hb4)
    have hb14 := hb13.trans (hb4.mono hb13.size)
    have hz4 := hb4.size
    clear hr3 hb13 hb4
    go_wp2_with fail
    refine (HT.out W.heap.size w4 (HR.out.below hb14) hb14.size).mono ?_
    rintro e w5 ⟨g5, rfl, hown5, hb5⟩
    have hr5 := Lib.hid (Reads.of_own hown5)
    have hr6 := Lib.hid ((hr4.out.below (hb5.mono hz4)).more (Nat.le_trans hz4 hb5.size))
    have hb15 := hb14.trans (hb5.mono hb14.size)
    clear hown5 hb5 hb14 hr4 hz4
    go_wp2_with fail
    refine (eqStringS_any _ _ n n n n _ ss ss _ hr6.out hr5.out (by omega) (by omega) true (by simp)).mono ?_
    rintro e w6 ⟨rfl, j, rfl⟩
    have hb16 : Below W.heap.size W (w5.drewN j) := hb15.trans ⟨rfl, rfl, rfl, Nat.le_refl _, fun _ _ => rfl⟩
    clear hr5 hr6
    go_wp2_with fail
    go_ret
    exact ⟨rfl, hb16⟩
  · have hL0 : (-1 : Int) = if (n : Int) + tot ss ≤ 1048576 then (1048576 : Int) - (n + tot ss) else -1 := by rw [if_neg (by omega)]
    have HL0 := Lib.hid hL0
    have HS := Lib.hid hss
    clear hL0 hr hss
    go_enter Try.func5, Try.ntmps5
    go_wp2_with (go_at_call 21; ((with_reducible refine (szStringS_any A n c W.heap.size ss 1048576 (by omega) (by omega) _ HR.out (by omega) HS.out (-1) HL0.out).mono ?_); rintro e w1 ⟨rfl, rfl⟩))
    go_ret
    exact ⟨rfl, Below.refl _ _⟩

/-- the law's Go text returns true, and nothing that was there has turned -/
theorem walk {H : Type} {enc : TypeId × Value → H} (W : World) (base : Nat) (v0 : Value) (d0 : DataW H) (p0 : List MemPlace) (q0 : Value.okWide Try.prog W .any base 26 v0) (h0 : DataW.Trod enc Try.prog W 0 (fun _ => true) true 26 v0 d0 p0) (l0 : ∀ x ∈ p0, x.block < W.heap.size) (s1 : ByteArray) (w1 : s1.size ≤ maxLen) (hL : laidMetH Try.prog Rows.fnExactJoinStringsRow.laid W) (hsh : W.ShapedOpen Try.prog) :
    Calls Try.prog 5 #[v0, .string s1] W fun e W' => e = .returned (.bool true) ∧ Below W.heap.size W W' := by
  obtain ⟨A, n, c, ss, rfl, hc, hcm, hl, hss, hr⟩ := open_strs Try.underlying26 Try.underlying9 cellsStr q0 h0
  exact walk0 W A n c ss s1 w1 hc hcm hss hr
theorem laid_met (os : Os) : laidMetH Try.prog Rows.fnExactJoinStringsRow.laid ((World.holding Try.prog os ⟨#[], #[], []⟩).forCall (fun _ _ => 0) ⟨#[], #[(.slice none 0 0 : Value), .string ByteArray.empty], []⟩).memory := ⟨[], rfl, List.nodup_nil, fun _ _ h => by cases h⟩
theorem reads (os : Os) {H : Type} (enc : TypeId × Value → H) : (DataW.whole enc Try.prog ((World.holding Try.prog os ⟨#[], #[], []⟩).forCall (fun _ _ => 0) ⟨#[], #[(.slice none 0 0 : Value), .string ByteArray.empty], []⟩).memory Try.f5.params.toList Rows.fnExactJoinStringsSpec.vars false #[(.slice none 0 0 : Value), .string ByteArray.empty].toList 8).isSome = true := by kernel_rfl
set_option maxRecDepth 100000 in
theorem lifted (os : Os) (started : os.Started) (H : Type) (enc : TypeId × Value → H) (F : Stop.Interp) :
    ReturnsInHanded {} Try.checked os 5 .any ((OpenSpec.ofChange Rows.fnExactJoinStringsSpec).preRow enc Try.prog Try.f5 Rows.fnExactJoinStringsRow.domain false Rows.fnExactJoinStringsRow.laid) (((OpenSpec.ofChange Rows.fnExactJoinStringsSpec).at F).post enc Try.prog Try.f5 false true false false) := by
  obtain ⟨x, hx⟩ := Option.isSome_iff_exists.1 (reads os enc)
  refine returnsInHanded_of_row (C := Try.checked) (s := OpenSpec.ofChange Rows.fnExactJoinStringsSpec) own started (by kernel_rfl) Try.func5
    (witness_row_at (enc := enc) (C := Try.checked) false (World.holding Try.prog os ⟨#[], #[], []⟩) #[(.slice none 0 0 : Value), .string ByteArray.empty] rfl (by kernel_rfl) (by kernel_rfl) (by kernel_rfl)
      (OpenSpec.preRow_of_cond 8 hx (by rfl) (fun k hk => by cases hk) (by kernel_rfl) (laid_met os))) ?_
  intro W base args ds gs before hval0 hW _ hcond hsz hL hsh _
  have hval : ∀ (j : Nat) t v, Try.f5.params[j]? = some t → args[j]? = some v → Value.okWide Try.prog W .any base t v := hval0
  have hW' := hW
  obtain ⟨p, q, hA0, hV, rfl, hfz, hnd⟩ := hW
  have hA : DataW.TrodAll enc Try.prog W 0 (fun _ => true) true Try.f5.params.toList args.toList ds p := hA0
  rw [Try.params5] at hA hval
  obtain ⟨v0, vs0, d0, ds0, p0, q0, hargs, rfl, rfl, h0, r0⟩ := trodAll_cons hA
  obtain ⟨v1, vs1, d1, ds1, p1, q1, rfl, rfl, rfl, h1, r1⟩ := trodAll_cons r0
  obtain ⟨rfl, rfl, rfl⟩ := trodAll_nil r1
  obtain rfl : args = #[v0, v1] := by cases args; simp_all
  obtain ⟨rfl, rfl⟩ := trodVars_none hV
  obtain ⟨s1, rfl, rfl, rfl, w1⟩ := open_string Try.underlying9 (hval 1 9 v1 rfl rfl) h1
  clear hA0 hval0
  simp only [List.append_nil] at hW'
  refine (walk (enc := enc) W base v0 d0 p0 (hval 0 26 v0 rfl rfl) h0 (fun x hx => hW'.lt x (by simp [hx])) s1 w1 hL hsh).mono fun e W' ⟨he, hb⟩ => ⟨_, he, Fr.post_true laidOut (by kernel_rfl) (by kernel_rfl) Try.underlying4 rfl hW' (fun xs hx => by match xs, hx with | [x0, x1], _ => rfl) hb⟩
theorem said : Rows.FnExactJoinStringsSaid :=
  OpenClaim.holds_of_cond 5 Try.f5 rfl rfl rfl rfl rfl rfl rfl ⟨rfl, rfl, rfl, rfl, rfl⟩ rfl rfl rfl rfl rfl (by kernel_rfl) Try.func5 (by kernel_rfl)
    (of_decide_eq_true (by kernel_rfl)) (by unfold Func.isWrapper; first | (rw [if_pos (by decide +kernel)]; kernel_rfl) | (rw [if_neg (by decide +kernel)]; exact ⟨rfl, rfl⟩))
    (fun os started H enc _ F => by rw [OpenClaim.pre_eq_preRow]; exact lifted os started H enc F)
#print axioms said
end Go.Proofs.Ytiieccpfnffcpaa.fnExactJoinStrings
