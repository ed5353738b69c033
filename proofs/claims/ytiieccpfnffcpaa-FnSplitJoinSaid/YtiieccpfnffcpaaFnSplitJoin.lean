/- For every slice of bytes the law FnSplitJoin returns true; no condition. -/
import Derived.Test.YtiieccpfnffcpaaRows
import Derived.Test.YtiieccpfnffcpaaFrame
import Derived.Test.YtiieccpfnffcpaaSplitJoin
import Derived.Test.YtiieccpfnffcpaaJoinImpl
import Derived.Test.YtiieccpfnffcpaaDrawJoin
import Derived.Test.YtiieccpfnffcpaaLess
namespace Go.Proofs.Ytiieccpfnffcpaa.fnSplitJoin
open Go.ChangeShapes Go.WideShapes Go.ChangeAt Go.RowKit
open Go.ChangeMaps (open_string shut_string)
open Go.Proofs.Ytiieccpfnffcpaa.L1 Go.Proofs.Ytiieccpfnffcpaa.Mem Go.Proofs.Ytiieccpfnffcpaa.Draw
set_option linter.unusedVariables false
theorem own : ownKnob Try.prog.godebug = none := by kernel_rfl
theorem laidOut : laidOutB Try.prog = true := by kernel_rfl
theorem cellsU8 : Try.prog.cellsOf 5 = 1 := by kernel_rfl
theorem big_no (A : Option Addr) (n c : Nat) (w : World) (hm : n ≤ 65536) : Calls Try.prog 8 #[.slice A n c] w fun e w' => e = .returned (.bool false) ∧ w = w' := by
  have hd : decide (65536 < (n : Int)) = false := decide_eq_false (by omega)
  go_enter Try.func8, Try.ntmps8
  go_wp2
  go_ret
  exact ⟨rfl, rfl⟩
theorem big_yes (A : Option Addr) (n c : Nat) (w : World) (hm : n ≤ 9223372036854775807) (h : 65536 < n) : Calls Try.prog 8 #[.slice A n c] w fun e w' => e = .returned (.bool true) ∧ w = w' := by
  have hd : decide (65536 < (n : Int)) = true := decide_eq_true (by omega)
  go_enter Try.func8, Try.ntmps8
  go_wp2
  go_ret
  exact ⟨rfl, rfl⟩
/-- both JoinStrings, whatever the separator -/
def Joins (ss : List ByteArray) (s1 r : ByteArray) (b : Bool) : Prop := (∃ c, s1 = ⟨#[c]⟩ ∧ JoinIs ss c r b) ∨ (s1.size ≠ 1 ∧ r = ByteArray.empty ∧ b = false)
theorem joins_ex (ss : List ByteArray) (s1 : ByteArray) : ∃ r b, Joins ss s1 r b := by
  by_cases hs : s1.size = 1
  · obtain ⟨c, hc⟩ := one_of_size hs
    obtain ⟨r, b, h⟩ := joinIs_ex ss c
    exact ⟨r, b, .inl ⟨c, hc, h⟩⟩
  · exact ⟨_, _, .inr ⟨hs, rfl, rfl⟩⟩
theorem specJ (A : Option Addr) (n cp B : Nat) (ss : List ByteArray) (s1 r : ByteArray) (b : Bool) (h : Joins ss s1 r b) (w : World) (hr : Reads w B 1 A n (ss.map Value.string)) (hn : n ≤ 1048576) (hss : ∀ s ∈ ss, s.size ≤ 1048576) (hs1 : s1.size ≤ 1048576) :
    Calls Try.prog 13 #[.slice A n cp, .string s1] w fun e w' => e = .returned (.tuple #[.string r, .bool b]) ∧ Below w.heap.size w w' := by
  rcases h with ⟨c, rfl, hj⟩ | ⟨hs, rfl, rfl⟩
  · exact (specJoin_any A n cp B ss c w hr hn hss r b hj).mono fun e w' ⟨h, j, hw⟩ => ⟨h, by rw [hw]; exact ⟨rfl, rfl, rfl, Nat.le_refl _, fun _ _ => rfl⟩⟩
  · exact (specJoin_nosep A n cp s1 w hn hs1 hs).mono fun e w' ⟨h, hw⟩ => ⟨h, by rw [← hw]; exact Below.refl _ _⟩
theorem implJ (A : Option Addr) (n cp B : Nat) (ss : List ByteArray) (s1 r : ByteArray) (b : Bool) (h : Joins ss s1 r b) (w : World) (hr : Reads w B 1 A n (ss.map Value.string)) (hB : B ≤ w.heap.size) (hcp : n ≤ cp) (hn : n ≤ 1048576) (ht : tot ss ≤ 1048576) (hss : ∀ s ∈ ss, s.size ≤ 1048576) (hs1 : s1.size ≤ 1048576) :
    Calls Try.prog 12 #[.slice A n cp, .string s1] w fun e w' => e = .returned (.tuple #[.string r, .bool b]) ∧ Below w.heap.size w w' := by
  rcases h with ⟨c, rfl, hj⟩ | ⟨hs, rfl, rfl⟩
  · exact implJoin_any A n cp B ss c w hr hB hcp hn ht hss r b hj
  · exact (implJoin_nosep A n cp s1 w hn hs1 hs).mono fun e w' ⟨h, hw⟩ => ⟨h, by rw [← hw]; exact Below.refl _ _⟩
theorem tot_le (m : Nat) : ∀ ss : List ByteArray, (∀ s ∈ ss, s.size ≤ m) → tot ss ≤ m * ss.length
  | [], _ => by simp [tot]
  | a :: l, h => by
    have h1 := tot_le m l (fun s hs => h s (by simp [hs]))
    have h2 := h a (by simp)
    have e : tot (a :: l) = a.size + tot l := by simp [tot]
    rw [e, List.length_cons, Nat.mul_succ]
    omega
theorem parts_one (s : ByteArray) (c : UInt8) (h : s.size ≤ 4000) : Joins (Parts s c) ⟨#[c]⟩ s true := .inl ⟨c, rfl, .inl ⟨rfl, parts_ok s c h, (parts_join s c).symm⟩⟩
theorem parts_small (s : ByteArray) (c : UInt8) (h : s.size ≤ 20) : (Parts s c).length ≤ 21 ∧ tot (Parts s c) ≤ 20 ∧ ∀ x ∈ Parts s c, x.size ≤ 20 := by
  have hz := jb_size (Parts s c) ⟨#[c]⟩ (parts_ok s c (by omega)).1
  rw [parts_join] at hz
  have h1 : ({ data := #[c] } : ByteArray).size = 1 := rfl
  rw [h1] at hz
  refine ⟨by omega, by omega, fun x hx => ?_⟩
  obtain ⟨k, hk⟩ := List.getElem?_of_mem hx
  have a := tot_snoc _ k x hk
  have b := tot_take (Parts s c) (k + 1)
  omega
set_option maxHeartbeats 2000000 in
theorem walk0 (W : World) (A : Option Addr) (n c : Nat) (zs : List Int) (hn : n ≤ 9223372036854775807) (hz : ∀ z ∈ zs, 0 ≤ z ∧ z ≤ 255) (hr : Reads W W.heap.size 1 A n (zs.map (Value.int .u8))) :
    Calls Try.prog 3 #[.slice A n c] W fun e W' => e = .returned (.bool true) ∧ Below W.heap.size W W' := by
  have HR := Lib.hid hr
  have HZ := Lib.hid hz
  clear hr hz
  by_cases h1 : 65536 < n
  · go_enter Try.func3, Try.ntmps3
    go_wp2_with (go_at_call 8; ((with_reducible refine (big_yes A n c _ hn h1).mono ?_); rintro e w1 ⟨rfl, rfl⟩))
    go_ret
    exact ⟨rfl, Below.refl _ _⟩
  have hn' : n ≤ 65536 := by omega
  go_enter Try.func3, Try.ntmps3
  go_wp2_with fail
  refine (big_no A n c _ hn').mono ?_
  rintro e w1 ⟨rfl, rfl⟩
  go_wp2_with fail
  refine (drawSplit_any _ A n c zs HZ.out HR.out (by omega)).mono ?_
  rintro e w1 ⟨s, sep, rfl, hs, hsep, hb1⟩
  obtain ⟨ps, b, hps⟩ := splitIs_ex s sep
  have HPS := Lib.hid hps
  clear hps
  go_wp2_with fail
  refine (implSplit_any s sep ps b HPS.out (by omega) (by omega) _).mono ?_
  rintro e w2 ⟨A2, c2, rfl, hown2, hb2⟩
  have hr2 := Lib.hid (Reads.of_own hown2)
  have hc2 : ps.length ≤ c2 := by obtain ⟨_, c', hv, h, _⟩ := own_form hown2; injection hv with _ _ h3; rw [h3]; exact h
  have hb12 := hb1.trans (hb2.mono hb1.size)
  clear hown2 hb1 hb2
  go_wp2_with fail
  refine (drawJoin_any _ A n c zs HZ.out ((HR.out.below hb12).more hb12.size) (by omega)).mono ?_
  rintro e w3 ⟨A3, c3, ks, mark, rfl, hown3, hkl, hks, hmk, hb3⟩
  have hr3 := Lib.hid (Reads.of_own hown3)
  have hc3 : ks.length ≤ c3 := by obtain ⟨_, c', hv, h, _⟩ := own_form hown3; injection hv with _ _ h3; rw [h3]; exact h
  have hr23 := Lib.hid (hr2.out.below hb3)
  have hz23 := hb3.size
  have hb13 := hb12.trans (hb3.mono hb12.size)
  have hkt := tot_le 5000 ks hks
  have HKS : Hid (∀ s ∈ ks, s.size ≤ 1048576) := Lib.hid (fun s h => by have := hks s h; omega)
  obtain ⟨r, jb, hj⟩ := joins_ex ks mark
  have HJ := Lib.hid hj
  clear hown3 hb12 hb3 hr2 hks hj
  go_wp2_with fail
  refine (implJ A3 _ c3 _ ks mark r jb HJ.out _ hr3.out (Nat.le_refl _) hc3 (by omega) (by omega) HKS.out (by omega)).mono ?_
  rintro e w4 ⟨rfl, hb4⟩
  have hr34 := Lib.hid (hr3.out.below hb4)
  have hr24 := Lib.hid (hr23.out.keep fun p hp => hb4.cell (by omega))
  have hz24 := Nat.le_trans hz23 hb4.size
  have hb14 := hb13.trans (hb4.mono hb13.size)
  clear hr3 hr23 hb13 hb4 hz23
  go_wp2_with fail
  refine (specJ A3 _ c3 _ ks mark r jb HJ.out _ hr34.out (by omega) HKS.out (by omega)).mono ?_
  rintro e w5 ⟨rfl, hb5⟩
  have hr25 := Lib.hid (hr24.out.keep fun p hp => hb5.cell (by omega))
  have hz25 := Nat.le_trans hz24 hb5.size
  have hb15 := hb14.trans (hb5.mono hb14.size)
  clear hr34 hr24 hb14 hb5 hz24
  go_wp2_with fail
  refine (drawLess_any _ A n c zs HZ.out ((HR.out.below hb15).more hb15.size) (by omega)).mono ?_
  rintro e w6 ⟨x, y, rfl, _, _, hb6⟩
  have hr26 := Lib.hid (hr25.out.keep fun p hp => hb6.cell (by omega))
  have hz26 := Nat.le_trans hz25 hb6.size
  have hb16 := hb15.trans (hb6.mono hb15.size)
  obtain ⟨p, hp⟩ : ∃ p, Op.bytesLess x.toList y.toList = p := ⟨_, rfl⟩
  obtain ⟨q, hq⟩ : ∃ q, Op.bytesLess y.toList x.toList = q := ⟨_, rfl⟩
  have hpq : p = true → q = false := fun h => by rw [← hq]; exact less_asym _ _ (by rw [hp]; exact h)
  have cI := Lib.hid fun w => implLess x y p hp w
  have cI2 := Lib.hid fun w => implLess y x q hq w
  have cS := Lib.hid fun w => specLess x y p hp w
  clear hr25 hb15 hb6 hz25 hp hq
  rcases HPS.out with ⟨rfl, hs4, cc, rfl, rfl⟩ | ⟨rfl, rfl, hno⟩
  · obtain ⟨hp1, hp2, hp3⟩ := parts_small s cc hs
    have hsz1 : ({ data := #[cc] } : ByteArray).size = 1 := rfl
    have HJ2 := Lib.hid (parts_one s cc hs4)
    have HP3 : Hid (∀ x ∈ Parts s cc, x.size ≤ 1048576) := Lib.hid (fun x h => by have := hp3 x h; omega)
    clear hp3 HPS
    cases p with
    | true =>
      obtain rfl := hpq rfl
      go_wp2_with (first | (go_at_call 15; ((with_reducible refine (cI.out _).mono ?_); rintro e w1 ⟨rfl, rfl⟩)) | (go_at_call 15; ((with_reducible refine (cI2.out _).mono ?_); rintro e w1 ⟨rfl, rfl⟩)) | (go_at_call 16; ((with_reducible refine (cS.out _).mono ?_); rintro e w1 ⟨rfl, rfl⟩)))
      refine (implJ A2 _ c2 _ (Parts s cc) ⟨#[cc]⟩ s true HJ2.out _ hr26.out hz26 hc2 (by omega) (by omega) HP3.out (by omega)).mono ?_
      rintro e w7 ⟨rfl, hb7⟩
      have hb17 := hb16.trans (hb7.mono hb16.size)
      clear hb7 hb16
      go_wp2_with fail
      go_ret
      exact ⟨rfl, hb17⟩
    | false =>
      go_wp2_with (first | (go_at_call 15; ((with_reducible refine (cI.out _).mono ?_); rintro e w1 ⟨rfl, rfl⟩)) | (go_at_call 16; ((with_reducible refine (cS.out _).mono ?_); rintro e w1 ⟨rfl, rfl⟩)))
      refine (implJ A2 _ c2 _ (Parts s cc) ⟨#[cc]⟩ s true HJ2.out _ hr26.out hz26 hc2 (by omega) (by omega) HP3.out (by omega)).mono ?_
      rintro e w7 ⟨rfl, hb7⟩
      have hb17 := hb16.trans (hb7.mono hb16.size)
      clear hb7 hb16
      go_wp2_with fail
      go_ret
      exact ⟨rfl, hb17⟩
  · have hs1 : sep.size ≠ 1 := by rcases hno with h | h; omega; exact h
    have t1 : ((sep.size : Int) == 1) = false := by simp; omega
    have t2 : ((sep.size : Int) != 1) = true := by simp only [bne, t1, Bool.not_false]
    clear hno hs1 HPS
    cases p with
    | true =>
      obtain rfl := hpq rfl
      go_wp2_with (first | (go_at_call 15; ((with_reducible refine (cI.out _).mono ?_); rintro e w1 ⟨rfl, rfl⟩)) | (go_at_call 15; ((with_reducible refine (cI2.out _).mono ?_); rintro e w1 ⟨rfl, rfl⟩)) | (go_at_call 16; ((with_reducible refine (cS.out _).mono ?_); rintro e w1 ⟨rfl, rfl⟩)))
      go_ret
      exact ⟨rfl, hb16⟩
    | false =>
      go_wp2_with (first | (go_at_call 15; ((with_reducible refine (cI.out _).mono ?_); rintro e w1 ⟨rfl, rfl⟩)) | (go_at_call 16; ((with_reducible refine (cS.out _).mono ?_); rintro e w1 ⟨rfl, rfl⟩)))
      go_ret
      exact ⟨rfl, hb16⟩

/-- the law's Go text returns true, and nothing that was there has turned -/
theorem walk {H : Type} {enc : TypeId × Value → H} (W : World) (base : Nat) (v0 : Value) (d0 : DataW H) (p0 : List MemPlace) (q0 : Value.okWide Try.prog W .any base 22 v0) (h0 : DataW.Trod enc Try.prog W 0 (fun _ => true) true 22 v0 d0 p0) (l0 : ∀ x ∈ p0, x.block < W.heap.size) (hL : laidMetH Try.prog Rows.fnSplitJoinRow.laid W) (hsh : W.ShapedOpen Try.prog) :
    Calls Try.prog 3 #[v0] W fun e W' => e = .returned (.bool true) ∧ Below W.heap.size W W' := by
  obtain ⟨A, n, c, zs, rfl, hc, hcm, hl, hwf, hr⟩ := open_nums Try.underlying22 Try.underlying5 cellsU8 q0 h0
  unfold maxLen at hcm
  exact walk0 W A n c zs (by omega) (fun z hz => bounds_u8 (hwf z hz)) hr
theorem laid_met (os : Os) : laidMetH Try.prog Rows.fnSplitJoinRow.laid ((World.holding Try.prog os ⟨#[], #[], []⟩).forCall (fun _ _ => 0) ⟨#[], #[(.slice none 0 0 : Value)], []⟩).memory := ⟨[], rfl, List.nodup_nil, fun _ _ h => by cases h⟩
theorem reads (os : Os) {H : Type} (enc : TypeId × Value → H) : (DataW.whole enc Try.prog ((World.holding Try.prog os ⟨#[], #[], []⟩).forCall (fun _ _ => 0) ⟨#[], #[(.slice none 0 0 : Value)], []⟩).memory Try.f3.params.toList Rows.fnSplitJoinSpec.vars false #[(.slice none 0 0 : Value)].toList 8).isSome = true := by kernel_rfl
set_option maxRecDepth 100000 in
theorem lifted (os : Os) (started : os.Started) (H : Type) (enc : TypeId × Value → H) (F : Stop.Interp) :
    ReturnsInHanded {} Try.checked os 3 .any ((OpenSpec.ofChange Rows.fnSplitJoinSpec).preRow enc Try.prog Try.f3 Rows.fnSplitJoinRow.domain false Rows.fnSplitJoinRow.laid) (((OpenSpec.ofChange Rows.fnSplitJoinSpec).at F).post enc Try.prog Try.f3 false true false false) := by
  obtain ⟨x, hx⟩ := Option.isSome_iff_exists.1 (reads os enc)
  refine returnsInHanded_of_row (C := Try.checked) (s := OpenSpec.ofChange Rows.fnSplitJoinSpec) own started (by kernel_rfl) Try.func3
    (witness_row_at (enc := enc) (C := Try.checked) false (World.holding Try.prog os ⟨#[], #[], []⟩) #[(.slice none 0 0 : Value)] rfl (by kernel_rfl) (by kernel_rfl) (by kernel_rfl)
      (OpenSpec.preRow_of_cond 8 hx (by rfl) (fun k hk => by cases hk) (by kernel_rfl) (laid_met os))) ?_
  intro W base args ds gs before hval0 hW _ hcond hsz hL hsh _
  have hval : ∀ (j : Nat) t v, Try.f3.params[j]? = some t → args[j]? = some v → Value.okWide Try.prog W .any base t v := hval0
  have hW' := hW
  obtain ⟨p, q, hA0, hV, rfl, hfz, hnd⟩ := hW
  have hA : DataW.TrodAll enc Try.prog W 0 (fun _ => true) true Try.f3.params.toList args.toList ds p := hA0
  rw [Try.params3] at hA hval
  obtain ⟨v0, vs0, d0, ds0, p0, q0, hargs, rfl, rfl, h0, r0⟩ := trodAll_cons hA
  obtain ⟨rfl, rfl, rfl⟩ := trodAll_nil r0
  obtain rfl : args = #[v0] := by cases args; simp_all
  obtain ⟨rfl, rfl⟩ := trodVars_none hV
  clear hA0 hval0
  simp only [List.append_nil] at hW'
  refine (walk (enc := enc) W base v0 d0 p0 (hval 0 22 v0 rfl rfl) h0 (fun x hx => hW'.lt x (by simp [hx])) hL hsh).mono fun e W' ⟨he, hb⟩ => ⟨_, he, Fr.post_true laidOut (by kernel_rfl) (by kernel_rfl) Try.underlying4 rfl hW' (fun xs hx => by match xs, hx with | [x0], _ => rfl) hb⟩
theorem said : Rows.FnSplitJoinSaid :=
  OpenClaim.holds_of_cond 3 Try.f3 rfl rfl rfl rfl rfl rfl rfl ⟨rfl, rfl, rfl, rfl, rfl⟩ rfl rfl rfl rfl rfl (by kernel_rfl) Try.func3 (by kernel_rfl)
    (of_decide_eq_true (by kernel_rfl)) (by unfold Func.isWrapper; first | (rw [if_pos (by decide +kernel)]; kernel_rfl) | (rw [if_neg (by decide +kernel)]; exact ⟨rfl, rfl⟩))
    (fun os started H enc _ F => by rw [OpenClaim.pre_eq_preRow]; exact lifted os started H enc F)
#print axioms said
end Go.Proofs.Ytiieccpfnffcpaa.fnSplitJoin
