/- What impl.ParseInt answers: the number whose decimal numeral the text is, if there is one. -/
import Derived.Test.YtadpjkghfgnbbaaDoorRead0
import Derived.Test.YtadpjkghfgnbbaaDoorFmI
import Derived.Test.YtadpjkghfgnbbaaDoorL1Pure
import Derived.Test.YtadpjkghfgnbbaaDoorShelfErr
import Derived.Test.YtadpjkghfgnbbaaDoorFrame
import Derived.Lib.AtoiErrMem
namespace Go.Proofs.YtadpjkghfgnbbaaDoor.L1
open Go.RowKit Go.Sort
theorem dval_ge : ∀ (l : List UInt8) (a : Nat), a ≤ dval a l
  | [], a => Nat.le_refl _
  | c :: l, a => by
    have := dval_ge l (10 * a + (c.toNat - 48))
    show a ≤ dval (10 * a + (c.toNat - 48)) l
    omega
theorem parse_digits : ∀ (l : List UInt8) (a : Nat), (∀ c ∈ l, 48 ≤ c.toNat ∧ c.toNat ≤ 57) → dval a l ≤ 999999 → Lib.parseUint10 a l = .ok (dval a l)
  | [], a, _, _ => rfl
  | c :: l, a, hd, hv => by
    have h := hd c (by simp)
    have hv' : dval (10 * a + (c.toNat - 48)) l ≤ 999999 := hv
    have hg := dval_ge l (10 * a + (c.toNat - 48))
    rw [Lib.parseUint10, if_pos h, if_neg (by omega), if_neg (by omega), show a * 10 + (c.toNat - 48) = 10 * a + (c.toNat - 48) from by omega, parse_digits l _ (fun x hx => hd x (by simp [hx])) hv']
    rfl
theorem parse_mag (u : Nat) (h : u ≤ 999999) : Lib.parseMag (Lib.decDigits u) = .ok u := by
  rw [Lib.parseMag, if_neg (dd_ne u), parse_digits _ 0 (dd_digits u) (by rw [dval_dd]; exact h), dval_dd]
theorem atoi_num {s : ByteArray} {n : Int} (h0 : -999999 ≤ n) (h1 : n ≤ 999999) (h : NumB n = s) : Lib.atoiAll s.data.toList = .ok n := by
  subst h
  by_cases hn : n < 0
  · rw [numB_neg hn]
    simp only [Lib.atoiAll]
    have e : (45 : UInt8).toNat = 45 := rfl
    rw [if_pos (.inr e), parse_mag _ (by omega)]
    simp only [e, not_true_eq_false, false_and, if_false, true_and]
    rw [if_neg (by omega)]
    simp
    omega
  · have hd := dd_digits n.natAbs
    have hm := parse_mag n.natAbs (by omega)
    rw [numB_pos (by omega)]
    cases hl : Lib.decDigits n.natAbs with
    | nil => exact absurd hl (dd_ne _)
    | cons c l =>
      have hc := hd c (by rw [hl]; simp)
      rw [hl] at hm
      simp only [Lib.atoiAll]
      rw [if_neg (by omega), hm]
      simp only
      have hc' : ¬ c.toNat = 45 := by omega
      simp only [hc', not_false_eq_true, true_and, false_and, if_false]
      rw [if_neg (by omega)]
      simp
      omega
/-- what Atoi's two errors hold -/
def ErrsIs (w : World) : Prop := (∃ tp p, w.var? Tryd.prog "strconv.ErrSyntax" = some #[.iface tp p]) ∧ (∃ tp p, w.var? Tryd.prog "strconv.ErrRange" = some #[.iface tp p])
theorem errs_below {w w' : World} (h : Below w.heap.size w w') (he : ErrsIs w) : ErrsIs w' := by
  obtain ⟨⟨a, b, h1⟩, ⟨c, d, h2⟩⟩ := he
  exact ⟨⟨a, b, Fr.var_below h h1⟩, ⟨c, d, Fr.var_below h h2⟩⟩
theorem atoi_ok (s : ByteArray) (hs : s.size ≤ 1048576) (v : Int) (h : Lib.atoiAll s.data.toList = .ok v) (w : World) :
    Calls Tryd.prog 50 #[.string s] w fun e w' => e = .returned (.tuple #[.int .i64 v, .nilIface]) ∧ Below w.heap.size w w' := by
  refine (Tryd.strconv_Atoi_ok s (by omega) v h w).mono ?_
  rintro e w' ⟨rfl, hw⟩
  refine ⟨rfl, ?_⟩
  rcases hw with rfl | ⟨t, rfl⟩
  · exact Below.refl _ _
  · exact Lib.bytesWorld_below _ _ _
theorem atoi_no (s : ByteArray) (hs : s.size ≤ 1048576) (h : ∀ v, Lib.atoiAll s.data.toList ≠ .ok v) (w : World) (he : ErrsIs w) :
    Calls Tryd.prog 50 #[.string s] w fun e w' => ∃ (v : Int) (N : Nat), e = .returned (.tuple #[.int .i64 v, .iface 89 (.pointer (some ⟨N, 0, none⟩))]) ∧ Below w.heap.size w w' := by
  obtain ⟨⟨a, b, h1⟩, ⟨c, d, h2⟩⟩ := he
  by_cases hc : Lib.atoiAll s.data.toList = .range
  · refine (Tryd.strconv_Atoi_range_var s (by omega) hc c d w h2).mono ?_
    rintro e w' ⟨N, rfl, _, _, hb⟩
    exact ⟨_, N, rfl, hb⟩
  · refine (Tryd.strconv_Atoi_syntax_var s (by omega) h hc a b w h1).mono ?_
    rintro e w' ⟨N, rfl, _, _, hb⟩
    exact ⟨_, N, rfl, hb⟩
theorem implParse_no (s : ByteArray) (hs : s.size ≤ 1048576) (h : ∀ v, Lib.atoiAll s.data.toList ≠ .ok v) (w : World) (he : ErrsIs w) :
    Calls Tryd.prog 39 #[.string s] w fun e w' => e = .returned (.tuple #[.int .i64 0, .bool false]) ∧ Below w.heap.size w w' := by
  have H := Lib.hid h
  have HE := Lib.hid he
  clear h he
  go_enter Tryd.func39, Tryd.ntmps39
  go_wp2_with (go_at_call 50; ((with_reducible refine (atoi_no s hs H.out _ HE.out).mono ?_); rintro e w1 ⟨v, N, rfl, hb1⟩))
  go_ret2
  exact ⟨rfl, hb1⟩
theorem implParse_out (s : ByteArray) (hs : s.size ≤ 1048576) (v : Int) (h : Lib.atoiAll s.data.toList = .ok v) (hv : v < -999999 ∨ 999999 < v) (w : World) :
    Calls Tryd.prog 39 #[.string s] w fun e w' => e = .returned (.tuple #[.int .i64 0, .bool false]) ∧ Below w.heap.size w w' := by
  have H := Lib.hid h
  clear h
  go_enter Tryd.func39, Tryd.ntmps39
  go_wp2_with (first | (go_at_call 50; ((with_reducible refine (atoi_ok s hs v H.out _).mono ?_); rintro e w1 ⟨rfl, hb1⟩)) | (go_at_call 32; ((with_reducible refine (implFmt_no v hv _).mono ?_); rintro e w2 ⟨rfl, rfl⟩)))
  go_ret2
  exact ⟨rfl, hb1⟩
theorem implParse_in (s : ByteArray) (hs : s.size ≤ 1048576) (v : Int) (h : Lib.atoiAll s.data.toList = .ok v) (h0 : -999999 ≤ v) (h1 : v ≤ 999999) (r : Int) (b : Bool)
    (t1 : ((NumB v).toList == s.toList) = b) (hr : r = if b then v else 0) (w : World) (htab : Lib.TabIs Tryd.prog w "internal/strconv.uint64pow10" .u64 Lib.pow10Tab) :
    Calls Tryd.prog 39 #[.string s] w fun e w' => e = .returned (.tuple #[.int .i64 r, .bool b]) ∧ Below w.heap.size w w' := by
  have H := Lib.hid h
  have HT := Lib.hid htab
  clear h htab
  subst hr
  cases b
  all_goals
    go_enter Tryd.func39, Tryd.ntmps39
    go_wp2_with (first | (go_at_call 50; ((with_reducible refine (atoi_ok s hs v H.out _).mono ?_); rintro e w1 ⟨rfl, hb1⟩)) | (go_at_call 32; ((with_reducible refine (implFmt_yes v h0 h1 _ (Fr.tabIs_below hb1 HT.out)).mono ?_); rintro e w2 ⟨rfl, hb2⟩)))
    go_ret2
    exact ⟨rfl, hb1.trans (hb2.mono hb1.size)⟩
theorem implParseInt (s : ByteArray) (r : Int) (b : Bool) (hr : ReadIs s r b) (w : World) (hs : s.size ≤ 1048576) (htab : Lib.TabIs Tryd.prog w "internal/strconv.uint64pow10" .u64 Lib.pow10Tab) (he : ErrsIs w) :
    Calls Tryd.prog 39 #[.string s] w fun e w' => e = .returned (.tuple #[.int .i64 r, .bool b]) ∧ Below w.heap.size w w' := by
  have hno : (∀ v, -999999 ≤ v → v ≤ 999999 → Lib.atoiAll s.data.toList ≠ .ok v) → r = 0 ∧ b = false := by
    intro h
    rcases hr with ⟨_, h0, h1, h2⟩ | ⟨rfl, rfl, _⟩
    · exact absurd (atoi_num h0 h1 h2) (h r h0 h1)
    · exact ⟨rfl, rfl⟩
  by_cases hok : ∃ v, Lib.atoiAll s.data.toList = .ok v
  · obtain ⟨v, hv⟩ := hok
    by_cases hb : -999999 ≤ v ∧ v ≤ 999999
    · rcases read_end (n := v) hr hb.1 hb.2 with ⟨h1, h2, h3⟩ | ⟨h1, h2, h3⟩ | ⟨h1, h2, h3, h4⟩
      · exact implParse_in s hs v hv hb.1 hb.2 r b (by rw [h1, h3]; simp) (by rw [h2, h3]; rfl) w htab
      · exact implParse_in s hs v hv hb.1 hb.2 r b (by rw [h3]; exact toList_ne h1) (by rw [h2, h3]; rfl) w htab
      · exfalso
        rcases hr with ⟨_, h5, h6, h7⟩ | ⟨rfl, _, _⟩
        · have := atoi_num h5 h6 h7
          rw [hv] at this
          exact h3 (by injection this with e; exact e.symm)
        · cases h2
    · obtain ⟨rfl, rfl⟩ := hno (fun x h0 h1 hx => hb (by rw [hv] at hx; injection hx with e; omega))
      exact implParse_out s hs v hv (by omega) w
  · obtain ⟨rfl, rfl⟩ := hno (fun x _ _ hx => hok ⟨x, hx⟩)
    exact implParse_no s hs (fun v hv => hok ⟨v, hv⟩) w he
end Go.Proofs.YtadpjkghfgnbbaaDoor.L1
