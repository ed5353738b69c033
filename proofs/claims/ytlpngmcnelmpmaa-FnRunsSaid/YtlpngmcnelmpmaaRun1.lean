/- What spec.l2Run, spec.LongestFree and spec.GrantRun answer. -/
import Derived.Test.YtlpngmcnelmpmaaRun0
namespace Go.Proofs.Ytlpngmcnelmpmaa.Fra
open Go.RowKit Go.Proofs.Ytlpngmcnelmpmaa.Mem Go.Proofs.Ytlpngmcnelmpmaa.Own Go.Proofs.Ytlpngmcnelmpmaa.L1
theorem upFrom_succ (s l : Nat) : upFrom s (l + 1) = upFrom s l ++ [((s + l : Nat) : Int)] := by
  unfold upFrom
  rw [List.range_succ, List.map_append]
  rfl
set_option maxHeartbeats 1000000 in
theorem l2Run_any (A : Option Addr) (n c B : Nat) (zs : List Int) (f : Nat) (w : World) (hr : Reads w B 1 A n (I zs)) (hf : f ≤ n) (hn : n ≤ 1048576) :
    Calls Try.prog 51 #[.slice A n c, .int .i64 f] w fun e w' => e = .returned (.int .i64 (zrun zs f)) ∧ w = w' := by
  have HL : Hid (zs.length = n) := Lib.hid (by have := hr.len; simpa [I] using this)
  go_enter Try.func51, Try.ntmps51
  go_wp2
  go_loop [5] (fun i => ∃ (k : Nat), i = .int .i64 k ∧ f + k ≤ n ∧ Hid (zrun zs f = k + zrun zs (f + k))) (fun i => n - (intOf i).toNat)
  case atStart => exact ⟨0, rfl, by omega, Lib.hid (by simp)⟩
  case round =>
    obtain ⟨k, rfl, hk, HK⟩ := hrel
    by_cases hlt : f + k < n
    · obtain ⟨b1, o1, z, rfl, _, hu, hc⟩ := hr.int_at hlt
      by_cases h0 : z = 0
      · subst h0
        have HK2 : Hid (zrun zs f = (k + 1) + zrun zs (f + (k + 1))) := Lib.hid (by rw [HK.out, zrun_hit hu, show f + k + 1 = f + (k + 1) from by omega]; omega)
        clear hu HK
        go_wp2
        go_round
        case rel => exact ⟨k + 1, by go_num, by omega, HK2⟩
        case measure => simp [intOf]; omega
      · have t1 : (z == 0) = false := by simpa using h0
        have HK2 : Hid (zrun zs f = k) := Lib.hid (by rw [HK.out, zrun_miss (by rw [hu]; simpa using h0)]; rfl)
        clear hu HK
        go_wp2
        go_ret
        rw [HK2.out]
        exact ⟨rfl, rfl⟩
    · have HK2 : Hid (zrun zs f = k) := Lib.hid (by rw [HK.out, zrun_miss (by rw [List.getElem?_eq_none (by rw [HL.out]; omega)]; simp)]; rfl)
      clear HK
      go_wp2
      go_ret
      rw [HK2.out]
      exact ⟨rfl, rfl⟩
def LongIs (zs : List Int) (b m : Nat) (ok : Bool) : Prop :=
  (GoodOw zs ∧ 0 < m ∧ LM zs zs.length b m ∧ ok = true) ∨ ((GoodOw zs → LM zs zs.length 0 0) ∧ b = 0 ∧ m = 0 ∧ ok = false)
theorem LM_m0 {zs : List Int} {k b : Nat} (h : LM zs k b 0) : b = 0 := by
  rcases h with ⟨_, h, _⟩ | ⟨_, _, h, _⟩
  · exact h
  · omega
theorem longIs_ex (zs : List Int) : ∃ b m ok, LongIs zs b m ok := by
  by_cases h : GoodOw zs
  · obtain ⟨b, m, hm⟩ := LM_ex zs zs.length
    by_cases h0 : 0 < m
    · exact ⟨b, m, true, .inl ⟨h, h0, hm, rfl⟩⟩
    · obtain rfl : m = 0 := by omega
      obtain rfl := LM_m0 hm
      exact ⟨0, 0, false, .inr ⟨fun _ => hm, rfl, rfl, rfl⟩⟩
  · exact ⟨0, 0, false, .inr ⟨fun hg => absurd hg h, rfl, rfl, rfl⟩⟩
set_option maxHeartbeats 1000000 in
theorem specLongestFree_any (A : Option Addr) (n c : Nat) (zs : List Int) (b m : Nat) (ok : Bool) (h : LongIs zs b m ok) (hn : n ≤ 1048576) (w : World) (hr : Reads w w.heap.size 1 A n (I zs)) :
    Calls Try.prog 17 #[.slice A n c] w fun e w' => e = .returned (.tuple #[.int .i64 b, .int .i64 m, .bool ok]) ∧ Below w.heap.size w w' := by
  have hl : zs.length = n := by have := hr.len; simpa [I] using this
  obtain ⟨g, hg⟩ : ∃ g, decide (GoodOw zs) = g := ⟨_, rfl⟩
  have HG := Lib.hid (l2Good_any A n c _ zs w hr hn g hg)
  cases g with
  | false =>
    obtain ⟨rfl, rfl, rfl⟩ : b = 0 ∧ m = 0 ∧ ok = false := by
      rcases h with ⟨h1, _⟩ | ⟨_, h2⟩
      · exact absurd h1 (of_decide_eq_false hg)
      · exact h2
    clear hr hl h hg
    go_enter Try.func17, Try.ntmps17
    go_wp2_with (go_at_call 50; with_reducible refine HG.out.mono ?_; rintro e w1 ⟨rfl, rfl⟩)
    go_ret3
    exact ⟨rfl, Below.refl _ _⟩
  | true =>
    have HE : Hid (∀ b' m', LM zs n b' m' → b' = b ∧ m' = m ∧ (ok = decide (0 < m'))) := Lib.hid fun b' m' h' => by
      rw [← hl] at h'
      rcases h with ⟨_, h2, h3, rfl⟩ | ⟨h2, rfl, rfl, rfl⟩
      · obtain ⟨rfl, rfl⟩ := LM_unique h' h3
        exact ⟨rfl, rfl, (decide_eq_true h2).symm⟩
      · obtain ⟨rfl, rfl⟩ := LM_unique h' (h2 (of_decide_eq_true hg))
        exact ⟨rfl, rfl, rfl⟩
    have HR := Lib.hid fun (f : Nat) (hf : f ≤ n) => l2Run_any A n c _ zs f w hr hf hn
    have HZ : Hid (∀ f, f ≤ n → f + zrun zs f ≤ n) := Lib.hid fun f hf => by have := zrun_le zs f (by omega); omega
    clear hr hl h hg
    go_enter Try.func17, Try.ntmps17
    go_wp2_with (go_at_call 50; with_reducible refine HG.out.mono ?_; rintro e w1 ⟨rfl, rfl⟩)
    go_loop [5, 6, 7] (fun x y i => ∃ (k b' m' : Nat), i = .int .i64 k ∧ x = .int .i64 b' ∧ y = .int .i64 m' ∧ k ≤ n ∧ Hid (LM zs k b' m')) (fun _ _ i => n - (intOf i).toNat)
    case atStart => exact ⟨0, 0, 0, rfl, rfl, rfl, Nat.zero_le _, Lib.hid (LM_zero zs)⟩
    case round =>
      obtain ⟨k, b', m', rfl, rfl, rfl, hk, HK⟩ := hrel
      by_cases hlt : k < n
      · have HC := Lib.hid (HR.out k hk)
        have hzb := HZ.out k hk
        by_cases hm : m' < zrun zs k
        · have HK2 := Lib.hid (LM_more HK.out hm)
          obtain ⟨r, hrr⟩ : ∃ r, zrun zs k = r := ⟨_, rfl⟩
          rw [hrr] at HC hzb hm HK2
          clear HK hrr
          go_wp2_with (go_at_call 51; with_reducible refine HC.out.mono ?_; rintro e w1 ⟨rfl, rfl⟩)
          go_round
          case rel => exact ⟨k + 1, k, r, by go_num, rfl, rfl, by omega, HK2⟩
          case measure => simp [intOf]; omega
        · have HK2 := Lib.hid (LM_less HK.out (by omega))
          obtain ⟨r, hrr⟩ : ∃ r, zrun zs k = r := ⟨_, rfl⟩
          rw [hrr] at HC hzb hm
          clear HK hrr
          go_wp2_with (go_at_call 51; with_reducible refine HC.out.mono ?_; rintro e w1 ⟨rfl, rfl⟩)
          go_round
          case rel => exact ⟨k + 1, b', m', by go_num, rfl, rfl, by omega, HK2⟩
          case measure => simp [intOf]; omega
      · have hkn : k = n := by omega
        subst hkn
        obtain ⟨rfl, rfl, hok⟩ := HE.out _ _ HK.out
        have HK' := HK
        clear HK HE HR HZ
        by_cases h0 : 0 < m'
        · have hok' : ok = true := by rw [hok]; exact decide_eq_true h0
          subst hok'
          have t1 : ((m' : Int) == 0) = false := by simp; omega
          clear hok HK'
          go_wp2
          go_ret3
          exact ⟨rfl, Below.refl _ _⟩
        · obtain rfl : m' = 0 := by omega
          obtain rfl := LM_m0 HK'.out
          have hok' : ok = false := by rw [hok]; rfl
          subst hok'
          clear hok HK'
          go_wp2
          go_ret3
          exact ⟨rfl, Below.refl _ _⟩
def RunIs (zs : List Int) (o c : Int) (xs : List Int) (s : Nat) (ok : Bool) : Prop :=
  (∃ m : Nat, c = m ∧ GoodOw zs ∧ 1 ≤ o ∧ o ≤ 4 ∧ 1 ≤ m ∧ m ≤ zrun zs s ∧ (∀ f, f < s → zrun zs f < m) ∧ xs = put zs o (upFrom s m) ∧ ok = true) ∨
  ((GoodOw zs → 1 ≤ o → o ≤ 4 → 1 ≤ c → ∀ f, (zrun zs f : Int) < c) ∧ xs = [] ∧ s = 0 ∧ ok = false)
theorem least {p : Nat → Prop} [DecidablePred p] {f : Nat} (h : p f) : ∃ s, p s ∧ ∀ g, g < s → ¬ p g := by
  induction f using Nat.strongRecOn with
  | _ f ih =>
    by_cases hx : ∃ g, g < f ∧ p g
    · obtain ⟨g, hg, hp⟩ := hx
      exact ih g hg hp
    · exact ⟨f, h, fun g hg hp => hx ⟨g, hg, hp⟩⟩
theorem runIs_ex (zs : List Int) (o c : Int) : ∃ xs s ok, RunIs zs o c xs s ok ∧ xs.length ≤ 16 := by
  by_cases h : GoodOw zs ∧ 1 ≤ o ∧ o ≤ 4 ∧ 1 ≤ c ∧ ∃ f, c ≤ (zrun zs f : Int)
  · obtain ⟨h1, h2, h3, h4, f, h5⟩ := h
    obtain ⟨m, rfl⟩ : ∃ m : Nat, c = m := ⟨c.toNat, by omega⟩
    obtain ⟨s, hs1, hs2⟩ := least (p := fun f => m ≤ zrun zs f) (f := f) (by omega)
    exact ⟨_, s, true, .inl ⟨m, rfl, h1, h2, h3, by omega, hs1, fun g hg => by have := hs2 g hg; omega, rfl, rfl⟩, by rw [put_len]; exact h1.2.2⟩
  · refine ⟨[], 0, false, .inr ⟨fun h1 h2 h3 h4 f => ?_, rfl, rfl, rfl⟩, by simp⟩
    have : ¬ c ≤ (zrun zs f : Int) := fun h5 => h ⟨h1, h2, h3, h4, f, h5⟩
    omega
set_option maxHeartbeats 4000000 in
theorem specGrantRun_any (A : Option Addr) (n c : Nat) (zs : List Int) (o k : Int) (xs : List Int) (s : Nat) (b : Bool) (h : RunIs zs o k xs s b) (hn : n ≤ 1048576) (w : World) (hr : Reads w w.heap.size 1 A n (I zs)) (hc0 : A = none → n = 0 ∧ c = 0) :
    Calls Try.prog 20 #[.slice A n c, .int .i64 o, .int .i64 k] w (Row2 xs s b w) := by
  have hl : zs.length = n := by have := hr.len; simpa [I] using this
  obtain ⟨g, hg⟩ : ∃ g, decide (GoodOw zs ∧ 1 ≤ o ∧ o ≤ 4) = g := ⟨_, rfl⟩
  have HG := Lib.hid (l2Guest_any A n c _ zs o w hr hn g hg)
  have HR := Lib.hid fun (f : Nat) (hf : f ≤ n) => l2Run_any A n c _ zs f w hr hf hn
  have HZ : Hid (∀ f, f ≤ n → f + zrun zs f ≤ n) := Lib.hid fun f hf => by have := zrun_le zs f (by omega); omega
  have hx := row2_empty 0 false w
  rcases h with ⟨m, rfl, h1, h2, h3, h4, h5, h6, rfl, rfl⟩ | ⟨h, rfl, rfl, rfl⟩
  · have hgt : g = true := by rw [← hg]; exact decide_eq_true ⟨h1, h2, h3⟩
    subst hgt
    have hsn : s < n := by
      rcases Nat.lt_or_ge s n with hh | hh
      · exact hh
      · have := zrun_miss (zs := zs) (f := s) (by rw [List.getElem?_eq_none (by omega)]; simp)
        omega
    have hmn : s + m ≤ n := by have := HZ.out s (by omega); omega
    have HO := Lib.hid (l1Own_any A n c _ zs w hr hc0 hn)
    have H6 := Lib.hid h6
    have H5 := Lib.hid h5
    have HPL : Hid ((put zs o (upFrom s m)).length = n) := Lib.hid (by rw [put_len]; exact hl)
    clear hr hl hg h1 h5 h6 hx
    go_enter Try.func20, Try.ntmps20
    go_wp2_with (go_at_call 57; with_reducible refine HG.out.mono ?_; rintro e w1 ⟨rfl, rfl⟩)
    go_loop [9] (fun i => ∃ (q : Nat), i = .int .i64 q ∧ q ≤ s) (fun i => s - (intOf i).toNat)
    case atStart => exact ⟨0, rfl, Nat.zero_le _⟩
    case round =>
      obtain ⟨q, rfl, hq⟩ := hrel
      have HC := Lib.hid (HR.out q (by omega))
      have hzb := HZ.out q (by omega)
      by_cases hlt : q < s
      · have hm := H6.out q hlt
        obtain ⟨r, hrr⟩ : ∃ r, zrun zs q = r := ⟨_, rfl⟩
        rw [hrr] at HC hzb hm
        clear hrr
        go_wp2_with (go_at_call 51; with_reducible refine HC.out.mono ?_; rintro e w1 ⟨rfl, rfl⟩)
        go_round
        case rel => exact ⟨q + 1, by go_num, by omega⟩
        case measure => simp [intOf]; omega
      · have hqs : q = s := by omega
        subst hqs
        have hm := H5.out
        obtain ⟨r, hrr⟩ : ∃ r, zrun zs q = r := ⟨_, rfl⟩
        rw [hrr] at HC hzb hm
        clear hrr H5 H6 HR HZ
        go_wp2_with (go_at_call 51; with_reducible refine HC.out.mono ?_; rintro e w1 ⟨rfl, rfl⟩)
        refine HO.out.mono ?_
        rintro e w1 ⟨v, rfl, hown, hb⟩
        obtain ⟨A1, c1, rfl, _, _⟩ := own_form hown
        obtain ⟨g1, rfl⟩ := own_head hown (by omega)
        clear HO HG HC
        go_wp2_with fail
        go_loopw [11] (fun i wr => ∃ (j : Nat) (L : List Value), i = .int .i64 j ∧ j ≤ m ∧ Hid (L = I (put zs o (upFrom q j))) ∧ wr.ownsRow w.heap.size 3 1 (.slice (some ⟨g1, 0, none⟩) n c1) n L ∧ Below w.heap.size w wr) (fun i _ => m - (intOf i).toNat)
        case atStart => exact ⟨0, _, rfl, Nat.zero_le _, Lib.hid (by simp [put, upFrom]), hown, hb⟩
        case round =>
          clear hown hb
          obtain ⟨j, L, rfl, hj, HQ, hown, hbel⟩ := hrel
          by_cases hlt2 : j < m
          · have HQ2 : Hid (L.set (q + j) (.int .i64 o) = I (put zs o (upFrom q (j + 1)))) := Lib.hid (by rw [HQ.out, I_set, upFrom_succ]; congr 1; simp only [put, List.foldl_append, List.foldl_cons, List.foldl_nil]; rfl)
            have hst := Lib.hid (hown.stored (q + j) (.int .i64 o)).1
            have hfz := hown.frozenAt (q + j)
            have hLl : L.length = n := by have := hown.1; omega
            obtain ⟨z, hz⟩ : ∃ z, wr.cell? ⟨g1, q + j, none⟩ = some z := ⟨_, (hown.cellAt (q + j) (by omega)).trans (List.getElem?_eq_getElem (by omega))⟩
            have hgb := (hown.lt g1 rfl).1
            have hbel2 : Below w.heap.size w (wr.setCell ⟨g1, q + j, none⟩ (.int .i64 o)) := hbel.setCell (p := ⟨g1, q + j, none⟩) hgb _
            have hqj : (q : Int) + j < n := by omega
            clear hown HQ hbel
            go_wp2
            go_roundw
            case rel => exact ⟨j + 1, _, by go_num, by omega, HQ2, hst.out, hbel2⟩
            case measure => simp [intOf]; omega
          · have hqm : j = m := by omega
            subst hqm
            have hbel' := hbel
            have HQ' := HQ
            clear HQ hbel
            go_wp2
            go_ret3
            refine row2_of ?_ hbel'
            rw [HPL.out, ← HQ'.out]
            exact hown
  · cases g with
    | false =>
      clear hr hl h hg hc0 HR HZ
      go_enter Try.func20, Try.ntmps20
      go_wp2_with (go_at_call 57; with_reducible refine HG.out.mono ?_; rintro e w1 ⟨rfl, rfl⟩)
      go_ret3
      exact hx
    | true =>
      have hgo := of_decide_eq_true hg
      by_cases hk1 : k < 1
      · clear hr hl h hg hc0 HR HZ hgo
        go_enter Try.func20, Try.ntmps20
        go_wp2_with (go_at_call 57; with_reducible refine HG.out.mono ?_; rintro e w1 ⟨rfl, rfl⟩)
        go_ret3
        exact hx
      · have HN := Lib.hid (h hgo.1 hgo.2.1 hgo.2.2 (by omega))
        clear hr hl h hg hc0 hgo
        go_enter Try.func20, Try.ntmps20
        go_wp2_with (go_at_call 57; with_reducible refine HG.out.mono ?_; rintro e w1 ⟨rfl, rfl⟩)
        go_loop [9] (fun i => ∃ (q : Nat), i = .int .i64 q ∧ q ≤ n) (fun i => n - (intOf i).toNat)
        case atStart => exact ⟨0, rfl, Nat.zero_le _⟩
        case round =>
          obtain ⟨q, rfl, hq⟩ := hrel
          by_cases hlt : q < n
          · have HC := Lib.hid (HR.out q (by omega))
            have hm := HN.out q
            obtain ⟨r, hrr⟩ : ∃ r, zrun zs q = r := ⟨_, rfl⟩
            rw [hrr] at HC hm
            clear hrr hx
            go_wp2_with (go_at_call 51; with_reducible refine HC.out.mono ?_; rintro e w1 ⟨rfl, rfl⟩)
            go_round
            case rel => exact ⟨q + 1, by go_num, by omega⟩
            case measure => simp [intOf]; omega
          · go_wp2
            go_ret3
            exact hx
end Go.Proofs.Ytlpngmcnelmpmaa.Fra
