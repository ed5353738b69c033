/- What impl.LongestFree and impl.GrantRun answer. -/
import Derived.Test.YtlpngmcnelmpmaaRun2
import Derived.RegionTactic
import Derived.BigRegion
namespace Go.Proofs.Ytlpngmcnelmpmaa.Fra
open Go.RowKit Go.Proofs.Ytlpngmcnelmpmaa.Mem Go.Proofs.Ytlpngmcnelmpmaa.Own Go.Proofs.Ytlpngmcnelmpmaa.L1
/-- the runs as they are read -/
structure ReadRuns (w : World) (R : List (Nat × Nat)) (A : Option Addr) (L : List Value) : Prop where
  outer : Reads w w.heap.size 1 A R.length L
  inner : ∀ (j : Nat) (p : Nat × Nat), R[j]? = some p → ∃ A' c, L[j]? = some (Value.slice A' p.2 c) ∧ p.2 ≤ c ∧ Reads w w.heap.size 1 A' p.2 (I (upFrom p.1 p.2))
theorem readRuns_of {w : World} {b b2 : Nat} {R : List (Nat × Nat)} {A : Option Addr} {c : Nat} {L : List Value} (h : w.ownsRow b 24 1 (.slice A R.length c) R.length L) (hM : Mem2 w b2 R L) : ReadRuns w R A L :=
  ⟨Reads.of_own h, fun j p hp => by
    obtain ⟨A', c', h1, h2⟩ := mem2_at hM hp
    obtain ⟨A'', c'', e, h3, _⟩ := own_form h2
    simp only [Value.slice.injEq, true_and] at e
    exact ⟨A', c', h1, by omega, Reads.of_own h2⟩⟩
theorem LM_of_runs {zs : List Int} {R : List (Nat × Nat)} {j : Nat} {p : Nat × Nat} (h : RI zs zs.length R) (hp : R[j]? = some p) (hall : ∀ r ∈ R, r.2 ≤ p.2) (hbef : ∀ r ∈ R.take j, r.2 < p.2) : LM zs zs.length p.1 p.2 := by
  have hm := List.mem_of_getElem? hp
  obtain ⟨e1, e2, _, _⟩ := h.each p hm
  refine .inr ⟨by omega, (RI_zrun h hm).1, by omega, fun f _ => ?_, RI_first h hp (Nat.le_refl _) (by omega) hbef⟩
  have := RI_none h (c := p.2 + 1) (by omega) (fun r hr => by have := hall r hr; omega) f
  omega
/-- the longest of the first q runs -/
def Best (R : List (Nat × Nat)) (q g j : Nat) : Prop :=
  (q = 0 ∧ g = 0) ∨ (∃ p, R[j]? = some p ∧ j < q ∧ p.2 = g ∧ 0 < g ∧ (∀ r ∈ R.take q, r.2 ≤ g) ∧ ∀ r ∈ R.take j, r.2 < g)
theorem best_more {R : List (Nat × Nat)} {q g j : Nat} {p : Nat × Nat} (h : Best R q g j) (hp : R[q]? = some p) (hg : g < p.2) : Best R (q + 1) p.2 q := by
  refine .inr ⟨p, hp, by omega, rfl, by omega, fun r hr => ?_, fun r hr => ?_⟩
  · rw [List.take_add_one, hp] at hr
    rcases List.mem_append.1 hr with h1 | h1
    · rcases h with ⟨rfl, _⟩ | ⟨_, _, _, _, _, h2, _⟩
      · simp at h1
      · have := h2 r h1; omega
    · simp at h1; subst h1; exact Nat.le_refl _
  · rcases h with ⟨rfl, _⟩ | ⟨_, _, _, _, _, h2, _⟩
    · simp at hr
    · have := h2 r hr; omega
theorem best_less {R : List (Nat × Nat)} {q g j : Nat} {p : Nat × Nat} (h : Best R q g j) (hp : R[q]? = some p) (h1 : 1 ≤ p.2) (hg : p.2 ≤ g) : Best R (q + 1) g j := by
  rcases h with ⟨rfl, rfl⟩ | ⟨p', e1, e2, e3, e4, e5, e6⟩
  · omega
  · refine .inr ⟨p', e1, by omega, e3, e4, fun r hr => ?_, e6⟩
    rw [List.take_add_one, hp] at hr
    rcases List.mem_append.1 hr with h1 | h1
    · exact e5 r h1
    · simp at h1; subst h1; exact hg
set_option maxHeartbeats 2000000 in
theorem implLongestFree_any (A : Option Addr) (n c : Nat) (zs : List Int) (b m : Nat) (ok : Bool) (h : LongIs zs b m ok) (hn : n ≤ 1048576) (w : World) (hr : Reads w w.heap.size 1 A n (I zs)) :
    Calls Try.prog 16 #[.slice A n c] w fun e w' => e = .returned (.tuple #[.int .i64 b, .int .i64 m, .bool ok]) ∧ Below w.heap.size w w' := by
  have hl : zs.length = n := by have := hr.len; simpa [I] using this
  obtain ⟨g, hg⟩ : ∃ g, decide (GoodOw zs) = g := ⟨_, rfl⟩
  have HG := Lib.hid (implAreOwners_any A n c _ zs w hr hn g hg)
  cases g with
  | false =>
    obtain ⟨rfl, rfl, rfl⟩ : b = 0 ∧ m = 0 ∧ ok = false := by
      rcases h with ⟨h1, _⟩ | ⟨_, h2⟩
      · exact absurd h1 (of_decide_eq_false hg)
      · exact h2
    clear hr hl h hg
    go_enter Try.func16, Try.ntmps16
    go_wp2_with (go_at_call 32; with_reducible refine HG.out.mono ?_; rintro e w1 ⟨rfl, rfl⟩)
    go_ret3
    exact ⟨rfl, Below.refl _ _⟩
  | true =>
    have HE : Hid (∀ b' m', LM zs n b' m' → b' = b ∧ m' = m ∧ (ok = decide (0 < m'))) := Lib.hid fun b' m' h' => by
      rw [← hl] at h'
      rcases h with ⟨_, h2, h3, rfl⟩ | ⟨h2, rfl, rfl, rfl⟩
      · obtain ⟨rfl, rfl⟩ := LM_unique h' h3
        exact ⟨rfl, rfl, (decide_eq_true h2).symm⟩
      · obtain ⟨rfl, rfl⟩ := LM_unique h' (h2 (of_decide_eq_true hg))
        exact ⟨rfl, rfl, rfl⟩
    have HFR := Lib.hid (freeRuns_any A n c zs w hr hn)
    have HL := Lib.hid hl
    clear hr hl h hg
    go_enter Try.func16, Try.ntmps16
    go_wp2_with (go_at_call 32; with_reducible refine HG.out.mono ?_; rintro e w1 ⟨rfl, rfl⟩)
    refine HFR.out.mono ?_
    rintro e w1 ⟨R, v, L, rfl, hRI, hown, hM, hb⟩
    obtain ⟨Ao, co, rfl, _, _⟩ := own_form hown
    have RR := Lib.hid (readRuns_of hown hM)
    have HB := Lib.hid hb
    have HRI := Lib.hid hRI
    have hRl := RI_len hRI
    have HEA : Hid (∀ p ∈ R, 1 ≤ p.2 ∧ p.1 + p.2 ≤ n) := Lib.hid fun p hp => by obtain ⟨e1, e2, _⟩ := hRI.each p hp; exact ⟨e1, e2⟩
    clear HFR HG hRI hown hM hb
    go_wp2_with fail
    go_loop [5, 14] (fun x i => ∃ (q g j c' : Nat) (A' : Option Addr), i = .int .i64 q ∧ q ≤ R.length ∧ x = .slice A' g c' ∧ g ≤ n ∧ Hid (Best R q g j) ∧ Hid (0 < g → L[j]? = some (.slice A' g c'))) (fun _ i => R.length - (intOf i).toNat)
    case atStart => exact ⟨0, 0, 0, 0, none, rfl, Nat.zero_le _, rfl, Nat.zero_le _, Lib.hid (.inl ⟨rfl, rfl⟩), Lib.hid (fun h => by omega)⟩
    case round =>
      obtain ⟨q, g, j, c', A', rfl, hq, rfl, hgn, HBe, HLj⟩ := hrel
      by_cases hlt : q < R.length
      · obtain ⟨p, hp⟩ : ∃ p, R[q]? = some p := ⟨_, List.getElem?_eq_getElem hlt⟩
        obtain ⟨A2, c2, hL2, _, _⟩ := RR.out.inner q p hp
        obtain ⟨b1, o1, u, rfl, _, hu, hc⟩ := RR.out.outer.at_ hlt
        obtain rfl : u = .slice A2 p.2 c2 := by rw [hL2] at hu; exact (Option.some.inj hu).symm
        obtain ⟨hp1, hp2⟩ := HEA.out p (List.mem_of_getElem? hp)
        obtain ⟨l, hpl⟩ : ∃ l, p.2 = l := ⟨_, rfl⟩
        by_cases hg : g < l
        · have HBe2 : Hid (Best R (q + 1) l q) := Lib.hid (by have := best_more HBe.out hp (by omega); rwa [hpl] at this)
          have HL2 : Hid (0 < l → L[q]? = some (.slice A2 l c2)) := Lib.hid fun _ => by rw [← hpl]; exact hL2
          rw [hpl] at hc hp1 hp2
          clear hp hL2 hu hpl HBe HLj
          go_wp2
          go_round
          case rel => exact ⟨q + 1, l, q, c2, A2, by go_num, by omega, rfl, by omega, HBe2, HL2⟩
          case measure => simp [intOf]; omega
        · have HBe2 : Hid (Best R (q + 1) g j) := Lib.hid (best_less HBe.out hp (by omega) (by omega))
          rw [hpl] at hc hp1 hp2
          clear hp hL2 hu hpl HBe
          go_wp2
          go_round
          case rel => exact ⟨q + 1, g, j, c', A', by go_num, by omega, rfl, by omega, HBe2, HLj⟩
          case measure => simp [intOf]; omega
      · have hqR : q = R.length := by omega
        have hBe := HBe.out
        rcases hBe with ⟨h0, h1⟩ | ⟨p, e1, e2, e3, e4, e5, e6⟩
        · have hR : R = [] := List.eq_nil_of_length_eq_zero (by omega)
          have hLM : LM zs n 0 0 := .inl ⟨rfl, rfl, fun f _ => by
            have hri := HRI.out
            rw [hR, ← HL.out] at hri
            have := RI_none hri (c := 1) (by omega) (fun r hr => by cases hr) f
            omega⟩
          obtain ⟨rfl, rfl, hok⟩ := HE.out 0 0 hLM
          have hok' : ok = false := by rw [hok]; rfl
          subst hok'
          subst h1
          have HB' := HB
          clear hok hLM hqR HBe HLj HE HRI HEA RR HL hR HB
          go_wp2
          go_ret3
          exact ⟨rfl, HB'.out⟩
        · have hLM : LM zs n p.1 p.2 := by
            have hri := HRI.out
            rw [← HL.out] at hri ⊢
            exact LM_of_runs hri e1 (fun r hr => by rw [e3]; exact e5 r (by rw [hqR, List.take_length]; exact hr)) (by rw [e3]; exact e6)
          obtain ⟨A2, c2, hL2, _, hin⟩ := RR.out.inner j p e1
          have hLj := HLj.out e4
          obtain ⟨rfl, rfl, hok⟩ := HE.out _ _ hLM
          have hok' : ok = true := by rw [hok]; exact decide_eq_true (by omega)
          subst hok'
          rw [e3] at hL2 hin
          rw [hL2] at hLj
          simp only [Option.some.injEq, Value.slice.injEq, true_and] at hLj
          obtain ⟨rfl, rfl⟩ := hLj
          obtain ⟨b2, o2, z, rfl, _, hu, hc⟩ := hin.int_at e4
          obtain rfl : z = (p.1 : Int) := by rw [upFrom_at _ _ _ e4] at hu; exact (Option.some.inj hu).symm
          have t1 : ((g : Int) == 0) = false := by simp; omega
          have hg0 : (0 : Int) < g := by omega
          rw [Nat.add_zero] at hc
          have HB' := HB
          have HE3 : Hid ((g : Int) = (p.2 : Int)) := Lib.hid (by rw [e3])
          clear hok hLM hqR HBe HLj HE HRI HEA RR HL HB hu hin e1 e2 e3 e5 e6 hL2
          go_wp2
          go_ret3
          exact ⟨by rw [← HE3.out]; rfl, HB'.out⟩
end Go.Proofs.Ytlpngmcnelmpmaa.Fra
