/- What impl.GrantRun answers. -/
import Derived.Test.YtlpngmcnelmpmaaRun3
namespace Go.Proofs.Ytlpngmcnelmpmaa.Fra
open Go.RowKit Go.Proofs.Ytlpngmcnelmpmaa.Mem Go.Proofs.Ytlpngmcnelmpmaa.Own Go.Proofs.Ytlpngmcnelmpmaa.L1
theorem row2_from {xs : List Int} {k : Int} {b : Bool} {w w1 w' : World} {e : Ending} (h : Row2 xs k b w1 e w') (hb : Below w.heap.size w w1) : Row2 xs k b w e w' := by
  obtain ⟨A, c, rfl, h1, h4⟩ := h
  exact ⟨A, c, rfl, own_mono h1 hb.size, hb.trans (h4.mono hb.size)⟩
theorem upFrom_take (s l m : Nat) (h : m ≤ l) : (I (upFrom s l)).take m = I (upFrom s m) := by
  unfold I upFrom
  rw [← List.map_take, ← List.map_take, List.take_range, Nat.min_eq_left h]
theorem upFrom_bd {s m n : Nat} (h : s + m ≤ n) : ∀ f ∈ upFrom s m, 0 ≤ f ∧ f < (n : Int) := by
  intro f hf
  unfold upFrom at hf
  obtain ⟨i, hi, rfl⟩ := List.mem_map.1 hf
  have := List.mem_range.1 hi
  omega
set_option maxRecDepth 20000 in
set_option maxHeartbeats 4000000 in
theorem implGrantRun_any (A : Option Addr) (n c : Nat) (zs : List Int) (o k : Int) (xs : List Int) (s : Nat) (b : Bool) (h : RunIs zs o k xs s b) (hn : n ≤ 1048576) (w : World) (hr : Reads w w.heap.size 1 A n (I zs)) :
    Calls Try.prog 18 #[.slice A n c, .int .i64 o, .int .i64 k] w (Row2 xs s b w) := by
  have hl : zs.length = n := by have := hr.len; simpa [I] using this
  obtain ⟨g, hg⟩ : ∃ g, decide (GoodOw zs) = g := ⟨_, rfl⟩
  have HG := Lib.hid (implAreOwners_any A n c _ zs w hr hn g hg)
  cases g with
  | false =>
    obtain ⟨rfl, rfl, rfl⟩ : xs = [] ∧ s = 0 ∧ b = false := by
      rcases h with ⟨_, _, h1, _⟩ | ⟨_, h2⟩
      · exact absurd h1 (of_decide_eq_false hg)
      · exact h2
    have hx := row2_nil 0 false w
    clear hr hl h hg
    go_enter Try.func18, Try.ntmps18
    go_wp2_with (go_at_call 32; with_reducible refine HG.out.mono ?_; rintro e w1 ⟨rfl, rfl⟩)
    go_ret3
    exact hx
  | true =>
    have hgo := of_decide_eq_true hg
    by_cases ho : 1 ≤ o ∧ o ≤ 4
    case neg =>
      obtain ⟨rfl, rfl, rfl⟩ : xs = [] ∧ s = 0 ∧ b = false := by
        rcases h with ⟨_, _, _, h1, h2, _⟩ | ⟨_, h2⟩
        · exact absurd ⟨h1, h2⟩ ho
        · exact h2
      have hx := row2_nil 0 false w
      have HI := Lib.hid (isGuest_any o false (decide_eq_false ho) w)
      clear hr hl h hg hgo ho
      go_enter Try.func18, Try.ntmps18
      go_wp2_with (first | (go_at_call 32; with_reducible refine HG.out.mono ?_; rintro e w1 ⟨rfl, rfl⟩) | (go_at_call 52; with_reducible refine HI.out.mono ?_; rintro e w1 ⟨rfl, rfl⟩))
      go_ret3
      exact hx
    have HI := Lib.hid (isGuest_any o true (decide_eq_true ho) w)
    by_cases hk1 : k < 1
    · obtain ⟨rfl, rfl, rfl⟩ : xs = [] ∧ s = 0 ∧ b = false := by
        rcases h with ⟨_, _, _, _, _, h1, _⟩ | ⟨_, h2⟩
        · omega
        · exact h2
      have hx := row2_nil 0 false w
      clear hr hl h hg hgo ho
      go_enter Try.func18, Try.ntmps18
      go_wp2_with (first | (go_at_call 32; with_reducible refine HG.out.mono ?_; rintro e w1 ⟨rfl, rfl⟩) | (go_at_call 52; with_reducible refine HI.out.mono ?_; rintro e w1 ⟨rfl, rfl⟩))
      go_ret3
      exact hx
    obtain ⟨m, rfl⟩ : ∃ m : Nat, k = m := ⟨k.toNat, by omega⟩
    have hm1 : 1 ≤ m := by omega
    have hm1i : ¬ (m : Int) < 1 := hk1
    have HFR := Lib.hid (freeRuns_any A n c zs w hr hn)
    have HH := Lib.hid h
    have HL := Lib.hid hl
    have HR0 := Lib.hid hr
    have HGO := Lib.hid hgo
    have HOO := Lib.hid ho
    clear hr hl h hg hgo ho hk1
    go_enter Try.func18, Try.ntmps18
    go_wp2_with (first | (go_at_call 32; with_reducible refine HG.out.mono ?_; rintro e w1 ⟨rfl, rfl⟩) | (go_at_call 52; with_reducible refine HI.out.mono ?_; rintro e w1 ⟨rfl, rfl⟩))
    refine HFR.out.mono ?_
    rintro e w1 ⟨R, v, L, rfl, hRI, hown, hM, hb⟩
    obtain ⟨Ao, co, rfl, _, _⟩ := own_form hown
    have RR := Lib.hid (readRuns_of hown hM)
    have HB := Lib.hid hb
    have HRI := Lib.hid hRI
    have hRl := RI_len hRI
    have HEA : Hid (∀ p ∈ R, 1 ≤ p.2 ∧ p.1 + p.2 ≤ n) := Lib.hid fun p hp => by obtain ⟨e1, e2, _⟩ := hRI.each p hp; exact ⟨e1, e2⟩
    clear HFR HG HI hRI hown hM hb
    go_wp2_with fail
    go_loop [26] (fun i => ∃ (q : Nat), i = .int .i64 q ∧ q ≤ R.length ∧ Hid (∀ r ∈ R.take q, r.2 < m)) (fun i => R.length - (intOf i).toNat)
    case atStart => exact ⟨0, rfl, Nat.zero_le _, Lib.hid (by simp)⟩
    case round =>
      obtain ⟨q, rfl, hq, HQ⟩ := hrel
      by_cases hlt : q < R.length
      · obtain ⟨p, hp⟩ : ∃ p, R[q]? = some p := ⟨_, List.getElem?_eq_getElem hlt⟩
        obtain ⟨A2, c2, hL2, hpc, hin⟩ := RR.out.inner q p hp
        obtain ⟨b1, o1, u, rfl, _, hu, hc⟩ := RR.out.outer.at_ hlt
        obtain rfl : u = .slice A2 p.2 c2 := by rw [hL2] at hu; exact (Option.some.inj hu).symm
        obtain ⟨hp1, hp2⟩ := HEA.out p (List.mem_of_getElem? hp)
        by_cases hg : p.2 < m
        · have HQ2 : Hid (∀ r ∈ R.take (q + 1), r.2 < m) := Lib.hid fun r hr => by
            rw [List.take_add_one, hp] at hr
            rcases List.mem_append.1 hr with h1 | h1
            · exact HQ.out r h1
            · simp at h1; subst h1; exact hg
          obtain ⟨l, hpl⟩ : ∃ l, p.2 = l := ⟨_, rfl⟩
          rw [hpl] at hc hp1 hp2 hg
          clear hp hL2 hu hpl HQ hin hpc
          go_wp2
          go_round
          case rel => exact ⟨q + 1, by go_num, by omega, HQ2⟩
          case measure => simp [intOf]; omega
        · have hfirst : ∀ f, f < p.1 → zrun zs f < m := by
            have hri := HRI.out
            rw [← HL.out] at hri
            exact RI_first hri hp (by omega) (by omega) HQ.out
          have hzp : zrun zs p.1 = p.2 := by
            have hri := HRI.out
            rw [← HL.out] at hri
            exact (RI_zrun hri (List.mem_of_getElem? hp)).1
          obtain ⟨rfl, rfl, rfl⟩ : xs = put zs o (upFrom p.1 m) ∧ s = p.1 ∧ b = true := by
            rcases HH.out with ⟨m', e0, _, _, _, _, e1, e2, e3, e4⟩ | ⟨e1, _⟩
            · obtain rfl : m = m' := by omega
              have hs : s = p.1 := by
                rcases Nat.lt_trichotomy s p.1 with h1 | h1 | h1
                · have := hfirst s h1; omega
                · exact h1
                · have := e2 p.1 h1; omega
              exact ⟨by rw [e3, hs], hs, e4⟩
            · have := e1 HGO.out HOO.out.1 HOO.out.2 (by omega) p.1
              omega
          have hpm : ¬ ((p.2 : Int) < m) := by omega
          have hmp : m ≤ p.2 := by omega
          obtain ⟨b2, o2, z, rfl, hb2lt, hu2, hc2⟩ := hin.int_at (k := 0) (by omega)
          obtain rfl : z = (p.1 : Int) := by rw [upFrom_at _ _ _ (by omega)] at hu2; exact (Option.some.inj hu2).symm
          rw [Nat.add_zero] at hc2
          have hRt := Reads.take hin hmp
          rw [upFrom_take _ _ _ hmp] at hRt
          have HC := Lib.hid (withOwner_any A (some ⟨b2, o2, none⟩) n c m c2 _ zs (upFrom p.1 m) o w1.drew ((HR0.out.below HB.out).more HB.out.size) hRt (Nat.le_refl _) hn (by omega) (upFrom_bd (by omega)))
          have HPL : Hid ((put zs o (upFrom p.1 m)).length = n) := Lib.hid (by rw [put_len]; exact HL.out)
          obtain ⟨l, hpl⟩ : ∃ l, p.2 = l := ⟨_, rfl⟩
          obtain ⟨X, hX⟩ : ∃ X, put zs o (upFrom p.1 m) = X := ⟨_, rfl⟩
          obtain ⟨s0, hs0⟩ : ∃ s0, p.1 = s0 := ⟨_, rfl⟩
          rw [hX] at HC HPL
          rw [hX]
          rw [hpl] at hc hp1 hp2 hg hpm hmp hpc
          rw [hs0] at hc2 hp2
          rw [hs0]
          have hl0 : (0 : Int) < l := by omega
          have hmc : (m : Int) ≤ c2 := by omega
          have hm0 : (0 : Int) ≤ m := by omega
          clear hp hL2 hu hpl HQ hin hu2 hX hs0 hRt HH HR0 HGO HOO HRI HEA hfirst hzp hg HL RR
          go_wp2_with fail
          go_region_with (go_at_call 53; ((with_reducible refine HC.out.mono ?_); rintro e w2 ⟨g2, rfl, hown2, hb2⟩; have hc3 : w2.cell? ⟨b2, o2, none⟩ = some (.int .i64 s0) := (hb2.cell (p := ⟨b2, o2, none⟩) hb2lt).trans hc2; have HO2 := Lib.hid hown2; have HB2 := Lib.hid hb2; clear hown2 hb2))
          all_goals
            go_wp2_with fail
            go_ret3
            refine row2_of ?_ (HB.out.drew.trans (HB2.out.mono HB.out.size))
            rw [HPL.out]
            exact own_mono HO2.out HB.out.size
      · have hqR : q = R.length := by omega
        have hnone : ∀ f, zrun zs f < m := by
          have hri := HRI.out
          rw [← HL.out] at hri
          refine RI_none hri (by omega) fun r hr => HQ.out r ?_
          rw [hqR, List.take_length]
          exact hr
        obtain ⟨rfl, rfl, rfl⟩ : xs = [] ∧ s = 0 ∧ b = false := by
          rcases HH.out with ⟨m', e0, _, _, _, _, e1, _⟩ | ⟨_, e1⟩
          · have := hnone s
            omega
          · exact e1
        have hx := Lib.hid (row2_from (row2_nil 0 false w1) HB.out)
        clear hnone HH HRI HQ hqR HR0 HGO HOO HEA RR HL HB
        go_wp2
        go_ret3
        exact hx.out
end Go.Proofs.Ytlpngmcnelmpmaa.Fra
