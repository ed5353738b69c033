/- What spec.CompactMoves answers. -/
import Derived.Test.YtlpngmcnelmpmaaComp
namespace Go.Proofs.Ytlpngmcnelmpmaa.Fra
open Go.RowKit Go.Proofs.Ytlpngmcnelmpmaa.Mem Go.Proofs.Ytlpngmcnelmpmaa.Own Go.Proofs.Ytlpngmcnelmpmaa.L1
set_option maxHeartbeats 4000000 in
theorem specCompactMoves_any (A : Option Addr) (n c : Nat) (zs : List Int) (q0 : Nat) (ps0 xs : List Int) (b : Bool) (h : CompRes zs q0 ps0 xs b) (hn : n ≤ 1048576) (w : World) (hr : Reads w w.heap.size 1 A n (I zs)) (hc0 : A = none → n = 0 ∧ c = 0) :
    Calls Try.prog 24 #[.slice A n c] w (RowP q0 ps0 xs b w) := by
  have hl : zs.length = n := by have := hr.len; simpa [I] using this
  have hba : Below w.heap.size w (w.alloc (.cells #[] 37)) := (Below.refl w.heap.size w).alloc (Nat.le_refl _) _
  have hmv0 : (w.alloc (.cells #[] 37)).ownsRow w.heap.size 37 2 (.slice (some ⟨w.heap.size, 0, none⟩) 0 0) 0 [] := World.ownsRow_made w #[] 0 (Nat.le_refl _) (Nat.zero_le _) rfl
  rcases h with ⟨h1, hcomp, hpl, hxl, rfl⟩ | ⟨h1, rfl, rfl, rfl, rfl⟩
  · have hr2 := (hr.below hba).more hba.size
    have HG := Lib.hid (l2Good_any A n c _ zs (w.alloc (.cells #[] 37)) hr2 hn true (decide_eq_true h1))
    have HC := Lib.hid (l1Own_any A n c _ zs (w.alloc (.cells #[] 37)) hr2 hc0 hn)
    obtain ⟨i0, hi, hz0, hz1, hz2⟩ := info_parts pairInfo
    have HE : Hid (∀ k ps M, comp zs k = (ps, M) → ¬ nz M + 1 < ln M → ps = ps0 ∧ M = xs) := Lib.hid fun k ps M h h' => comp_unique ⟨k, h, h'⟩ hcomp
    have HPL := Lib.hid hpl
    have hln : ln zs ≤ n := by rw [← hl]; exact ln_le zs
    have hn1 : 1 ≤ n := by have := h1.2.1; omega
    have HBA := Lib.hid hba
    have HMV0 := Lib.hid hmv0
    clear hr hr2 h1 hcomp hpl hxl hba hmv0
    have HL := Lib.hid hl
    clear hl
    go_enter Try.func24, Try.ntmps24
    go_wp2_with (go_at_call 50; with_reducible refine HG.out.mono ?_; rintro e w1 ⟨rfl, rfl⟩)
    refine HC.out.mono ?_
    rintro e w1 ⟨v, rfl, hown0, hb0⟩
    obtain ⟨A1, c1, rfl, hnc1, hc1m⟩ := own_form hown0
    obtain ⟨g, rfl⟩ := own_head hown0 (by omega)
    have hown := own_mono hown0 HBA.out.size
    have hmv := own_below HMV0.out hb0
    have hb := HBA.out.trans (hb0.mono HBA.out.size)
    clear HC HG hown0 hb0 HBA HMV0
    go_wp2_with fail
    go_loopg [5] (ln zs) (fun gh v wr => ∃ (k q : Nat) (ps M : List Int), Hid (comp zs k = (ps, M)) ∧ ln M ≤ gh ∧ Hid (ps.length = 2 * q) ∧ q + ln M ≤ n ∧ Hid (M.length = n) ∧ wr.ownsRow w.heap.size 3 1 (.slice (some ⟨g, 0, none⟩) n c1) n (I M) ∧ wr.ownsRow w.heap.size 37 2 v q (I ps) ∧ Below w.heap.size w wr)
    case atStart => exact ⟨0, 0, [], zs, Lib.hid rfl, Nat.le_refl _, Lib.hid rfl, by omega, HL, hown, hmv, hb⟩
    case round =>
      clear hown hmv hb
      obtain ⟨k, q, ps, M, HK, hg, HQ, hqn, HML, hown, hmv, hbel⟩ := hrel
      have hR := Lib.hid (Reads.of_own hown)
      have HNB : Hid (∀ i, i < nz M → M[i]? ≠ some 0) := Lib.hid fun i hi => nz_before hi
      have HAF : Hid (∀ i, ln M ≤ i → i < n → M[i]? = some 0) := Lib.hid fun i h1 h2 => ln_after h1 (by rw [HML.out]; exact h2)
      have hlnn : ln M ≤ n := by have := ln_le M; rw [HML.out] at this; exact this
      have hnzn : nz M ≤ n := by have := nz_le M; rw [HML.out] at this; exact this
      by_cases hgo : nz M + 1 < ln M
      · obtain ⟨f, hf⟩ : ∃ f, ln M = f + 1 := ⟨ln M - 1, by omega⟩
        obtain ⟨t, ht⟩ : ∃ t, nz M = t := ⟨_, rfl⟩
        cases gk with
        | zero => omega
        | succ g' =>
          have htf : t < f := by omega
          obtain ⟨hf1, hf2⟩ := ln_last hf
          rw [HML.out] at hf1
          have hzt0 : M[t]? = some 0 := by rw [← ht]; exact nz_zero (by rw [HML.out]; omega)
          have HK2 := Lib.hid (comp_go HK.out hgo)
          have hmvl : moved M = (M.set t (M.getD f 0)).set f 0 := by
            unfold moved
            rw [hf, ht, Nat.add_sub_cancel]
          have hlm := moved_ln hgo
          rw [hf, ht, Nat.add_sub_cancel] at HK2
          obtain ⟨v0, hv0⟩ : ∃ v0, M.getD f 0 = v0 := ⟨_, rfl⟩
          rw [hv0] at hmvl
          have hu : M[f]? = some v0 := by
            rw [← hv0, List.getD_eq_getElem?_getD, List.getElem?_eq_getElem (by rw [HML.out]; omega)]
            rfl
          have hv0n : v0 ≠ 0 := by rintro rfl; exact hf2 hu
          have tv1 : (v0 == 0) = false := by simpa using hv0n
          have hcf : wr.cell? ⟨g, f, none⟩ = some (.int .i64 v0) := (hown.cellAt f (by omega)).trans (I_at hu)
          have hct : wr.cell? ⟨g, t, none⟩ = some (.int .i64 0) := (hown.cellAt t (by omega)).trans (I_at hzt0)
          have hfzt := hown.frozenAt t
          have hs1 := hown.stored t (.int .i64 v0)
          rw [I_set] at hs1
          have hmv1 := own_apart (u := .slice (some ⟨g, 0, none⟩) n c1) hmv hs1.2 (apart_types' hown hmv (by decide))
          have hb1 : Below w.heap.size w (wr.setCell ⟨g, t, none⟩ (.int .i64 v0)) := hbel.setCell (p := ⟨g, t, none⟩) (hown.lt g rfl).1 _
          obtain ⟨wa, hwa⟩ : ∃ wa, wr.setCell ⟨g, t, none⟩ (.int .i64 v0) = wa := ⟨_, rfl⟩
          rw [hwa] at hs1 hmv1 hb1
          have hML1 : (M.set t v0).length = n := by rw [List.length_set]; exact HML.out
          obtain ⟨zf, hzf⟩ : ∃ z, wa.cell? ⟨g, f, none⟩ = some z := ⟨_, (hs1.1.cellAt f (by omega)).trans (I_at (List.getElem?_eq_getElem (by omega)))⟩
          have hfzf := hs1.1.frozenAt f
          have hs2 := hs1.1.stored f (.int .i64 0)
          rw [I_set, ← hmvl] at hs2
          have hmv2 := own_apart (u := .slice (some ⟨g, 0, none⟩) n c1) hmv1 hs2.2 (apart_types' hs1.1 hmv1 (by decide))
          have hb2 : Below w.heap.size w (wa.setCell ⟨g, f, none⟩ (.int .i64 0)) := hb1.setCell (p := ⟨g, f, none⟩) (hown.lt g rfl).1 _
          obtain ⟨wb, hwb⟩ : ∃ wb, wa.setCell ⟨g, f, none⟩ (.int .i64 0) = wb := ⟨_, rfl⟩
          rw [hwb] at hs2 hmv2 hb2
          have hnews : Hid (∀ (j : Nat) (u : Value), ([.int .i64 f, .int .i64 t] : List Value)[j]? = some u → (wb.alloc (.cells #[.int .i64 f, .int .i64 t] 37)).cell? ((⟨wb.heap.size, 0, none⟩ : Addr).add j) = some u) := Lib.hid (by
            intro j u hj
            rw [Go.WideShapes.add_plain, Nat.zero_add, cell_of_row _ _ _ _ _ _ (heap_alloc_new wb _)]
            simpa using hj)
          have HO2 := Lib.hid hs2.1
          have HM2 := Lib.hid (hmv2.alloc (.cells #[.int .i64 f, .int .i64 t] 37))
          have HB2 := Lib.hid hb2
          have hzb := hb2.size
          have HL2 : Hid ((moved M).length = n) := Lib.hid (by rw [moved_len]; exact HML.out)
          have HQ2 : Hid ((ps ++ [(f : Int), (t : Int)]).length = 2 * (q + 1)) := Lib.hid (by rw [List.length_append, HQ.out]; simp; omega)
          obtain ⟨M', hM'⟩ : ∃ M', moved M = M' := ⟨_, rfl⟩
          rw [hM'] at hlm HK2 HO2 HL2
          have htn : t < n := by omega
          have hfn : f < n := by omega
          rw [ht] at HNB
          rw [hf] at HAF hlnn hqn hg hlm
          clear HK hmvl hv0 hu hs1 hmv1 hb1 hML1 hs2 hmv2 hb2 hown hmv hbel hf2 hM' HQ hgo hf ht hv0n hzt0 hnzn
          go_wp2_with fail
          go_loop [7] (fun i => ∃ (j : Nat), i = .int .i64 j ∧ j ≤ t) (fun i => t - (intOf i).toNat)
          case atStart => exact ⟨0, rfl, Nat.zero_le _⟩
          case round =>
            obtain ⟨j, rfl, hj⟩ := hrel
            by_cases hjt : j < t
            · obtain ⟨b1, o1, z, hA1, _, hu1, hc1⟩ := hR.out.int_at (k := j) (by omega)
              obtain ⟨rfl, rfl⟩ : g = b1 ∧ 0 = o1 := by simp at hA1; exact hA1
              rw [Nat.zero_add] at hc1
              have hzz : z ≠ 0 := by rintro rfl; exact HNB.out j hjt hu1
              have tz1 : (z == 0) = false := by simpa using hzz
              have tz2 : (z != 0) = true := by simp only [bne, tz1, Bool.not_false]
              have hjn : j < n := by omega
              clear hu1 hzz
              go_wp2
              go_round
              case rel => exact ⟨j + 1, by go_num, by omega⟩
              case measure => simp [intOf]; omega
            · have hjt2 : j = t := by omega
              subst hjt2
              go_wp2_with fail
              go_loop [8] (fun i => ∃ (m : Nat), i = .int .i64 ((m : Int) - 1) ∧ f + 1 ≤ m ∧ m ≤ n) (fun i => (intOf i + 1).toNat)
              case atStart => exact ⟨n, rfl, hlnn, Nat.le_refl _⟩
              case round =>
                obtain ⟨m, rfl, hm1, hm2⟩ := hrel
                obtain ⟨m', rfl⟩ : ∃ m', m = m' + 1 := ⟨m - 1, by omega⟩
                have e1 : ((m' + 1 : Nat) : Int) - 1 = (m' : Int) := by omega
                rw [e1]
                have hm0 : (0 : Int) ≤ m' := by omega
                have hmn : m' < n := by omega
                by_cases hmf : f < m'
                · obtain ⟨b1, o1, z, hA1, _, hu1, hc1⟩ := hR.out.int_at (k := m') (by omega)
                  obtain ⟨rfl, rfl⟩ : g = b1 ∧ 0 = o1 := by simp at hA1; exact hA1
                  rw [Nat.zero_add] at hc1
                  obtain rfl : z = 0 := by rw [HAF.out m' (by omega) (by omega)] at hu1; exact (Option.some.inj hu1).symm
                  clear hu1 e1
                  go_wp2
                  go_round
                  case rel => exact ⟨m', by go_num, by omega, by omega⟩
                  case measure => simp [intOf]
                · have hmf2 : m' = f := by omega
                  subst hmf2
                  have hjm : ¬ ((m' : Int) ≤ (j : Int)) := by omega
                  clear e1
                  go_wp2_with (at_builtin; refine wpList_append_own _ rfl _ _ 33 rfl w.heap.size 37 i0 (.agg #[.int .i64 0, .int .i64 0]) 2 16 Try.underlying33 hi hz0 hz1 hz2 rfl (by decide) _ _ _ rfl HM2.out ⟨wb.heap.size, 0, none⟩ 1 1 [.int .i64 m', .int .i64 j] rfl rfl hnews.out (fun x hx => by simp at hx; rcases hx with rfl | rfl <;> rfl) (by unfold maxLen; omega) (by omega) (by simp; omega) ?_; intro v' w3 hown3 hgrow3 _; have HG3 : Hid ((wb.alloc (.cells #[.int .i64 m', .int .i64 j] 37)).grownBy w3 u5.ownBlock) := Lib.hid hgrow3; have HO3 := Lib.hid hown3; clear hown3 hgrow3)
                  have hO4 := own_apart (HO2.out.alloc _) HG3.out (apart_types' HM2.out (HO2.out.alloc _) (by decide))
                  have hB4 : Below w.heap.size w w3 := (HB2.out.alloc hzb _).grown HG3.out (Nat.le_trans hzb (World.grownBy_alloc wb _ none).size) (fun q hq => (HM2.out.lt q hq).1)
                  have hM4 := HO3.out
                  rw [show I ps ++ [Value.int .i64 m', .int .i64 j] = I (ps ++ [(m' : Int), (j : Int)]) from by simp [I]] at hM4
                  go_roundg g'
                  case measure => omega
                  case rel => exact ⟨k + 1, q + 1, _, M', HK2, by omega, HQ2, by omega, HL2, hO4, hM4, hB4⟩
      · obtain ⟨rfl, rfl⟩ := HE.out k ps M HK.out hgo
        have hq0 : q0 = q := by have := HQ.out; have := HPL.out; omega
        subst hq0
        have hx : RowP q0 ps M true w (.returned (.tuple #[u5, .slice (some ⟨g, 0, none⟩) n c1, .bool true])) wr := rowP_of hmv (by rw [HML.out]; exact hown) hbel
        have HX := Lib.hid hx
        have HLA : Hid (∀ f, ln M = f + 1 → M[f]? ≠ some 0) := Lib.hid fun f hf => (ln_last hf).2
        have HNZ : Hid (nz M < n → M[nz M]? = some 0) := Lib.hid fun h => nz_zero (by rw [HML.out]; exact h)
        obtain ⟨l, hle⟩ : ∃ l, ln M = l := ⟨_, rfl⟩
        obtain ⟨t, ht⟩ : ∃ t, nz M = t := ⟨_, rfl⟩
        rw [ht] at HNB hnzn HNZ hgo
        rw [hle] at HAF hlnn HLA hgo
        clear hx ht hle HK HQ HML hown hmv hbel HE HL hqn hg
        go_wp2_with fail
        go_loop [7] (fun i => ∃ (j : Nat), i = .int .i64 j ∧ j ≤ t) (fun i => t - (intOf i).toNat)
        case atStart => exact ⟨0, rfl, Nat.zero_le _⟩
        case round =>
          obtain ⟨j, rfl, hj⟩ := hrel
          by_cases hjt : j < t
          · obtain ⟨b1, o1, z, hA1, _, hu1, hc1⟩ := hR.out.int_at (k := j) (by omega)
            obtain ⟨rfl, rfl⟩ : g = b1 ∧ 0 = o1 := by simp at hA1; exact hA1
            rw [Nat.zero_add] at hc1
            have hzz : z ≠ 0 := by rintro rfl; exact HNB.out j hjt hu1
            have tz1 : (z == 0) = false := by simpa using hzz
            have tz2 : (z != 0) = true := by simp only [bne, tz1, Bool.not_false]
            have hjn : j < n := by omega
            clear hu1 hzz
            go_wp2
            go_round
            case rel => exact ⟨j + 1, by go_num, by omega⟩
            case measure => simp [intOf]; omega
          · have hjt2 : j = t := by omega
            subst hjt2
            by_cases hjn : j < n
            · obtain ⟨b1, o1, z, hA1, _, hu1, hc1⟩ := hR.out.int_at (k := j) hjn
              obtain ⟨rfl, rfl⟩ : g = b1 ∧ 0 = o1 := by simp at hA1; exact hA1
              rw [Nat.zero_add] at hc1
              obtain rfl : z = 0 := by rw [HNZ.out hjn] at hu1; exact (Option.some.inj hu1).symm
              clear hu1
              go_wp2_with fail
              go_loop [8] (fun i => ∃ (m : Nat), i = .int .i64 ((m : Int) - 1) ∧ l ≤ m ∧ m ≤ n) (fun i => (intOf i + 1).toNat)
              case atStart => exact ⟨n, rfl, hlnn, Nat.le_refl _⟩
              case round =>
                obtain ⟨m, rfl, hm1, hm2⟩ := hrel
                by_cases hml : l < m
                · obtain ⟨m', rfl⟩ : ∃ m', m = m' + 1 := ⟨m - 1, by omega⟩
                  have e1 : ((m' + 1 : Nat) : Int) - 1 = (m' : Int) := by omega
                  rw [e1]
                  have hm0 : (0 : Int) ≤ m' := by omega
                  have hmn : m' < n := by omega
                  obtain ⟨b1, o1, z, hA1, _, hu1, hc1⟩ := hR.out.int_at (k := m') (by omega)
                  obtain ⟨rfl, rfl⟩ : g = b1 ∧ 0 = o1 := by simp at hA1; exact hA1
                  rw [Nat.zero_add] at hc1
                  obtain rfl : z = 0 := by rw [HAF.out m' (by omega) (by omega)] at hu1; exact (Option.some.inj hu1).symm
                  clear hu1 e1
                  go_wp2
                  go_round
                  case rel => exact ⟨m', by go_num, by omega, by omega⟩
                  case measure => simp [intOf]
                · have hml2 : m = l := by omega
                  subst hml2
                  rcases Nat.eq_zero_or_pos m with h0 | h0
                  · subst h0
                    have ht1 : ((0 : Nat) : Int) - 1 ≤ (j : Int) := by omega
                    go_wp2
                    go_ret3
                    exact HX.out
                  · obtain ⟨f, rfl⟩ : ∃ f, m = f + 1 := ⟨m - 1, by omega⟩
                    have e1 : ((f + 1 : Nat) : Int) - 1 = (f : Int) := by omega
                    rw [e1]
                    have hm0 : (0 : Int) ≤ f := by omega
                    have hmn : f < n := by omega
                    have ht1 : (f : Int) ≤ (j : Int) := by omega
                    obtain ⟨b1, o1, z, hA1, _, hu1, hc1⟩ := hR.out.int_at (k := f) (by omega)
                    obtain ⟨rfl, rfl⟩ : g = b1 ∧ 0 = o1 := by simp at hA1; exact hA1
                    rw [Nat.zero_add] at hc1
                    have hzn : z ≠ 0 := by rintro rfl; exact HLA.out f rfl hu1
                    have tz1 : (z == 0) = false := by simpa using hzn
                    clear hu1 e1 hzn
                    go_wp2
                    go_ret3
                    exact HX.out
            · go_wp2_with fail
              go_loop [8] (fun i => ∃ (m : Nat), i = .int .i64 ((m : Int) - 1) ∧ l ≤ m ∧ m ≤ n) (fun i => (intOf i + 1).toNat)
              case atStart => exact ⟨n, rfl, hlnn, Nat.le_refl _⟩
              case round =>
                obtain ⟨m, rfl, hm1, hm2⟩ := hrel
                by_cases hml : l < m
                · obtain ⟨m', rfl⟩ : ∃ m', m = m' + 1 := ⟨m - 1, by omega⟩
                  have e1 : ((m' + 1 : Nat) : Int) - 1 = (m' : Int) := by omega
                  rw [e1]
                  have hm0 : (0 : Int) ≤ m' := by omega
                  have hmn : m' < n := by omega
                  obtain ⟨b1, o1, z, hA1, _, hu1, hc1⟩ := hR.out.int_at (k := m') (by omega)
                  obtain ⟨rfl, rfl⟩ : g = b1 ∧ 0 = o1 := by simp at hA1; exact hA1
                  rw [Nat.zero_add] at hc1
                  obtain rfl : z = 0 := by rw [HAF.out m' (by omega) (by omega)] at hu1; exact (Option.some.inj hu1).symm
                  clear hu1 e1
                  go_wp2
                  go_round
                  case rel => exact ⟨m', by go_num, by omega, by omega⟩
                  case measure => simp [intOf]
                · have hml2 : m = l := by omega
                  subst hml2
                  rcases Nat.eq_zero_or_pos m with h0 | h0
                  · subst h0
                    have ht1 : ((0 : Nat) : Int) - 1 ≤ (j : Int) := by omega
                    go_wp2
                    go_ret3
                    exact HX.out
                  · obtain ⟨f, rfl⟩ : ∃ f, m = f + 1 := ⟨m - 1, by omega⟩
                    have e1 : ((f + 1 : Nat) : Int) - 1 = (f : Int) := by omega
                    rw [e1]
                    have hm0 : (0 : Int) ≤ f := by omega
                    have hmn : f < n := by omega
                    have ht1 : (f : Int) ≤ (j : Int) := by omega
                    obtain ⟨b1, o1, z, hA1, _, hu1, hc1⟩ := hR.out.int_at (k := f) (by omega)
                    obtain ⟨rfl, rfl⟩ : g = b1 ∧ 0 = o1 := by simp at hA1; exact hA1
                    rw [Nat.zero_add] at hc1
                    have hzn : z ≠ 0 := by rintro rfl; exact HLA.out f rfl hu1
                    have tz1 : (z == 0) = false := by simpa using hzn
                    clear hu1 e1 hzn
                    go_wp2
                    go_ret3
                    exact HX.out
  · have HG := Lib.hid (l2Good_any A n c _ zs (w.alloc (.cells #[] 37)) ((hr.below hba).more hba.size) hn false (decide_eq_false h1))
    have hzz : (w.alloc (.cells #[] 37)).heap.size = w.heap.size + 1 := Array.size_push _
    have h2 : ((w.alloc (.cells #[] 37)).alloc (.cells #[] 3)).ownsRow w.heap.size 3 1 (.slice (some ⟨w.heap.size + 1, 0, none⟩) 0 0) 0 [] := by
      have := World.ownsRow_made (base := w.heap.size) (e := 3) (size := 1) (w.alloc (.cells #[] 37)) #[] 0 (by omega) (Nat.zero_le _) rfl
      rwa [hzz] at this
    have hx : RowP 0 [] [] false w (.returned (.tuple #[.slice (some ⟨w.heap.size, 0, none⟩) 0 0, .slice (some ⟨w.heap.size + 1, 0, none⟩) 0 0, .bool false])) ((w.alloc (.cells #[] 37)).alloc (.cells #[] 3)) := rowP_of (hmv0.alloc _) h2 (hba.alloc (by omega) _)
    clear hr h1 hl hba hmv0 hzz h2 hc0
    go_enter Try.func24, Try.ntmps24
    go_wp2_with (go_at_call 50; with_reducible refine HG.out.mono ?_; rintro e w1 ⟨rfl, rfl⟩)
    go_ret3
    exact hx
end Go.Proofs.Ytlpngmcnelmpmaa.Fra
