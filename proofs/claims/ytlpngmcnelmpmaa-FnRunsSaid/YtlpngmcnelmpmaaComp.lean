/- What impl.lastTaken, slices.Index and CompactMoves of spec and impl answer. -/
import Derived.Test.YtlpngmcnelmpmaaComp0
import Derived.Test.YtlpngmcnelmpmaaPairs
import Derived.Deep.LoopGhost
namespace Go.Proofs.Ytlpngmcnelmpmaa.Fra
open Go.RowKit Go.Proofs.Ytlpngmcnelmpmaa.Mem Go.Proofs.Ytlpngmcnelmpmaa.Own Go.Proofs.Ytlpngmcnelmpmaa.L1
set_option maxHeartbeats 1000000 in
theorem lastTaken_any (A : Option Addr) (n c B : Nat) (L : List Int) (w : World) (hr : Reads w B 1 A n (I L)) (hn : n ≤ 1048576) :
    Calls Try.prog 60 #[.slice A n c] w fun e w' => e = .returned (.int .i64 ((ln L : Int) - 1)) ∧ w = w' := by
  have HL : Hid (L.length = n) := Lib.hid (by have := hr.len; simpa [I] using this)
  go_enter Try.func60, Try.ntmps60
  go_wp2
  go_loop [3] (fun i => ∃ (m : Nat), i = .int .i64 ((m : Int) - 1) ∧ m ≤ n ∧ Hid (∀ i, m ≤ i → i < n → L[i]? = some 0)) (fun i => (intOf i + 1).toNat)
  case atStart => exact ⟨n, rfl, Nat.le_refl _, Lib.hid (fun i h1 h2 => by omega)⟩
  case round =>
    obtain ⟨m, rfl, hm, HM⟩ := hrel
    by_cases h0 : m = 0
    · subst h0
      have HX : Hid (ln L = 0) := Lib.hid (ln_of (fun i h1 h2 => HM.out i h1 (by rw [← HL.out]; exact h2)) (Nat.zero_le _) (fun m h => by omega))
      clear HM
      go_wp2
      go_ret
      rw [HX.out]
      exact ⟨rfl, rfl⟩
    · obtain ⟨f, rfl⟩ : ∃ f, m = f + 1 := ⟨m - 1, by omega⟩
      obtain ⟨b1, o1, z, rfl, _, hu, hc⟩ := hr.int_at (k := f) (by omega)
      have e1 : ((f + 1 : Nat) : Int) - 1 = (f : Int) := by omega
      rw [e1]
      by_cases hz : z = 0
      · subst hz
        have HM2 : Hid (∀ i, f ≤ i → i < n → L[i]? = some 0) := Lib.hid fun i h1 h2 => by
          rcases Nat.lt_or_ge f i with h3 | h3
          · exact HM.out i h3 h2
          · rw [show i = f from by omega]; exact hu
        clear HM hu e1
        go_wp2
        go_round
        case rel => exact ⟨f, by go_num, by omega, HM2⟩
        case measure => simp [intOf]
      · have t1 : (z == 0) = false := by simpa using hz
        have HX : Hid (ln L = f + 1) := Lib.hid (ln_of (fun i h1 h2 => HM.out i h1 (by rw [← HL.out]; exact h2)) (by rw [HL.out]; omega) (fun m h => by
          obtain rfl : m = f := by omega
          rw [hu]
          simpa using hz))
        have HE := Lib.hid e1
        clear HM hu hz e1
        go_wp2
        go_ret
        rw [HX.out, HE.out]
        exact ⟨rfl, rfl⟩
set_option maxHeartbeats 1000000 in
theorem index_any (A : Option Addr) (n c B : Nat) (L : List Int) (r : Int) (hres : r = if nz L < n then (nz L : Int) else -1) (w : World) (hr : Reads w B 1 A n (I L)) (hn : n ≤ 1048576) :
    Calls Try.prog 61 #[.slice A n c, .int .i64 0] w fun e w' => e = .returned (.int .i64 r) ∧ w = w' := by
  have HL : Hid (L.length = n) := Lib.hid (by have := hr.len; simpa [I] using this)
  have HR := Lib.hid hres
  clear hres
  go_enter Try.func61, Try.ntmps61
  go_wp2
  go_loop [8] (fun i => ∃ (k : Nat), i = .int .i64 k ∧ k ≤ n ∧ Hid (∀ i, i < k → L[i]? ≠ some 0)) (fun i => n - (intOf i).toNat)
  case atStart => exact ⟨0, rfl, Nat.zero_le _, Lib.hid (fun i h => by omega)⟩
  case round =>
    obtain ⟨k, rfl, hk, HK⟩ := hrel
    by_cases hlt : k < n
    · obtain ⟨b1, o1, z, rfl, _, hu, hc⟩ := hr.int_at hlt
      by_cases hz : z = 0
      · subst hz
        have HX : Hid (r = k) := Lib.hid (by rw [HR.out, nz_of HK.out (by rw [HL.out]; omega) (fun _ => hu), if_pos hlt])
        clear HK hu HR
        go_wp2
        go_ret
        rw [HX.out]
        exact ⟨rfl, rfl⟩
      · have t1 : ((0 : Int) == z) = false := by simp; omega
        have HK2 : Hid (∀ i, i < k + 1 → L[i]? ≠ some 0) := Lib.hid fun i h => by
          rcases Nat.lt_or_ge i k with h3 | h3
          · exact HK.out i h3
          · rw [show i = k from by omega, hu]; simpa using hz
        clear HK hu hz
        go_wp2
        go_round
        case rel => exact ⟨k + 1, by go_num, by omega, HK2⟩
        case measure => simp [intOf]; omega
    · have hkn : k = n := by omega
      have HX : Hid (r = -1) := Lib.hid (by rw [HR.out, nz_of HK.out (by rw [HL.out]; omega) (fun h => by rw [HL.out] at h; omega), if_neg (by omega)])
      clear HK HR
      go_wp2
      go_ret
      rw [HX.out]
      exact ⟨rfl, rfl⟩
/-- a call's answer: pairs, numbers and b -/
def RowP (q : Nat) (ps xs : List Int) (b : Bool) (w : World) (e : Ending) (w' : World) : Prop :=
  ∃ (A : Option Addr) (c : Nat) (A' : Option Addr) (c' : Nat), e = .returned (.tuple #[.slice A q c, .slice A' xs.length c', .bool b]) ∧ w'.ownsRow w.heap.size 37 2 (.slice A q c) q (I ps) ∧ w'.ownsRow w.heap.size 3 1 (.slice A' xs.length c') xs.length (I xs) ∧ Apart (.slice A q c) (.slice A' xs.length c') ∧ Below w.heap.size w w'
theorem apart_types' {w : World} {b s2 n : Nat} {e e2 : TypeId} {v u : Value} {n2 : Nat} {xs ys : List Value} {b3 s3 : Nat} (h : w.ownsRow b e s2 v n xs) (h' : w.ownsRow b3 e2 s3 u n2 ys) (he : e ≠ e2) : Apart v u := by
  have key : ∀ {b s n : Nat} {e : TypeId} {v : Value} {xs : List Value}, w.ownsRow b e s v n xs → ∀ k, v.ownBlock = some k → ∃ cur, w.heap[k]? = some (.cells cur e (0, 0)) := by
    intro b s n e v xs h k hk
    rcases h.2 with ⟨rfl, _⟩ | ⟨g', cap, cur, rfl, _, hh, _⟩
    · cases hk
    · simp only [Value.ownBlock, Option.some.injEq] at hk
      subst hk
      exact ⟨cur, hh⟩
  intro k h1 h2
  obtain ⟨c1, e1⟩ := key h k h1
  obtain ⟨c2, e2⟩ := key h' k h2
  rw [e1] at e2
  simp only [Option.some.injEq, Obj.cells.injEq] at e2
  exact he e2.2.1
theorem rowP_of {q : Nat} {ps xs : List Int} {b : Bool} {w w' : World} {v v' : Value} (h : w'.ownsRow w.heap.size 37 2 v q (I ps)) (h' : w'.ownsRow w.heap.size 3 1 v' xs.length (I xs)) (hb : Below w.heap.size w w') : RowP q ps xs b w (.returned (.tuple #[v, v', .bool b])) w' := by
  have ha := apart_types' h h' (by decide)
  obtain ⟨A, c, rfl, _, _⟩ := own_form h
  obtain ⟨A', c', rfl, _, _⟩ := own_form h'
  exact ⟨A, c, A', c', rfl, h, h', ha, hb⟩
def CompRes (zs : List Int) (q : Nat) (ps xs : List Int) (b : Bool) : Prop :=
  (GoodOw zs ∧ CompIs zs ps xs ∧ ps.length = 2 * q ∧ xs.length = zs.length ∧ b = true) ∨ (¬ GoodOw zs ∧ q = 0 ∧ ps = [] ∧ xs = [] ∧ b = false)
theorem compRes_ex (zs : List Int) : ∃ q ps xs b, CompRes zs q ps xs b ∧ xs.length ≤ 16 ∧ q ≤ 16 := by
  by_cases h : GoodOw zs
  · obtain ⟨ps, M, hc⟩ := comp_ex zs
    obtain ⟨k, h1, h2⟩ := hc
    obtain ⟨h3, q, h4, h5⟩ := comp_len zs k
    rw [h1] at h3 h4 h5
    simp only at h3 h4 h5
    have := ln_le zs
    have := h.2.2
    exact ⟨q, ps, M, true, .inl ⟨h, ⟨k, h1, h2⟩, h4, h3, rfl⟩, by omega, by omega⟩
  · exact ⟨0, [], [], false, .inr ⟨h, rfl, rfl, rfl, rfl⟩, by simp, by omega⟩
set_option maxHeartbeats 4000000 in
theorem implCompactMoves_any (A : Option Addr) (n c : Nat) (zs : List Int) (q0 : Nat) (ps0 xs : List Int) (b : Bool) (h : CompRes zs q0 ps0 xs b) (hn : n ≤ 1048576) (w : World) (hr : Reads w w.heap.size 1 A n (I zs)) :
    Calls Try.prog 23 #[.slice A n c] w (RowP q0 ps0 xs b w) := by
  have hl : zs.length = n := by have := hr.len; simpa [I] using this
  rcases h with ⟨h1, hcomp, hpl, hxl, rfl⟩ | ⟨h1, rfl, rfl, rfl, rfl⟩
  · have HG := Lib.hid (implAreOwners_any A n c _ zs w hr hn true (decide_eq_true h1))
    have HC := Lib.hid (copyOwners_any A n c _ zs w hr (Nat.le_refl _) hn)
    obtain ⟨i0, hi, hz0, hz1, hz2⟩ := info_parts pairInfo
    have HE : Hid (∀ k ps M, comp zs k = (ps, M) → ¬ nz M + 1 < ln M → ps = ps0 ∧ M = xs) := Lib.hid fun k ps M h h' => comp_unique ⟨k, h, h'⟩ hcomp
    have HPL := Lib.hid hpl
    have HXL : Hid (xs.length = n) := Lib.hid (by rw [hxl]; exact hl)
    have hln : ln zs ≤ n := by rw [← hl]; exact ln_le zs
    clear hr h1 hcomp hpl hxl
    have HL := Lib.hid hl
    clear hl
    go_enter Try.func23, Try.ntmps23
    go_wp2_with (go_at_call 32; with_reducible refine HG.out.mono ?_; rintro e w1 ⟨rfl, rfl⟩)
    refine HC.out.mono ?_
    rintro e w1 ⟨g, rfl, hown, hb⟩
    have hmv : w1.ownsRow w.heap.size 37 2 (.slice none 0 0) 0 (I []) := World.ownsRow_nil _ _ _ _
    clear HC HG
    go_wp2_with fail
    go_loopg [5] (ln zs) (fun gh v wr => ∃ (k q : Nat) (ps M : List Int), Hid (comp zs k = (ps, M)) ∧ ln M ≤ gh ∧ Hid (ps.length = 2 * q) ∧ q + ln M ≤ n ∧ Hid (M.length = n) ∧ wr.ownsRow w.heap.size 3 1 (.slice (some ⟨g, 0, none⟩) n n) n (I M) ∧ wr.ownsRow w.heap.size 37 2 v q (I ps) ∧ Below w.heap.size w wr)
    case atStart => exact ⟨0, 0, [], zs, Lib.hid rfl, Nat.le_refl _, Lib.hid rfl, by omega, HL, hown, hmv, hb⟩
    case round =>
      clear hown hmv hb
      obtain ⟨k, q, ps, M, HK, hg, HQ, hqn, HML, hown, hmv, hbel⟩ := hrel
      have hR := Reads.of_own hown
      by_cases hgo : nz M + 1 < ln M
      · obtain ⟨f, hf⟩ : ∃ f, ln M = f + 1 := ⟨ln M - 1, by omega⟩
        obtain ⟨t, ht⟩ : ∃ t, nz M = t := ⟨_, rfl⟩
        cases gk with
        | zero => omega
        | succ g' =>
          have htf : t < f := by omega
          obtain ⟨hf1, hf2⟩ := ln_last hf
          rw [HML.out] at hf1
          have hlt := lastTaken_any _ n n _ M wr hR hn
          rw [hf, show ((f + 1 : Nat) : Int) - 1 = (f : Int) from by omega] at hlt
          have HLT := Lib.hid hlt
          have HIX := Lib.hid (index_any _ n n _ M (t : Int) (by rw [ht, if_pos (by omega)]) wr hR hn)
          have HK2 := Lib.hid (comp_go HK.out hgo)
          have hmvl : moved M = (M.set f 0).set t (M.getD f 0) := by
            unfold moved
            rw [hf, ht, Nat.add_sub_cancel, List.set_comm _ _ (by omega)]
          have hlm := moved_ln hgo
          rw [hf, ht, Nat.add_sub_cancel] at HK2
          obtain ⟨v0, hv0⟩ : ∃ v0, M.getD f 0 = v0 := ⟨_, rfl⟩
          rw [hv0] at hmvl
          have hu : M[f]? = some v0 := by
            rw [← hv0, List.getD_eq_getElem?_getD, List.getElem?_eq_getElem (by rw [HML.out]; omega)]
            rfl
          have hcf : wr.cell? ⟨g, f, none⟩ = some (.int .i64 v0) := (hown.cellAt f (by omega)).trans (I_at hu)
          have hfzf := hown.frozenAt f
          have hs1 := hown.stored f (.int .i64 0)
          rw [I_set] at hs1
          have hmv1 := own_apart (u := .slice (some ⟨g, 0, none⟩) n n) hmv hs1.2 (apart_types' hown hmv (by decide))
          have hb1 : Below w.heap.size w (wr.setCell ⟨g, f, none⟩ (.int .i64 0)) := hbel.setCell (p := ⟨g, f, none⟩) (hown.lt g rfl).1 _
          obtain ⟨wa, hwa⟩ : ∃ wa, wr.setCell ⟨g, f, none⟩ (.int .i64 0) = wa := ⟨_, rfl⟩
          rw [hwa] at hs1 hmv1 hb1
          have hML1 : (M.set f 0).length = n := by rw [List.length_set]; exact HML.out
          obtain ⟨zt, hzt⟩ : ∃ z, wa.cell? ⟨g, t, none⟩ = some z := ⟨_, (hs1.1.cellAt t (by omega)).trans (I_at (List.getElem?_eq_getElem (by omega)))⟩
          have hfzt := hs1.1.frozenAt t
          have hs2 := hs1.1.stored t (.int .i64 v0)
          rw [I_set, ← hmvl] at hs2
          have hmv2 := own_apart (u := .slice (some ⟨g, 0, none⟩) n n) hmv1 hs2.2 (apart_types' hs1.1 hmv1 (by decide))
          have hb2 : Below w.heap.size w (wa.setCell ⟨g, t, none⟩ (.int .i64 v0)) := hb1.setCell (p := ⟨g, t, none⟩) (hown.lt g rfl).1 _
          obtain ⟨wb, hwb⟩ : ∃ wb, wa.setCell ⟨g, t, none⟩ (.int .i64 v0) = wb := ⟨_, rfl⟩
          rw [hwb] at hs2 hmv2 hb2
          have hnews : Hid (∀ (j : Nat) (u : Value), ([.int .i64 f, .int .i64 t] : List Value)[j]? = some u → (wb.alloc (.cells #[.int .i64 f, .int .i64 t] 37)).cell? ((⟨wb.heap.size, 0, none⟩ : Addr).add j) = some u) := Lib.hid (by
            intro j u hj
            rw [Go.WideShapes.add_plain, Nat.zero_add, cell_of_row _ _ _ _ _ _ (heap_alloc_new wb _)]
            simpa using hj)
          have HO2 := Lib.hid hs2.1
          have HM2 := Lib.hid (hmv2.alloc (.cells #[.int .i64 f, .int .i64 t] 37))
          have HB2 := Lib.hid hb2
          have hzb := hb2.size
          have HL2 : Hid ((moved M).length = n) := Lib.hid (by rw [moved_len]; exact HML.out)
          have HQ2 : Hid ((ps ++ [(f : Int), (t : Int)]).length = 2 * (q + 1)) := Lib.hid (by rw [List.length_append, HQ.out]; simp; omega)
          obtain ⟨M', hM'⟩ : ∃ M', moved M = M' := ⟨_, rfl⟩
          rw [hM'] at hlm HK2 HO2 HL2
          clear hR hlt HK hmvl hv0 hu hs1 hmv1 hb1 hML1 hs2 hmv2 hb2 hown hmv hbel hf2 hM' HML HQ hgo
          go_wp2_with (first | (go_at_call 60; with_reducible refine HLT.out.mono ?_; rintro e w1 ⟨rfl, rfl⟩) | (go_at_call 61; with_reducible refine HIX.out.mono ?_; rintro e w1 ⟨rfl, rfl⟩) | (at_builtin; refine wpList_append_own _ rfl _ _ 33 rfl w.heap.size 37 i0 (.agg #[.int .i64 0, .int .i64 0]) 2 16 Try.underlying33 hi hz0 hz1 hz2 rfl (by decide) _ _ _ rfl HM2.out ⟨wb.heap.size, 0, none⟩ 1 1 [.int .i64 f, .int .i64 t] rfl rfl hnews.out (fun x hx => by simp at hx; rcases hx with rfl | rfl <;> rfl) (by unfold maxLen; omega) (by omega) (by simp; omega) ?_; intro v' w3 hown3 hgrow3 _; have HG3 : Hid ((wb.alloc (.cells #[.int .i64 f, .int .i64 t] 37)).grownBy w3 u5.ownBlock) := Lib.hid hgrow3; have HO3 := Lib.hid hown3; clear hown3 hgrow3))
          have hO4 := own_apart (HO2.out.alloc _) HG3.out (apart_types' HM2.out (HO2.out.alloc _) (by decide))
          have hB4 : Below w.heap.size w w3 := (HB2.out.alloc hzb _).grown HG3.out (Nat.le_trans hzb (World.grownBy_alloc wb _ none).size) (fun q hq => (HM2.out.lt q hq).1)
          have hM4 := HO3.out
          rw [show I ps ++ [Value.int .i64 f, .int .i64 t] = I (ps ++ [(f : Int), (t : Int)]) from by simp [I]] at hM4
          go_roundg g'
          case measure => omega
          case rel => exact ⟨k + 1, q + 1, _, M', HK2, by omega, HQ2, by omega, HL2, hO4, hM4, hB4⟩
      · obtain ⟨rfl, rfl⟩ := HE.out k ps M HK.out hgo
        have hq0 : q0 = q := by have := HQ.out; have := HPL.out; omega
        subst hq0
        have hx : RowP q0 ps M true w (.returned (.tuple #[u5, .slice (some ⟨g, 0, none⟩) n n, .bool true])) wr := rowP_of hmv (by rw [HML.out]; exact hown) hbel
        have HX := Lib.hid hx
        have HLT := Lib.hid (lastTaken_any _ n n _ M wr hR hn)
        obtain ⟨m, hm⟩ : ∃ m, ln M = m := ⟨_, rfl⟩
        have hmn : m ≤ n := by have := ln_le M; rw [HML.out] at this; omega
        by_cases hz : nz M < n
        · have HIX := Lib.hid (index_any _ n n _ M (nz M : Int) (by rw [if_pos hz]) wr hR hn)
          have hne : ln M ≠ nz M + 1 := fun e => (ln_last e).2 (nz_zero (by rw [HML.out]; exact hz))
          obtain ⟨t, ht⟩ : ∃ t, nz M = t := ⟨_, rfl⟩
          rw [ht] at HIX hz hne hgo
          rw [hm] at HLT hne hgo
          have hlt : ((m : Int) - 1) < (t : Int) := by omega
          clear hR hx ht hm hne hgo HK HQ HML hown hmv hbel HE HL hqn hg
          go_wp2_with (first | (go_at_call 60; with_reducible refine HLT.out.mono ?_; rintro e w1 ⟨rfl, rfl⟩) | (go_at_call 61; with_reducible refine HIX.out.mono ?_; rintro e w1 ⟨rfl, rfl⟩))
          go_ret3
          exact HX.out
        · have HIX := Lib.hid (index_any _ n n _ M (-1) (by rw [if_neg hz]) wr hR hn)
          rw [hm] at HLT
          clear hR hx hm hz hgo HK HQ HML hown hmv hbel HE HL hqn hg
          go_wp2_with (first | (go_at_call 60; with_reducible refine HLT.out.mono ?_; rintro e w1 ⟨rfl, rfl⟩) | (go_at_call 61; with_reducible refine HIX.out.mono ?_; rintro e w1 ⟨rfl, rfl⟩))
          go_ret3
          exact HX.out
  · have HG := Lib.hid (implAreOwners_any A n c _ zs w hr hn false (decide_eq_false h1))
    have hx : RowP 0 [] [] false w (.returned (.tuple #[.slice none 0 0, .slice none 0 0, .bool false])) w := rowP_of (World.ownsRow_nil _ _ _ _) (World.ownsRow_nil _ _ _ _) (Below.refl _ _)
    clear hr h1 hl
    go_enter Try.func23, Try.ntmps23
    go_wp2_with (go_at_call 32; with_reducible refine HG.out.mono ?_; rintro e w1 ⟨rfl, rfl⟩)
    go_ret3
    exact hx
end Go.Proofs.Ytlpngmcnelmpmaa.Fra
