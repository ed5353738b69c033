/- What impl.withOperands answers. -/
import Derived.Test.YtfdbnolifimnhabDoorCutN
import Derived.Test.YtfdbnolifimnhabDoorBR
namespace Go.Proofs.YtfdbnolifimnhabDoor.L3
open Go Go.RowKit Go.Proofs.YtfdbnolifimnhabDoor.Mem Go.Proofs.YtfdbnolifimnhabDoor.Own Go.Proofs.YtfdbnolifimnhabDoor.L1
theorem tail_in {ws : List ByteArray} (h : ∀ u ∈ ws, u.size ≤ 1048576) : ∀ u ∈ ws.tail, u.size ≤ 1048576 := fun u hu => h u (List.mem_of_mem_tail hu)
set_option maxRecDepth 100000 in
set_option maxHeartbeats 4000000 in
theorem withOperands_any (k : Nat) (hk : k < 10) (A : Option Addr) (n c : Nat) (ws : List ByteArray) (w : World) (hr : Reads w w.heap.size 1 A n (ws.map .string)) (hl : ws.length = n) (hnc : n ≤ c) (hn : n ≤ 1048576) (hs : ∀ u ∈ ws, u.size ≤ 1048576)
    (ht : Lib.TabIs Tryd.prog w "internal/strconv.uint64pow10" .u64 Lib.pow10Tab) (he : ErrsIs w) (ho : OpsIs w) (x0 x1 x2 x3 : Int) (hx : cand wv wv k ws = ⟨x0, x1, x2, x3⟩) :
    Calls Tryd.prog 43 #[.int .i64 k, .slice A n c] w fun e w' => e = .returned (.agg #[.int .i64 x0, .int .i64 x1, .int .i64 x2, .int .i64 x3]) ∧ Below w.heap.size w w' := by
  obtain ⟨qa, ha⟩ : ∃ q, decide ((1 : Int) < cntA k) = q := ⟨_, rfl⟩
  obtain ⟨qb, hb⟩ : ∃ q, decide ((1 : Int) < cntB k) = q := ⟨_, rfl⟩
  obtain ⟨qn, hn_⟩ : ∃ q, decide ((1 : Int) < mostN k + 1) = q := ⟨_, rfl⟩
  have hc1 : (1 : Int) < cntA k ↔ qa = true := by rw [← ha]; simp
  have hc2 : (1 : Int) < cntB k ↔ qb = true := by rw [← hb]; simp
  have hc3 : (0 : Int) < mostN k ↔ qn = true := by rw [← hn_, decide_eq_true_eq]; omega
  unfold cand at hx
  simp only [hc1, hc2, hc3, Ins.mk.injEq] at hx
  clear hc1 hc2 hc3
  obtain ⟨ka, hka⟩ : ∃ z : Int, cntA k = z := ⟨_, rfl⟩
  obtain ⟨kb, hkb⟩ : ∃ z : Int, cntB k = z := ⟨_, rfl⟩
  obtain ⟨kn, hkn⟩ : ∃ z : Int, mostN k = z := ⟨_, rfl⟩
  obtain ⟨nm, hnm⟩ : ∃ z, opName k = z := ⟨_, rfl⟩
  have H0 := BR.start w 25 #[.int .i64 0, .int .i64 0, .int .i64 0, .int .i64 0] #[.int .i64 k, .int .i64 0, .int .i64 0, .int .i64 0]
  obtain ⟨wa, hwa⟩ : ∃ wa, (w.alloc (.cells #[.int .i64 0, .int .i64 0, .int .i64 0, .int .i64 0] 25)).alloc (.cells #[.int .i64 k, .int .i64 0, .int .i64 0, .int .i64 0] 25) = wa := ⟨_, rfl⟩
  rw [hwa] at H0
  have hsz : wa.heap.size = w.heap.size + 2 := by rw [← hwa, size1, size1]
  have hob := ops_below H0.bel ho
  have c0 : wa.cell? ⟨0, k * 4, none⟩ = some (.string (opName k)) := hob k hk 0 _ rfl
  have c1 := hob k hk 1 _ rfl
  have c2 := hob k hk 2 _ rfl
  have c3 := hob k hk 3 _ rfl
  rw [hka] at c1 ha
  rw [hkb] at c2 hb
  rw [hkn] at c3 hn_
  rw [hnm] at c0
  have hkz : (k : Int) < 10 := by omega
  have HWA := Lib.hid hwa
  have HT := Lib.hid ht
  have HE := Lib.hid he
  have HR := Lib.hid hr
  have HS := Lib.hid hs
  have HX := Lib.hid hx
  obtain ⟨wb, hwb⟩ : ∃ wb, wa.alloc (.cells #[.string nm, .int .i64 ka, .int .i64 kb, .int .i64 (kn + 1)] 62) = wb := ⟨_, rfl⟩
  have H : Hid (BR w wb 25 #[.int .i64 0, .int .i64 0, .int .i64 0, .int .i64 0] #[.int .i64 k, .int .i64 0, .int .i64 0, .int .i64 0]) := Lib.hid (by rw [← hwb]; exact H0.below (below_more (Below.refl _ _) _))
  have HK : Hid (Blk wb (w.heap.size + 2) 62 #[.string nm, .int .i64 ka, .int .i64 kb, .int .i64 (kn + 1)]) := Lib.hid (by rw [← hwb, ← hsz]; exact Blk.new _ _ _)
  have HWB := Lib.hid hwb
  have HSZ := Lib.hid hsz
  clear ht he ho hob hr hs hx hwa hwb hsz H0 hka hkb hkn hnm
  go_enter Tryd.func43, Tryd.ntmps43
  go_upto_region 2 with fail
  rw [HWA.out]
  clear HWA
  go_upto_region 3 with fail
  rw [HWB.out, HSZ.out]
  clear HWB HSZ c0 c1 c2 c3
  cases qa with
  | false =>
    cases qb with
    | false =>
      cases qn with
      | false =>
        have hx := HX.out
        simp only [Bool.false_eq_true, if_false] at hx
        obtain ⟨rfl, rfl, rfl, rfl⟩ := hx
        clear HX
        have k1 := HK.out.cell 1 _ rfl
        have k2 := HK.out.cell 2 _ rfl
        have k3 := HK.out.cell 3 _ rfl
        have r0 := H.out.rs.cell 0 _ rfl
        have q0 := H.out.bx.cell 0 _ rfl
        have qf0 := H.out.bx.free 0
        have r1 := H.out.rs.cell 1 _ rfl
        have q1 := H.out.bx.cell 1 _ rfl
        have qf1 := H.out.bx.free 1
        have r2 := H.out.rs.cell 2 _ rfl
        have q2 := H.out.bx.cell 2 _ rfl
        have qf2 := H.out.bx.free 2
        have r3 := H.out.rs.cell 3 _ rfl
        have q3 := H.out.bx.cell 3 _ rfl
        have qf3 := H.out.bx.free 3
        go_wp2_with fail
        replace H := Lib.hid ((((H.out.set 0 (.int .i64 k)).set 1 (.int .i64 0)).set 2 (.int .i64 0)).set 3 (.int .i64 0))
        clear k1 k2 k3 r0 q0 qf0 r1 q1 qf1 r2 q2 qf2 r3 q3 qf3
        revert H
        generalize (World.setCell (World.setCell (World.setCell (World.setCell _ _ _) _ _) _ _) _ _) = wz
        intro H
        have z0 := H.out.bx.cell 0 _ rfl
        have z1 := H.out.bx.cell 1 _ rfl
        have z2 := H.out.bx.cell 2 _ rfl
        have z3 := H.out.bx.cell 3 _ rfl
        exact bodyPost_ret (v := .agg #[.int .i64 k, .int .i64 0, .int .i64 0, .int .i64 0]) (by simp [results, Tryd.results43, go_sem, z0, z1, z2, z3]) rfl ⟨rfl, H.out.bel⟩
      | true =>
        have hx := HX.out
        simp only [if_true, Bool.false_eq_true, if_false] at hx
        obtain ⟨rfl, rfl, rfl, rfl⟩ := hx
        clear HX
        have k1 := HK.out.cell 1 _ rfl
        have k2 := HK.out.cell 2 _ rfl
        have k3 := HK.out.cell 3 _ rfl
        go_wp2_with fail
        refine (cutNumber_any A n c (ws) w _ H.out.bel HR.out hl hnc (by omega) HS.out HT.out HE.out).mono ?_
        rintro e w1 ⟨A1, n1, c1, rfl, hnc1, hl1, hr, hb⟩
        have hnn1 : n1 ≤ n := by rw [← hl1, List.length_tail]; omega
        replace H := Lib.hid (H.out.below hb)
        replace HK := Lib.hid (Blk.kept hb HK.out)
        have HR1 := Lib.hid hr
        replace HS := Lib.hid (tail_in HS.out)
        obtain ⟨v1, hv⟩ : ∃ v, hd wv (ws) = v := ⟨_, rfl⟩
        have HV1 := Lib.hid hv
        rw [hv]
        clear hb hr k1 k2 k3 hv
        have r0 := H.out.rs.cell 3 _ rfl
        have rf0 := H.out.rs.free 3
        have k1 := HK.out.cell 1 _ rfl
        have k2 := HK.out.cell 2 _ rfl
        have k3 := HK.out.cell 3 _ rfl
        go_upto_region 9 with fail
        clear r0 rf0 k1 k2 k3
        replace HK := Lib.hid (HK.out.other (g' := w.heap.size + 1) (j := 3) (.int .i64 v1) (by omega))
        replace H := Lib.hid (H.out.put 3 (.int .i64 v1))
        revert H HK
        generalize (World.setCell w1 _ _) = z1
        intro HK H
        have k1 := HK.out.cell 1 _ rfl
        have k2 := HK.out.cell 2 _ rfl
        have k3 := HK.out.cell 3 _ rfl
        have r0 := H.out.rs.cell 0 _ rfl
        have q0 := H.out.bx.cell 0 _ rfl
        have qf0 := H.out.bx.free 0
        have r1 := H.out.rs.cell 1 _ rfl
        have q1 := H.out.bx.cell 1 _ rfl
        have qf1 := H.out.bx.free 1
        have r2 := H.out.rs.cell 2 _ rfl
        have q2 := H.out.bx.cell 2 _ rfl
        have qf2 := H.out.bx.free 2
        have r3 := H.out.rs.cell 3 _ rfl
        have q3 := H.out.bx.cell 3 _ rfl
        have qf3 := H.out.bx.free 3
        go_wp2_with fail
        replace H := Lib.hid ((((H.out.set 0 (.int .i64 k)).set 1 (.int .i64 0)).set 2 (.int .i64 0)).set 3 (.int .i64 v1))
        clear k1 k2 k3 r0 q0 qf0 r1 q1 qf1 r2 q2 qf2 r3 q3 qf3
        revert H
        generalize (World.setCell (World.setCell (World.setCell (World.setCell _ _ _) _ _) _ _) _ _) = wz
        intro H
        have z0 := H.out.bx.cell 0 _ rfl
        have z1 := H.out.bx.cell 1 _ rfl
        have z2 := H.out.bx.cell 2 _ rfl
        have z3 := H.out.bx.cell 3 _ rfl
        exact bodyPost_ret (v := .agg #[.int .i64 k, .int .i64 0, .int .i64 0, .int .i64 v1]) (by simp [results, Tryd.results43, go_sem, z0, z1, z2, z3]) rfl ⟨by simp only [HV1.out], H.out.bel⟩
    | true =>
      cases qn with
      | false =>
        have hx := HX.out
        simp only [if_true, Bool.false_eq_true, if_false] at hx
        obtain ⟨rfl, rfl, rfl, rfl⟩ := hx
        clear HX
        have k1 := HK.out.cell 1 _ rfl
        have k2 := HK.out.cell 2 _ rfl
        have k3 := HK.out.cell 3 _ rfl
        go_wp2_with fail
        refine (cutNumber_any A n c (ws) w _ H.out.bel HR.out hl hnc (by omega) HS.out HT.out HE.out).mono ?_
        rintro e w1 ⟨A1, n1, c1, rfl, hnc1, hl1, hr, hb⟩
        have hnn1 : n1 ≤ n := by rw [← hl1, List.length_tail]; omega
        replace H := Lib.hid (H.out.below hb)
        replace HK := Lib.hid (Blk.kept hb HK.out)
        have HR1 := Lib.hid hr
        replace HS := Lib.hid (tail_in HS.out)
        obtain ⟨v1, hv⟩ : ∃ v, hd wv (ws) = v := ⟨_, rfl⟩
        have HV1 := Lib.hid hv
        rw [hv]
        clear hb hr k1 k2 k3 hv
        have r0 := H.out.rs.cell 2 _ rfl
        have rf0 := H.out.rs.free 2
        have k1 := HK.out.cell 1 _ rfl
        have k2 := HK.out.cell 2 _ rfl
        have k3 := HK.out.cell 3 _ rfl
        go_upto_region 7 with fail
        clear r0 rf0 k1 k2 k3
        replace HK := Lib.hid (HK.out.other (g' := w.heap.size + 1) (j := 2) (.int .i64 v1) (by omega))
        replace H := Lib.hid (H.out.put 2 (.int .i64 v1))
        revert H HK
        generalize (World.setCell w1 _ _) = z1
        intro HK H
        have k1 := HK.out.cell 1 _ rfl
        have k2 := HK.out.cell 2 _ rfl
        have k3 := HK.out.cell 3 _ rfl
        have r0 := H.out.rs.cell 0 _ rfl
        have q0 := H.out.bx.cell 0 _ rfl
        have qf0 := H.out.bx.free 0
        have r1 := H.out.rs.cell 1 _ rfl
        have q1 := H.out.bx.cell 1 _ rfl
        have qf1 := H.out.bx.free 1
        have r2 := H.out.rs.cell 2 _ rfl
        have q2 := H.out.bx.cell 2 _ rfl
        have qf2 := H.out.bx.free 2
        have r3 := H.out.rs.cell 3 _ rfl
        have q3 := H.out.bx.cell 3 _ rfl
        have qf3 := H.out.bx.free 3
        go_wp2_with fail
        replace H := Lib.hid ((((H.out.set 0 (.int .i64 k)).set 1 (.int .i64 0)).set 2 (.int .i64 v1)).set 3 (.int .i64 0))
        clear k1 k2 k3 r0 q0 qf0 r1 q1 qf1 r2 q2 qf2 r3 q3 qf3
        revert H
        generalize (World.setCell (World.setCell (World.setCell (World.setCell _ _ _) _ _) _ _) _ _) = wz
        intro H
        have z0 := H.out.bx.cell 0 _ rfl
        have z1 := H.out.bx.cell 1 _ rfl
        have z2 := H.out.bx.cell 2 _ rfl
        have z3 := H.out.bx.cell 3 _ rfl
        exact bodyPost_ret (v := .agg #[.int .i64 k, .int .i64 0, .int .i64 v1, .int .i64 0]) (by simp [results, Tryd.results43, go_sem, z0, z1, z2, z3]) rfl ⟨by simp only [HV1.out], H.out.bel⟩
      | true =>
        have hx := HX.out
        simp only [if_true, Bool.false_eq_true, if_false] at hx
        obtain ⟨rfl, rfl, rfl, rfl⟩ := hx
        clear HX
        have k1 := HK.out.cell 1 _ rfl
        have k2 := HK.out.cell 2 _ rfl
        have k3 := HK.out.cell 3 _ rfl
        go_wp2_with fail
        refine (cutNumber_any A n c (ws) w _ H.out.bel HR.out hl hnc (by omega) HS.out HT.out HE.out).mono ?_
        rintro e w1 ⟨A1, n1, c1, rfl, hnc1, hl1, hr, hb⟩
        have hnn1 : n1 ≤ n := by rw [← hl1, List.length_tail]; omega
        replace H := Lib.hid (H.out.below hb)
        replace HK := Lib.hid (Blk.kept hb HK.out)
        have HR1 := Lib.hid hr
        replace HS := Lib.hid (tail_in HS.out)
        obtain ⟨v1, hv⟩ : ∃ v, hd wv (ws) = v := ⟨_, rfl⟩
        have HV1 := Lib.hid hv
        rw [hv]
        clear hb hr k1 k2 k3 hv
        have r0 := H.out.rs.cell 2 _ rfl
        have rf0 := H.out.rs.free 2
        have k1 := HK.out.cell 1 _ rfl
        have k2 := HK.out.cell 2 _ rfl
        have k3 := HK.out.cell 3 _ rfl
        go_upto_region 7 with fail
        clear r0 rf0 k1 k2 k3
        replace HK := Lib.hid (HK.out.other (g' := w.heap.size + 1) (j := 2) (.int .i64 v1) (by omega))
        replace H := Lib.hid (H.out.put 2 (.int .i64 v1))
        revert H HK
        generalize (World.setCell w1 _ _) = z1
        intro HK H
        have k1 := HK.out.cell 1 _ rfl
        have k2 := HK.out.cell 2 _ rfl
        have k3 := HK.out.cell 3 _ rfl
        go_wp2_with fail
        refine (cutNumber_any A1 n1 c1 ((ws).tail) w _ H.out.bel HR1.out hl1 hnc1 (by omega) HS.out HT.out HE.out).mono ?_
        rintro e w2 ⟨A2, n2, c2, rfl, hnc2, hl2, hr, hb⟩
        have hnn2 : n2 ≤ n1 := by rw [← hl2, List.length_tail]; omega
        replace H := Lib.hid (H.out.below hb)
        replace HK := Lib.hid (Blk.kept hb HK.out)
        have HR2 := Lib.hid hr
        replace HS := Lib.hid (tail_in HS.out)
        obtain ⟨v2, hv⟩ : ∃ v, hd wv ((ws).tail) = v := ⟨_, rfl⟩
        have HV2 := Lib.hid hv
        rw [hv]
        clear hb hr k1 k2 k3 hv
        have r0 := H.out.rs.cell 3 _ rfl
        have rf0 := H.out.rs.free 3
        have k1 := HK.out.cell 1 _ rfl
        have k2 := HK.out.cell 2 _ rfl
        have k3 := HK.out.cell 3 _ rfl
        go_upto_region 9 with fail
        clear r0 rf0 k1 k2 k3
        replace HK := Lib.hid (HK.out.other (g' := w.heap.size + 1) (j := 3) (.int .i64 v2) (by omega))
        replace H := Lib.hid (H.out.put 3 (.int .i64 v2))
        revert H HK
        generalize (World.setCell w2 _ _) = z2
        intro HK H
        have k1 := HK.out.cell 1 _ rfl
        have k2 := HK.out.cell 2 _ rfl
        have k3 := HK.out.cell 3 _ rfl
        have r0 := H.out.rs.cell 0 _ rfl
        have q0 := H.out.bx.cell 0 _ rfl
        have qf0 := H.out.bx.free 0
        have r1 := H.out.rs.cell 1 _ rfl
        have q1 := H.out.bx.cell 1 _ rfl
        have qf1 := H.out.bx.free 1
        have r2 := H.out.rs.cell 2 _ rfl
        have q2 := H.out.bx.cell 2 _ rfl
        have qf2 := H.out.bx.free 2
        have r3 := H.out.rs.cell 3 _ rfl
        have q3 := H.out.bx.cell 3 _ rfl
        have qf3 := H.out.bx.free 3
        go_wp2_with fail
        replace H := Lib.hid ((((H.out.set 0 (.int .i64 k)).set 1 (.int .i64 0)).set 2 (.int .i64 v1)).set 3 (.int .i64 v2))
        clear k1 k2 k3 r0 q0 qf0 r1 q1 qf1 r2 q2 qf2 r3 q3 qf3
        revert H
        generalize (World.setCell (World.setCell (World.setCell (World.setCell _ _ _) _ _) _ _) _ _) = wz
        intro H
        have z0 := H.out.bx.cell 0 _ rfl
        have z1 := H.out.bx.cell 1 _ rfl
        have z2 := H.out.bx.cell 2 _ rfl
        have z3 := H.out.bx.cell 3 _ rfl
        exact bodyPost_ret (v := .agg #[.int .i64 k, .int .i64 0, .int .i64 v1, .int .i64 v2]) (by simp [results, Tryd.results43, go_sem, z0, z1, z2, z3]) rfl ⟨by simp only [HV1.out, HV2.out], H.out.bel⟩
  | true =>
    cases qb with
    | false =>
      cases qn with
      | false =>
        have hx := HX.out
        simp only [if_true, Bool.false_eq_true, if_false] at hx
        obtain ⟨rfl, rfl, rfl, rfl⟩ := hx
        clear HX
        have k1 := HK.out.cell 1 _ rfl
        have k2 := HK.out.cell 2 _ rfl
        have k3 := HK.out.cell 3 _ rfl
        go_wp2_with fail
        refine (cutNumber_any A n c (ws) w _ H.out.bel HR.out hl hnc (by omega) HS.out HT.out HE.out).mono ?_
        rintro e w1 ⟨A1, n1, c1, rfl, hnc1, hl1, hr, hb⟩
        have hnn1 : n1 ≤ n := by rw [← hl1, List.length_tail]; omega
        replace H := Lib.hid (H.out.below hb)
        replace HK := Lib.hid (Blk.kept hb HK.out)
        have HR1 := Lib.hid hr
        replace HS := Lib.hid (tail_in HS.out)
        obtain ⟨v1, hv⟩ : ∃ v, hd wv (ws) = v := ⟨_, rfl⟩
        have HV1 := Lib.hid hv
        rw [hv]
        clear hb hr k1 k2 k3 hv
        have r0 := H.out.rs.cell 1 _ rfl
        have rf0 := H.out.rs.free 1
        have k1 := HK.out.cell 1 _ rfl
        have k2 := HK.out.cell 2 _ rfl
        have k3 := HK.out.cell 3 _ rfl
        go_upto_region 5 with fail
        clear r0 rf0 k1 k2 k3
        replace HK := Lib.hid (HK.out.other (g' := w.heap.size + 1) (j := 1) (.int .i64 v1) (by omega))
        replace H := Lib.hid (H.out.put 1 (.int .i64 v1))
        revert H HK
        generalize (World.setCell w1 _ _) = z1
        intro HK H
        have k1 := HK.out.cell 1 _ rfl
        have k2 := HK.out.cell 2 _ rfl
        have k3 := HK.out.cell 3 _ rfl
        have r0 := H.out.rs.cell 0 _ rfl
        have q0 := H.out.bx.cell 0 _ rfl
        have qf0 := H.out.bx.free 0
        have r1 := H.out.rs.cell 1 _ rfl
        have q1 := H.out.bx.cell 1 _ rfl
        have qf1 := H.out.bx.free 1
        have r2 := H.out.rs.cell 2 _ rfl
        have q2 := H.out.bx.cell 2 _ rfl
        have qf2 := H.out.bx.free 2
        have r3 := H.out.rs.cell 3 _ rfl
        have q3 := H.out.bx.cell 3 _ rfl
        have qf3 := H.out.bx.free 3
        go_wp2_with fail
        replace H := Lib.hid ((((H.out.set 0 (.int .i64 k)).set 1 (.int .i64 v1)).set 2 (.int .i64 0)).set 3 (.int .i64 0))
        clear k1 k2 k3 r0 q0 qf0 r1 q1 qf1 r2 q2 qf2 r3 q3 qf3
        revert H
        generalize (World.setCell (World.setCell (World.setCell (World.setCell _ _ _) _ _) _ _) _ _) = wz
        intro H
        have z0 := H.out.bx.cell 0 _ rfl
        have z1 := H.out.bx.cell 1 _ rfl
        have z2 := H.out.bx.cell 2 _ rfl
        have z3 := H.out.bx.cell 3 _ rfl
        exact bodyPost_ret (v := .agg #[.int .i64 k, .int .i64 v1, .int .i64 0, .int .i64 0]) (by simp [results, Tryd.results43, go_sem, z0, z1, z2, z3]) rfl ⟨by simp only [HV1.out], H.out.bel⟩
      | true =>
        have hx := HX.out
        simp only [if_true, Bool.false_eq_true, if_false] at hx
        obtain ⟨rfl, rfl, rfl, rfl⟩ := hx
        clear HX
        have k1 := HK.out.cell 1 _ rfl
        have k2 := HK.out.cell 2 _ rfl
        have k3 := HK.out.cell 3 _ rfl
        go_wp2_with fail
        refine (cutNumber_any A n c (ws) w _ H.out.bel HR.out hl hnc (by omega) HS.out HT.out HE.out).mono ?_
        rintro e w1 ⟨A1, n1, c1, rfl, hnc1, hl1, hr, hb⟩
        have hnn1 : n1 ≤ n := by rw [← hl1, List.length_tail]; omega
        replace H := Lib.hid (H.out.below hb)
        replace HK := Lib.hid (Blk.kept hb HK.out)
        have HR1 := Lib.hid hr
        replace HS := Lib.hid (tail_in HS.out)
        obtain ⟨v1, hv⟩ : ∃ v, hd wv (ws) = v := ⟨_, rfl⟩
        have HV1 := Lib.hid hv
        rw [hv]
        clear hb hr k1 k2 k3 hv
        have r0 := H.out.rs.cell 1 _ rfl
        have rf0 := H.out.rs.free 1
        have k1 := HK.out.cell 1 _ rfl
        have k2 := HK.out.cell 2 _ rfl
        have k3 := HK.out.cell 3 _ rfl
        go_upto_region 5 with fail
        clear r0 rf0 k1 k2 k3
        replace HK := Lib.hid (HK.out.other (g' := w.heap.size + 1) (j := 1) (.int .i64 v1) (by omega))
        replace H := Lib.hid (H.out.put 1 (.int .i64 v1))
        revert H HK
        generalize (World.setCell w1 _ _) = z1
        intro HK H
        have k1 := HK.out.cell 1 _ rfl
        have k2 := HK.out.cell 2 _ rfl
        have k3 := HK.out.cell 3 _ rfl
        go_wp2_with fail
        refine (cutNumber_any A1 n1 c1 ((ws).tail) w _ H.out.bel HR1.out hl1 hnc1 (by omega) HS.out HT.out HE.out).mono ?_
        rintro e w2 ⟨A2, n2, c2, rfl, hnc2, hl2, hr, hb⟩
        have hnn2 : n2 ≤ n1 := by rw [← hl2, List.length_tail]; omega
        replace H := Lib.hid (H.out.below hb)
        replace HK := Lib.hid (Blk.kept hb HK.out)
        have HR2 := Lib.hid hr
        replace HS := Lib.hid (tail_in HS.out)
        obtain ⟨v2, hv⟩ : ∃ v, hd wv ((ws).tail) = v := ⟨_, rfl⟩
        have HV2 := Lib.hid hv
        rw [hv]
        clear hb hr k1 k2 k3 hv
        have r0 := H.out.rs.cell 3 _ rfl
        have rf0 := H.out.rs.free 3
        have k1 := HK.out.cell 1 _ rfl
        have k2 := HK.out.cell 2 _ rfl
        have k3 := HK.out.cell 3 _ rfl
        go_upto_region 9 with fail
        clear r0 rf0 k1 k2 k3
        replace HK := Lib.hid (HK.out.other (g' := w.heap.size + 1) (j := 3) (.int .i64 v2) (by omega))
        replace H := Lib.hid (H.out.put 3 (.int .i64 v2))
        revert H HK
        generalize (World.setCell w2 _ _) = z2
        intro HK H
        have k1 := HK.out.cell 1 _ rfl
        have k2 := HK.out.cell 2 _ rfl
        have k3 := HK.out.cell 3 _ rfl
        have r0 := H.out.rs.cell 0 _ rfl
        have q0 := H.out.bx.cell 0 _ rfl
        have qf0 := H.out.bx.free 0
        have r1 := H.out.rs.cell 1 _ rfl
        have q1 := H.out.bx.cell 1 _ rfl
        have qf1 := H.out.bx.free 1
        have r2 := H.out.rs.cell 2 _ rfl
        have q2 := H.out.bx.cell 2 _ rfl
        have qf2 := H.out.bx.free 2
        have r3 := H.out.rs.cell 3 _ rfl
        have q3 := H.out.bx.cell 3 _ rfl
        have qf3 := H.out.bx.free 3
        go_wp2_with fail
        replace H := Lib.hid ((((H.out.set 0 (.int .i64 k)).set 1 (.int .i64 v1)).set 2 (.int .i64 0)).set 3 (.int .i64 v2))
        clear k1 k2 k3 r0 q0 qf0 r1 q1 qf1 r2 q2 qf2 r3 q3 qf3
        revert H
        generalize (World.setCell (World.setCell (World.setCell (World.setCell _ _ _) _ _) _ _) _ _) = wz
        intro H
        have z0 := H.out.bx.cell 0 _ rfl
        have z1 := H.out.bx.cell 1 _ rfl
        have z2 := H.out.bx.cell 2 _ rfl
        have z3 := H.out.bx.cell 3 _ rfl
        exact bodyPost_ret (v := .agg #[.int .i64 k, .int .i64 v1, .int .i64 0, .int .i64 v2]) (by simp [results, Tryd.results43, go_sem, z0, z1, z2, z3]) rfl ⟨by simp only [HV1.out, HV2.out], H.out.bel⟩
    | true =>
      cases qn with
      | false =>
        have hx := HX.out
        simp only [if_true, Bool.false_eq_true, if_false] at hx
        obtain ⟨rfl, rfl, rfl, rfl⟩ := hx
        clear HX
        have k1 := HK.out.cell 1 _ rfl
        have k2 := HK.out.cell 2 _ rfl
        have k3 := HK.out.cell 3 _ rfl
        go_wp2_with fail
        refine (cutNumber_any A n c (ws) w _ H.out.bel HR.out hl hnc (by omega) HS.out HT.out HE.out).mono ?_
        rintro e w1 ⟨A1, n1, c1, rfl, hnc1, hl1, hr, hb⟩
        have hnn1 : n1 ≤ n := by rw [← hl1, List.length_tail]; omega
        replace H := Lib.hid (H.out.below hb)
        replace HK := Lib.hid (Blk.kept hb HK.out)
        have HR1 := Lib.hid hr
        replace HS := Lib.hid (tail_in HS.out)
        obtain ⟨v1, hv⟩ : ∃ v, hd wv (ws) = v := ⟨_, rfl⟩
        have HV1 := Lib.hid hv
        rw [hv]
        clear hb hr k1 k2 k3 hv
        have r0 := H.out.rs.cell 1 _ rfl
        have rf0 := H.out.rs.free 1
        have k1 := HK.out.cell 1 _ rfl
        have k2 := HK.out.cell 2 _ rfl
        have k3 := HK.out.cell 3 _ rfl
        go_upto_region 5 with fail
        clear r0 rf0 k1 k2 k3
        replace HK := Lib.hid (HK.out.other (g' := w.heap.size + 1) (j := 1) (.int .i64 v1) (by omega))
        replace H := Lib.hid (H.out.put 1 (.int .i64 v1))
        revert H HK
        generalize (World.setCell w1 _ _) = z1
        intro HK H
        have k1 := HK.out.cell 1 _ rfl
        have k2 := HK.out.cell 2 _ rfl
        have k3 := HK.out.cell 3 _ rfl
        go_wp2_with fail
        refine (cutNumber_any A1 n1 c1 ((ws).tail) w _ H.out.bel HR1.out hl1 hnc1 (by omega) HS.out HT.out HE.out).mono ?_
        rintro e w2 ⟨A2, n2, c2, rfl, hnc2, hl2, hr, hb⟩
        have hnn2 : n2 ≤ n1 := by rw [← hl2, List.length_tail]; omega
        replace H := Lib.hid (H.out.below hb)
        replace HK := Lib.hid (Blk.kept hb HK.out)
        have HR2 := Lib.hid hr
        replace HS := Lib.hid (tail_in HS.out)
        obtain ⟨v2, hv⟩ : ∃ v, hd wv ((ws).tail) = v := ⟨_, rfl⟩
        have HV2 := Lib.hid hv
        rw [hv]
        clear hb hr k1 k2 k3 hv
        have r0 := H.out.rs.cell 2 _ rfl
        have rf0 := H.out.rs.free 2
        have k1 := HK.out.cell 1 _ rfl
        have k2 := HK.out.cell 2 _ rfl
        have k3 := HK.out.cell 3 _ rfl
        go_upto_region 7 with fail
        clear r0 rf0 k1 k2 k3
        replace HK := Lib.hid (HK.out.other (g' := w.heap.size + 1) (j := 2) (.int .i64 v2) (by omega))
        replace H := Lib.hid (H.out.put 2 (.int .i64 v2))
        revert H HK
        generalize (World.setCell w2 _ _) = z2
        intro HK H
        have k1 := HK.out.cell 1 _ rfl
        have k2 := HK.out.cell 2 _ rfl
        have k3 := HK.out.cell 3 _ rfl
        have r0 := H.out.rs.cell 0 _ rfl
        have q0 := H.out.bx.cell 0 _ rfl
        have qf0 := H.out.bx.free 0
        have r1 := H.out.rs.cell 1 _ rfl
        have q1 := H.out.bx.cell 1 _ rfl
        have qf1 := H.out.bx.free 1
        have r2 := H.out.rs.cell 2 _ rfl
        have q2 := H.out.bx.cell 2 _ rfl
        have qf2 := H.out.bx.free 2
        have r3 := H.out.rs.cell 3 _ rfl
        have q3 := H.out.bx.cell 3 _ rfl
        have qf3 := H.out.bx.free 3
        go_wp2_with fail
        replace H := Lib.hid ((((H.out.set 0 (.int .i64 k)).set 1 (.int .i64 v1)).set 2 (.int .i64 v2)).set 3 (.int .i64 0))
        clear k1 k2 k3 r0 q0 qf0 r1 q1 qf1 r2 q2 qf2 r3 q3 qf3
        revert H
        generalize (World.setCell (World.setCell (World.setCell (World.setCell _ _ _) _ _) _ _) _ _) = wz
        intro H
        have z0 := H.out.bx.cell 0 _ rfl
        have z1 := H.out.bx.cell 1 _ rfl
        have z2 := H.out.bx.cell 2 _ rfl
        have z3 := H.out.bx.cell 3 _ rfl
        exact bodyPost_ret (v := .agg #[.int .i64 k, .int .i64 v1, .int .i64 v2, .int .i64 0]) (by simp [results, Tryd.results43, go_sem, z0, z1, z2, z3]) rfl ⟨by simp only [HV1.out, HV2.out], H.out.bel⟩
      | true =>
        have hx := HX.out
        simp only [if_true] at hx
        obtain ⟨rfl, rfl, rfl, rfl⟩ := hx
        clear HX
        have k1 := HK.out.cell 1 _ rfl
        have k2 := HK.out.cell 2 _ rfl
        have k3 := HK.out.cell 3 _ rfl
        go_wp2_with fail
        refine (cutNumber_any A n c (ws) w _ H.out.bel HR.out hl hnc (by omega) HS.out HT.out HE.out).mono ?_
        rintro e w1 ⟨A1, n1, c1, rfl, hnc1, hl1, hr, hb⟩
        have hnn1 : n1 ≤ n := by rw [← hl1, List.length_tail]; omega
        replace H := Lib.hid (H.out.below hb)
        replace HK := Lib.hid (Blk.kept hb HK.out)
        have HR1 := Lib.hid hr
        replace HS := Lib.hid (tail_in HS.out)
        obtain ⟨v1, hv⟩ : ∃ v, hd wv (ws) = v := ⟨_, rfl⟩
        have HV1 := Lib.hid hv
        rw [hv]
        clear hb hr k1 k2 k3 hv
        have r0 := H.out.rs.cell 1 _ rfl
        have rf0 := H.out.rs.free 1
        have k1 := HK.out.cell 1 _ rfl
        have k2 := HK.out.cell 2 _ rfl
        have k3 := HK.out.cell 3 _ rfl
        go_upto_region 5 with fail
        clear r0 rf0 k1 k2 k3
        replace HK := Lib.hid (HK.out.other (g' := w.heap.size + 1) (j := 1) (.int .i64 v1) (by omega))
        replace H := Lib.hid (H.out.put 1 (.int .i64 v1))
        revert H HK
        generalize (World.setCell w1 _ _) = z1
        intro HK H
        have k1 := HK.out.cell 1 _ rfl
        have k2 := HK.out.cell 2 _ rfl
        have k3 := HK.out.cell 3 _ rfl
        go_wp2_with fail
        refine (cutNumber_any A1 n1 c1 ((ws).tail) w _ H.out.bel HR1.out hl1 hnc1 (by omega) HS.out HT.out HE.out).mono ?_
        rintro e w2 ⟨A2, n2, c2, rfl, hnc2, hl2, hr, hb⟩
        have hnn2 : n2 ≤ n1 := by rw [← hl2, List.length_tail]; omega
        replace H := Lib.hid (H.out.below hb)
        replace HK := Lib.hid (Blk.kept hb HK.out)
        have HR2 := Lib.hid hr
        replace HS := Lib.hid (tail_in HS.out)
        obtain ⟨v2, hv⟩ : ∃ v, hd wv ((ws).tail) = v := ⟨_, rfl⟩
        have HV2 := Lib.hid hv
        rw [hv]
        clear hb hr k1 k2 k3 hv
        have r0 := H.out.rs.cell 2 _ rfl
        have rf0 := H.out.rs.free 2
        have k1 := HK.out.cell 1 _ rfl
        have k2 := HK.out.cell 2 _ rfl
        have k3 := HK.out.cell 3 _ rfl
        go_upto_region 7 with fail
        clear r0 rf0 k1 k2 k3
        replace HK := Lib.hid (HK.out.other (g' := w.heap.size + 1) (j := 2) (.int .i64 v2) (by omega))
        replace H := Lib.hid (H.out.put 2 (.int .i64 v2))
        revert H HK
        generalize (World.setCell w2 _ _) = z2
        intro HK H
        have k1 := HK.out.cell 1 _ rfl
        have k2 := HK.out.cell 2 _ rfl
        have k3 := HK.out.cell 3 _ rfl
        go_wp2_with fail
        refine (cutNumber_any A2 n2 c2 (((ws).tail).tail) w _ H.out.bel HR2.out hl2 hnc2 (by omega) HS.out HT.out HE.out).mono ?_
        rintro e w3 ⟨A3, n3, c3, rfl, hnc3, hl3, hr, hb⟩
        have hnn3 : n3 ≤ n2 := by rw [← hl3, List.length_tail]; omega
        replace H := Lib.hid (H.out.below hb)
        replace HK := Lib.hid (Blk.kept hb HK.out)
        have HR3 := Lib.hid hr
        replace HS := Lib.hid (tail_in HS.out)
        obtain ⟨v3, hv⟩ : ∃ v, hd wv (((ws).tail).tail) = v := ⟨_, rfl⟩
        have HV3 := Lib.hid hv
        rw [hv]
        clear hb hr k1 k2 k3 hv
        have r0 := H.out.rs.cell 3 _ rfl
        have rf0 := H.out.rs.free 3
        have k1 := HK.out.cell 1 _ rfl
        have k2 := HK.out.cell 2 _ rfl
        have k3 := HK.out.cell 3 _ rfl
        go_upto_region 9 with fail
        clear r0 rf0 k1 k2 k3
        replace HK := Lib.hid (HK.out.other (g' := w.heap.size + 1) (j := 3) (.int .i64 v3) (by omega))
        replace H := Lib.hid (H.out.put 3 (.int .i64 v3))
        revert H HK
        generalize (World.setCell w3 _ _) = z3
        intro HK H
        have k1 := HK.out.cell 1 _ rfl
        have k2 := HK.out.cell 2 _ rfl
        have k3 := HK.out.cell 3 _ rfl
        have r0 := H.out.rs.cell 0 _ rfl
        have q0 := H.out.bx.cell 0 _ rfl
        have qf0 := H.out.bx.free 0
        have r1 := H.out.rs.cell 1 _ rfl
        have q1 := H.out.bx.cell 1 _ rfl
        have qf1 := H.out.bx.free 1
        have r2 := H.out.rs.cell 2 _ rfl
        have q2 := H.out.bx.cell 2 _ rfl
        have qf2 := H.out.bx.free 2
        have r3 := H.out.rs.cell 3 _ rfl
        have q3 := H.out.bx.cell 3 _ rfl
        have qf3 := H.out.bx.free 3
        go_wp2_with fail
        replace H := Lib.hid ((((H.out.set 0 (.int .i64 k)).set 1 (.int .i64 v1)).set 2 (.int .i64 v2)).set 3 (.int .i64 v3))
        clear k1 k2 k3 r0 q0 qf0 r1 q1 qf1 r2 q2 qf2 r3 q3 qf3
        revert H
        generalize (World.setCell (World.setCell (World.setCell (World.setCell _ _ _) _ _) _ _) _ _) = wz
        intro H
        have z0 := H.out.bx.cell 0 _ rfl
        have z1 := H.out.bx.cell 1 _ rfl
        have z2 := H.out.bx.cell 2 _ rfl
        have z3 := H.out.bx.cell 3 _ rfl
        exact bodyPost_ret (v := .agg #[.int .i64 k, .int .i64 v1, .int .i64 v2, .int .i64 v3]) (by simp [results, Tryd.results43, go_sem, z0, z1, z2, z3]) rfl ⟨by simp only [HV1.out, HV2.out, HV3.out], H.out.bel⟩
end Go.Proofs.YtfdbnolifimnhabDoor.L3
