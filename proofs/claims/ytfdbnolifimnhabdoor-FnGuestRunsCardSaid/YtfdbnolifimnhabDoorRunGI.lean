/- What impl.RunGuest answers. -/
import Derived.Test.YtfdbnolifimnhabDoorStepG
namespace Go.Proofs.YtfdbnolifimnhabDoor.L3
open Go Go.RowKit Go.Proofs.YtfdbnolifimnhabDoor.Mem Go.Proofs.YtfdbnolifimnhabDoor.Own Go.Proofs.YtfdbnolifimnhabDoor.L1 Go.Proofs.YtfdbnolifimnhabDoor.Bit
/-- the answer of RunGuest -/
def RunIs (xs : List Ins) (g : Regs) (most : Int) (res : Regs) (cnt : Int) (ok : Bool) : Prop :=
  (¬ (OkG xs g ∧ 0 ≤ most ∧ most ≤ 1000) ∧ res = ⟨[], 0, false, false⟩ ∧ cnt = 0 ∧ ok = false) ∨
  (OkG xs g ∧ 0 ≤ most ∧ most ≤ 1000 ∧ ∃ N : Nat, Fin xs g most.toNat N ∧ res = itOf xs g N ∧ cnt = N ∧ ok = true)
theorem fin_ex (xs : List Ins) (g : Regs) (most : Nat) : ∃ n, Fin xs g most n := by
  induction most with
  | zero => exact ⟨0, Nat.le_refl _, fun j hj => absurd hj (by omega), .inl rfl⟩
  | succ m ih =>
    obtain ⟨n, h1, h2, h3⟩ := ih
    rcases h3 with rfl | h3
    · cases hs : (itOf xs g n).stopped with
      | true => exact ⟨n, by omega, h2, .inr hs⟩
      | false =>
        refine ⟨n + 1, Nat.le_refl _, fun j hj => ?_, .inl rfl⟩
        rcases Nat.lt_or_ge j n with h | h
        · exact h2 j h
        · obtain rfl : j = n := by omega
          exact hs
    · exact ⟨n, by omega, h2, .inr h3⟩
theorem runIs_ex (xs : List Ins) (g : Regs) (most : Int) : ∃ res cnt ok, RunIs xs g most res cnt ok ∧ res.r.length ≤ 4 := by
  by_cases h : OkG xs g ∧ 0 ≤ most ∧ most ≤ 1000
  · obtain ⟨N, hN⟩ := fin_ex xs g most.toNat
    exact ⟨_, _, _, .inr ⟨h.1, h.2.1, h.2.2, N, hN, rfl, rfl, rfl⟩, by rw [(it_ok h.1 N).2.1]; exact Nat.le_refl _⟩
  · exact ⟨_, _, _, .inl ⟨h, rfl, rfl, rfl⟩, by simp⟩
/-- where a run stands -/
structure AtRun (w wr : World) (at_ : Nat) (g : Regs) (gg cc : Nat) : Prop where
  out : Blk wr at_ 40 #[.slice (some ⟨gg, 0, none⟩) 4 cc, .int .i64 g.place, .bool g.zero, .bool g.stopped]
  res : Blk wr (w.heap.size + 1) 40 #[.slice none 0 0, .int .i64 0, .bool false, .bool false]
  own : wr.ownsRow w.heap.size 3 1 (.slice (some ⟨gg, 0, none⟩) 4 cc) 4 (I g.r)
  below : Below w.heap.size w wr
  ord : w.heap.size ≤ at_ ∧ at_ ≠ w.heap.size + 1 ∧ w.heap.size + 2 ≤ gg ∧ at_ ≠ gg
theorem implRun_ret {Q : Ending → World → Prop} {a : Act} {w' : World} {g : Nat} {v0 v1 v2 v3 v4 v5 : Value} (hd : a.defers = []) (hp : a.tmps[6]?.getD undef = .pointer (some ⟨g, 0, none⟩)) (h7 : a.tmps[7]?.getD undef = v4) (h8 : a.tmps[8]?.getD undef = v5)
    (z0 : w'.cell? ⟨g, 0, none⟩ = some v0) (z1 : w'.cell? ⟨g, 1, none⟩ = some v1) (z2 : w'.cell? ⟨g, 2, none⟩ = some v2) (z3 : w'.cell? ⟨g, 3, none⟩ = some v3) (hQ : Q (.returned (.tuple #[.agg #[v0, v1, v2, v3], v4, v5])) w') :
    bodyPost Tryd.prog Tryd.f20 Q .ret a w' := by
  refine bodyPost_ret (v := .tuple #[.agg #[v0, v1, v2, v3], v4, v5]) ?_ hd hQ
  simp [results, Tryd.results20, go_sem, hp, h7, h8, z0, z1, z2, z3]
set_option maxRecDepth 100000 in
set_option maxHeartbeats 1600000 in
theorem implRun_no (A A' : Option Addr) (n c n' c' : Nat) (xs : List Ins) (g : Regs) (most : Int) (w : World) (hr : Reads w w.heap.size 4 A n (FL xs)) (hn : n ≤ 1048576) (hr' : Reads w w.heap.size 1 A' n' (I g.r)) (hn' : n' ≤ 1048576) (ho : OpsIs w)
    (hv : ¬ (OkG xs g ∧ 0 ≤ most ∧ most ≤ 1000)) :
    Calls Tryd.prog 20 #[.slice A n c, .agg #[.slice A' n' c', .int .i64 g.place, .bool g.zero, .bool g.stopped], .int .i64 most] w fun e w' => ∃ A0 c0, e = .returned (.tuple #[.agg #[.slice A0 0 c0, .int .i64 0, .bool false, .bool false], .int .i64 0, .bool false]) ∧
      w'.ownsRow w.heap.size 3 1 (.slice A0 0 c0) 0 (I []) ∧ Below w.heap.size w w' := by
  obtain ⟨rs, place, zero, st⟩ := g
  simp only at hr' ⊢
  obtain ⟨wb, hwb⟩ : ∃ wb, (w.alloc (.cells #[.slice A' n' c', .int .i64 place, .bool zero, .bool st] 40)).alloc (.cells #[.slice none 0 0, .int .i64 0, .bool false, .bool false] 40) = wb := ⟨_, rfl⟩
  have hb0 : Below w.heap.size w wb := by rw [← hwb]; exact below_more (below_more (Below.refl w.heap.size w) _) _
  have hR : Blk wb (w.heap.size + 1) 40 #[.slice none 0 0, .int .i64 0, .bool false, .bool false] := by
    rw [← hwb]
    have h := Blk.new (w.alloc (.cells #[.slice A' n' c', .int .i64 place, .bool zero, .bool st] 40)) #[.slice none 0 0, .int .i64 0, .bool false, .bool false] 40
    rwa [size1] at h
  have HR1 := Lib.hid ((hr'.below hb0).more hb0.size)
  have HP1 := Lib.hid ((hr.below hb0).more hb0.size)
  have HR := Lib.hid hR
  have HW := Lib.hid hb0
  have HWB := Lib.hid hwb
  have HOP := Lib.hid (ops_below hb0 ho)
  have HV := Lib.hid hv
  obtain ⟨b, hb⟩ : ∃ b, decide (OkG xs ⟨rs, place, zero, st⟩) = b := ⟨_, rfl⟩
  have HB := Lib.hid hb
  clear hr hr' hb0 hR hwb hb ho hv
  have hcase : b = false ∨ most < 0 ∨ (0 ≤ most ∧ 1000 < most) := by
    cases b
    · exact .inl rfl
    · have h1 := of_decide_eq_true HB.out
      have h2 := HV.out
      by_cases h3 : 0 ≤ most
      · by_cases h4 : most ≤ 1000
        · exact absurd ⟨h1, h3, h4⟩ h2
        · exact .inr (.inr ⟨h3, by omega⟩)
      · exact .inr (.inl (by omega))
  have hend : ∀ w1, Hid (Blk w1 (w.heap.size + 1) 40 #[.slice none 0 0, .int .i64 0, .bool false, .bool false]) → Hid (Below w.heap.size w w1) →
      Hid (Blk ((((w1.setCell ⟨w.heap.size + 1, 0, none⟩ (.slice none 0 0)).setCell ⟨w.heap.size + 1, 1, none⟩ (.int .i64 0)).setCell ⟨w.heap.size + 1, 2, none⟩ (.bool false)).setCell ⟨w.heap.size + 1, 3, none⟩ (.bool false)) (w.heap.size + 1) 40 #[.slice none 0 0, .int .i64 0, .bool false, .bool false]) ∧
      Hid (Below w.heap.size w ((((w1.setCell ⟨w.heap.size + 1, 0, none⟩ (.slice none 0 0)).setCell ⟨w.heap.size + 1, 1, none⟩ (.int .i64 0)).setCell ⟨w.heap.size + 1, 2, none⟩ (.bool false)).setCell ⟨w.heap.size + 1, 3, none⟩ (.bool false))) :=
    fun w1 h1 h2 => ⟨Lib.hid ((((h1.out.set 0 (.slice none 0 0)).set 1 (.int .i64 0)).set 2 (.bool false)).set 3 (.bool false)),
      Lib.hid (below_set (below_set (below_set (below_set h2.out (by omega) (.slice none 0 0)) (by omega) (.int .i64 0)) (by omega) (.bool false)) (by omega) (.bool false))⟩
  have HEND := Lib.hid hend
  clear hend
  go_enter Tryd.func20, Tryd.ntmps20
  go_wp2_with fail
  rw [HWB.out]
  clear HWB
  refine (implAre_any A A' n c n' c' xs ⟨rs, place, zero, st⟩ _ HP1.out hn HR1.out hn' HOP.out b HB.out).mono ?_
  rintro e w1 ⟨rfl, hb⟩
  replace HR := Lib.hid (Blk.kept hb HR.out)
  replace HW := Lib.hid (below_then HW.out hb)
  have r0 := HR.out.cell 0 _ rfl
  have r1 := HR.out.cell 1 _ rfl
  have r2 := HR.out.cell 2 _ rfl
  have r3 := HR.out.cell 3 _ rfl
  have fr0 := HR.out.free 0
  have fr1 := HR.out.free 1
  have fr2 := HR.out.free 2
  have fr3 := HR.out.free 3
  clear hb
  rcases hcase with rfl | hm | ⟨hm0, hm1⟩
  · go_wp2_with fail
    obtain ⟨HZ, HX⟩ := HEND.out w1 HR HW
    clear r0 r1 r2 r3 fr0 fr1 fr2 fr3
    revert HZ HX
    generalize ((((w1.setCell _ _).setCell _ _).setCell _ _).setCell _ _) = wz
    intro HZ HX
    exact implRun_ret rfl rfl rfl rfl (HZ.out.cell 0 _ rfl) (HZ.out.cell 1 _ rfl) (HZ.out.cell 2 _ rfl) (HZ.out.cell 3 _ rfl) ⟨none, 0, rfl, own_none _ _ _, HX.out⟩
  · have hbt : b = true ∨ b = false := by cases b <;> simp
    rcases hbt with rfl | rfl
    · go_wp2_with fail
      obtain ⟨HZ, HX⟩ := HEND.out w1 HR HW
      clear r0 r1 r2 r3 fr0 fr1 fr2 fr3
      revert HZ HX
      generalize ((((w1.setCell _ _).setCell _ _).setCell _ _).setCell _ _) = wz
      intro HZ HX
      exact implRun_ret rfl rfl rfl rfl (HZ.out.cell 0 _ rfl) (HZ.out.cell 1 _ rfl) (HZ.out.cell 2 _ rfl) (HZ.out.cell 3 _ rfl) ⟨none, 0, rfl, own_none _ _ _, HX.out⟩
    · go_wp2_with fail
      obtain ⟨HZ, HX⟩ := HEND.out w1 HR HW
      clear r0 r1 r2 r3 fr0 fr1 fr2 fr3
      revert HZ HX
      generalize ((((w1.setCell _ _).setCell _ _).setCell _ _).setCell _ _) = wz
      intro HZ HX
      exact implRun_ret rfl rfl rfl rfl (HZ.out.cell 0 _ rfl) (HZ.out.cell 1 _ rfl) (HZ.out.cell 2 _ rfl) (HZ.out.cell 3 _ rfl) ⟨none, 0, rfl, own_none _ _ _, HX.out⟩
  · have hbt : b = true ∨ b = false := by cases b <;> simp
    rcases hbt with rfl | rfl
    · go_wp2_with fail
      obtain ⟨HZ, HX⟩ := HEND.out w1 HR HW
      clear r0 r1 r2 r3 fr0 fr1 fr2 fr3
      revert HZ HX
      generalize ((((w1.setCell _ _).setCell _ _).setCell _ _).setCell _ _) = wz
      intro HZ HX
      exact implRun_ret rfl rfl rfl rfl (HZ.out.cell 0 _ rfl) (HZ.out.cell 1 _ rfl) (HZ.out.cell 2 _ rfl) (HZ.out.cell 3 _ rfl) ⟨none, 0, rfl, own_none _ _ _, HX.out⟩
    · go_wp2_with fail
      obtain ⟨HZ, HX⟩ := HEND.out w1 HR HW
      clear r0 r1 r2 r3 fr0 fr1 fr2 fr3
      revert HZ HX
      generalize ((((w1.setCell _ _).setCell _ _).setCell _ _).setCell _ _) = wz
      intro HZ HX
      exact implRun_ret rfl rfl rfl rfl (HZ.out.cell 0 _ rfl) (HZ.out.cell 1 _ rfl) (HZ.out.cell 2 _ rfl) (HZ.out.cell 3 _ rfl) ⟨none, 0, rfl, own_none _ _ _, HX.out⟩
set_option maxRecDepth 100000 in
set_option maxHeartbeats 1600000 in
theorem implRun_yes (A A' : Option Addr) (n c n' c' : Nat) (xs : List Ins) (g : Regs) (most : Int) (N : Nat) (w : World) (hr : Reads w w.heap.size 4 A n (FL xs)) (hn : n ≤ 1048576) (hr' : Reads w w.heap.size 1 A' n' (I g.r)) (hn' : n' ≤ 1048576) (ho : OpsIs w)
    (hg : OkG xs g) (hm0 : 0 ≤ most) (hm1 : most ≤ 1000) (hN : Fin xs g most.toNat N) :
    Calls Tryd.prog 20 #[.slice A n c, .agg #[.slice A' n' c', .int .i64 g.place, .bool g.zero, .bool g.stopped], .int .i64 most] w fun e w' => ∃ A0 c0, e = .returned (.tuple #[.agg #[.slice A0 4 c0, .int .i64 (itOf xs g N).place, .bool (itOf xs g N).zero, .bool (itOf xs g N).stopped], .int .i64 N, .bool true]) ∧
      w'.ownsRow w.heap.size 3 1 (.slice A0 4 c0) 4 (I (itOf xs g N).r) ∧ Below w.heap.size w w' := by
  obtain ⟨rs, place, zero, st⟩ := g
  simp only at hr' ⊢
  have h4 : n' = 4 := by
    have h1 := hg.2.1
    have h2 := hr'.len
    rw [I_len] at h2
    simp only at h1
    omega
  subst h4
  obtain ⟨b2, o2, rfl, hb2, _⟩ := hr'.2 (by omega)
  obtain ⟨wb, hwb⟩ : ∃ wb, (w.alloc (.cells #[.slice (some ⟨b2, o2, none⟩) 4 c', .int .i64 place, .bool zero, .bool st] 40)).alloc (.cells #[.slice none 0 0, .int .i64 0, .bool false, .bool false] 40) = wb := ⟨_, rfl⟩
  have hb0 : Below w.heap.size w wb := by rw [← hwb]; exact below_more (below_more (Below.refl w.heap.size w) _) _
  have hG : Blk wb w.heap.size 40 #[.slice (some ⟨b2, o2, none⟩) 4 c', .int .i64 place, .bool zero, .bool st] := by rw [← hwb]; exact Blk.alloc (Blk.new _ _ _) _
  have hR : Blk wb (w.heap.size + 1) 40 #[.slice none 0 0, .int .i64 0, .bool false, .bool false] := by
    rw [← hwb]
    have h := Blk.new (w.alloc (.cells #[.slice (some ⟨b2, o2, none⟩) 4 c', .int .i64 place, .bool zero, .bool st] 40)) #[.slice none 0 0, .int .i64 0, .bool false, .bool false] 40
    rwa [size1] at h
  have hsz : wb.heap.size = w.heap.size + 1 + 1 := by rw [← hwb, size1, size1]
  have HR1 := Lib.hid ((hr'.below hb0).more hb0.size)
  have HP0 := Lib.hid hr
  have HP1 := Lib.hid ((hr.below hb0).more hb0.size)
  have HG := Lib.hid hG
  have HR := Lib.hid hR
  have HW := Lib.hid hb0
  have HWB := Lib.hid hwb
  have HSZ := Lib.hid hsz
  have HOP := Lib.hid (ops_below hb0 ho)
  have HGD := Lib.hid hg
  have HN := Lib.hid hN
  obtain ⟨m, rfl⟩ := Int.eq_ofNat_of_zero_le hm0
  clear hr hr' hb0 hG hR hwb hsz ho hg hN hm0
  go_enter Tryd.func20, Tryd.ntmps20
  go_wp2_with fail
  rw [HWB.out]
  clear HWB
  refine (implAre_any A (some ⟨b2, o2, none⟩) n c 4 c' xs ⟨rs, place, zero, st⟩ _ HP1.out hn HR1.out (by omega) HOP.out true (decide_eq_true HGD.out)).mono ?_
  rintro e w1 ⟨rfl, hb⟩
  replace HG := Lib.hid (Blk.kept hb HG.out)
  replace HR := Lib.hid (Blk.kept hb HR.out)
  replace HR1 := Lib.hid ((HR1.out.below hb).more hb.size)
  have hs1 := hb.size
  replace HW := Lib.hid (below_then HW.out hb)
  clear hb HP1 HOP
  have k0 := HG.out.cell 0 _ rfl
  go_wp2_with fail
  refine (clone_some b2 o2 4 c' _ rs _ HR1.out (by omega) (by omega)).mono ?_
  rintro e w2 ⟨gg, cc, rfl, hown, hb⟩
  replace HG := Lib.hid (Blk.kept hb HG.out)
  replace HR := Lib.hid (Blk.kept hb HR.out)
  have hgg : w.heap.size + 2 ≤ gg := by
    have h1 := (hown.lt gg rfl).1
    have h2 := HSZ.out
    omega
  have HO := Lib.hid (own_mono hown (b' := w.heap.size) HW.out.size)
  replace HW := Lib.hid (below_then HW.out hb)
  clear hb hown k0 HR1 hs1
  have k0 := HG.out.cell 0 _ rfl
  have f0 := HG.out.free 0
  have hnG : (Value.slice (some ⟨gg, 0, none⟩) 4 cc).ownBlock ≠ some w.heap.size := by
    intro e
    injection e with e
    simp only at e
    omega
  have hst : AtRun w (w2.setCell ⟨w.heap.size, 0, none⟩ (.slice (some ⟨gg, 0, none⟩) 4 cc)) w.heap.size ⟨rs, place, zero, st⟩ gg cc :=
    ⟨Blk.set HG.out 0 (.slice (some ⟨gg, 0, none⟩) 4 cc), Blk.other HR.out (.slice (some ⟨gg, 0, none⟩) 4 cc) (g' := w.heap.size) (j := 0) (by omega), own_set HO.out (.slice (some ⟨gg, 0, none⟩) 4 cc) (g := w.heap.size) (j := 0) hnG, below_set HW.out (g := w.heap.size) (j := 0) (by omega) (.slice (some ⟨gg, 0, none⟩) 4 cc), by omega⟩
  have HST := Lib.hid hst
  clear hst HG HR HO HW
  go_wp2
  go_loopw [9] (fun s wr => ∃ (k gg cc : Nat), s = .int .i64 k ∧ k ≤ N ∧ AtRun w wr w.heap.size (itOf xs ⟨rs, place, zero, st⟩ k) gg cc) (fun s _ => N - (intOf s).toNat)
  case atStart => exact ⟨0, gg, cc, rfl, Nat.zero_le _, HST.out⟩
  case round =>
    clear HST k0 f0 hnG hgg
    obtain ⟨k, ga, ca, rfl, hk, HA⟩ := hrel
    obtain ⟨gk, hgk⟩ : ∃ gk, itOf xs ⟨rs, place, zero, st⟩ k = gk := ⟨_, rfl⟩
    have hok : OkG xs gk := by rw [← hgk]; exact it_ok HGD.out k
    have HOK := Lib.hid hok
    rw [hgk] at HA
    have HGK := Lib.hid hgk
    have HA2 := Lib.hid HA
    have hln := HN.out.1
    rw [Int.toNat_natCast] at hln
    have hl4 := hok.2.1
    clear hgk HA hok
    obtain ⟨l, p, z, s⟩ := gk
    have k0 := HA2.out.out.cell 0 _ rfl
    have k1 := HA2.out.out.cell 1 _ rfl
    have k2 := HA2.out.out.cell 2 _ rfl
    have k3 := HA2.out.out.cell 3 _ rfl
    have f0 := HA2.out.out.free 0
    have f1 := HA2.out.out.free 1
    have f2 := HA2.out.out.free 2
    have f3 := HA2.out.out.free 3
    by_cases hlt : k < N
    · have hs : s = false := by
        have h := HN.out.2.1 k hlt
        rw [HGK.out] at h
        exact h
      subst hs
      have hkm : (k : Int) < (m : Int) := by omega
      go_wp2_with fail
      refine (afterStep_any A (some ⟨ga, 0, none⟩) n c ca xs l p z _ ((HP0.out.below HA2.out.below).more HA2.out.below.size) hn (own_reads HA2.out.own) HOK.out).mono ?_
      rintro e w3 ⟨g3, c3, rfl, hown, hb⟩
      have hGx := Blk.kept hb HA2.out.out
      have hRx := Blk.kept hb HA2.out.res
      have hOx := own_mono hown (b' := w.heap.size) HA2.out.below.size
      have hWx := below_then HA2.out.below hb
      have hord := HA2.out.ord
      have hrl := HA2.out.res.lt
      have hg3 := (hown.lt g3 rfl).1
      clear hown hb k0 k1 k2 k3 f0 f1 f2 f3
      have HGx := Lib.hid hGx
      have HRx := Lib.hid hRx
      have HOx := Lib.hid hOx
      have HWx := Lib.hid hWx
      clear hGx hRx hOx hWx
      have k0 := HGx.out.cell 0 _ rfl
      have k1 := HGx.out.cell 1 _ rfl
      have k2 := HGx.out.cell 2 _ rfl
      have k3 := HGx.out.cell 3 _ rfl
      have f0 := HGx.out.free 0
      have f1 := HGx.out.free 1
      have f2 := HGx.out.free 2
      have f3 := HGx.out.free 3
      obtain ⟨⟨l2, p2, z2, s2⟩, hsg⟩ : ∃ g2, stepOf xs ⟨l, p, z, false⟩ = g2 := ⟨_, rfl⟩
      rw [hsg] at HOx ⊢
      have hit : itOf xs ⟨rs, place, zero, st⟩ (k + 1) = ⟨l2, p2, z2, s2⟩ := by
        show stepOf xs (itOf xs ⟨rs, place, zero, st⟩ k) = _
        rw [HGK.out, hsg]
      have HIT := Lib.hid hit
      have hnG : (Value.slice (some ⟨g3, 0, none⟩) 4 c3).ownBlock ≠ some w.heap.size := by
        intro e
        injection e with e
        simp only at e
        omega
      clear hsg hit
      go_wp2_with fail
      have hfin : AtRun w ((((w3.setCell ⟨w.heap.size, 0, none⟩ (.slice (some ⟨g3, 0, none⟩) 4 c3)).setCell ⟨w.heap.size, 1, none⟩ (.int .i64 p2)).setCell ⟨w.heap.size, 2, none⟩ (.bool z2)).setCell ⟨w.heap.size, 3, none⟩ (.bool s2)) w.heap.size ⟨l2, p2, z2, s2⟩ g3 c3 :=
        ⟨Blk.set (Blk.set (Blk.set (Blk.set HGx.out 0 (.slice (some ⟨g3, 0, none⟩) 4 c3)) 1 (.int .i64 p2)) 2 (.bool z2)) 3 (.bool s2),
         Blk.other (Blk.other (Blk.other (Blk.other HRx.out (.slice (some ⟨g3, 0, none⟩) 4 c3) (g' := w.heap.size) (j := 0) (by omega)) (.int .i64 p2) (g' := w.heap.size) (j := 1) (by omega)) (.bool z2) (g' := w.heap.size) (j := 2) (by omega)) (.bool s2) (g' := w.heap.size) (j := 3) (by omega),
         own_set (own_set (own_set (own_set HOx.out (.slice (some ⟨g3, 0, none⟩) 4 c3) (g := w.heap.size) (j := 0) hnG) (.int .i64 p2) (g := w.heap.size) (j := 1) hnG) (.bool z2) (g := w.heap.size) (j := 2) hnG) (.bool s2) (g := w.heap.size) (j := 3) hnG,
         below_set (below_set (below_set (below_set HWx.out (g := w.heap.size) (j := 0) (by omega) (.slice (some ⟨g3, 0, none⟩) 4 c3)) (g := w.heap.size) (j := 1) (by omega) (.int .i64 p2)) (g := w.heap.size) (j := 2) (by omega) (.bool z2)) (g := w.heap.size) (j := 3) (by omega) (.bool s2), by omega⟩
      go_roundw
      case rel => exact ⟨k + 1, g3, c3, by go_num, by omega, by rw [HIT.out]; exact hfin⟩
      case measure => simp [intOf]; omega
    · have hkn : k = N := by omega
      subst hkn
      have hend : ¬ (k : Int) < (m : Int) ∨ s = true := by
        rcases HN.out.2.2 with h | h
        · left; rw [Int.toNat_natCast] at h; omega
        · right; rw [HGK.out] at h; exact h
      have r0 := HA2.out.res.cell 0 _ rfl
      have r1 := HA2.out.res.cell 1 _ rfl
      have r2 := HA2.out.res.cell 2 _ rfl
      have r3 := HA2.out.res.cell 3 _ rfl
      have fr0 := HA2.out.res.free 0
      have fr1 := HA2.out.res.free 1
      have fr2 := HA2.out.res.free 2
      have fr3 := HA2.out.res.free 3
      have hord := HA2.out.ord
      have hnR : (Value.slice (some ⟨ga, 0, none⟩) 4 ca).ownBlock ≠ some (w.heap.size + 1) := by
        intro e
        injection e with e
        simp only at e
        omega
      have hend2 : Hid (Blk ((((wr.setCell ⟨w.heap.size + 1, 0, none⟩ (.slice (some ⟨ga, 0, none⟩) 4 ca)).setCell ⟨w.heap.size + 1, 1, none⟩ (.int .i64 p)).setCell ⟨w.heap.size + 1, 2, none⟩ (.bool z)).setCell ⟨w.heap.size + 1, 3, none⟩ (.bool s)) (w.heap.size + 1) 40 #[.slice (some ⟨ga, 0, none⟩) 4 ca, .int .i64 p, .bool z, .bool s] ∧
          ((((wr.setCell ⟨w.heap.size + 1, 0, none⟩ (.slice (some ⟨ga, 0, none⟩) 4 ca)).setCell ⟨w.heap.size + 1, 1, none⟩ (.int .i64 p)).setCell ⟨w.heap.size + 1, 2, none⟩ (.bool z)).setCell ⟨w.heap.size + 1, 3, none⟩ (.bool s)).ownsRow w.heap.size 3 1 (.slice (some ⟨ga, 0, none⟩) 4 ca) 4 (I l) ∧
          Below w.heap.size w ((((wr.setCell ⟨w.heap.size + 1, 0, none⟩ (.slice (some ⟨ga, 0, none⟩) 4 ca)).setCell ⟨w.heap.size + 1, 1, none⟩ (.int .i64 p)).setCell ⟨w.heap.size + 1, 2, none⟩ (.bool z)).setCell ⟨w.heap.size + 1, 3, none⟩ (.bool s))) := Lib.hid
        ⟨Blk.set (Blk.set (Blk.set (Blk.set HA2.out.res 0 (.slice (some ⟨ga, 0, none⟩) 4 ca)) 1 (.int .i64 p)) 2 (.bool z)) 3 (.bool s),
         own_set (own_set (own_set (own_set HA2.out.own (.slice (some ⟨ga, 0, none⟩) 4 ca) (g := w.heap.size + 1) (j := 0) hnR) (.int .i64 p) (g := w.heap.size + 1) (j := 1) hnR) (.bool z) (g := w.heap.size + 1) (j := 2) hnR) (.bool s) (g := w.heap.size + 1) (j := 3) hnR,
         below_set (below_set (below_set (below_set HA2.out.below (g := w.heap.size + 1) (j := 0) (by omega) (.slice (some ⟨ga, 0, none⟩) 4 ca)) (g := w.heap.size + 1) (j := 1) (by omega) (.int .i64 p)) (g := w.heap.size + 1) (j := 2) (by omega) (.bool z)) (g := w.heap.size + 1) (j := 3) (by omega) (.bool s)⟩
      rcases hend with h | rfl
      · go_wp2_with fail
        clear k0 k1 k2 k3 f0 f1 f2 f3 r0 r1 r2 r3 fr0 fr1 fr2 fr3
        revert hend2
        generalize ((((wr.setCell _ _).setCell _ _).setCell _ _).setCell _ _) = wz
        intro HZ
        exact implRun_ret rfl rfl rfl rfl (HZ.out.1.cell 0 _ rfl) (HZ.out.1.cell 1 _ rfl) (HZ.out.1.cell 2 _ rfl) (HZ.out.1.cell 3 _ rfl) ⟨some ⟨ga, 0, none⟩, ca, by rw [HGK.out]; rfl, by rw [HGK.out]; exact HZ.out.2.1, HZ.out.2.2⟩
      · go_wp2_with fail
        all_goals
          clear k0 k1 k2 k3 f0 f1 f2 f3 r0 r1 r2 r3 fr0 fr1 fr2 fr3
          revert hend2
          generalize ((((wr.setCell _ _).setCell _ _).setCell _ _).setCell _ _) = wz
          intro HZ
          exact implRun_ret rfl rfl rfl rfl (HZ.out.1.cell 0 _ rfl) (HZ.out.1.cell 1 _ rfl) (HZ.out.1.cell 2 _ rfl) (HZ.out.1.cell 3 _ rfl) ⟨some ⟨ga, 0, none⟩, ca, by rw [HGK.out]; rfl, by rw [HGK.out]; exact HZ.out.2.1, HZ.out.2.2⟩
theorem implRun_any (A A' : Option Addr) (n c n' c' : Nat) (xs : List Ins) (g : Regs) (most : Int) (w : World) (hr : Reads w w.heap.size 4 A n (FL xs)) (hn : n ≤ 1048576) (hr' : Reads w w.heap.size 1 A' n' (I g.r)) (hn' : n' ≤ 1048576) (ho : OpsIs w)
    (res : Regs) (cnt : Int) (ok : Bool) (h : RunIs xs g most res cnt ok) :
    Calls Tryd.prog 20 #[.slice A n c, .agg #[.slice A' n' c', .int .i64 g.place, .bool g.zero, .bool g.stopped], .int .i64 most] w fun e w' => ∃ A0 c0, e = .returned (.tuple #[.agg #[.slice A0 res.r.length c0, .int .i64 res.place, .bool res.zero, .bool res.stopped], .int .i64 cnt, .bool ok]) ∧
      w'.ownsRow w.heap.size 3 1 (.slice A0 res.r.length c0) res.r.length (I res.r) ∧ Below w.heap.size w w' := by
  rcases h with ⟨h1, rfl, rfl, rfl⟩ | ⟨h1, h2, h3, N, h4, rfl, rfl, rfl⟩
  · exact implRun_no A A' n c n' c' xs g most w hr hn hr' hn' ho h1
  · rw [(it_ok h1 N).2.1]
    exact implRun_yes A A' n c n' c' xs g most N w hr hn hr' hn' ho h1 h2 h3 h4
end Go.Proofs.YtfdbnolifimnhabDoor.L3
