/- What spec.RunGuest answers. -/
import Derived.Test.YtfdbnolifimnhabDoorRunGI
import Derived.Deep.RegionHeld3
import Derived.Deep.Cut
import Derived.Deep.CutRange
namespace Go.Proofs.YtfdbnolifimnhabDoor.L3
open Go Go.RowKit Go.Proofs.YtfdbnolifimnhabDoor.Mem Go.Proofs.YtfdbnolifimnhabDoor.Own Go.Proofs.YtfdbnolifimnhabDoor.L1 Go.Proofs.YtfdbnolifimnhabDoor.Bit
theorem specRun_ret {Q : Ending → World → Prop} {a : Act} {w' : World} {g : Nat} {v0 v1 v2 v3 v4 v5 : Value} (hd : a.defers = []) (hp : a.tmps[6]?.getD undef = .pointer (some ⟨g, 0, none⟩)) (h7 : a.tmps[7]?.getD undef = v4) (h8 : a.tmps[8]?.getD undef = v5)
    (z0 : w'.cell? ⟨g, 0, none⟩ = some v0) (z1 : w'.cell? ⟨g, 1, none⟩ = some v1) (z2 : w'.cell? ⟨g, 2, none⟩ = some v2) (z3 : w'.cell? ⟨g, 3, none⟩ = some v3) (hQ : Q (.returned (.tuple #[.agg #[v0, v1, v2, v3], v4, v5])) w') :
    bodyPost Tryd.prog Tryd.f21 Q .ret a w' := by
  refine bodyPost_ret (v := .tuple #[.agg #[v0, v1, v2, v3], v4, v5]) ?_ hd hQ
  simp [results, Tryd.results21, go_sem, hp, h7, h8, z0, z1, z2, z3]
set_option maxRecDepth 100000 in
set_option maxHeartbeats 1600000 in
theorem specRun_no (A A' : Option Addr) (n c n' c' : Nat) (xs : List Ins) (g : Regs) (most : Int) (w : World) (hr : Reads w w.heap.size 4 A n (FL xs)) (hn : n ≤ 1048576) (hr' : Reads w w.heap.size 1 A' n' (I g.r)) (hn' : n' ≤ 1048576)
    (hv : ¬ (OkG xs g ∧ 0 ≤ most ∧ most ≤ 1000)) :
    Calls Tryd.prog 21 #[.slice A n c, .agg #[.slice A' n' c', .int .i64 g.place, .bool g.zero, .bool g.stopped], .int .i64 most] w fun e w' => ∃ A0 c0, e = .returned (.tuple #[.agg #[.slice A0 0 c0, .int .i64 0, .bool false, .bool false], .int .i64 0, .bool false]) ∧
      w'.ownsRow w.heap.size 3 1 (.slice A0 0 c0) 0 (I []) ∧ Below w.heap.size w w' := by
  obtain ⟨rs, place, zero, st⟩ := g
  simp only at hr' ⊢
  obtain ⟨wb, hwb⟩ : ∃ wb, (w.alloc (.cells #[.slice A' n' c', .int .i64 place, .bool zero, .bool st] 40)).alloc (.cells #[.slice none 0 0, .int .i64 0, .bool false, .bool false] 40) = wb := ⟨_, rfl⟩
  have hb0 : Below w.heap.size w wb := by rw [← hwb]; exact below_more (below_more (Below.refl w.heap.size w) _) _
  have hR : Blk wb (w.heap.size + 1) 40 #[.slice none 0 0, .int .i64 0, .bool false, .bool false] := by
    rw [← hwb]
    have h := Blk.new (w.alloc (.cells #[.slice A' n' c', .int .i64 place, .bool zero, .bool st] 40)) #[.slice none 0 0, .int .i64 0, .bool false, .bool false] 40
    rwa [size1] at h
  have HR1 := Lib.hid ((hr'.below hb0).more hb0.size)
  have HP1 := Lib.hid ((hr.below hb0).more hb0.size)
  have HR := Lib.hid hR
  have HW := Lib.hid hb0
  have HWB := Lib.hid hwb
  have HV := Lib.hid hv
  obtain ⟨b, hb⟩ : ∃ b, decide (OkG xs ⟨rs, place, zero, st⟩) = b := ⟨_, rfl⟩
  have HB := Lib.hid hb
  clear hr hr' hb0 hR hwb hb hv
  have hcase : b = false ∨ most < 0 ∨ (0 ≤ most ∧ 1000 < most) := by
    cases b
    · exact .inl rfl
    · have h1 := of_decide_eq_true HB.out
      have h2 := HV.out
      by_cases h3 : 0 ≤ most
      · by_cases h4 : most ≤ 1000
        · exact absurd ⟨h1, h3, h4⟩ h2
        · exact .inr (.inr ⟨h3, by omega⟩)
      · exact .inr (.inl (by omega))
  have hend : ∀ w1, Hid (Blk w1 (w.heap.size + 1) 40 #[.slice none 0 0, .int .i64 0, .bool false, .bool false]) → Hid (Below w.heap.size w w1) →
      Hid (Blk ((((w1.setCell ⟨w.heap.size + 1, 0, none⟩ (.slice none 0 0)).setCell ⟨w.heap.size + 1, 1, none⟩ (.int .i64 0)).setCell ⟨w.heap.size + 1, 2, none⟩ (.bool false)).setCell ⟨w.heap.size + 1, 3, none⟩ (.bool false)) (w.heap.size + 1) 40 #[.slice none 0 0, .int .i64 0, .bool false, .bool false]) ∧
      Hid (Below w.heap.size w ((((w1.setCell ⟨w.heap.size + 1, 0, none⟩ (.slice none 0 0)).setCell ⟨w.heap.size + 1, 1, none⟩ (.int .i64 0)).setCell ⟨w.heap.size + 1, 2, none⟩ (.bool false)).setCell ⟨w.heap.size + 1, 3, none⟩ (.bool false))) :=
    fun w1 h1 h2 => ⟨Lib.hid ((((h1.out.set 0 (.slice none 0 0)).set 1 (.int .i64 0)).set 2 (.bool false)).set 3 (.bool false)),
      Lib.hid (below_set (below_set (below_set (below_set h2.out (by omega) (.slice none 0 0)) (by omega) (.int .i64 0)) (by omega) (.bool false)) (by omega) (.bool false))⟩
  have HEND := Lib.hid hend
  clear hend
  go_enter Tryd.func21, Tryd.ntmps21
  go_wp2_with fail
  rw [HWB.out]
  clear HWB
  refine (l3Good_any A A' n c n' c' xs ⟨rs, place, zero, st⟩ _ HP1.out hn HR1.out hn' b HB.out).mono ?_
  rintro e w1 ⟨rfl, hb⟩
  replace HR := Lib.hid (Blk.kept hb HR.out)
  replace HW := Lib.hid (below_then HW.out hb)
  have r0 := HR.out.cell 0 _ rfl
  have r1 := HR.out.cell 1 _ rfl
  have r2 := HR.out.cell 2 _ rfl
  have r3 := HR.out.cell 3 _ rfl
  have fr0 := HR.out.free 0
  have fr1 := HR.out.free 1
  have fr2 := HR.out.free 2
  have fr3 := HR.out.free 3
  clear hb
  cases b with
  | false =>
      go_wp2_with fail
      obtain ⟨HZ, HX⟩ := HEND.out w1 HR HW
      clear r0 r1 r2 r3 fr0 fr1 fr2 fr3
      revert HZ HX
      generalize ((((w1.setCell _ _).setCell _ _).setCell _ _).setCell _ _) = wz
      intro HZ HX
      exact specRun_ret rfl rfl rfl rfl (HZ.out.cell 0 _ rfl) (HZ.out.cell 1 _ rfl) (HZ.out.cell 2 _ rfl) (HZ.out.cell 3 _ rfl) ⟨none, 0, rfl, own_none _ _ _, HX.out⟩
  | true =>
      have hm : most < 0 ∨ 1000 < most := by
        rcases hcase with h | h | h
        · cases h
        · exact .inl h
        · exact .inr h.2
      go_wp2_with fail
      refine (l1In_no most 0 1000 hm _).mono ?_
      rintro e w2 ⟨rfl, hw⟩
      subst hw
      go_wp2_with fail
      obtain ⟨HZ, HX⟩ := HEND.out w1 HR HW
      clear r0 r1 r2 r3 fr0 fr1 fr2 fr3
      revert HZ HX
      generalize ((((w1.setCell _ _).setCell _ _).setCell _ _).setCell _ _) = wz
      intro HZ HX
      exact specRun_ret rfl rfl rfl rfl (HZ.out.cell 0 _ rfl) (HZ.out.cell 1 _ rfl) (HZ.out.cell 2 _ rfl) (HZ.out.cell 3 _ rfl) ⟨none, 0, rfl, own_none _ _ _, HX.out⟩
set_option maxRecDepth 100000 in
set_option maxHeartbeats 1600000 in
theorem specRun_yes (A A' : Option Addr) (n c n' c' : Nat) (xs : List Ins) (g : Regs) (most : Int) (N : Nat) (w : World) (hr : Reads w w.heap.size 4 A n (FL xs)) (hn : n ≤ 1048576) (hr' : Reads w w.heap.size 1 A' n' (I g.r)) (hn' : n' ≤ 1048576)
    (hg : OkG xs g) (hm0 : 0 ≤ most) (hm1 : most ≤ 1000) (hN : Fin xs g most.toNat N) :
    Calls Tryd.prog 21 #[.slice A n c, .agg #[.slice A' n' c', .int .i64 g.place, .bool g.zero, .bool g.stopped], .int .i64 most] w fun e w' => ∃ A0 c0, e = .returned (.tuple #[.agg #[.slice A0 4 c0, .int .i64 (itOf xs g N).place, .bool (itOf xs g N).zero, .bool (itOf xs g N).stopped], .int .i64 N, .bool true]) ∧
      w'.ownsRow w.heap.size 3 1 (.slice A0 4 c0) 4 (I (itOf xs g N).r) ∧ Below w.heap.size w w' := by
  obtain ⟨rs, place, zero, st⟩ := g
  simp only at hr' ⊢
  have h4 : n' = 4 := by
    have h1 := hg.2.1
    have h2 := hr'.len
    rw [I_len] at h2
    simp only at h1
    omega
  subst h4
  obtain ⟨b2, o2, rfl, hb2, _⟩ := hr'.2 (by omega)
  obtain ⟨wb, hwb⟩ : ∃ wb, (w.alloc (.cells #[.slice (some ⟨b2, o2, none⟩) 4 c', .int .i64 place, .bool zero, .bool st] 40)).alloc (.cells #[.slice none 0 0, .int .i64 0, .bool false, .bool false] 40) = wb := ⟨_, rfl⟩
  have hb0 : Below w.heap.size w wb := by rw [← hwb]; exact below_more (below_more (Below.refl w.heap.size w) _) _
  have hG : Blk wb w.heap.size 40 #[.slice (some ⟨b2, o2, none⟩) 4 c', .int .i64 place, .bool zero, .bool st] := by rw [← hwb]; exact Blk.alloc (Blk.new _ _ _) _
  have hR : Blk wb (w.heap.size + 1) 40 #[.slice none 0 0, .int .i64 0, .bool false, .bool false] := by
    rw [← hwb]
    have h := Blk.new (w.alloc (.cells #[.slice (some ⟨b2, o2, none⟩) 4 c', .int .i64 place, .bool zero, .bool st] 40)) #[.slice none 0 0, .int .i64 0, .bool false, .bool false] 40
    rwa [size1] at h
  have hsz : wb.heap.size = w.heap.size + 1 + 1 := by rw [← hwb, size1, size1]
  have HR1 := Lib.hid ((hr'.below hb0).more hb0.size)
  have HP0 := Lib.hid hr
  have HP1 := Lib.hid ((hr.below hb0).more hb0.size)
  have HG := Lib.hid hG
  have HR := Lib.hid hR
  have HW := Lib.hid hb0
  have HWB := Lib.hid hwb
  have HSZ := Lib.hid hsz
  have HGD := Lib.hid hg
  have HN := Lib.hid hN
  obtain ⟨m, rfl⟩ := Int.eq_ofNat_of_zero_le hm0
  clear hr hr' hb0 hG hR hwb hsz hg hN
  go_enter Tryd.func21, Tryd.ntmps21
  go_wp2_with fail
  rw [HWB.out]
  clear HWB
  refine (l3Good_any A (some ⟨b2, o2, none⟩) n c 4 c' xs ⟨rs, place, zero, st⟩ _ HP1.out hn HR1.out (by omega) true (decide_eq_true HGD.out)).mono ?_
  rintro e wa ⟨rfl, hb⟩
  have HG := Lib.hid (Blk.kept hb HG.out)
  have HR := Lib.hid (Blk.kept hb HR.out)
  have HR1 := Lib.hid ((HR1.out.below hb).more hb.size)
  have HSZA : Hid (w.heap.size + 2 ≤ wa.heap.size) := Lib.hid (by have h1 := HSZ.out; have h2 := hb.size; omega)
  have HW := Lib.hid (below_then HW.out hb)
  clear hb HP1
  go_wp2_with fail
  refine (l1In_yes m 0 1000 (by omega) hm1 _).mono ?_
  rintro e w2 ⟨rfl, hw⟩
  subst hw
  have k0 : wa.cell? ⟨w.heap.size, 0, none⟩ = some (.slice (some ⟨b2, o2, none⟩) 4 c') := HG.out.cell 0 _ rfl
  have k1 : wa.cell? ⟨w.heap.size, 1, none⟩ = some (.int .i64 place) := HG.out.cell 1 _ rfl
  have k2 : wa.cell? ⟨w.heap.size, 2, none⟩ = some (.bool zero) := HG.out.cell 2 _ rfl
  have k3 : wa.cell? ⟨w.heap.size, 3, none⟩ = some (.bool st) := HG.out.cell 3 _ rfl
  go_upto_region 3 with fail
  go_cut [9] from 21 to 30 (fun p wx => ∃ go gg cc, p = .pointer (some ⟨go, 0, none⟩) ∧ Hid (AtRun w wx go ⟨rs, place, zero, st⟩ gg cc))
  case first =>
    have e0 : wa.drew.cell? ⟨w.heap.size, 0, none⟩ = some (.slice (some ⟨b2, o2, none⟩) 4 c') := HG.out.cell 0 _ rfl
    have e1 : wa.drew.cell? ⟨w.heap.size, 1, none⟩ = some (.int .i64 place) := HG.out.cell 1 _ rfl
    have e2 : wa.drew.cell? ⟨w.heap.size, 2, none⟩ = some (.bool zero) := HG.out.cell 2 _ rfl
    have e3 : wa.drew.cell? ⟨w.heap.size, 3, none⟩ = some (.bool st) := HG.out.cell 3 _ rfl
    have a0 : (wa.alloc (.cells #[.slice none 0 0, .int .i64 0, .bool false, .bool false] 40)).drew.cell? ⟨w.heap.size, 0, none⟩ = some (.slice (some ⟨b2, o2, none⟩) 4 c') := (Blk.alloc HG.out (.cells #[.slice none 0 0, .int .i64 0, .bool false, .bool false] 40)).cell 0 _ rfl
    have a1 : (wa.alloc (.cells #[.slice none 0 0, .int .i64 0, .bool false, .bool false] 40)).drew.cell? ⟨w.heap.size, 1, none⟩ = some (.int .i64 place) := (Blk.alloc HG.out (.cells #[.slice none 0 0, .int .i64 0, .bool false, .bool false] 40)).cell 1 _ rfl
    have a2 : (wa.alloc (.cells #[.slice none 0 0, .int .i64 0, .bool false, .bool false] 40)).drew.cell? ⟨w.heap.size, 2, none⟩ = some (.bool zero) := (Blk.alloc HG.out (.cells #[.slice none 0 0, .int .i64 0, .bool false, .bool false] 40)).cell 2 _ rfl
    have a3 : (wa.alloc (.cells #[.slice none 0 0, .int .i64 0, .bool false, .bool false] 40)).drew.cell? ⟨w.heap.size, 3, none⟩ = some (.bool st) := (Blk.alloc HG.out (.cells #[.slice none 0 0, .int .i64 0, .bool false, .bool false] 40)).cell 3 _ rfl
    go_region_held3 (fun w' => w'.cell? ⟨w.heap.size, 0, none⟩ = some (.slice (some ⟨b2, o2, none⟩) 4 c') ∧ w'.cell? ⟨w.heap.size, 1, none⟩ = some (.int .i64 place) ∧ w'.cell? ⟨w.heap.size, 2, none⟩ = some (.bool zero) ∧ w'.cell? ⟨w.heap.size, 3, none⟩ = some (.bool st)) (first | (with_reducible exact ⟨e0, e1, e2, e3⟩) | (with_reducible exact ⟨k0, k1, k2, k3⟩) | (with_reducible exact ⟨a0, a1, a2, a3⟩) | (with_reducible exact ⟨m0, m1, m2, m3⟩) | (with_reducible exact ⟨s0, s1, s2, s3⟩) | fail)
      (first
        | (go_at_call 58; (with_reducible refine (l1Own_some b2 o2 4 c' _ rs wa.drew HR1.out.drew (by omega) (by omega)).mono ?_); rintro e w1 ⟨gg, cc, rfl, hown, hb⟩; replace hb : Below wa.heap.size wa w1 := (below_dr wa).trans hb; have HG2 := Lib.hid (Blk.kept hb HG.out); have HR2 := Lib.hid (Blk.kept hb HR.out); have hgg : wa.heap.size ≤ gg := (hown.lt gg rfl).1; have hgl : gg < w1.heap.size := (hown.lt gg rfl).2; have HO := Lib.hid (own_mono hown (b' := w.heap.size) (HW.out).size); have hs := hb.size; have HW2 := Lib.hid (below_then HW.out hb); clear hown hb k0 k1 k2 k3; have k0 : w1.cell? ⟨w.heap.size, 0, none⟩ = some (.slice (some ⟨b2, o2, none⟩) 4 c') := HG2.out.cell 0 _ rfl; have k1 : w1.cell? ⟨w.heap.size, 1, none⟩ = some (.int .i64 place) := HG2.out.cell 1 _ rfl; have k2 : w1.cell? ⟨w.heap.size, 2, none⟩ = some (.bool zero) := HG2.out.cell 2 _ rfl; have k3 : w1.cell? ⟨w.heap.size, 3, none⟩ = some (.bool st) := HG2.out.cell 3 _ rfl; have m0 : (w1.alloc (.cells #[.slice none 0 0, .int .i64 0, .bool false, .bool false] 40)).cell? ⟨w.heap.size, 0, none⟩ = some (.slice (some ⟨b2, o2, none⟩) 4 c') := (Blk.alloc HG2.out (.cells #[.slice none 0 0, .int .i64 0, .bool false, .bool false] 40)).cell 0 _ rfl; have m1 : (w1.alloc (.cells #[.slice none 0 0, .int .i64 0, .bool false, .bool false] 40)).cell? ⟨w.heap.size, 1, none⟩ = some (.int .i64 place) := (Blk.alloc HG2.out (.cells #[.slice none 0 0, .int .i64 0, .bool false, .bool false] 40)).cell 1 _ rfl; have m2 : (w1.alloc (.cells #[.slice none 0 0, .int .i64 0, .bool false, .bool false] 40)).cell? ⟨w.heap.size, 2, none⟩ = some (.bool zero) := (Blk.alloc HG2.out (.cells #[.slice none 0 0, .int .i64 0, .bool false, .bool false] 40)).cell 2 _ rfl; have m3 : (w1.alloc (.cells #[.slice none 0 0, .int .i64 0, .bool false, .bool false] 40)).cell? ⟨w.heap.size, 3, none⟩ = some (.bool st) := (Blk.alloc HG2.out (.cells #[.slice none 0 0, .int .i64 0, .bool false, .bool false] 40)).cell 3 _ rfl; have s0 : (w1.alloc (.cells #[.slice (some ⟨gg, 0, none⟩) 4 cc, .int .i64 place, .bool zero, .bool st] 40)).cell? ⟨w.heap.size, 0, none⟩ = some (.slice (some ⟨b2, o2, none⟩) 4 c') := (Blk.alloc HG2.out (.cells #[.slice (some ⟨gg, 0, none⟩) 4 cc, .int .i64 place, .bool zero, .bool st] 40)).cell 0 _ rfl; have s1 : (w1.alloc (.cells #[.slice (some ⟨gg, 0, none⟩) 4 cc, .int .i64 place, .bool zero, .bool st] 40)).cell? ⟨w.heap.size, 1, none⟩ = some (.int .i64 place) := (Blk.alloc HG2.out (.cells #[.slice (some ⟨gg, 0, none⟩) 4 cc, .int .i64 place, .bool zero, .bool st] 40)).cell 1 _ rfl; have s2 : (w1.alloc (.cells #[.slice (some ⟨gg, 0, none⟩) 4 cc, .int .i64 place, .bool zero, .bool st] 40)).cell? ⟨w.heap.size, 2, none⟩ = some (.bool zero) := (Blk.alloc HG2.out (.cells #[.slice (some ⟨gg, 0, none⟩) 4 cc, .int .i64 place, .bool zero, .bool st] 40)).cell 2 _ rfl; have s3 : (w1.alloc (.cells #[.slice (some ⟨gg, 0, none⟩) 4 cc, .int .i64 place, .bool zero, .bool st] 40)).cell? ⟨w.heap.size, 3, none⟩ = some (.bool st) := (Blk.alloc HG2.out (.cells #[.slice (some ⟨gg, 0, none⟩) 4 cc, .int .i64 place, .bool zero, .bool st] 40)).cell 3 _ rfl)
        | (go_at_call 58; have HGa := Blk.alloc HG.out (.cells #[.slice none 0 0, .int .i64 0, .bool false, .bool false] 40); have HRa := Blk.alloc HR.out (.cells #[.slice none 0 0, .int .i64 0, .bool false, .bool false] 40); have HOa := Blk.new wa #[.slice none 0 0, .int .i64 0, .bool false, .bool false] 40; have hra := HR1.out.alloc (Nat.le_refl _) (.cells #[.slice none 0 0, .int .i64 0, .bool false, .bool false] 40); have hba := below_more HW.out (.cells #[.slice none 0 0, .int .i64 0, .bool false, .bool false] 40); (with_reducible refine (l1Own_some b2 o2 4 c' _ rs (wa.alloc (.cells #[.slice none 0 0, .int .i64 0, .bool false, .bool false] 40)).drew hra.drew (by omega) (by omega)).mono ?_); rintro e w1 ⟨gg, cc, rfl, hown, hb⟩; replace hb : Below (wa.alloc (.cells #[.slice none 0 0, .int .i64 0, .bool false, .bool false] 40)).heap.size (wa.alloc (.cells #[.slice none 0 0, .int .i64 0, .bool false, .bool false] 40)) w1 := (below_dr (wa.alloc (.cells #[.slice none 0 0, .int .i64 0, .bool false, .bool false] 40))).trans hb; have HG2 := Lib.hid (Blk.kept hb HGa); have HR2 := Lib.hid (Blk.kept hb HRa); have HO2 := Lib.hid (Blk.kept hb HOa); have hgg : (wa.alloc (.cells #[.slice none 0 0, .int .i64 0, .bool false, .bool false] 40)).heap.size ≤ gg := (hown.lt gg rfl).1; have hgl : gg < w1.heap.size := (hown.lt gg rfl).2; have HO := Lib.hid (own_mono hown (b' := w.heap.size) (hba).size); have hs := hb.size; have HW2 := Lib.hid (below_then hba hb); clear hown hb k0 k1 k2 k3; have k0 : w1.cell? ⟨w.heap.size, 0, none⟩ = some (.slice (some ⟨b2, o2, none⟩) 4 c') := HG2.out.cell 0 _ rfl; have k1 : w1.cell? ⟨w.heap.size, 1, none⟩ = some (.int .i64 place) := HG2.out.cell 1 _ rfl; have k2 : w1.cell? ⟨w.heap.size, 2, none⟩ = some (.bool zero) := HG2.out.cell 2 _ rfl; have k3 : w1.cell? ⟨w.heap.size, 3, none⟩ = some (.bool st) := HG2.out.cell 3 _ rfl; have f0 := HO2.out.free 0; have f1 := HO2.out.free 1; have f2 := HO2.out.free 2; have f3 := HO2.out.free 3; have d0 := HO2.out.cell 0 _ rfl; have d1 := HO2.out.cell 1 _ rfl; have d2 := HO2.out.cell 2 _ rfl; have d3 := HO2.out.cell 3 _ rfl; have hne : ¬ (w.heap.size = wa.heap.size) := (by have := HSZA.out; omega); have HGs := Lib.hid (Blk.other (Blk.other (Blk.other (Blk.other HG2.out (.slice (some ⟨gg, 0, none⟩) 4 cc) (g' := wa.heap.size) (j := 0) hne) (.int .i64 place) (g' := wa.heap.size) (j := 1) hne) (.bool zero) (g' := wa.heap.size) (j := 2) hne) (.bool st) (g' := wa.heap.size) (j := 3) hne); have s0 : ((((w1.setCell ⟨wa.heap.size, 0, none⟩ (.slice (some ⟨gg, 0, none⟩) 4 cc)).setCell ⟨wa.heap.size, 1, none⟩ (.int .i64 place)).setCell ⟨wa.heap.size, 2, none⟩ (.bool zero)).setCell ⟨wa.heap.size, 3, none⟩ (.bool st)).cell? ⟨w.heap.size, 0, none⟩ = some (.slice (some ⟨b2, o2, none⟩) 4 c') := HGs.out.cell 0 _ rfl; have s1 : ((((w1.setCell ⟨wa.heap.size, 0, none⟩ (.slice (some ⟨gg, 0, none⟩) 4 cc)).setCell ⟨wa.heap.size, 1, none⟩ (.int .i64 place)).setCell ⟨wa.heap.size, 2, none⟩ (.bool zero)).setCell ⟨wa.heap.size, 3, none⟩ (.bool st)).cell? ⟨w.heap.size, 1, none⟩ = some (.int .i64 place) := HGs.out.cell 1 _ rfl; have s2 : ((((w1.setCell ⟨wa.heap.size, 0, none⟩ (.slice (some ⟨gg, 0, none⟩) 4 cc)).setCell ⟨wa.heap.size, 1, none⟩ (.int .i64 place)).setCell ⟨wa.heap.size, 2, none⟩ (.bool zero)).setCell ⟨wa.heap.size, 3, none⟩ (.bool st)).cell? ⟨w.heap.size, 2, none⟩ = some (.bool zero) := HGs.out.cell 2 _ rfl; have s3 : ((((w1.setCell ⟨wa.heap.size, 0, none⟩ (.slice (some ⟨gg, 0, none⟩) 4 cc)).setCell ⟨wa.heap.size, 1, none⟩ (.int .i64 place)).setCell ⟨wa.heap.size, 2, none⟩ (.bool zero)).setCell ⟨wa.heap.size, 3, none⟩ (.bool st)).cell? ⟨w.heap.size, 3, none⟩ = some (.bool st) := HGs.out.cell 3 _ rfl))
    all_goals (go_wp2_with fail; go_meet)
    all_goals have hsz := HSZA.out
    · case rel =>
      exact ⟨w1.heap.size, gg, cc, rfl, Lib.hid ⟨Blk.new _ _ _, Blk.alloc HR2.out _, own_more HO.out _, below_more HW2.out _, by omega⟩⟩
    · case rel =>
      rw [size1] at hgg
      have hnB : (Value.slice (some ⟨gg, 0, none⟩) 4 cc).ownBlock ≠ some wa.heap.size := by
        intro e
        injection e with e
        simp only at e
        omega
      exact ⟨wa.heap.size, gg, cc, rfl, Lib.hid ⟨(Blk.set (Blk.set (Blk.set (Blk.set HO2.out 0 (.slice (some ⟨gg, 0, none⟩) 4 cc)) 1 (.int .i64 place)) 2 (.bool zero)) 3 (.bool st)), (Blk.other (Blk.other (Blk.other (Blk.other HR2.out (.slice (some ⟨gg, 0, none⟩) 4 cc) (g' := wa.heap.size) (j := 0) (by omega)) (.int .i64 place) (g' := wa.heap.size) (j := 1) (by omega)) (.bool zero) (g' := wa.heap.size) (j := 2) (by omega)) (.bool st) (g' := wa.heap.size) (j := 3) (by omega)), (own_set (own_set (own_set (own_set HO.out (.slice (some ⟨gg, 0, none⟩) 4 cc) (g := wa.heap.size) (j := 0) hnB) (.int .i64 place) (g := wa.heap.size) (j := 1) hnB) (.bool zero) (g := wa.heap.size) (j := 2) hnB) (.bool st) (g := wa.heap.size) (j := 3) hnB), (below_set (below_set (below_set (below_set HW2.out (g := wa.heap.size) (j := 0) (by omega) (.slice (some ⟨gg, 0, none⟩) 4 cc)) (g := wa.heap.size) (j := 1) (by omega) (.int .i64 place)) (g := wa.heap.size) (j := 2) (by omega) (.bool zero)) (g := wa.heap.size) (j := 3) (by omega) (.bool st)), by omega⟩⟩
  case rest =>
    obtain ⟨go, gg, cc, rfl, HST⟩ := hcut
    clear k0 k1 k2 k3 HG HR HR1 HW
    have hgo := HST.out.ord
    go_wp2
    go_loopw [10] (fun s wr => ∃ (k gg cc : Nat), s = .int .i64 k ∧ k ≤ N ∧ AtRun w wr go (itOf xs ⟨rs, place, zero, st⟩ k) gg cc) (fun s _ => N - (intOf s).toNat)
    case atStart => exact ⟨0, gg, cc, rfl, Nat.zero_le _, HST.out⟩
    case round =>
      clear HST
      obtain ⟨k, ga, ca, rfl, hk, HA⟩ := hrel
      obtain ⟨gk, hgk⟩ : ∃ gk, itOf xs ⟨rs, place, zero, st⟩ k = gk := ⟨_, rfl⟩
      have hok : OkG xs gk := by rw [← hgk]; exact it_ok HGD.out k
      have HOK := Lib.hid hok
      rw [hgk] at HA
      have HGK := Lib.hid hgk
      have HA2 := Lib.hid HA
      have hln := HN.out.1
      rw [Int.toNat_natCast] at hln
      have hl4 := hok.2.1
      clear hgk HA hok
      obtain ⟨l, p, z, s⟩ := gk
      have k0 := HA2.out.out.cell 0 _ rfl
      have k1 := HA2.out.out.cell 1 _ rfl
      have k2 := HA2.out.out.cell 2 _ rfl
      have k3 := HA2.out.out.cell 3 _ rfl
      have f0 := HA2.out.out.free 0
      have f1 := HA2.out.out.free 1
      have f2 := HA2.out.out.free 2
      have f3 := HA2.out.out.free 3
      by_cases hlt : k < N
      · have hs : s = false := by
          have h := HN.out.2.1 k hlt
          rw [HGK.out] at h
          exact h
        subst hs
        have hkm : (k : Int) < (m : Int) := by omega
        go_wp2_with fail
        refine (l3Step_any A (some ⟨ga, 0, none⟩) n c ca xs l p z false _ ((HP0.out.below HA2.out.below).more HA2.out.below.size) hn (own_reads HA2.out.own) HOK.out).mono ?_
        rintro e w3 ⟨g3, c3, rfl, hown, hb⟩
        have hGx := Blk.kept hb HA2.out.out
        have hRx := Blk.kept hb HA2.out.res
        have hOx := own_mono hown (b' := w.heap.size) HA2.out.below.size
        have hWx := below_then HA2.out.below hb
        have hord := HA2.out.ord
        have hrl := HA2.out.res.lt
        have hol := HA2.out.out.lt
        have hg3 := (hown.lt g3 rfl).1
        clear hown hb k0 k1 k2 k3 f0 f1 f2 f3
        have HGx := Lib.hid hGx
        have HRx := Lib.hid hRx
        have HOx := Lib.hid hOx
        have HWx := Lib.hid hWx
        clear hGx hRx hOx hWx
        have k0 := HGx.out.cell 0 _ rfl
        have k1 := HGx.out.cell 1 _ rfl
        have k2 := HGx.out.cell 2 _ rfl
        have k3 := HGx.out.cell 3 _ rfl
        have f0 := HGx.out.free 0
        have f1 := HGx.out.free 1
        have f2 := HGx.out.free 2
        have f3 := HGx.out.free 3
        obtain ⟨⟨l2, p2, z2, s2⟩, hsg⟩ : ∃ g2, stepOf xs ⟨l, p, z, false⟩ = g2 := ⟨_, rfl⟩
        rw [hsg] at HOx ⊢
        have hit : itOf xs ⟨rs, place, zero, st⟩ (k + 1) = ⟨l2, p2, z2, s2⟩ := by
          show stepOf xs (itOf xs ⟨rs, place, zero, st⟩ k) = _
          rw [HGK.out, hsg]
        have HIT := Lib.hid hit
        have hnG : (Value.slice (some ⟨g3, 0, none⟩) 4 c3).ownBlock ≠ some go := by
          intro e
          injection e with e
          simp only at e
          omega
        clear hsg hit
        go_wp2_with fail
        have hfin : AtRun w ((((w3.setCell ⟨go, 0, none⟩ (.slice (some ⟨g3, 0, none⟩) 4 c3)).setCell ⟨go, 1, none⟩ (.int .i64 p2)).setCell ⟨go, 2, none⟩ (.bool z2)).setCell ⟨go, 3, none⟩ (.bool s2)) go ⟨l2, p2, z2, s2⟩ g3 c3 :=
          ⟨Blk.set (Blk.set (Blk.set (Blk.set HGx.out 0 (.slice (some ⟨g3, 0, none⟩) 4 c3)) 1 (.int .i64 p2)) 2 (.bool z2)) 3 (.bool s2),
           Blk.other (Blk.other (Blk.other (Blk.other HRx.out (.slice (some ⟨g3, 0, none⟩) 4 c3) (g' := go) (j := 0) (by omega)) (.int .i64 p2) (g' := go) (j := 1) (by omega)) (.bool z2) (g' := go) (j := 2) (by omega)) (.bool s2) (g' := go) (j := 3) (by omega),
           own_set (own_set (own_set (own_set HOx.out (.slice (some ⟨g3, 0, none⟩) 4 c3) (g := go) (j := 0) hnG) (.int .i64 p2) (g := go) (j := 1) hnG) (.bool z2) (g := go) (j := 2) hnG) (.bool s2) (g := go) (j := 3) hnG,
           below_set (below_set (below_set (below_set HWx.out (g := go) (j := 0) (by omega) (.slice (some ⟨g3, 0, none⟩) 4 c3)) (g := go) (j := 1) (by omega) (.int .i64 p2)) (g := go) (j := 2) (by omega) (.bool z2)) (g := go) (j := 3) (by omega) (.bool s2), by omega⟩
        go_roundw
        case rel => exact ⟨k + 1, g3, c3, by go_num, by omega, by rw [HIT.out]; exact hfin⟩
        case measure => simp [intOf]; omega
      · have hkn : k = N := by omega
        subst hkn
        have hend : ¬ (k : Int) < (m : Int) ∨ s = true := by
          rcases HN.out.2.2 with h | h
          · left; rw [Int.toNat_natCast] at h; omega
          · right; rw [HGK.out] at h; exact h
        have r0 := HA2.out.res.cell 0 _ rfl
        have r1 := HA2.out.res.cell 1 _ rfl
        have r2 := HA2.out.res.cell 2 _ rfl
        have r3 := HA2.out.res.cell 3 _ rfl
        have fr0 := HA2.out.res.free 0
        have fr1 := HA2.out.res.free 1
        have fr2 := HA2.out.res.free 2
        have fr3 := HA2.out.res.free 3
        have hord := HA2.out.ord
        have hnR : (Value.slice (some ⟨ga, 0, none⟩) 4 ca).ownBlock ≠ some (w.heap.size + 1) := by
          intro e
          injection e with e
          simp only at e
          omega
        have hend2 : Hid (Blk ((((wr.setCell ⟨w.heap.size + 1, 0, none⟩ (.slice (some ⟨ga, 0, none⟩) 4 ca)).setCell ⟨w.heap.size + 1, 1, none⟩ (.int .i64 p)).setCell ⟨w.heap.size + 1, 2, none⟩ (.bool z)).setCell ⟨w.heap.size + 1, 3, none⟩ (.bool s)) (w.heap.size + 1) 40 #[.slice (some ⟨ga, 0, none⟩) 4 ca, .int .i64 p, .bool z, .bool s] ∧
            ((((wr.setCell ⟨w.heap.size + 1, 0, none⟩ (.slice (some ⟨ga, 0, none⟩) 4 ca)).setCell ⟨w.heap.size + 1, 1, none⟩ (.int .i64 p)).setCell ⟨w.heap.size + 1, 2, none⟩ (.bool z)).setCell ⟨w.heap.size + 1, 3, none⟩ (.bool s)).ownsRow w.heap.size 3 1 (.slice (some ⟨ga, 0, none⟩) 4 ca) 4 (I l) ∧
            Below w.heap.size w ((((wr.setCell ⟨w.heap.size + 1, 0, none⟩ (.slice (some ⟨ga, 0, none⟩) 4 ca)).setCell ⟨w.heap.size + 1, 1, none⟩ (.int .i64 p)).setCell ⟨w.heap.size + 1, 2, none⟩ (.bool z)).setCell ⟨w.heap.size + 1, 3, none⟩ (.bool s))) := Lib.hid
          ⟨Blk.set (Blk.set (Blk.set (Blk.set HA2.out.res 0 (.slice (some ⟨ga, 0, none⟩) 4 ca)) 1 (.int .i64 p)) 2 (.bool z)) 3 (.bool s),
           own_set (own_set (own_set (own_set HA2.out.own (.slice (some ⟨ga, 0, none⟩) 4 ca) (g := w.heap.size + 1) (j := 0) hnR) (.int .i64 p) (g := w.heap.size + 1) (j := 1) hnR) (.bool z) (g := w.heap.size + 1) (j := 2) hnR) (.bool s) (g := w.heap.size + 1) (j := 3) hnR,
           below_set (below_set (below_set (below_set HA2.out.below (g := w.heap.size + 1) (j := 0) (by omega) (.slice (some ⟨ga, 0, none⟩) 4 ca)) (g := w.heap.size + 1) (j := 1) (by omega) (.int .i64 p)) (g := w.heap.size + 1) (j := 2) (by omega) (.bool z)) (g := w.heap.size + 1) (j := 3) (by omega) (.bool s)⟩
        rcases hend with h | rfl
        · go_wp2_with fail
          clear k0 k1 k2 k3 f0 f1 f2 f3 r0 r1 r2 r3 fr0 fr1 fr2 fr3
          revert hend2
          generalize ((((wr.setCell _ _).setCell _ _).setCell _ _).setCell _ _) = wz
          intro HZ
          exact specRun_ret rfl rfl rfl rfl (HZ.out.1.cell 0 _ rfl) (HZ.out.1.cell 1 _ rfl) (HZ.out.1.cell 2 _ rfl) (HZ.out.1.cell 3 _ rfl) ⟨some ⟨ga, 0, none⟩, ca, by rw [HGK.out]; rfl, by rw [HGK.out]; exact HZ.out.2.1, HZ.out.2.2⟩
        · go_wp2_with fail
          all_goals
            clear k0 k1 k2 k3 f0 f1 f2 f3 r0 r1 r2 r3 fr0 fr1 fr2 fr3
            revert hend2
            generalize ((((wr.setCell _ _).setCell _ _).setCell _ _).setCell _ _) = wz
            intro HZ
            exact specRun_ret rfl rfl rfl rfl (HZ.out.1.cell 0 _ rfl) (HZ.out.1.cell 1 _ rfl) (HZ.out.1.cell 2 _ rfl) (HZ.out.1.cell 3 _ rfl) ⟨some ⟨ga, 0, none⟩, ca, by rw [HGK.out]; rfl, by rw [HGK.out]; exact HZ.out.2.1, HZ.out.2.2⟩
theorem specRun_any (A A' : Option Addr) (n c n' c' : Nat) (xs : List Ins) (g : Regs) (most : Int) (w : World) (hr : Reads w w.heap.size 4 A n (FL xs)) (hn : n ≤ 1048576) (hr' : Reads w w.heap.size 1 A' n' (I g.r)) (hn' : n' ≤ 1048576)
    (res : Regs) (cnt : Int) (ok : Bool) (h : RunIs xs g most res cnt ok) :
    Calls Tryd.prog 21 #[.slice A n c, .agg #[.slice A' n' c', .int .i64 g.place, .bool g.zero, .bool g.stopped], .int .i64 most] w fun e w' => ∃ A0 c0, e = .returned (.tuple #[.agg #[.slice A0 res.r.length c0, .int .i64 res.place, .bool res.zero, .bool res.stopped], .int .i64 cnt, .bool ok]) ∧
      w'.ownsRow w.heap.size 3 1 (.slice A0 res.r.length c0) res.r.length (I res.r) ∧ Below w.heap.size w w' := by
  rcases h with ⟨h1, rfl, rfl, rfl⟩ | ⟨h1, h2, h3, N, h4, rfl, rfl, rfl⟩
  · exact specRun_no A A' n c n' c' xs g most w hr hn hr' hn' h1
  · rw [(it_ok h1 N).2.1]
    exact specRun_yes A A' n c n' c' xs g most N w hr hn hr' hn' h1 h2 h3 h4
end Go.Proofs.YtfdbnolifimnhabDoor.L3
