/- What StepGuest answers, of spec and impl. -/
import Derived.Test.YtfdbnolifimnhabDoorStepS
namespace Go.Proofs.YtfdbnolifimnhabDoor.L3
open Go Go.RowKit Go.Proofs.YtfdbnolifimnhabDoor.Mem Go.Proofs.YtfdbnolifimnhabDoor.Own Go.Proofs.YtfdbnolifimnhabDoor.L1 Go.Proofs.YtfdbnolifimnhabDoor.Bit
/-- the answer of StepGuest -/
def resOf (xs : List Ins) (g : Regs) : Regs × Bool := if OkG xs g ∧ g.stopped = false then (stepOf xs g, true) else (⟨[], 0, false, false⟩, false)
theorem own_none (w : World) (b : Nat) (e : TypeId) : w.ownsRow b e 1 (.slice none 0 0) 0 (I []) := ⟨rfl, .inl ⟨rfl, rfl⟩⟩
theorem len_step {xs : List Ins} {g : Regs} (h : OkG xs g) : (stepOf xs g).r.length = 4 := (step_ok h).2.1
theorem l3Step_any (A A' : Option Addr) (n c c' : Nat) (xs : List Ins) (rs : List Int) (place : Int) (zero st : Bool) (w : World) (hr : Reads w w.heap.size 4 A n (FL xs)) (hn : n ≤ 1048576) (hr' : Reads w w.heap.size 1 A' 4 (I rs)) (hg : OkG xs ⟨rs, place, zero, st⟩) :
    Calls Tryd.prog 59 #[.slice A n c, .agg #[.slice A' 4 c', .int .i64 place, .bool zero, .bool st]] w fun e w' => ∃ gg cc, e = .returned (.agg #[.slice (some ⟨gg, 0, none⟩) 4 cc, .int .i64 (stepOf xs ⟨rs, place, zero, st⟩).place, .bool (stepOf xs ⟨rs, place, zero, st⟩).zero, .bool (stepOf xs ⟨rs, place, zero, st⟩).stopped]) ∧
      w'.ownsRow w.heap.size 3 1 (.slice (some ⟨gg, 0, none⟩) 4 cc) 4 (I (stepOf xs ⟨rs, place, zero, st⟩).r) ∧ Below w.heap.size w w' := by
  have hL := reads_len hr
  have hp := hg.2.2.1
  simp only at hp
  obtain ⟨k, rfl⟩ := Int.eq_ofNat_of_zero_le hp.1
  have hk : k < n := by omega
  have hx : xs[k]? = some (xs[k]'(by omega)) := List.getElem?_eq_getElem (by omega)
  have hok : Ok (xs[k]'(by omega)) := hg.1.1 _ (List.getElem_mem _)
  have hrs := hg.2.2.2
  simp only at hrs
  obtain ⟨x, hxx⟩ : ∃ x, xs[k]'(by omega) = x := ⟨_, rfl⟩
  rw [hxx] at hx hok
  obtain ⟨op, xa, xb, xn⟩ := x
  have ho := hok.1
  simp only at ho
  clear hxx
  by_cases h16 : 1 ≤ op ∧ op ≤ 6
  · exact l3Step_alu A A' n c c' xs rs k zero st  op xa xb xn w hr hn hr' hk hx hok hrs h16.1 h16.2
  · rcases (show op = 0 ∨ op = 7 ∨ op = 8 ∨ op = 9 by omega) with rfl | rfl | rfl | rfl
    · exact l3Step_halt A A' n c c' xs rs k zero st  xa xb xn w hr hn hr' hk hx hok hrs
    · exact l3Step_jump A A' n c c' xs rs k zero st  xa xb xn w hr hn hr' hk hx hok hrs
    · exact l3Step_jz A A' n c c' xs rs k zero st  xa xb xn w hr hn hr' hk hx hok hrs
    · exact l3Step_trap A A' n c c' xs rs k zero st  xa xb xn w hr hn hr' hk hx hok hrs
theorem afterStep_any (A A' : Option Addr) (n c c' : Nat) (xs : List Ins) (rs : List Int) (place : Int) (zero : Bool) (w : World) (hr : Reads w w.heap.size 4 A n (FL xs)) (hn : n ≤ 1048576) (hr' : Reads w w.heap.size 1 A' 4 (I rs)) (hg : OkG xs ⟨rs, place, zero, false⟩) :
    Calls Tryd.prog 55 #[.slice A n c, .agg #[.slice A' 4 c', .int .i64 place, .bool zero, .bool false]] w fun e w' => ∃ gg cc, e = .returned (.agg #[.slice (some ⟨gg, 0, none⟩) 4 cc, .int .i64 (stepOf xs ⟨rs, place, zero, false⟩).place, .bool (stepOf xs ⟨rs, place, zero, false⟩).zero, .bool (stepOf xs ⟨rs, place, zero, false⟩).stopped]) ∧
      w'.ownsRow w.heap.size 3 1 (.slice (some ⟨gg, 0, none⟩) 4 cc) 4 (I (stepOf xs ⟨rs, place, zero, false⟩).r) ∧ Below w.heap.size w w' := by
  have hL := reads_len hr
  have hp := hg.2.2.1
  simp only at hp
  obtain ⟨k, rfl⟩ := Int.eq_ofNat_of_zero_le hp.1
  have hk : k < n := by omega
  have hx : xs[k]? = some (xs[k]'(by omega)) := List.getElem?_eq_getElem (by omega)
  have hok : Ok (xs[k]'(by omega)) := hg.1.1 _ (List.getElem_mem _)
  have hrs := hg.2.2.2
  simp only at hrs
  obtain ⟨x, hxx⟩ : ∃ x, xs[k]'(by omega) = x := ⟨_, rfl⟩
  rw [hxx] at hx hok
  obtain ⟨op, xa, xb, xn⟩ := x
  have ho := hok.1
  simp only at ho
  clear hxx
  by_cases h16 : 1 ≤ op ∧ op ≤ 6
  · exact afterStep_alu A A' n c c' xs rs k zero  op xa xb xn w hr hn hr' hk hx hok hrs h16.1 h16.2
  · rcases (show op = 0 ∨ op = 7 ∨ op = 8 ∨ op = 9 by omega) with rfl | rfl | rfl | rfl
    · exact afterStep_halt A A' n c c' xs rs k zero  xa xb xn w hr hn hr' hk hx hok hrs
    · exact afterStep_jump A A' n c c' xs rs k zero  xa xb xn w hr hn hr' hk hx hok hrs
    · exact afterStep_jz A A' n c c' xs rs k zero  xa xb xn w hr hn hr' hk hx hok hrs
    · exact afterStep_trap A A' n c c' xs rs k zero  xa xb xn w hr hn hr' hk hx hok hrs
theorem specStep_ret {Q : Ending → World → Prop} {a : Act} {w' : World} {g : Nat} {v0 v1 v2 v3 v4 : Value} (hd : a.defers = []) (hp : a.tmps[4]?.getD undef = .pointer (some ⟨g, 0, none⟩)) (h5 : a.tmps[5]?.getD undef = v4)
    (z0 : w'.cell? ⟨g, 0, none⟩ = some v0) (z1 : w'.cell? ⟨g, 1, none⟩ = some v1) (z2 : w'.cell? ⟨g, 2, none⟩ = some v2) (z3 : w'.cell? ⟨g, 3, none⟩ = some v3) (hQ : Q (.returned (.tuple #[.agg #[v0, v1, v2, v3], v4])) w') :
    bodyPost Tryd.prog Tryd.f28 Q .ret a w' := by
  refine bodyPost_ret (v := .tuple #[.agg #[v0, v1, v2, v3], v4]) ?_ hd hQ
  simp [results, Tryd.results28, go_sem, hp, h5, z0, z1, z2, z3]
set_option maxRecDepth 100000 in
set_option maxHeartbeats 1600000 in
theorem specStep_any (A A' : Option Addr) (n c n' c' : Nat) (xs : List Ins) (g : Regs) (w : World) (hr : Reads w w.heap.size 4 A n (FL xs)) (hn : n ≤ 1048576) (hr' : Reads w w.heap.size 1 A' n' (I g.r)) (hn' : n' ≤ 1048576) :
    Calls Tryd.prog 28 #[.slice A n c, .agg #[.slice A' n' c', .int .i64 g.place, .bool g.zero, .bool g.stopped]] w fun e w' => ∃ A0 c0, e = .returned (.tuple #[.agg #[.slice A0 (resOf xs g).1.r.length c0, .int .i64 (resOf xs g).1.place, .bool (resOf xs g).1.zero, .bool (resOf xs g).1.stopped], .bool (resOf xs g).2]) ∧
      w'.ownsRow w.heap.size 3 1 (.slice A0 (resOf xs g).1.r.length c0) (resOf xs g).1.r.length (I (resOf xs g).1.r) ∧ Below w.heap.size w w' := by
  obtain ⟨rs, place, zero, st⟩ := g
  simp only at hr' ⊢
  obtain ⟨wb, hwb⟩ : ∃ wb, (w.alloc (.cells #[.slice A' n' c', .int .i64 place, .bool zero, .bool st] 40)).alloc (.cells #[.slice none 0 0, .int .i64 0, .bool false, .bool false] 40) = wb := ⟨_, rfl⟩
  have hb0 : Below w.heap.size w wb := by rw [← hwb]; exact below_more (below_more (Below.refl w.heap.size w) _) _
  have hG : Blk wb w.heap.size 40 #[.slice A' n' c', .int .i64 place, .bool zero, .bool st] := by rw [← hwb]; exact Blk.alloc (Blk.new _ _ _) _
  have hR : Blk wb (w.heap.size + 1) 40 #[.slice none 0 0, .int .i64 0, .bool false, .bool false] := by
    rw [← hwb]
    have h := Blk.new (w.alloc (.cells #[.slice A' n' c', .int .i64 place, .bool zero, .bool st] 40)) #[.slice none 0 0, .int .i64 0, .bool false, .bool false] 40
    rwa [size1] at h
  have hsz : wb.heap.size = w.heap.size + 1 + 1 := by rw [← hwb, size1, size1]
  have HR1 := Lib.hid ((hr'.below hb0).more hb0.size)
  have HP1 := Lib.hid ((hr.below hb0).more hb0.size)
  have HG := Lib.hid hG
  have HR := Lib.hid hR
  have HW := Lib.hid hb0
  have HWB := Lib.hid hwb
  have HSZ := Lib.hid hsz
  obtain ⟨b, hb⟩ : ∃ b, decide (OkG xs ⟨rs, place, zero, st⟩) = b := ⟨_, rfl⟩
  have HB := Lib.hid hb
  clear hr hr' hb0 hG hR hwb hsz hb
  cases b
  · have hres : resOf xs ⟨rs, place, zero, st⟩ = (⟨[], 0, false, false⟩, false) := by
      unfold resOf
      rw [if_neg (fun h => of_decide_eq_false HB.out h.1)]
    have HRES := Lib.hid hres
    clear hres
    go_enter Tryd.func28, Tryd.ntmps28
    go_wp2_with fail
    rw [HWB.out]
    clear HWB
    refine (l3Good_any A A' n c n' c' xs ⟨rs, place, zero, _⟩ _ HP1.out hn HR1.out (by omega) false HB.out).mono ?_
    rintro e w1 ⟨rfl, hb⟩
    replace HR := Lib.hid (Blk.kept hb HR.out)
    replace HW := Lib.hid (below_then HW.out hb)
    clear hb
    have r0 := HR.out.cell 0 _ rfl
    have fr0 := HR.out.free 0
    have r1 := HR.out.cell 1 _ rfl
    have fr1 := HR.out.free 1
    have r2 := HR.out.cell 2 _ rfl
    have fr2 := HR.out.free 2
    have r3 := HR.out.cell 3 _ rfl
    have fr3 := HR.out.free 3
    go_wp2_with fail
    ·
      have HZ := Lib.hid (Blk.set (Blk.set (Blk.set (Blk.set HR.out 0 (.slice none 0 0)) 1 (.int .i64 0)) 2 (.bool false)) 3 (.bool false))
      have HXX := Lib.hid (below_set (below_set (below_set (below_set HW.out (g := w.heap.size + 1) (j := 0) (by omega) (.slice none 0 0)) (g := w.heap.size + 1) (j := 1) (by omega) (.int .i64 0)) (g := w.heap.size + 1) (j := 2) (by omega) (.bool false)) (g := w.heap.size + 1) (j := 3) (by omega) (.bool false))
      clear r0 r1 r2 r3 fr0 fr1 fr2 fr3
      revert HZ HXX
      generalize ((((w1.setCell _ _).setCell _ _).setCell _ _).setCell _ _) = wz
      intro HZ HXX
      have z0 : wz.cell? ⟨w.heap.size + 1, 0, none⟩ = some (.slice none 0 0) := HZ.out.cell 0 _ rfl
      have z1 : wz.cell? ⟨w.heap.size + 1, 1, none⟩ = some (.int .i64 0) := HZ.out.cell 1 _ rfl
      have z2 : wz.cell? ⟨w.heap.size + 1, 2, none⟩ = some (.bool false) := HZ.out.cell 2 _ rfl
      have z3 : wz.cell? ⟨w.heap.size + 1, 3, none⟩ = some (.bool false) := HZ.out.cell 3 _ rfl
      refine specStep_ret rfl rfl rfl z0 z1 z2 z3 ⟨none, 0, ?_, ?_, HXX.out⟩
      · rw [HRES.out]; rfl
      · rw [HRES.out]; exact own_none _ _ _
  · cases st
    · have hres : resOf xs ⟨rs, place, zero, false⟩ = (stepOf xs ⟨rs, place, zero, false⟩, true) := by
        unfold resOf
        rw [if_pos ⟨of_decide_eq_true HB.out, rfl⟩]
      have HRES := Lib.hid hres
      have hog : OkG xs ⟨rs, place, zero, false⟩ := of_decide_eq_true HB.out
      have h4 : n' = 4 := by
        have h1 := hog.2.1
        have h2 := HR1.out.len
        rw [I_len] at h2
        simp only at h1
        omega
      subst h4
      have HOG := Lib.hid hog
      have HLN := Lib.hid (len_step hog)
      clear hres hog
      go_enter Tryd.func28, Tryd.ntmps28
      go_wp2_with fail
      rw [HWB.out]
      clear HWB
      refine (l3Good_any A A' n c 4 c' xs ⟨rs, place, zero, _⟩ _ HP1.out hn HR1.out (by omega) true HB.out).mono ?_
      rintro e w1 ⟨rfl, hb⟩
      replace HG := Lib.hid (Blk.kept hb HG.out)
      replace HR := Lib.hid (Blk.kept hb HR.out)
      replace HR1 := Lib.hid ((HR1.out.below hb).more hb.size)
      replace HP1 := Lib.hid ((HP1.out.below hb).more hb.size)
      have hs := hb.size
      replace HW := Lib.hid (below_then HW.out hb)
      clear hb
      have k0 := HG.out.cell 0 _ rfl
      have k1 := HG.out.cell 1 _ rfl
      have k2 := HG.out.cell 2 _ rfl
      have k3 := HG.out.cell 3 _ rfl
      go_wp2_with fail
      refine (l3Step_any A A' n c c' xs rs place zero false _ HP1.out hn HR1.out HOG.out).mono ?_
      rintro e w2 ⟨gg, cc, rfl, hown, hb⟩
      obtain ⟨⟨l, q, y, t⟩, hst⟩ : ∃ s, stepOf xs ⟨rs, place, zero, false⟩ = s := ⟨_, rfl⟩
      rw [hst] at HRES HLN
      have HST := Lib.hid hst
      have hgg := (hown.lt gg rfl).1
      have hnR : (Value.slice (some ⟨gg, 0, none⟩) 4 cc).ownBlock ≠ some (w.heap.size + 1) := by
        intro e
        injection e with e
        simp only at e
        have := HSZ.out
        omega
      replace HR := Lib.hid (Blk.kept hb HR.out)
      have HO := Lib.hid (own_mono hown (b' := w.heap.size) HW.out.size)
      replace HW := Lib.hid (below_then HW.out hb)
      rw [hst] at HO ⊢
      clear hb hown hst k0 k1 k2 k3
      have r0 := HR.out.cell 0 _ rfl
      have fr0 := HR.out.free 0
      have r1 := HR.out.cell 1 _ rfl
      have fr1 := HR.out.free 1
      have r2 := HR.out.cell 2 _ rfl
      have fr2 := HR.out.free 2
      have r3 := HR.out.cell 3 _ rfl
      have fr3 := HR.out.free 3
      go_wp2_with fail
      have HZ := Lib.hid (Blk.set (Blk.set (Blk.set (Blk.set HR.out 0 (.slice (some ⟨gg, 0, none⟩) 4 cc)) 1 (.int .i64 q)) 2 (.bool y)) 3 (.bool t))
      have HXX := Lib.hid (below_set (below_set (below_set (below_set HW.out (g := w.heap.size + 1) (j := 0) (by omega) (.slice (some ⟨gg, 0, none⟩) 4 cc)) (g := w.heap.size + 1) (j := 1) (by omega) (.int .i64 q)) (g := w.heap.size + 1) (j := 2) (by omega) (.bool y)) (g := w.heap.size + 1) (j := 3) (by omega) (.bool t))
      have HY := Lib.hid (own_set (own_set (own_set (own_set HO.out (.slice (some ⟨gg, 0, none⟩) 4 cc) (g := w.heap.size + 1) (j := 0) hnR) (.int .i64 q) (g := w.heap.size + 1) (j := 1) hnR) (.bool y) (g := w.heap.size + 1) (j := 2) hnR) (.bool t) (g := w.heap.size + 1) (j := 3) hnR)
      clear r0 r1 r2 r3 fr0 fr1 fr2 fr3
      revert HZ HXX HY
      generalize ((((w2.setCell _ _).setCell _ _).setCell _ _).setCell _ _) = wz
      intro HZ HXX HY
      have z0 : wz.cell? ⟨w.heap.size + 1, 0, none⟩ = some (.slice (some ⟨gg, 0, none⟩) 4 cc) := HZ.out.cell 0 _ rfl
      have z1 : wz.cell? ⟨w.heap.size + 1, 1, none⟩ = some (.int .i64 q) := HZ.out.cell 1 _ rfl
      have z2 : wz.cell? ⟨w.heap.size + 1, 2, none⟩ = some (.bool y) := HZ.out.cell 2 _ rfl
      have z3 : wz.cell? ⟨w.heap.size + 1, 3, none⟩ = some (.bool t) := HZ.out.cell 3 _ rfl
      refine specStep_ret rfl rfl rfl z0 z1 z2 z3 ⟨some ⟨gg, 0, none⟩, cc, ?_, ?_, HXX.out⟩
      · rw [HRES.out]
        simp only [HLN.out]
        rfl
      · rw [HRES.out]
        simp only [HLN.out]
        have h := HY.out
        exact h
    · have hres : resOf xs ⟨rs, place, zero, true⟩ = (⟨[], 0, false, false⟩, false) := by
        unfold resOf
        rw [if_neg (fun h => by cases h.2)]
      have HRES := Lib.hid hres
      clear hres
      go_enter Tryd.func28, Tryd.ntmps28
      go_wp2_with fail
      rw [HWB.out]
      clear HWB
      refine (l3Good_any A A' n c n' c' xs ⟨rs, place, zero, _⟩ _ HP1.out hn HR1.out (by omega) true HB.out).mono ?_
      rintro e w1 ⟨rfl, hb⟩
      replace HG := Lib.hid (Blk.kept hb HG.out)
      replace HR := Lib.hid (Blk.kept hb HR.out)
      replace HW := Lib.hid (below_then HW.out hb)
      have k3 := HG.out.cell 3 _ rfl
      clear hb
      have r0 := HR.out.cell 0 _ rfl
      have fr0 := HR.out.free 0
      have r1 := HR.out.cell 1 _ rfl
      have fr1 := HR.out.free 1
      have r2 := HR.out.cell 2 _ rfl
      have fr2 := HR.out.free 2
      have r3 := HR.out.cell 3 _ rfl
      have fr3 := HR.out.free 3
      go_wp2_with fail
      have HZ := Lib.hid (Blk.set (Blk.set (Blk.set (Blk.set HR.out 0 (.slice none 0 0)) 1 (.int .i64 0)) 2 (.bool false)) 3 (.bool false))
      have HXX := Lib.hid (below_set (below_set (below_set (below_set HW.out (g := w.heap.size + 1) (j := 0) (by omega) (.slice none 0 0)) (g := w.heap.size + 1) (j := 1) (by omega) (.int .i64 0)) (g := w.heap.size + 1) (j := 2) (by omega) (.bool false)) (g := w.heap.size + 1) (j := 3) (by omega) (.bool false))
      clear r0 r1 r2 r3 fr0 fr1 fr2 fr3
      revert HZ HXX
      generalize ((((w1.setCell _ _).setCell _ _).setCell _ _).setCell _ _) = wz
      intro HZ HXX
      have z0 : wz.cell? ⟨w.heap.size + 1, 0, none⟩ = some (.slice none 0 0) := HZ.out.cell 0 _ rfl
      have z1 : wz.cell? ⟨w.heap.size + 1, 1, none⟩ = some (.int .i64 0) := HZ.out.cell 1 _ rfl
      have z2 : wz.cell? ⟨w.heap.size + 1, 2, none⟩ = some (.bool false) := HZ.out.cell 2 _ rfl
      have z3 : wz.cell? ⟨w.heap.size + 1, 3, none⟩ = some (.bool false) := HZ.out.cell 3 _ rfl
      refine specStep_ret rfl rfl rfl z0 z1 z2 z3 ⟨none, 0, ?_, ?_, HXX.out⟩
      · rw [HRES.out]; rfl
      · rw [HRES.out]; exact own_none _ _ _
theorem implStep_ret {Q : Ending → World → Prop} {a : Act} {w' : World} {g : Nat} {v0 v1 v2 v3 v4 : Value} (hd : a.defers = []) (hp : a.tmps[4]?.getD undef = .pointer (some ⟨g, 0, none⟩)) (h5 : a.tmps[5]?.getD undef = v4)
    (z0 : w'.cell? ⟨g, 0, none⟩ = some v0) (z1 : w'.cell? ⟨g, 1, none⟩ = some v1) (z2 : w'.cell? ⟨g, 2, none⟩ = some v2) (z3 : w'.cell? ⟨g, 3, none⟩ = some v3) (hQ : Q (.returned (.tuple #[.agg #[v0, v1, v2, v3], v4])) w') :
    bodyPost Tryd.prog Tryd.f23 Q .ret a w' := by
  refine bodyPost_ret (v := .tuple #[.agg #[v0, v1, v2, v3], v4]) ?_ hd hQ
  simp [results, Tryd.results23, go_sem, hp, h5, z0, z1, z2, z3]
set_option maxRecDepth 100000 in
set_option maxHeartbeats 1600000 in
theorem implStep_any (A A' : Option Addr) (n c n' c' : Nat) (xs : List Ins) (g : Regs) (w : World) (hr : Reads w w.heap.size 4 A n (FL xs)) (hn : n ≤ 1048576) (hr' : Reads w w.heap.size 1 A' n' (I g.r)) (hn' : n' ≤ 1048576) (ho : OpsIs w) :
    Calls Tryd.prog 23 #[.slice A n c, .agg #[.slice A' n' c', .int .i64 g.place, .bool g.zero, .bool g.stopped]] w fun e w' => ∃ A0 c0, e = .returned (.tuple #[.agg #[.slice A0 (resOf xs g).1.r.length c0, .int .i64 (resOf xs g).1.place, .bool (resOf xs g).1.zero, .bool (resOf xs g).1.stopped], .bool (resOf xs g).2]) ∧
      w'.ownsRow w.heap.size 3 1 (.slice A0 (resOf xs g).1.r.length c0) (resOf xs g).1.r.length (I (resOf xs g).1.r) ∧ Below w.heap.size w w' := by
  obtain ⟨rs, place, zero, st⟩ := g
  simp only at hr' ⊢
  obtain ⟨wb, hwb⟩ : ∃ wb, (w.alloc (.cells #[.slice A' n' c', .int .i64 place, .bool zero, .bool st] 40)).alloc (.cells #[.slice none 0 0, .int .i64 0, .bool false, .bool false] 40) = wb := ⟨_, rfl⟩
  have hb0 : Below w.heap.size w wb := by rw [← hwb]; exact below_more (below_more (Below.refl w.heap.size w) _) _
  have hG : Blk wb w.heap.size 40 #[.slice A' n' c', .int .i64 place, .bool zero, .bool st] := by rw [← hwb]; exact Blk.alloc (Blk.new _ _ _) _
  have hR : Blk wb (w.heap.size + 1) 40 #[.slice none 0 0, .int .i64 0, .bool false, .bool false] := by
    rw [← hwb]
    have h := Blk.new (w.alloc (.cells #[.slice A' n' c', .int .i64 place, .bool zero, .bool st] 40)) #[.slice none 0 0, .int .i64 0, .bool false, .bool false] 40
    rwa [size1] at h
  have hsz : wb.heap.size = w.heap.size + 1 + 1 := by rw [← hwb, size1, size1]
  have HR1 := Lib.hid ((hr'.below hb0).more hb0.size)
  have HP1 := Lib.hid ((hr.below hb0).more hb0.size)
  have HG := Lib.hid hG
  have HR := Lib.hid hR
  have HW := Lib.hid hb0
  have HWB := Lib.hid hwb
  have HSZ := Lib.hid hsz
  have HOP := Lib.hid (ops_below hb0 ho)
  clear ho
  obtain ⟨b, hb⟩ : ∃ b, decide (OkG xs ⟨rs, place, zero, st⟩) = b := ⟨_, rfl⟩
  have HB := Lib.hid hb
  clear hr hr' hb0 hG hR hwb hsz hb
  cases b
  · have hres : resOf xs ⟨rs, place, zero, st⟩ = (⟨[], 0, false, false⟩, false) := by
      unfold resOf
      rw [if_neg (fun h => of_decide_eq_false HB.out h.1)]
    have HRES := Lib.hid hres
    clear hres
    go_enter Tryd.func23, Tryd.ntmps23
    go_wp2_with fail
    rw [HWB.out]
    clear HWB
    refine (implAre_any A A' n c n' c' xs ⟨rs, place, zero, _⟩ _ HP1.out hn HR1.out (by omega) HOP.out false HB.out).mono ?_
    rintro e w1 ⟨rfl, hb⟩
    replace HR := Lib.hid (Blk.kept hb HR.out)
    replace HW := Lib.hid (below_then HW.out hb)
    clear hb
    have r0 := HR.out.cell 0 _ rfl
    have fr0 := HR.out.free 0
    have r1 := HR.out.cell 1 _ rfl
    have fr1 := HR.out.free 1
    have r2 := HR.out.cell 2 _ rfl
    have fr2 := HR.out.free 2
    have r3 := HR.out.cell 3 _ rfl
    have fr3 := HR.out.free 3
    go_wp2_with fail
    ·
      have HZ := Lib.hid (Blk.set (Blk.set (Blk.set (Blk.set HR.out 0 (.slice none 0 0)) 1 (.int .i64 0)) 2 (.bool false)) 3 (.bool false))
      have HXX := Lib.hid (below_set (below_set (below_set (below_set HW.out (g := w.heap.size + 1) (j := 0) (by omega) (.slice none 0 0)) (g := w.heap.size + 1) (j := 1) (by omega) (.int .i64 0)) (g := w.heap.size + 1) (j := 2) (by omega) (.bool false)) (g := w.heap.size + 1) (j := 3) (by omega) (.bool false))
      clear r0 r1 r2 r3 fr0 fr1 fr2 fr3
      revert HZ HXX
      generalize ((((w1.setCell _ _).setCell _ _).setCell _ _).setCell _ _) = wz
      intro HZ HXX
      have z0 : wz.cell? ⟨w.heap.size + 1, 0, none⟩ = some (.slice none 0 0) := HZ.out.cell 0 _ rfl
      have z1 : wz.cell? ⟨w.heap.size + 1, 1, none⟩ = some (.int .i64 0) := HZ.out.cell 1 _ rfl
      have z2 : wz.cell? ⟨w.heap.size + 1, 2, none⟩ = some (.bool false) := HZ.out.cell 2 _ rfl
      have z3 : wz.cell? ⟨w.heap.size + 1, 3, none⟩ = some (.bool false) := HZ.out.cell 3 _ rfl
      refine implStep_ret rfl rfl rfl z0 z1 z2 z3 ⟨none, 0, ?_, ?_, HXX.out⟩
      · rw [HRES.out]; rfl
      · rw [HRES.out]; exact own_none _ _ _
  · cases st
    · have hres : resOf xs ⟨rs, place, zero, false⟩ = (stepOf xs ⟨rs, place, zero, false⟩, true) := by
        unfold resOf
        rw [if_pos ⟨of_decide_eq_true HB.out, rfl⟩]
      have HRES := Lib.hid hres
      have hog : OkG xs ⟨rs, place, zero, false⟩ := of_decide_eq_true HB.out
      have h4 : n' = 4 := by
        have h1 := hog.2.1
        have h2 := HR1.out.len
        rw [I_len] at h2
        simp only at h1
        omega
      subst h4
      have HOG := Lib.hid hog
      have HLN := Lib.hid (len_step hog)
      clear hres hog
      go_enter Tryd.func23, Tryd.ntmps23
      go_wp2_with fail
      rw [HWB.out]
      clear HWB
      refine (implAre_any A A' n c 4 c' xs ⟨rs, place, zero, _⟩ _ HP1.out hn HR1.out (by omega) HOP.out true HB.out).mono ?_
      rintro e w1 ⟨rfl, hb⟩
      replace HG := Lib.hid (Blk.kept hb HG.out)
      replace HR := Lib.hid (Blk.kept hb HR.out)
      replace HR1 := Lib.hid ((HR1.out.below hb).more hb.size)
      replace HP1 := Lib.hid ((HP1.out.below hb).more hb.size)
      have hs := hb.size
      replace HW := Lib.hid (below_then HW.out hb)
      clear hb
      have k0 := HG.out.cell 0 _ rfl
      have k1 := HG.out.cell 1 _ rfl
      have k2 := HG.out.cell 2 _ rfl
      have k3 := HG.out.cell 3 _ rfl
      go_wp2_with fail
      refine (afterStep_any A A' n c c' xs rs place zero _ HP1.out hn HR1.out HOG.out).mono ?_
      rintro e w2 ⟨gg, cc, rfl, hown, hb⟩
      obtain ⟨⟨l, q, y, t⟩, hst⟩ : ∃ s, stepOf xs ⟨rs, place, zero, false⟩ = s := ⟨_, rfl⟩
      rw [hst] at HRES HLN
      have HST := Lib.hid hst
      have hgg := (hown.lt gg rfl).1
      have hnR : (Value.slice (some ⟨gg, 0, none⟩) 4 cc).ownBlock ≠ some (w.heap.size + 1) := by
        intro e
        injection e with e
        simp only at e
        have := HSZ.out
        omega
      replace HR := Lib.hid (Blk.kept hb HR.out)
      have HO := Lib.hid (own_mono hown (b' := w.heap.size) HW.out.size)
      replace HW := Lib.hid (below_then HW.out hb)
      rw [hst] at HO ⊢
      clear hb hown hst k0 k1 k2 k3
      have r0 := HR.out.cell 0 _ rfl
      have fr0 := HR.out.free 0
      have r1 := HR.out.cell 1 _ rfl
      have fr1 := HR.out.free 1
      have r2 := HR.out.cell 2 _ rfl
      have fr2 := HR.out.free 2
      have r3 := HR.out.cell 3 _ rfl
      have fr3 := HR.out.free 3
      go_wp2_with fail
      have HZ := Lib.hid (Blk.set (Blk.set (Blk.set (Blk.set HR.out 0 (.slice (some ⟨gg, 0, none⟩) 4 cc)) 1 (.int .i64 q)) 2 (.bool y)) 3 (.bool t))
      have HXX := Lib.hid (below_set (below_set (below_set (below_set HW.out (g := w.heap.size + 1) (j := 0) (by omega) (.slice (some ⟨gg, 0, none⟩) 4 cc)) (g := w.heap.size + 1) (j := 1) (by omega) (.int .i64 q)) (g := w.heap.size + 1) (j := 2) (by omega) (.bool y)) (g := w.heap.size + 1) (j := 3) (by omega) (.bool t))
      have HY := Lib.hid (own_set (own_set (own_set (own_set HO.out (.slice (some ⟨gg, 0, none⟩) 4 cc) (g := w.heap.size + 1) (j := 0) hnR) (.int .i64 q) (g := w.heap.size + 1) (j := 1) hnR) (.bool y) (g := w.heap.size + 1) (j := 2) hnR) (.bool t) (g := w.heap.size + 1) (j := 3) hnR)
      clear r0 r1 r2 r3 fr0 fr1 fr2 fr3
      revert HZ HXX HY
      generalize ((((w2.setCell _ _).setCell _ _).setCell _ _).setCell _ _) = wz
      intro HZ HXX HY
      have z0 : wz.cell? ⟨w.heap.size + 1, 0, none⟩ = some (.slice (some ⟨gg, 0, none⟩) 4 cc) := HZ.out.cell 0 _ rfl
      have z1 : wz.cell? ⟨w.heap.size + 1, 1, none⟩ = some (.int .i64 q) := HZ.out.cell 1 _ rfl
      have z2 : wz.cell? ⟨w.heap.size + 1, 2, none⟩ = some (.bool y) := HZ.out.cell 2 _ rfl
      have z3 : wz.cell? ⟨w.heap.size + 1, 3, none⟩ = some (.bool t) := HZ.out.cell 3 _ rfl
      refine implStep_ret rfl rfl rfl z0 z1 z2 z3 ⟨some ⟨gg, 0, none⟩, cc, ?_, ?_, HXX.out⟩
      · rw [HRES.out]
        simp only [HLN.out]
        rfl
      · rw [HRES.out]
        simp only [HLN.out]
        have h := HY.out
        exact h
    · have hres : resOf xs ⟨rs, place, zero, true⟩ = (⟨[], 0, false, false⟩, false) := by
        unfold resOf
        rw [if_neg (fun h => by cases h.2)]
      have HRES := Lib.hid hres
      clear hres
      go_enter Tryd.func23, Tryd.ntmps23
      go_wp2_with fail
      rw [HWB.out]
      clear HWB
      refine (implAre_any A A' n c n' c' xs ⟨rs, place, zero, _⟩ _ HP1.out hn HR1.out (by omega) HOP.out true HB.out).mono ?_
      rintro e w1 ⟨rfl, hb⟩
      replace HG := Lib.hid (Blk.kept hb HG.out)
      replace HR := Lib.hid (Blk.kept hb HR.out)
      replace HW := Lib.hid (below_then HW.out hb)
      have k3 := HG.out.cell 3 _ rfl
      clear hb
      have r0 := HR.out.cell 0 _ rfl
      have fr0 := HR.out.free 0
      have r1 := HR.out.cell 1 _ rfl
      have fr1 := HR.out.free 1
      have r2 := HR.out.cell 2 _ rfl
      have fr2 := HR.out.free 2
      have r3 := HR.out.cell 3 _ rfl
      have fr3 := HR.out.free 3
      go_wp2_with fail
      have HZ := Lib.hid (Blk.set (Blk.set (Blk.set (Blk.set HR.out 0 (.slice none 0 0)) 1 (.int .i64 0)) 2 (.bool false)) 3 (.bool false))
      have HXX := Lib.hid (below_set (below_set (below_set (below_set HW.out (g := w.heap.size + 1) (j := 0) (by omega) (.slice none 0 0)) (g := w.heap.size + 1) (j := 1) (by omega) (.int .i64 0)) (g := w.heap.size + 1) (j := 2) (by omega) (.bool false)) (g := w.heap.size + 1) (j := 3) (by omega) (.bool false))
      clear r0 r1 r2 r3 fr0 fr1 fr2 fr3
      revert HZ HXX
      generalize ((((w1.setCell _ _).setCell _ _).setCell _ _).setCell _ _) = wz
      intro HZ HXX
      have z0 : wz.cell? ⟨w.heap.size + 1, 0, none⟩ = some (.slice none 0 0) := HZ.out.cell 0 _ rfl
      have z1 : wz.cell? ⟨w.heap.size + 1, 1, none⟩ = some (.int .i64 0) := HZ.out.cell 1 _ rfl
      have z2 : wz.cell? ⟨w.heap.size + 1, 2, none⟩ = some (.bool false) := HZ.out.cell 2 _ rfl
      have z3 : wz.cell? ⟨w.heap.size + 1, 3, none⟩ = some (.bool false) := HZ.out.cell 3 _ rfl
      refine implStep_ret rfl rfl rfl z0 z1 z2 z3 ⟨none, 0, ?_, ?_, HXX.out⟩
      · rw [HRES.out]; rfl
      · rw [HRES.out]; exact own_none _ _ _
end Go.Proofs.YtfdbnolifimnhabDoor.L3
