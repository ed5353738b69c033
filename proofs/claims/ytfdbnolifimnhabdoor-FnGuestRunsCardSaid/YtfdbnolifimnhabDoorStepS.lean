/- What spec.l3Step answers. -/
import Derived.Test.YtfdbnolifimnhabDoorStepI
import Derived.Deep.CutRange
namespace Go.Proofs.YtfdbnolifimnhabDoor.L3
open Go Go.RowKit Go.Proofs.YtfdbnolifimnhabDoor.Mem Go.Proofs.YtfdbnolifimnhabDoor.Own Go.Proofs.YtfdbnolifimnhabDoor.L1 Go.Proofs.YtfdbnolifimnhabDoor.Bit
theorem l3Step_ret {Q : Ending → World → Prop} {a : Act} {w' : World} {g : Nat} {v0 v1 v2 v3 : Value} (hd : a.defers = []) (hp : a.tmps[4]?.getD undef = .pointer (some ⟨g, 0, none⟩))
    (z0 : w'.cell? ⟨g, 0, none⟩ = some v0) (z1 : w'.cell? ⟨g, 1, none⟩ = some v1) (z2 : w'.cell? ⟨g, 2, none⟩ = some v2) (z3 : w'.cell? ⟨g, 3, none⟩ = some v3) (hQ : Q (.returned (.agg #[v0, v1, v2, v3])) w') :
    bodyPost Tryd.prog Tryd.f59 Q .ret a w' := by
  refine bodyPost_ret (v := .agg #[v0, v1, v2, v3]) ?_ hd hQ
  simp [results, Tryd.results59, go_sem, hp, z0, z1, z2, z3]
theorem below_dr (w : World) : Below w.heap.size w w.drew := ⟨rfl, rfl, rfl, Nat.le_refl _, fun _ _ => rfl⟩
/-- where l3Step has its copy -/
structure AtCopy (w wx : World) (b2 o2 c' k : Nat) (zero st : Bool) (rs : List Int) (go gg cc : Nat) : Prop where
  out : Blk wx go 40 #[.slice (some ⟨gg, 0, none⟩) 4 cc, .int .i64 k, .bool zero, .bool false]
  arg : Blk wx w.heap.size 40 #[.slice (some ⟨b2, o2, none⟩) 4 c', .int .i64 k, .bool zero, .bool st]
  res : Blk wx (w.heap.size + 1) 40 #[.slice none 0 0, .int .i64 0, .bool false, .bool false]
  own : wx.ownsRow w.heap.size 3 1 (.slice (some ⟨gg, 0, none⟩) 4 cc) 4 (I rs)
  below : Below w.heap.size w wx
  ord : w.heap.size + 2 ≤ go ∧ w.heap.size + 2 ≤ gg ∧ go ≠ gg
set_option maxRecDepth 100000 in
set_option maxHeartbeats 1600000 in
theorem l3Step_halt (A A' : Option Addr) (n c c' : Nat) (xs : List Ins) (rs : List Int) (k : Nat) (zero st : Bool) (xa xb xn : Int) (w : World) (hr : Reads w w.heap.size 4 A n (FL xs)) (hn : n ≤ 1048576) (hr' : Reads w w.heap.size 1 A' 4 (I rs))
    (hk : k < n) (hx : xs[k]? = some ⟨0, xa, xb, xn⟩) (hok : Ok ⟨0, xa, xb, xn⟩) (hrs : ∀ z ∈ rs, 0 ≤ z ∧ z ≤ 65535)  :
    Calls Tryd.prog 59 #[.slice A n c, .agg #[.slice A' 4 c', .int .i64 k, .bool zero, .bool st]] w fun e w' => ∃ gg cc, e = .returned (.agg #[.slice (some ⟨gg, 0, none⟩) 4 cc, .int .i64 (stepOf xs ⟨rs, k, zero, st⟩).place, .bool (stepOf xs ⟨rs, k, zero, st⟩).zero, .bool (stepOf xs ⟨rs, k, zero, st⟩).stopped]) ∧
      w'.ownsRow w.heap.size 3 1 (.slice (some ⟨gg, 0, none⟩) 4 cc) 4 (I (stepOf xs ⟨rs, k, zero, st⟩).r) ∧ Below w.heap.size w w' := by
  obtain ⟨b2, o2, rfl, hb2, hcells⟩ := hr'.2 (by omega)
  have hL : xs.length = n := reads_len hr
  have hget : xs.getD ((k : Int).toNat) default = ⟨0, xa, xb, xn⟩ := by rw [Int.toNat_natCast, List.getD, hx]; rfl
  have HCE := Lib.hid hcells
  clear hcells
  have HGET := Lib.hid hget
  have HL := Lib.hid hL
  have hxn := hok.2.2.2.1
  simp only at hxn
  obtain ⟨wb, hwb⟩ : ∃ wb, (w.alloc (.cells #[.slice (some ⟨b2, o2, none⟩) 4 c', .int .i64 k, .bool zero, .bool st] 40)).alloc (.cells #[.slice none 0 0, .int .i64 0, .bool false, .bool false] 40) = wb := ⟨_, rfl⟩
  have hb0 : Below w.heap.size w wb := by rw [← hwb]; exact below_more (below_more (Below.refl w.heap.size w) _) _
  have hsz : wb.heap.size = w.heap.size + 1 + 1 := by rw [← hwb, size1, size1]
  have HR1 := Lib.hid ((hr'.below hb0).more hb0.size)
  have HP1 := Lib.hid hr
  have hG : Blk wb w.heap.size 40 #[.slice (some ⟨b2, o2, none⟩) 4 c', .int .i64 k, .bool zero, .bool st] := by rw [← hwb]; exact Blk.alloc (Blk.new _ _ _) _
  have hR : Blk wb (w.heap.size + 1) 40 #[.slice none 0 0, .int .i64 0, .bool false, .bool false] := by
    rw [← hwb]
    have h := Blk.new (w.alloc (.cells #[.slice (some ⟨b2, o2, none⟩) 4 c', .int .i64 k, .bool zero, .bool st] 40)) #[.slice none 0 0, .int .i64 0, .bool false, .bool false] 40
    rwa [size1] at h
  have HG := Lib.hid hG
  have HR := Lib.hid hR
  have HX := Lib.hid hx
  have HRS := Lib.hid hrs
  have HW := Lib.hid hb0
  have HWB := Lib.hid hwb
  have hlen := hr'.len
  rw [I_len] at hlen
  have HLEN := Lib.hid hlen
  have k0 := HG.out.cell 0 _ rfl
  have k1 := HG.out.cell 1 _ rfl
  have k2 := HG.out.cell 2 _ rfl
  have HSZ := Lib.hid hsz
  clear hr hr' hb0 hx hrs hget hlen hG hR hwb hsz
  have _ := hok
  have e0 : wb.drew.cell? ⟨w.heap.size, 0, none⟩ = some (.slice (some ⟨b2, o2, none⟩) 4 c') := k0
  have e1 : wb.drew.cell? ⟨w.heap.size, 1, none⟩ = some (.int .i64 k) := k1
  have e2 : wb.drew.cell? ⟨w.heap.size, 2, none⟩ = some (.bool zero) := k2
  have hGA := Blk.alloc HG.out (.cells #[.slice none 0 0, .int .i64 0, .bool false, .bool false] 40)
  have a0 : (wb.alloc (.cells #[.slice none 0 0, .int .i64 0, .bool false, .bool false] 40)).drew.cell? ⟨w.heap.size, 0, none⟩ = some (.slice (some ⟨b2, o2, none⟩) 4 c') := hGA.cell 0 _ rfl
  have a1 : (wb.alloc (.cells #[.slice none 0 0, .int .i64 0, .bool false, .bool false] 40)).drew.cell? ⟨w.heap.size, 1, none⟩ = some (.int .i64 k) := hGA.cell 1 _ rfl
  have a2 : (wb.alloc (.cells #[.slice none 0 0, .int .i64 0, .bool false, .bool false] 40)).drew.cell? ⟨w.heap.size, 2, none⟩ = some (.bool zero) := hGA.cell 2 _ rfl
  clear hGA
  go_enter Tryd.func59, Tryd.ntmps59
  go_upto_region 1 with fail
  rw [HWB.out]
  clear HWB
  go_cut [5] from 9 to 16 (fun p wx => ∃ go gg cc, p = .pointer (some ⟨go, 0, none⟩) ∧ AtCopy w wx b2 o2 c' k zero st rs go gg cc)
  case first =>
    go_region_held3 (fun w' => w'.cell? ⟨w.heap.size, 0, none⟩ = some (.slice (some ⟨b2, o2, none⟩) 4 c') ∧ w'.cell? ⟨w.heap.size, 1, none⟩ = some (.int .i64 k) ∧ w'.cell? ⟨w.heap.size, 2, none⟩ = some (.bool zero)) (first | (with_reducible exact ⟨e0, e1, e2⟩) | (with_reducible exact ⟨k0, k1, k2⟩) | (with_reducible exact ⟨a0, a1, a2⟩) | (with_reducible exact ⟨m0, m1, m2⟩) | (with_reducible exact ⟨s0, s1, s2⟩))
      (first
        | (go_at_call 58; (with_reducible refine (l1Own_some b2 o2 4 c' _ rs wb.drew HR1.out.drew (by omega) (by omega)).mono ?_); rintro e w1 ⟨gg, cc, rfl, hown, hb⟩; replace hb : Below wb.heap.size wb w1 := (below_dr wb).trans hb; have HG2 := Lib.hid (Blk.kept hb HG.out); have HR2 := Lib.hid (Blk.kept hb HR.out); have hgg : wb.heap.size ≤ gg := (hown.lt gg rfl).1; have hgl : gg < w1.heap.size := (hown.lt gg rfl).2; have HO := Lib.hid (own_mono hown (b' := w.heap.size) (HW.out).size); have hs := hb.size; have HW2 := Lib.hid (below_then HW.out hb); clear hown hb; replace k0 : w1.cell? ⟨w.heap.size, 0, none⟩ = some (.slice (some ⟨b2, o2, none⟩) 4 c') := HG2.out.cell 0 _ rfl; replace k1 : w1.cell? ⟨w.heap.size, 1, none⟩ = some (.int .i64 k) := HG2.out.cell 1 _ rfl; replace k2 : w1.cell? ⟨w.heap.size, 2, none⟩ = some (.bool zero) := HG2.out.cell 2 _ rfl; have HGm := Lib.hid (Blk.alloc HG2.out (.cells #[.slice none 0 0, .int .i64 0, .bool false, .bool false] 40)); have HGs := Lib.hid (Blk.alloc HG2.out (.cells #[.slice (some ⟨gg, 0, none⟩) 4 cc, .int .i64 k, .bool zero, .bool false] 40)); have m0 : (w1.alloc (.cells #[.slice none 0 0, .int .i64 0, .bool false, .bool false] 40)).cell? ⟨w.heap.size, 0, none⟩ = some (.slice (some ⟨b2, o2, none⟩) 4 c') := HGm.out.cell 0 _ rfl; have m1 : (w1.alloc (.cells #[.slice none 0 0, .int .i64 0, .bool false, .bool false] 40)).cell? ⟨w.heap.size, 1, none⟩ = some (.int .i64 k) := HGm.out.cell 1 _ rfl; have m2 : (w1.alloc (.cells #[.slice none 0 0, .int .i64 0, .bool false, .bool false] 40)).cell? ⟨w.heap.size, 2, none⟩ = some (.bool zero) := HGm.out.cell 2 _ rfl; have s0 : (w1.alloc (.cells #[.slice (some ⟨gg, 0, none⟩) 4 cc, .int .i64 k, .bool zero, .bool false] 40)).cell? ⟨w.heap.size, 0, none⟩ = some (.slice (some ⟨b2, o2, none⟩) 4 c') := HGs.out.cell 0 _ rfl; have s1 : (w1.alloc (.cells #[.slice (some ⟨gg, 0, none⟩) 4 cc, .int .i64 k, .bool zero, .bool false] 40)).cell? ⟨w.heap.size, 1, none⟩ = some (.int .i64 k) := HGs.out.cell 1 _ rfl; have s2 : (w1.alloc (.cells #[.slice (some ⟨gg, 0, none⟩) 4 cc, .int .i64 k, .bool zero, .bool false] 40)).cell? ⟨w.heap.size, 2, none⟩ = some (.bool zero) := HGs.out.cell 2 _ rfl)
        | (go_at_call 58; have HGa := Blk.alloc HG.out (.cells #[.slice none 0 0, .int .i64 0, .bool false, .bool false] 40); have HRa := Blk.alloc HR.out (.cells #[.slice none 0 0, .int .i64 0, .bool false, .bool false] 40); have HOa := Blk.new wb #[.slice none 0 0, .int .i64 0, .bool false, .bool false] 40; have hra := HR1.out.alloc (Nat.le_refl _) (.cells #[.slice none 0 0, .int .i64 0, .bool false, .bool false] 40); have hba := below_more HW.out (.cells #[.slice none 0 0, .int .i64 0, .bool false, .bool false] 40); (with_reducible refine (l1Own_some b2 o2 4 c' _ rs (wb.alloc (.cells #[.slice none 0 0, .int .i64 0, .bool false, .bool false] 40)).drew hra.drew (by omega) (by omega)).mono ?_); rintro e w1 ⟨gg, cc, rfl, hown, hb⟩; replace hb : Below (wb.alloc (.cells #[.slice none 0 0, .int .i64 0, .bool false, .bool false] 40)).heap.size (wb.alloc (.cells #[.slice none 0 0, .int .i64 0, .bool false, .bool false] 40)) w1 := (below_dr (wb.alloc (.cells #[.slice none 0 0, .int .i64 0, .bool false, .bool false] 40))).trans hb; have HG2 := Lib.hid (Blk.kept hb HGa); have HR2 := Lib.hid (Blk.kept hb HRa); have HO2 := Lib.hid (Blk.kept hb HOa); have hgg : (wb.alloc (.cells #[.slice none 0 0, .int .i64 0, .bool false, .bool false] 40)).heap.size ≤ gg := (hown.lt gg rfl).1; have hgl : gg < w1.heap.size := (hown.lt gg rfl).2; have HO := Lib.hid (own_mono hown (b' := w.heap.size) (hba).size); have hs := hb.size; have HW2 := Lib.hid (below_then hba hb); clear hown hb; replace k0 : w1.cell? ⟨w.heap.size, 0, none⟩ = some (.slice (some ⟨b2, o2, none⟩) 4 c') := HG2.out.cell 0 _ rfl; replace k1 : w1.cell? ⟨w.heap.size, 1, none⟩ = some (.int .i64 k) := HG2.out.cell 1 _ rfl; replace k2 : w1.cell? ⟨w.heap.size, 2, none⟩ = some (.bool zero) := HG2.out.cell 2 _ rfl; have f0 := HO2.out.free 0; have f1 := HO2.out.free 1; have f2 := HO2.out.free 2; have f3 := HO2.out.free 3; have d0 := HO2.out.cell 0 _ rfl; have d1 := HO2.out.cell 1 _ rfl; have d2 := HO2.out.cell 2 _ rfl; have d3 := HO2.out.cell 3 _ rfl; have hne : ¬ (w.heap.size = wb.heap.size) := (by have := HSZ.out; omega); have HGs := Lib.hid (Blk.other (Blk.other (Blk.other (Blk.other HG2.out (.slice (some ⟨gg, 0, none⟩) 4 cc) (g' := wb.heap.size) (j := 0) hne) (.int .i64 k) (g' := wb.heap.size) (j := 1) hne) (.bool zero) (g' := wb.heap.size) (j := 2) hne) (.bool false) (g' := wb.heap.size) (j := 3) hne); have s0 : ((((w1.setCell ⟨wb.heap.size, 0, none⟩ (.slice (some ⟨gg, 0, none⟩) 4 cc)).setCell ⟨wb.heap.size, 1, none⟩ (.int .i64 k)).setCell ⟨wb.heap.size, 2, none⟩ (.bool zero)).setCell ⟨wb.heap.size, 3, none⟩ (.bool false)).cell? ⟨w.heap.size, 0, none⟩ = some (.slice (some ⟨b2, o2, none⟩) 4 c') := HGs.out.cell 0 _ rfl; have s1 : ((((w1.setCell ⟨wb.heap.size, 0, none⟩ (.slice (some ⟨gg, 0, none⟩) 4 cc)).setCell ⟨wb.heap.size, 1, none⟩ (.int .i64 k)).setCell ⟨wb.heap.size, 2, none⟩ (.bool zero)).setCell ⟨wb.heap.size, 3, none⟩ (.bool false)).cell? ⟨w.heap.size, 1, none⟩ = some (.int .i64 k) := HGs.out.cell 1 _ rfl; have s2 : ((((w1.setCell ⟨wb.heap.size, 0, none⟩ (.slice (some ⟨gg, 0, none⟩) 4 cc)).setCell ⟨wb.heap.size, 1, none⟩ (.int .i64 k)).setCell ⟨wb.heap.size, 2, none⟩ (.bool zero)).setCell ⟨wb.heap.size, 3, none⟩ (.bool false)).cell? ⟨w.heap.size, 2, none⟩ = some (.bool zero) := HGs.out.cell 2 _ rfl))
    all_goals (go_wp2_with fail; go_meet)
    all_goals have hsz := HSZ.out
    · case rel =>
      exact ⟨w1.heap.size, gg, cc, rfl, ⟨Blk.new _ _ _, Blk.alloc HG2.out _, Blk.alloc HR2.out _, own_more HO.out _, below_more HW2.out _, by omega⟩⟩
    · case rel =>
      rw [size1] at hgg
      have hnB : (Value.slice (some ⟨gg, 0, none⟩) 4 cc).ownBlock ≠ some wb.heap.size := by
        intro e
        injection e with e
        simp only at e
        omega
      exact ⟨wb.heap.size, gg, cc, rfl, ⟨(Blk.set (Blk.set (Blk.set (Blk.set HO2.out 0 (.slice (some ⟨gg, 0, none⟩) 4 cc)) 1 (.int .i64 k)) 2 (.bool zero)) 3 (.bool false)), (Blk.other (Blk.other (Blk.other (Blk.other HG2.out (.slice (some ⟨gg, 0, none⟩) 4 cc) (g' := wb.heap.size) (j := 0) (by omega)) (.int .i64 k) (g' := wb.heap.size) (j := 1) (by omega)) (.bool zero) (g' := wb.heap.size) (j := 2) (by omega)) (.bool false) (g' := wb.heap.size) (j := 3) (by omega)), (Blk.other (Blk.other (Blk.other (Blk.other HR2.out (.slice (some ⟨gg, 0, none⟩) 4 cc) (g' := wb.heap.size) (j := 0) (by omega)) (.int .i64 k) (g' := wb.heap.size) (j := 1) (by omega)) (.bool zero) (g' := wb.heap.size) (j := 2) (by omega)) (.bool false) (g' := wb.heap.size) (j := 3) (by omega)), (own_set (own_set (own_set (own_set HO.out (.slice (some ⟨gg, 0, none⟩) 4 cc) (g := wb.heap.size) (j := 0) hnB) (.int .i64 k) (g := wb.heap.size) (j := 1) hnB) (.bool zero) (g := wb.heap.size) (j := 2) hnB) (.bool false) (g := wb.heap.size) (j := 3) hnB), (below_set (below_set (below_set (below_set HW2.out (g := wb.heap.size) (j := 0) (by omega) (.slice (some ⟨gg, 0, none⟩) 4 cc)) (g := wb.heap.size) (j := 1) (by omega) (.int .i64 k)) (g := wb.heap.size) (j := 2) (by omega) (.bool zero)) (g := wb.heap.size) (j := 3) (by omega) (.bool false)), by omega⟩⟩
  case rest =>
    obtain ⟨go, gg, cc, rfl, HC⟩ := hcut
    have HG := Lib.hid HC.arg
    have HR := Lib.hid HC.res
    have HOUT := Lib.hid HC.out
    have HO := Lib.hid HC.own
    have HW := Lib.hid HC.below
    have hgo := HC.ord
    have hgol := HC.out.lt
    have hgl := (HC.own.lt gg rfl).2
    have hs1 := HC.arg.lt
    have hs2 := HC.res.lt
    have hb4 : b2 < wc.heap.size := Nat.lt_of_lt_of_le hb2 HC.below.size
    obtain ⟨b1, o1, y, rfl, hb1, hy, c0, c1, c2, c3⟩ := ins_at (HP1.out.below HC.below) hk
    have hb3 : b1 < wc.heap.size := Nat.lt_of_lt_of_le hb1 HC.below.size
    obtain rfl : y = ⟨0, xa, xb, xn⟩ := by rw [HX.out] at hy; exact (Option.some.inj hy).symm
    have hA' := fun j u hu => (HC.below.cell (p := ⟨b2, o2 + j, none⟩) hb2).trans (HCE.out j u hu)
    have HA := Lib.hid hA'
    clear hy HP1 HC e0 e1 e2 a0 a1 a2 HR1 hA'
    have hnG : (Value.slice (some ⟨gg, 0, none⟩) 4 cc).ownBlock ≠ some w.heap.size := by
      intro e
      injection e with e
      simp only at e
      omega
    have hnR : (Value.slice (some ⟨gg, 0, none⟩) 4 cc).ownBlock ≠ some (w.heap.size + 1) := by
      intro e
      injection e with e
      simp only at e
      omega
    have hnO : (Value.slice (some ⟨gg, 0, none⟩) 4 cc).ownBlock ≠ some go := by
      intro e
      injection e with e
      simp only at e
      omega
    have k0 := HG.out.cell 0 _ rfl
    have k1 := HG.out.cell 1 _ rfl
    have k2 := HG.out.cell 2 _ rfl
    have k3 := HG.out.cell 3 _ rfl
    have r0 := HR.out.cell 0 _ rfl
    have r1 := HR.out.cell 1 _ rfl
    have r2 := HR.out.cell 2 _ rfl
    have r3 := HR.out.cell 3 _ rfl
    have fr0 := HR.out.free 0
    have fr1 := HR.out.free 1
    have fr2 := HR.out.free 2
    have fr3 := HR.out.free 3
    have p0 := HOUT.out.cell 0 _ rfl
    have p1 := HOUT.out.cell 1 _ rfl
    have p2 := HOUT.out.cell 2 _ rfl
    have p3 := HOUT.out.cell 3 _ rfl
    have fp0 := HOUT.out.free 0
    have fp1 := HOUT.out.free 1
    have fp2 := HOUT.out.free 2
    have fp3 := HOUT.out.free 3
    have hx1 : ¬ (w.heap.size = go) := by omega
    have hx2 : ¬ (w.heap.size + 1 = go) := by omega
    have hx3 : ¬ (go = w.heap.size) := by omega
    have hx4 : ¬ (go = w.heap.size + 1) := by omega
    have hst : stepOf xs ⟨rs, k, zero, st⟩ = ⟨rs, k, zero, true⟩ := by
      unfold stepOf nextOf
      simp only [HGET.out]
      simp
    have HST := Lib.hid hst
    clear hst
    go_wp2_with fail
    have hZ := (Blk.alloc (Blk.set (Blk.set (Blk.set (Blk.set (Blk.other HR.out (.bool true) (g' := go) (j := 3) (by omega)) 0 (.slice (some ⟨gg, 0, none⟩) 4 cc)) 1 (.int .i64 k)) 2 (.bool zero)) 3 (.bool true)) (.cells #[.int .i64 0, .int .i64 xa, .int .i64 xb, .int .i64 xn] 25))
    have hY := (own_more (own_set (own_set (own_set (own_set (own_set HO.out (.bool true) (g := go) (j := 3) hnO) (.slice (some ⟨gg, 0, none⟩) 4 cc) (g := w.heap.size + 1) (j := 0) hnR) (.int .i64 k) (g := w.heap.size + 1) (j := 1) hnR) (.bool zero) (g := w.heap.size + 1) (j := 2) hnR) (.bool true) (g := w.heap.size + 1) (j := 3) hnR) (.cells #[.int .i64 0, .int .i64 xa, .int .i64 xb, .int .i64 xn] 25))
    have hX := (below_more (below_set (below_set (below_set (below_set (below_set HW.out (g := go) (j := 3) (by omega) (.bool true)) (g := w.heap.size + 1) (j := 0) (by omega) (.slice (some ⟨gg, 0, none⟩) 4 cc)) (g := w.heap.size + 1) (j := 1) (by omega) (.int .i64 k)) (g := w.heap.size + 1) (j := 2) (by omega) (.bool zero)) (g := w.heap.size + 1) (j := 3) (by omega) (.bool true)) (.cells #[.int .i64 0, .int .i64 xa, .int .i64 xb, .int .i64 xn] 25))
    have HZ := Lib.hid hZ
    have HY := Lib.hid hY
    have HXX := Lib.hid hX
    clear hZ hY hX k0 k1 k2 k3 r0 r1 r2 r3 fr0 fr1 fr2 fr3 p0 p1 p2 p3 fp0 fp1 fp2 fp3
    revert HZ HY HXX
    generalize ((((((wc.setCell _ _).setCell _ _).setCell _ _).setCell _ _).setCell _ _).alloc _) = wz
    intro HZ HY HXX
    have z0 : wz.cell? ⟨w.heap.size + 1, 0, none⟩ = some (.slice (some ⟨gg, 0, none⟩) 4 cc) := HZ.out.cell 0 _ rfl
    have z1 : wz.cell? ⟨w.heap.size + 1, 1, none⟩ = some (.int .i64 k) := HZ.out.cell 1 _ rfl
    have z2 : wz.cell? ⟨w.heap.size + 1, 2, none⟩ = some (.bool zero) := HZ.out.cell 2 _ rfl
    have z3 : wz.cell? ⟨w.heap.size + 1, 3, none⟩ = some (.bool true) := HZ.out.cell 3 _ rfl
    refine l3Step_ret rfl rfl z0 z1 z2 z3 ⟨gg, cc, ?_, ?_, HXX.out⟩
    · rw [HST.out]
    · rw [HST.out]; exact HY.out
set_option maxRecDepth 100000 in
set_option maxHeartbeats 1600000 in
theorem l3Step_trap (A A' : Option Addr) (n c c' : Nat) (xs : List Ins) (rs : List Int) (k : Nat) (zero st : Bool) (xa xb xn : Int) (w : World) (hr : Reads w w.heap.size 4 A n (FL xs)) (hn : n ≤ 1048576) (hr' : Reads w w.heap.size 1 A' 4 (I rs))
    (hk : k < n) (hx : xs[k]? = some ⟨9, xa, xb, xn⟩) (hok : Ok ⟨9, xa, xb, xn⟩) (hrs : ∀ z ∈ rs, 0 ≤ z ∧ z ≤ 65535)  :
    Calls Tryd.prog 59 #[.slice A n c, .agg #[.slice A' 4 c', .int .i64 k, .bool zero, .bool st]] w fun e w' => ∃ gg cc, e = .returned (.agg #[.slice (some ⟨gg, 0, none⟩) 4 cc, .int .i64 (stepOf xs ⟨rs, k, zero, st⟩).place, .bool (stepOf xs ⟨rs, k, zero, st⟩).zero, .bool (stepOf xs ⟨rs, k, zero, st⟩).stopped]) ∧
      w'.ownsRow w.heap.size 3 1 (.slice (some ⟨gg, 0, none⟩) 4 cc) 4 (I (stepOf xs ⟨rs, k, zero, st⟩).r) ∧ Below w.heap.size w w' := by
  obtain ⟨b2, o2, rfl, hb2, hcells⟩ := hr'.2 (by omega)
  have hL : xs.length = n := reads_len hr
  have hget : xs.getD ((k : Int).toNat) default = ⟨9, xa, xb, xn⟩ := by rw [Int.toNat_natCast, List.getD, hx]; rfl
  have HCE := Lib.hid hcells
  clear hcells
  have HGET := Lib.hid hget
  have HL := Lib.hid hL
  have hxn := hok.2.2.2.1
  simp only at hxn
  obtain ⟨wb, hwb⟩ : ∃ wb, (w.alloc (.cells #[.slice (some ⟨b2, o2, none⟩) 4 c', .int .i64 k, .bool zero, .bool st] 40)).alloc (.cells #[.slice none 0 0, .int .i64 0, .bool false, .bool false] 40) = wb := ⟨_, rfl⟩
  have hb0 : Below w.heap.size w wb := by rw [← hwb]; exact below_more (below_more (Below.refl w.heap.size w) _) _
  have hsz : wb.heap.size = w.heap.size + 1 + 1 := by rw [← hwb, size1, size1]
  have HR1 := Lib.hid ((hr'.below hb0).more hb0.size)
  have HP1 := Lib.hid hr
  have hG : Blk wb w.heap.size 40 #[.slice (some ⟨b2, o2, none⟩) 4 c', .int .i64 k, .bool zero, .bool st] := by rw [← hwb]; exact Blk.alloc (Blk.new _ _ _) _
  have hR : Blk wb (w.heap.size + 1) 40 #[.slice none 0 0, .int .i64 0, .bool false, .bool false] := by
    rw [← hwb]
    have h := Blk.new (w.alloc (.cells #[.slice (some ⟨b2, o2, none⟩) 4 c', .int .i64 k, .bool zero, .bool st] 40)) #[.slice none 0 0, .int .i64 0, .bool false, .bool false] 40
    rwa [size1] at h
  have HG := Lib.hid hG
  have HR := Lib.hid hR
  have HX := Lib.hid hx
  have HRS := Lib.hid hrs
  have HW := Lib.hid hb0
  have HWB := Lib.hid hwb
  have hlen := hr'.len
  rw [I_len] at hlen
  have HLEN := Lib.hid hlen
  have k0 := HG.out.cell 0 _ rfl
  have k1 := HG.out.cell 1 _ rfl
  have k2 := HG.out.cell 2 _ rfl
  have HSZ := Lib.hid hsz
  clear hr hr' hb0 hx hrs hget hlen hG hR hwb hsz
  have _ := hok
  have e0 : wb.drew.cell? ⟨w.heap.size, 0, none⟩ = some (.slice (some ⟨b2, o2, none⟩) 4 c') := k0
  have e1 : wb.drew.cell? ⟨w.heap.size, 1, none⟩ = some (.int .i64 k) := k1
  have e2 : wb.drew.cell? ⟨w.heap.size, 2, none⟩ = some (.bool zero) := k2
  have hGA := Blk.alloc HG.out (.cells #[.slice none 0 0, .int .i64 0, .bool false, .bool false] 40)
  have a0 : (wb.alloc (.cells #[.slice none 0 0, .int .i64 0, .bool false, .bool false] 40)).drew.cell? ⟨w.heap.size, 0, none⟩ = some (.slice (some ⟨b2, o2, none⟩) 4 c') := hGA.cell 0 _ rfl
  have a1 : (wb.alloc (.cells #[.slice none 0 0, .int .i64 0, .bool false, .bool false] 40)).drew.cell? ⟨w.heap.size, 1, none⟩ = some (.int .i64 k) := hGA.cell 1 _ rfl
  have a2 : (wb.alloc (.cells #[.slice none 0 0, .int .i64 0, .bool false, .bool false] 40)).drew.cell? ⟨w.heap.size, 2, none⟩ = some (.bool zero) := hGA.cell 2 _ rfl
  clear hGA
  go_enter Tryd.func59, Tryd.ntmps59
  go_upto_region 1 with fail
  rw [HWB.out]
  clear HWB
  go_cut [5] from 9 to 16 (fun p wx => ∃ go gg cc, p = .pointer (some ⟨go, 0, none⟩) ∧ AtCopy w wx b2 o2 c' k zero st rs go gg cc)
  case first =>
    go_region_held3 (fun w' => w'.cell? ⟨w.heap.size, 0, none⟩ = some (.slice (some ⟨b2, o2, none⟩) 4 c') ∧ w'.cell? ⟨w.heap.size, 1, none⟩ = some (.int .i64 k) ∧ w'.cell? ⟨w.heap.size, 2, none⟩ = some (.bool zero)) (first | (with_reducible exact ⟨e0, e1, e2⟩) | (with_reducible exact ⟨k0, k1, k2⟩) | (with_reducible exact ⟨a0, a1, a2⟩) | (with_reducible exact ⟨m0, m1, m2⟩) | (with_reducible exact ⟨s0, s1, s2⟩))
      (first
        | (go_at_call 58; (with_reducible refine (l1Own_some b2 o2 4 c' _ rs wb.drew HR1.out.drew (by omega) (by omega)).mono ?_); rintro e w1 ⟨gg, cc, rfl, hown, hb⟩; replace hb : Below wb.heap.size wb w1 := (below_dr wb).trans hb; have HG2 := Lib.hid (Blk.kept hb HG.out); have HR2 := Lib.hid (Blk.kept hb HR.out); have hgg : wb.heap.size ≤ gg := (hown.lt gg rfl).1; have hgl : gg < w1.heap.size := (hown.lt gg rfl).2; have HO := Lib.hid (own_mono hown (b' := w.heap.size) (HW.out).size); have hs := hb.size; have HW2 := Lib.hid (below_then HW.out hb); clear hown hb; replace k0 : w1.cell? ⟨w.heap.size, 0, none⟩ = some (.slice (some ⟨b2, o2, none⟩) 4 c') := HG2.out.cell 0 _ rfl; replace k1 : w1.cell? ⟨w.heap.size, 1, none⟩ = some (.int .i64 k) := HG2.out.cell 1 _ rfl; replace k2 : w1.cell? ⟨w.heap.size, 2, none⟩ = some (.bool zero) := HG2.out.cell 2 _ rfl; have HGm := Lib.hid (Blk.alloc HG2.out (.cells #[.slice none 0 0, .int .i64 0, .bool false, .bool false] 40)); have HGs := Lib.hid (Blk.alloc HG2.out (.cells #[.slice (some ⟨gg, 0, none⟩) 4 cc, .int .i64 k, .bool zero, .bool false] 40)); have m0 : (w1.alloc (.cells #[.slice none 0 0, .int .i64 0, .bool false, .bool false] 40)).cell? ⟨w.heap.size, 0, none⟩ = some (.slice (some ⟨b2, o2, none⟩) 4 c') := HGm.out.cell 0 _ rfl; have m1 : (w1.alloc (.cells #[.slice none 0 0, .int .i64 0, .bool false, .bool false] 40)).cell? ⟨w.heap.size, 1, none⟩ = some (.int .i64 k) := HGm.out.cell 1 _ rfl; have m2 : (w1.alloc (.cells #[.slice none 0 0, .int .i64 0, .bool false, .bool false] 40)).cell? ⟨w.heap.size, 2, none⟩ = some (.bool zero) := HGm.out.cell 2 _ rfl; have s0 : (w1.alloc (.cells #[.slice (some ⟨gg, 0, none⟩) 4 cc, .int .i64 k, .bool zero, .bool false] 40)).cell? ⟨w.heap.size, 0, none⟩ = some (.slice (some ⟨b2, o2, none⟩) 4 c') := HGs.out.cell 0 _ rfl; have s1 : (w1.alloc (.cells #[.slice (some ⟨gg, 0, none⟩) 4 cc, .int .i64 k, .bool zero, .bool false] 40)).cell? ⟨w.heap.size, 1, none⟩ = some (.int .i64 k) := HGs.out.cell 1 _ rfl; have s2 : (w1.alloc (.cells #[.slice (some ⟨gg, 0, none⟩) 4 cc, .int .i64 k, .bool zero, .bool false] 40)).cell? ⟨w.heap.size, 2, none⟩ = some (.bool zero) := HGs.out.cell 2 _ rfl)
        | (go_at_call 58; have HGa := Blk.alloc HG.out (.cells #[.slice none 0 0, .int .i64 0, .bool false, .bool false] 40); have HRa := Blk.alloc HR.out (.cells #[.slice none 0 0, .int .i64 0, .bool false, .bool false] 40); have HOa := Blk.new wb #[.slice none 0 0, .int .i64 0, .bool false, .bool false] 40; have hra := HR1.out.alloc (Nat.le_refl _) (.cells #[.slice none 0 0, .int .i64 0, .bool false, .bool false] 40); have hba := below_more HW.out (.cells #[.slice none 0 0, .int .i64 0, .bool false, .bool false] 40); (with_reducible refine (l1Own_some b2 o2 4 c' _ rs (wb.alloc (.cells #[.slice none 0 0, .int .i64 0, .bool false, .bool false] 40)).drew hra.drew (by omega) (by omega)).mono ?_); rintro e w1 ⟨gg, cc, rfl, hown, hb⟩; replace hb : Below (wb.alloc (.cells #[.slice none 0 0, .int .i64 0, .bool false, .bool false] 40)).heap.size (wb.alloc (.cells #[.slice none 0 0, .int .i64 0, .bool false, .bool false] 40)) w1 := (below_dr (wb.alloc (.cells #[.slice none 0 0, .int .i64 0, .bool false, .bool false] 40))).trans hb; have HG2 := Lib.hid (Blk.kept hb HGa); have HR2 := Lib.hid (Blk.kept hb HRa); have HO2 := Lib.hid (Blk.kept hb HOa); have hgg : (wb.alloc (.cells #[.slice none 0 0, .int .i64 0, .bool false, .bool false] 40)).heap.size ≤ gg := (hown.lt gg rfl).1; have hgl : gg < w1.heap.size := (hown.lt gg rfl).2; have HO := Lib.hid (own_mono hown (b' := w.heap.size) (hba).size); have hs := hb.size; have HW2 := Lib.hid (below_then hba hb); clear hown hb; replace k0 : w1.cell? ⟨w.heap.size, 0, none⟩ = some (.slice (some ⟨b2, o2, none⟩) 4 c') := HG2.out.cell 0 _ rfl; replace k1 : w1.cell? ⟨w.heap.size, 1, none⟩ = some (.int .i64 k) := HG2.out.cell 1 _ rfl; replace k2 : w1.cell? ⟨w.heap.size, 2, none⟩ = some (.bool zero) := HG2.out.cell 2 _ rfl; have f0 := HO2.out.free 0; have f1 := HO2.out.free 1; have f2 := HO2.out.free 2; have f3 := HO2.out.free 3; have d0 := HO2.out.cell 0 _ rfl; have d1 := HO2.out.cell 1 _ rfl; have d2 := HO2.out.cell 2 _ rfl; have d3 := HO2.out.cell 3 _ rfl; have hne : ¬ (w.heap.size = wb.heap.size) := (by have := HSZ.out; omega); have HGs := Lib.hid (Blk.other (Blk.other (Blk.other (Blk.other HG2.out (.slice (some ⟨gg, 0, none⟩) 4 cc) (g' := wb.heap.size) (j := 0) hne) (.int .i64 k) (g' := wb.heap.size) (j := 1) hne) (.bool zero) (g' := wb.heap.size) (j := 2) hne) (.bool false) (g' := wb.heap.size) (j := 3) hne); have s0 : ((((w1.setCell ⟨wb.heap.size, 0, none⟩ (.slice (some ⟨gg, 0, none⟩) 4 cc)).setCell ⟨wb.heap.size, 1, none⟩ (.int .i64 k)).setCell ⟨wb.heap.size, 2, none⟩ (.bool zero)).setCell ⟨wb.heap.size, 3, none⟩ (.bool false)).cell? ⟨w.heap.size, 0, none⟩ = some (.slice (some ⟨b2, o2, none⟩) 4 c') := HGs.out.cell 0 _ rfl; have s1 : ((((w1.setCell ⟨wb.heap.size, 0, none⟩ (.slice (some ⟨gg, 0, none⟩) 4 cc)).setCell ⟨wb.heap.size, 1, none⟩ (.int .i64 k)).setCell ⟨wb.heap.size, 2, none⟩ (.bool zero)).setCell ⟨wb.heap.size, 3, none⟩ (.bool false)).cell? ⟨w.heap.size, 1, none⟩ = some (.int .i64 k) := HGs.out.cell 1 _ rfl; have s2 : ((((w1.setCell ⟨wb.heap.size, 0, none⟩ (.slice (some ⟨gg, 0, none⟩) 4 cc)).setCell ⟨wb.heap.size, 1, none⟩ (.int .i64 k)).setCell ⟨wb.heap.size, 2, none⟩ (.bool zero)).setCell ⟨wb.heap.size, 3, none⟩ (.bool false)).cell? ⟨w.heap.size, 2, none⟩ = some (.bool zero) := HGs.out.cell 2 _ rfl))
    all_goals (go_wp2_with fail; go_meet)
    all_goals have hsz := HSZ.out
    · case rel =>
      exact ⟨w1.heap.size, gg, cc, rfl, ⟨Blk.new _ _ _, Blk.alloc HG2.out _, Blk.alloc HR2.out _, own_more HO.out _, below_more HW2.out _, by omega⟩⟩
    · case rel =>
      rw [size1] at hgg
      have hnB : (Value.slice (some ⟨gg, 0, none⟩) 4 cc).ownBlock ≠ some wb.heap.size := by
        intro e
        injection e with e
        simp only at e
        omega
      exact ⟨wb.heap.size, gg, cc, rfl, ⟨(Blk.set (Blk.set (Blk.set (Blk.set HO2.out 0 (.slice (some ⟨gg, 0, none⟩) 4 cc)) 1 (.int .i64 k)) 2 (.bool zero)) 3 (.bool false)), (Blk.other (Blk.other (Blk.other (Blk.other HG2.out (.slice (some ⟨gg, 0, none⟩) 4 cc) (g' := wb.heap.size) (j := 0) (by omega)) (.int .i64 k) (g' := wb.heap.size) (j := 1) (by omega)) (.bool zero) (g' := wb.heap.size) (j := 2) (by omega)) (.bool false) (g' := wb.heap.size) (j := 3) (by omega)), (Blk.other (Blk.other (Blk.other (Blk.other HR2.out (.slice (some ⟨gg, 0, none⟩) 4 cc) (g' := wb.heap.size) (j := 0) (by omega)) (.int .i64 k) (g' := wb.heap.size) (j := 1) (by omega)) (.bool zero) (g' := wb.heap.size) (j := 2) (by omega)) (.bool false) (g' := wb.heap.size) (j := 3) (by omega)), (own_set (own_set (own_set (own_set HO.out (.slice (some ⟨gg, 0, none⟩) 4 cc) (g := wb.heap.size) (j := 0) hnB) (.int .i64 k) (g := wb.heap.size) (j := 1) hnB) (.bool zero) (g := wb.heap.size) (j := 2) hnB) (.bool false) (g := wb.heap.size) (j := 3) hnB), (below_set (below_set (below_set (below_set HW2.out (g := wb.heap.size) (j := 0) (by omega) (.slice (some ⟨gg, 0, none⟩) 4 cc)) (g := wb.heap.size) (j := 1) (by omega) (.int .i64 k)) (g := wb.heap.size) (j := 2) (by omega) (.bool zero)) (g := wb.heap.size) (j := 3) (by omega) (.bool false)), by omega⟩⟩
  case rest =>
    obtain ⟨go, gg, cc, rfl, HC⟩ := hcut
    have HG := Lib.hid HC.arg
    have HR := Lib.hid HC.res
    have HOUT := Lib.hid HC.out
    have HO := Lib.hid HC.own
    have HW := Lib.hid HC.below
    have hgo := HC.ord
    have hgol := HC.out.lt
    have hgl := (HC.own.lt gg rfl).2
    have hs1 := HC.arg.lt
    have hs2 := HC.res.lt
    have hb4 : b2 < wc.heap.size := Nat.lt_of_lt_of_le hb2 HC.below.size
    obtain ⟨b1, o1, y, rfl, hb1, hy, c0, c1, c2, c3⟩ := ins_at (HP1.out.below HC.below) hk
    have hb3 : b1 < wc.heap.size := Nat.lt_of_lt_of_le hb1 HC.below.size
    obtain rfl : y = ⟨9, xa, xb, xn⟩ := by rw [HX.out] at hy; exact (Option.some.inj hy).symm
    have hA' := fun j u hu => (HC.below.cell (p := ⟨b2, o2 + j, none⟩) hb2).trans (HCE.out j u hu)
    have HA := Lib.hid hA'
    clear hy HP1 HC e0 e1 e2 a0 a1 a2 HR1 hA'
    have hnG : (Value.slice (some ⟨gg, 0, none⟩) 4 cc).ownBlock ≠ some w.heap.size := by
      intro e
      injection e with e
      simp only at e
      omega
    have hnR : (Value.slice (some ⟨gg, 0, none⟩) 4 cc).ownBlock ≠ some (w.heap.size + 1) := by
      intro e
      injection e with e
      simp only at e
      omega
    have hnO : (Value.slice (some ⟨gg, 0, none⟩) 4 cc).ownBlock ≠ some go := by
      intro e
      injection e with e
      simp only at e
      omega
    have k0 := HG.out.cell 0 _ rfl
    have k1 := HG.out.cell 1 _ rfl
    have k2 := HG.out.cell 2 _ rfl
    have k3 := HG.out.cell 3 _ rfl
    have r0 := HR.out.cell 0 _ rfl
    have r1 := HR.out.cell 1 _ rfl
    have r2 := HR.out.cell 2 _ rfl
    have r3 := HR.out.cell 3 _ rfl
    have fr0 := HR.out.free 0
    have fr1 := HR.out.free 1
    have fr2 := HR.out.free 2
    have fr3 := HR.out.free 3
    have p0 := HOUT.out.cell 0 _ rfl
    have p1 := HOUT.out.cell 1 _ rfl
    have p2 := HOUT.out.cell 2 _ rfl
    have p3 := HOUT.out.cell 3 _ rfl
    have fp0 := HOUT.out.free 0
    have fp1 := HOUT.out.free 1
    have fp2 := HOUT.out.free 2
    have fp3 := HOUT.out.free 3
    have hx1 : ¬ (w.heap.size = go) := by omega
    have hx2 : ¬ (w.heap.size + 1 = go) := by omega
    have hx3 : ¬ (go = w.heap.size) := by omega
    have hx4 : ¬ (go = w.heap.size + 1) := by omega
    by_cases hnx : (k : Int) + 1 < (n : Int)
    · have hnx2 : ¬ ((n : Int) ≤ (k : Int) + 1) := by omega
      have hst : stepOf xs ⟨rs, k, zero, st⟩ = ⟨rs, (k : Int) + 1, zero, true⟩ := by
        unfold stepOf nextOf
        simp only [HGET.out]
        simp only [HL.out]
        simp [hnx, hnx2]
      have HST := Lib.hid hst
      clear hst
      go_wp2_with fail
      have hZ := (Blk.alloc (Blk.set (Blk.set (Blk.set (Blk.set (Blk.other (Blk.other HR.out (.int .i64 ((k : Int) + 1)) (g' := go) (j := 1) (by omega)) (.bool true) (g' := go) (j := 3) (by omega)) 0 (.slice (some ⟨gg, 0, none⟩) 4 cc)) 1 (.int .i64 ((k : Int) + 1))) 2 (.bool zero)) 3 (.bool true)) (.cells #[.int .i64 9, .int .i64 xa, .int .i64 xb, .int .i64 xn] 25))
      have hY := (own_more (own_set (own_set (own_set (own_set (own_set (own_set HO.out (.int .i64 ((k : Int) + 1)) (g := go) (j := 1) hnO) (.bool true) (g := go) (j := 3) hnO) (.slice (some ⟨gg, 0, none⟩) 4 cc) (g := w.heap.size + 1) (j := 0) hnR) (.int .i64 ((k : Int) + 1)) (g := w.heap.size + 1) (j := 1) hnR) (.bool zero) (g := w.heap.size + 1) (j := 2) hnR) (.bool true) (g := w.heap.size + 1) (j := 3) hnR) (.cells #[.int .i64 9, .int .i64 xa, .int .i64 xb, .int .i64 xn] 25))
      have hX := (below_more (below_set (below_set (below_set (below_set (below_set (below_set HW.out (g := go) (j := 1) (by omega) (.int .i64 ((k : Int) + 1))) (g := go) (j := 3) (by omega) (.bool true)) (g := w.heap.size + 1) (j := 0) (by omega) (.slice (some ⟨gg, 0, none⟩) 4 cc)) (g := w.heap.size + 1) (j := 1) (by omega) (.int .i64 ((k : Int) + 1))) (g := w.heap.size + 1) (j := 2) (by omega) (.bool zero)) (g := w.heap.size + 1) (j := 3) (by omega) (.bool true)) (.cells #[.int .i64 9, .int .i64 xa, .int .i64 xb, .int .i64 xn] 25))
      have HZ := Lib.hid hZ
      have HY := Lib.hid hY
      have HXX := Lib.hid hX
      clear hZ hY hX k0 k1 k2 k3 r0 r1 r2 r3 fr0 fr1 fr2 fr3 p0 p1 p2 p3 fp0 fp1 fp2 fp3
      revert HZ HY HXX
      generalize (((((((wc.setCell _ _).setCell _ _).setCell _ _).setCell _ _).setCell _ _).setCell _ _).alloc _) = wz
      intro HZ HY HXX
      have z0 : wz.cell? ⟨w.heap.size + 1, 0, none⟩ = some (.slice (some ⟨gg, 0, none⟩) 4 cc) := HZ.out.cell 0 _ rfl
      have z1 : wz.cell? ⟨w.heap.size + 1, 1, none⟩ = some (.int .i64 ((k : Int) + 1)) := HZ.out.cell 1 _ rfl
      have z2 : wz.cell? ⟨w.heap.size + 1, 2, none⟩ = some (.bool zero) := HZ.out.cell 2 _ rfl
      have z3 : wz.cell? ⟨w.heap.size + 1, 3, none⟩ = some (.bool true) := HZ.out.cell 3 _ rfl
      refine l3Step_ret rfl rfl z0 z1 z2 z3 ⟨gg, cc, ?_, ?_, HXX.out⟩
      · rw [HST.out]
      · rw [HST.out]; exact HY.out
    · have hnx2 : (n : Int) ≤ (k : Int) + 1 := by omega
      have hst : stepOf xs ⟨rs, k, zero, st⟩ = ⟨rs, k, zero, true⟩ := by
        unfold stepOf nextOf
        simp only [HGET.out]
        simp only [HL.out]
        simp [hnx, hnx2]
      have HST := Lib.hid hst
      clear hst
      go_wp2_with fail
      have hZ := (Blk.alloc (Blk.set (Blk.set (Blk.set (Blk.set (Blk.other HR.out (.bool true) (g' := go) (j := 3) (by omega)) 0 (.slice (some ⟨gg, 0, none⟩) 4 cc)) 1 (.int .i64 k)) 2 (.bool zero)) 3 (.bool true)) (.cells #[.int .i64 9, .int .i64 xa, .int .i64 xb, .int .i64 xn] 25))
      have hY := (own_more (own_set (own_set (own_set (own_set (own_set HO.out (.bool true) (g := go) (j := 3) hnO) (.slice (some ⟨gg, 0, none⟩) 4 cc) (g := w.heap.size + 1) (j := 0) hnR) (.int .i64 k) (g := w.heap.size + 1) (j := 1) hnR) (.bool zero) (g := w.heap.size + 1) (j := 2) hnR) (.bool true) (g := w.heap.size + 1) (j := 3) hnR) (.cells #[.int .i64 9, .int .i64 xa, .int .i64 xb, .int .i64 xn] 25))
      have hX := (below_more (below_set (below_set (below_set (below_set (below_set HW.out (g := go) (j := 3) (by omega) (.bool true)) (g := w.heap.size + 1) (j := 0) (by omega) (.slice (some ⟨gg, 0, none⟩) 4 cc)) (g := w.heap.size + 1) (j := 1) (by omega) (.int .i64 k)) (g := w.heap.size + 1) (j := 2) (by omega) (.bool zero)) (g := w.heap.size + 1) (j := 3) (by omega) (.bool true)) (.cells #[.int .i64 9, .int .i64 xa, .int .i64 xb, .int .i64 xn] 25))
      have HZ := Lib.hid hZ
      have HY := Lib.hid hY
      have HXX := Lib.hid hX
      clear hZ hY hX k0 k1 k2 k3 r0 r1 r2 r3 fr0 fr1 fr2 fr3 p0 p1 p2 p3 fp0 fp1 fp2 fp3
      revert HZ HY HXX
      generalize ((((((wc.setCell _ _).setCell _ _).setCell _ _).setCell _ _).setCell _ _).alloc _) = wz
      intro HZ HY HXX
      have z0 : wz.cell? ⟨w.heap.size + 1, 0, none⟩ = some (.slice (some ⟨gg, 0, none⟩) 4 cc) := HZ.out.cell 0 _ rfl
      have z1 : wz.cell? ⟨w.heap.size + 1, 1, none⟩ = some (.int .i64 k) := HZ.out.cell 1 _ rfl
      have z2 : wz.cell? ⟨w.heap.size + 1, 2, none⟩ = some (.bool zero) := HZ.out.cell 2 _ rfl
      have z3 : wz.cell? ⟨w.heap.size + 1, 3, none⟩ = some (.bool true) := HZ.out.cell 3 _ rfl
      refine l3Step_ret rfl rfl z0 z1 z2 z3 ⟨gg, cc, ?_, ?_, HXX.out⟩
      · rw [HST.out]
      · rw [HST.out]; exact HY.out
set_option maxRecDepth 100000 in
set_option maxHeartbeats 1600000 in
theorem l3Step_jump (A A' : Option Addr) (n c c' : Nat) (xs : List Ins) (rs : List Int) (k : Nat) (zero st : Bool) (xa xb xn : Int) (w : World) (hr : Reads w w.heap.size 4 A n (FL xs)) (hn : n ≤ 1048576) (hr' : Reads w w.heap.size 1 A' 4 (I rs))
    (hk : k < n) (hx : xs[k]? = some ⟨7, xa, xb, xn⟩) (hok : Ok ⟨7, xa, xb, xn⟩) (hrs : ∀ z ∈ rs, 0 ≤ z ∧ z ≤ 65535)  :
    Calls Tryd.prog 59 #[.slice A n c, .agg #[.slice A' 4 c', .int .i64 k, .bool zero, .bool st]] w fun e w' => ∃ gg cc, e = .returned (.agg #[.slice (some ⟨gg, 0, none⟩) 4 cc, .int .i64 (stepOf xs ⟨rs, k, zero, st⟩).place, .bool (stepOf xs ⟨rs, k, zero, st⟩).zero, .bool (stepOf xs ⟨rs, k, zero, st⟩).stopped]) ∧
      w'.ownsRow w.heap.size 3 1 (.slice (some ⟨gg, 0, none⟩) 4 cc) 4 (I (stepOf xs ⟨rs, k, zero, st⟩).r) ∧ Below w.heap.size w w' := by
  obtain ⟨b2, o2, rfl, hb2, hcells⟩ := hr'.2 (by omega)
  have hL : xs.length = n := reads_len hr
  have hget : xs.getD ((k : Int).toNat) default = ⟨7, xa, xb, xn⟩ := by rw [Int.toNat_natCast, List.getD, hx]; rfl
  have HCE := Lib.hid hcells
  clear hcells
  have HGET := Lib.hid hget
  have HL := Lib.hid hL
  have hxn := hok.2.2.2.1
  simp only at hxn
  obtain ⟨wb, hwb⟩ : ∃ wb, (w.alloc (.cells #[.slice (some ⟨b2, o2, none⟩) 4 c', .int .i64 k, .bool zero, .bool st] 40)).alloc (.cells #[.slice none 0 0, .int .i64 0, .bool false, .bool false] 40) = wb := ⟨_, rfl⟩
  have hb0 : Below w.heap.size w wb := by rw [← hwb]; exact below_more (below_more (Below.refl w.heap.size w) _) _
  have hsz : wb.heap.size = w.heap.size + 1 + 1 := by rw [← hwb, size1, size1]
  have HR1 := Lib.hid ((hr'.below hb0).more hb0.size)
  have HP1 := Lib.hid hr
  have hG : Blk wb w.heap.size 40 #[.slice (some ⟨b2, o2, none⟩) 4 c', .int .i64 k, .bool zero, .bool st] := by rw [← hwb]; exact Blk.alloc (Blk.new _ _ _) _
  have hR : Blk wb (w.heap.size + 1) 40 #[.slice none 0 0, .int .i64 0, .bool false, .bool false] := by
    rw [← hwb]
    have h := Blk.new (w.alloc (.cells #[.slice (some ⟨b2, o2, none⟩) 4 c', .int .i64 k, .bool zero, .bool st] 40)) #[.slice none 0 0, .int .i64 0, .bool false, .bool false] 40
    rwa [size1] at h
  have HG := Lib.hid hG
  have HR := Lib.hid hR
  have HX := Lib.hid hx
  have HRS := Lib.hid hrs
  have HW := Lib.hid hb0
  have HWB := Lib.hid hwb
  have hlen := hr'.len
  rw [I_len] at hlen
  have HLEN := Lib.hid hlen
  have k0 := HG.out.cell 0 _ rfl
  have k1 := HG.out.cell 1 _ rfl
  have k2 := HG.out.cell 2 _ rfl
  have HSZ := Lib.hid hsz
  clear hr hr' hb0 hx hrs hget hlen hG hR hwb hsz
  have _ := hok
  have e0 : wb.drew.cell? ⟨w.heap.size, 0, none⟩ = some (.slice (some ⟨b2, o2, none⟩) 4 c') := k0
  have e1 : wb.drew.cell? ⟨w.heap.size, 1, none⟩ = some (.int .i64 k) := k1
  have e2 : wb.drew.cell? ⟨w.heap.size, 2, none⟩ = some (.bool zero) := k2
  have hGA := Blk.alloc HG.out (.cells #[.slice none 0 0, .int .i64 0, .bool false, .bool false] 40)
  have a0 : (wb.alloc (.cells #[.slice none 0 0, .int .i64 0, .bool false, .bool false] 40)).drew.cell? ⟨w.heap.size, 0, none⟩ = some (.slice (some ⟨b2, o2, none⟩) 4 c') := hGA.cell 0 _ rfl
  have a1 : (wb.alloc (.cells #[.slice none 0 0, .int .i64 0, .bool false, .bool false] 40)).drew.cell? ⟨w.heap.size, 1, none⟩ = some (.int .i64 k) := hGA.cell 1 _ rfl
  have a2 : (wb.alloc (.cells #[.slice none 0 0, .int .i64 0, .bool false, .bool false] 40)).drew.cell? ⟨w.heap.size, 2, none⟩ = some (.bool zero) := hGA.cell 2 _ rfl
  clear hGA
  go_enter Tryd.func59, Tryd.ntmps59
  go_upto_region 1 with fail
  rw [HWB.out]
  clear HWB
  go_cut [5] from 9 to 16 (fun p wx => ∃ go gg cc, p = .pointer (some ⟨go, 0, none⟩) ∧ AtCopy w wx b2 o2 c' k zero st rs go gg cc)
  case first =>
    go_region_held3 (fun w' => w'.cell? ⟨w.heap.size, 0, none⟩ = some (.slice (some ⟨b2, o2, none⟩) 4 c') ∧ w'.cell? ⟨w.heap.size, 1, none⟩ = some (.int .i64 k) ∧ w'.cell? ⟨w.heap.size, 2, none⟩ = some (.bool zero)) (first | (with_reducible exact ⟨e0, e1, e2⟩) | (with_reducible exact ⟨k0, k1, k2⟩) | (with_reducible exact ⟨a0, a1, a2⟩) | (with_reducible exact ⟨m0, m1, m2⟩) | (with_reducible exact ⟨s0, s1, s2⟩))
      (first
        | (go_at_call 58; (with_reducible refine (l1Own_some b2 o2 4 c' _ rs wb.drew HR1.out.drew (by omega) (by omega)).mono ?_); rintro e w1 ⟨gg, cc, rfl, hown, hb⟩; replace hb : Below wb.heap.size wb w1 := (below_dr wb).trans hb; have HG2 := Lib.hid (Blk.kept hb HG.out); have HR2 := Lib.hid (Blk.kept hb HR.out); have hgg : wb.heap.size ≤ gg := (hown.lt gg rfl).1; have hgl : gg < w1.heap.size := (hown.lt gg rfl).2; have HO := Lib.hid (own_mono hown (b' := w.heap.size) (HW.out).size); have hs := hb.size; have HW2 := Lib.hid (below_then HW.out hb); clear hown hb; replace k0 : w1.cell? ⟨w.heap.size, 0, none⟩ = some (.slice (some ⟨b2, o2, none⟩) 4 c') := HG2.out.cell 0 _ rfl; replace k1 : w1.cell? ⟨w.heap.size, 1, none⟩ = some (.int .i64 k) := HG2.out.cell 1 _ rfl; replace k2 : w1.cell? ⟨w.heap.size, 2, none⟩ = some (.bool zero) := HG2.out.cell 2 _ rfl; have HGm := Lib.hid (Blk.alloc HG2.out (.cells #[.slice none 0 0, .int .i64 0, .bool false, .bool false] 40)); have HGs := Lib.hid (Blk.alloc HG2.out (.cells #[.slice (some ⟨gg, 0, none⟩) 4 cc, .int .i64 k, .bool zero, .bool false] 40)); have m0 : (w1.alloc (.cells #[.slice none 0 0, .int .i64 0, .bool false, .bool false] 40)).cell? ⟨w.heap.size, 0, none⟩ = some (.slice (some ⟨b2, o2, none⟩) 4 c') := HGm.out.cell 0 _ rfl; have m1 : (w1.alloc (.cells #[.slice none 0 0, .int .i64 0, .bool false, .bool false] 40)).cell? ⟨w.heap.size, 1, none⟩ = some (.int .i64 k) := HGm.out.cell 1 _ rfl; have m2 : (w1.alloc (.cells #[.slice none 0 0, .int .i64 0, .bool false, .bool false] 40)).cell? ⟨w.heap.size, 2, none⟩ = some (.bool zero) := HGm.out.cell 2 _ rfl; have s0 : (w1.alloc (.cells #[.slice (some ⟨gg, 0, none⟩) 4 cc, .int .i64 k, .bool zero, .bool false] 40)).cell? ⟨w.heap.size, 0, none⟩ = some (.slice (some ⟨b2, o2, none⟩) 4 c') := HGs.out.cell 0 _ rfl; have s1 : (w1.alloc (.cells #[.slice (some ⟨gg, 0, none⟩) 4 cc, .int .i64 k, .bool zero, .bool false] 40)).cell? ⟨w.heap.size, 1, none⟩ = some (.int .i64 k) := HGs.out.cell 1 _ rfl; have s2 : (w1.alloc (.cells #[.slice (some ⟨gg, 0, none⟩) 4 cc, .int .i64 k, .bool zero, .bool false] 40)).cell? ⟨w.heap.size, 2, none⟩ = some (.bool zero) := HGs.out.cell 2 _ rfl)
        | (go_at_call 58; have HGa := Blk.alloc HG.out (.cells #[.slice none 0 0, .int .i64 0, .bool false, .bool false] 40); have HRa := Blk.alloc HR.out (.cells #[.slice none 0 0, .int .i64 0, .bool false, .bool false] 40); have HOa := Blk.new wb #[.slice none 0 0, .int .i64 0, .bool false, .bool false] 40; have hra := HR1.out.alloc (Nat.le_refl _) (.cells #[.slice none 0 0, .int .i64 0, .bool false, .bool false] 40); have hba := below_more HW.out (.cells #[.slice none 0 0, .int .i64 0, .bool false, .bool false] 40); (with_reducible refine (l1Own_some b2 o2 4 c' _ rs (wb.alloc (.cells #[.slice none 0 0, .int .i64 0, .bool false, .bool false] 40)).drew hra.drew (by omega) (by omega)).mono ?_); rintro e w1 ⟨gg, cc, rfl, hown, hb⟩; replace hb : Below (wb.alloc (.cells #[.slice none 0 0, .int .i64 0, .bool false, .bool false] 40)).heap.size (wb.alloc (.cells #[.slice none 0 0, .int .i64 0, .bool false, .bool false] 40)) w1 := (below_dr (wb.alloc (.cells #[.slice none 0 0, .int .i64 0, .bool false, .bool false] 40))).trans hb; have HG2 := Lib.hid (Blk.kept hb HGa); have HR2 := Lib.hid (Blk.kept hb HRa); have HO2 := Lib.hid (Blk.kept hb HOa); have hgg : (wb.alloc (.cells #[.slice none 0 0, .int .i64 0, .bool false, .bool false] 40)).heap.size ≤ gg := (hown.lt gg rfl).1; have hgl : gg < w1.heap.size := (hown.lt gg rfl).2; have HO := Lib.hid (own_mono hown (b' := w.heap.size) (hba).size); have hs := hb.size; have HW2 := Lib.hid (below_then hba hb); clear hown hb; replace k0 : w1.cell? ⟨w.heap.size, 0, none⟩ = some (.slice (some ⟨b2, o2, none⟩) 4 c') := HG2.out.cell 0 _ rfl; replace k1 : w1.cell? ⟨w.heap.size, 1, none⟩ = some (.int .i64 k) := HG2.out.cell 1 _ rfl; replace k2 : w1.cell? ⟨w.heap.size, 2, none⟩ = some (.bool zero) := HG2.out.cell 2 _ rfl; have f0 := HO2.out.free 0; have f1 := HO2.out.free 1; have f2 := HO2.out.free 2; have f3 := HO2.out.free 3; have d0 := HO2.out.cell 0 _ rfl; have d1 := HO2.out.cell 1 _ rfl; have d2 := HO2.out.cell 2 _ rfl; have d3 := HO2.out.cell 3 _ rfl; have hne : ¬ (w.heap.size = wb.heap.size) := (by have := HSZ.out; omega); have HGs := Lib.hid (Blk.other (Blk.other (Blk.other (Blk.other HG2.out (.slice (some ⟨gg, 0, none⟩) 4 cc) (g' := wb.heap.size) (j := 0) hne) (.int .i64 k) (g' := wb.heap.size) (j := 1) hne) (.bool zero) (g' := wb.heap.size) (j := 2) hne) (.bool false) (g' := wb.heap.size) (j := 3) hne); have s0 : ((((w1.setCell ⟨wb.heap.size, 0, none⟩ (.slice (some ⟨gg, 0, none⟩) 4 cc)).setCell ⟨wb.heap.size, 1, none⟩ (.int .i64 k)).setCell ⟨wb.heap.size, 2, none⟩ (.bool zero)).setCell ⟨wb.heap.size, 3, none⟩ (.bool false)).cell? ⟨w.heap.size, 0, none⟩ = some (.slice (some ⟨b2, o2, none⟩) 4 c') := HGs.out.cell 0 _ rfl; have s1 : ((((w1.setCell ⟨wb.heap.size, 0, none⟩ (.slice (some ⟨gg, 0, none⟩) 4 cc)).setCell ⟨wb.heap.size, 1, none⟩ (.int .i64 k)).setCell ⟨wb.heap.size, 2, none⟩ (.bool zero)).setCell ⟨wb.heap.size, 3, none⟩ (.bool false)).cell? ⟨w.heap.size, 1, none⟩ = some (.int .i64 k) := HGs.out.cell 1 _ rfl; have s2 : ((((w1.setCell ⟨wb.heap.size, 0, none⟩ (.slice (some ⟨gg, 0, none⟩) 4 cc)).setCell ⟨wb.heap.size, 1, none⟩ (.int .i64 k)).setCell ⟨wb.heap.size, 2, none⟩ (.bool zero)).setCell ⟨wb.heap.size, 3, none⟩ (.bool false)).cell? ⟨w.heap.size, 2, none⟩ = some (.bool zero) := HGs.out.cell 2 _ rfl))
    all_goals (go_wp2_with fail; go_meet)
    all_goals have hsz := HSZ.out
    · case rel =>
      exact ⟨w1.heap.size, gg, cc, rfl, ⟨Blk.new _ _ _, Blk.alloc HG2.out _, Blk.alloc HR2.out _, own_more HO.out _, below_more HW2.out _, by omega⟩⟩
    · case rel =>
      rw [size1] at hgg
      have hnB : (Value.slice (some ⟨gg, 0, none⟩) 4 cc).ownBlock ≠ some wb.heap.size := by
        intro e
        injection e with e
        simp only at e
        omega
      exact ⟨wb.heap.size, gg, cc, rfl, ⟨(Blk.set (Blk.set (Blk.set (Blk.set HO2.out 0 (.slice (some ⟨gg, 0, none⟩) 4 cc)) 1 (.int .i64 k)) 2 (.bool zero)) 3 (.bool false)), (Blk.other (Blk.other (Blk.other (Blk.other HG2.out (.slice (some ⟨gg, 0, none⟩) 4 cc) (g' := wb.heap.size) (j := 0) (by omega)) (.int .i64 k) (g' := wb.heap.size) (j := 1) (by omega)) (.bool zero) (g' := wb.heap.size) (j := 2) (by omega)) (.bool false) (g' := wb.heap.size) (j := 3) (by omega)), (Blk.other (Blk.other (Blk.other (Blk.other HR2.out (.slice (some ⟨gg, 0, none⟩) 4 cc) (g' := wb.heap.size) (j := 0) (by omega)) (.int .i64 k) (g' := wb.heap.size) (j := 1) (by omega)) (.bool zero) (g' := wb.heap.size) (j := 2) (by omega)) (.bool false) (g' := wb.heap.size) (j := 3) (by omega)), (own_set (own_set (own_set (own_set HO.out (.slice (some ⟨gg, 0, none⟩) 4 cc) (g := wb.heap.size) (j := 0) hnB) (.int .i64 k) (g := wb.heap.size) (j := 1) hnB) (.bool zero) (g := wb.heap.size) (j := 2) hnB) (.bool false) (g := wb.heap.size) (j := 3) hnB), (below_set (below_set (below_set (below_set HW2.out (g := wb.heap.size) (j := 0) (by omega) (.slice (some ⟨gg, 0, none⟩) 4 cc)) (g := wb.heap.size) (j := 1) (by omega) (.int .i64 k)) (g := wb.heap.size) (j := 2) (by omega) (.bool zero)) (g := wb.heap.size) (j := 3) (by omega) (.bool false)), by omega⟩⟩
  case rest =>
    obtain ⟨go, gg, cc, rfl, HC⟩ := hcut
    have HG := Lib.hid HC.arg
    have HR := Lib.hid HC.res
    have HOUT := Lib.hid HC.out
    have HO := Lib.hid HC.own
    have HW := Lib.hid HC.below
    have hgo := HC.ord
    have hgol := HC.out.lt
    have hgl := (HC.own.lt gg rfl).2
    have hs1 := HC.arg.lt
    have hs2 := HC.res.lt
    have hb4 : b2 < wc.heap.size := Nat.lt_of_lt_of_le hb2 HC.below.size
    obtain ⟨b1, o1, y, rfl, hb1, hy, c0, c1, c2, c3⟩ := ins_at (HP1.out.below HC.below) hk
    have hb3 : b1 < wc.heap.size := Nat.lt_of_lt_of_le hb1 HC.below.size
    obtain rfl : y = ⟨7, xa, xb, xn⟩ := by rw [HX.out] at hy; exact (Option.some.inj hy).symm
    have hA' := fun j u hu => (HC.below.cell (p := ⟨b2, o2 + j, none⟩) hb2).trans (HCE.out j u hu)
    have HA := Lib.hid hA'
    clear hy HP1 HC e0 e1 e2 a0 a1 a2 HR1 hA'
    have hnG : (Value.slice (some ⟨gg, 0, none⟩) 4 cc).ownBlock ≠ some w.heap.size := by
      intro e
      injection e with e
      simp only at e
      omega
    have hnR : (Value.slice (some ⟨gg, 0, none⟩) 4 cc).ownBlock ≠ some (w.heap.size + 1) := by
      intro e
      injection e with e
      simp only at e
      omega
    have hnO : (Value.slice (some ⟨gg, 0, none⟩) 4 cc).ownBlock ≠ some go := by
      intro e
      injection e with e
      simp only at e
      omega
    have k0 := HG.out.cell 0 _ rfl
    have k1 := HG.out.cell 1 _ rfl
    have k2 := HG.out.cell 2 _ rfl
    have k3 := HG.out.cell 3 _ rfl
    have r0 := HR.out.cell 0 _ rfl
    have r1 := HR.out.cell 1 _ rfl
    have r2 := HR.out.cell 2 _ rfl
    have r3 := HR.out.cell 3 _ rfl
    have fr0 := HR.out.free 0
    have fr1 := HR.out.free 1
    have fr2 := HR.out.free 2
    have fr3 := HR.out.free 3
    have p0 := HOUT.out.cell 0 _ rfl
    have p1 := HOUT.out.cell 1 _ rfl
    have p2 := HOUT.out.cell 2 _ rfl
    have p3 := HOUT.out.cell 3 _ rfl
    have fp0 := HOUT.out.free 0
    have fp1 := HOUT.out.free 1
    have fp2 := HOUT.out.free 2
    have fp3 := HOUT.out.free 3
    have hx1 : ¬ (w.heap.size = go) := by omega
    have hx2 : ¬ (w.heap.size + 1 = go) := by omega
    have hx3 : ¬ (go = w.heap.size) := by omega
    have hx4 : ¬ (go = w.heap.size + 1) := by omega
    by_cases hnx : xn < (n : Int)
    · have hnx2 : ¬ ((n : Int) ≤ xn) := by omega
      have hst : stepOf xs ⟨rs, k, zero, st⟩ = ⟨rs, xn, zero, false⟩ := by
        unfold stepOf nextOf
        simp only [HGET.out]
        simp only [HL.out]
        simp [hnx, hnx2]
      have HST := Lib.hid hst
      clear hst
      go_wp2_with fail
      have hZ := (Blk.alloc (Blk.set (Blk.set (Blk.set (Blk.set (Blk.other (Blk.other HR.out (.int .i64 xn) (g' := go) (j := 1) (by omega)) (.bool false) (g' := go) (j := 3) (by omega)) 0 (.slice (some ⟨gg, 0, none⟩) 4 cc)) 1 (.int .i64 xn)) 2 (.bool zero)) 3 (.bool false)) (.cells #[.int .i64 7, .int .i64 xa, .int .i64 xb, .int .i64 xn] 25))
      have hY := (own_more (own_set (own_set (own_set (own_set (own_set (own_set HO.out (.int .i64 xn) (g := go) (j := 1) hnO) (.bool false) (g := go) (j := 3) hnO) (.slice (some ⟨gg, 0, none⟩) 4 cc) (g := w.heap.size + 1) (j := 0) hnR) (.int .i64 xn) (g := w.heap.size + 1) (j := 1) hnR) (.bool zero) (g := w.heap.size + 1) (j := 2) hnR) (.bool false) (g := w.heap.size + 1) (j := 3) hnR) (.cells #[.int .i64 7, .int .i64 xa, .int .i64 xb, .int .i64 xn] 25))
      have hX := (below_more (below_set (below_set (below_set (below_set (below_set (below_set HW.out (g := go) (j := 1) (by omega) (.int .i64 xn)) (g := go) (j := 3) (by omega) (.bool false)) (g := w.heap.size + 1) (j := 0) (by omega) (.slice (some ⟨gg, 0, none⟩) 4 cc)) (g := w.heap.size + 1) (j := 1) (by omega) (.int .i64 xn)) (g := w.heap.size + 1) (j := 2) (by omega) (.bool zero)) (g := w.heap.size + 1) (j := 3) (by omega) (.bool false)) (.cells #[.int .i64 7, .int .i64 xa, .int .i64 xb, .int .i64 xn] 25))
      have HZ := Lib.hid hZ
      have HY := Lib.hid hY
      have HXX := Lib.hid hX
      clear hZ hY hX k0 k1 k2 k3 r0 r1 r2 r3 fr0 fr1 fr2 fr3 p0 p1 p2 p3 fp0 fp1 fp2 fp3
      revert HZ HY HXX
      generalize (((((((wc.setCell _ _).setCell _ _).setCell _ _).setCell _ _).setCell _ _).setCell _ _).alloc _) = wz
      intro HZ HY HXX
      have z0 : wz.cell? ⟨w.heap.size + 1, 0, none⟩ = some (.slice (some ⟨gg, 0, none⟩) 4 cc) := HZ.out.cell 0 _ rfl
      have z1 : wz.cell? ⟨w.heap.size + 1, 1, none⟩ = some (.int .i64 xn) := HZ.out.cell 1 _ rfl
      have z2 : wz.cell? ⟨w.heap.size + 1, 2, none⟩ = some (.bool zero) := HZ.out.cell 2 _ rfl
      have z3 : wz.cell? ⟨w.heap.size + 1, 3, none⟩ = some (.bool false) := HZ.out.cell 3 _ rfl
      refine l3Step_ret rfl rfl z0 z1 z2 z3 ⟨gg, cc, ?_, ?_, HXX.out⟩
      · rw [HST.out]
      · rw [HST.out]; exact HY.out
    · have hnx2 : (n : Int) ≤ xn := by omega
      have hst : stepOf xs ⟨rs, k, zero, st⟩ = ⟨rs, k, zero, true⟩ := by
        unfold stepOf nextOf
        simp only [HGET.out]
        simp only [HL.out]
        simp [hnx, hnx2]
      have HST := Lib.hid hst
      clear hst
      go_wp2_with fail
      have hZ := (Blk.alloc (Blk.set (Blk.set (Blk.set (Blk.set (Blk.other HR.out (.bool true) (g' := go) (j := 3) (by omega)) 0 (.slice (some ⟨gg, 0, none⟩) 4 cc)) 1 (.int .i64 k)) 2 (.bool zero)) 3 (.bool true)) (.cells #[.int .i64 7, .int .i64 xa, .int .i64 xb, .int .i64 xn] 25))
      have hY := (own_more (own_set (own_set (own_set (own_set (own_set HO.out (.bool true) (g := go) (j := 3) hnO) (.slice (some ⟨gg, 0, none⟩) 4 cc) (g := w.heap.size + 1) (j := 0) hnR) (.int .i64 k) (g := w.heap.size + 1) (j := 1) hnR) (.bool zero) (g := w.heap.size + 1) (j := 2) hnR) (.bool true) (g := w.heap.size + 1) (j := 3) hnR) (.cells #[.int .i64 7, .int .i64 xa, .int .i64 xb, .int .i64 xn] 25))
      have hX := (below_more (below_set (below_set (below_set (below_set (below_set HW.out (g := go) (j := 3) (by omega) (.bool true)) (g := w.heap.size + 1) (j := 0) (by omega) (.slice (some ⟨gg, 0, none⟩) 4 cc)) (g := w.heap.size + 1) (j := 1) (by omega) (.int .i64 k)) (g := w.heap.size + 1) (j := 2) (by omega) (.bool zero)) (g := w.heap.size + 1) (j := 3) (by omega) (.bool true)) (.cells #[.int .i64 7, .int .i64 xa, .int .i64 xb, .int .i64 xn] 25))
      have HZ := Lib.hid hZ
      have HY := Lib.hid hY
      have HXX := Lib.hid hX
      clear hZ hY hX k0 k1 k2 k3 r0 r1 r2 r3 fr0 fr1 fr2 fr3 p0 p1 p2 p3 fp0 fp1 fp2 fp3
      revert HZ HY HXX
      generalize ((((((wc.setCell _ _).setCell _ _).setCell _ _).setCell _ _).setCell _ _).alloc _) = wz
      intro HZ HY HXX
      have z0 : wz.cell? ⟨w.heap.size + 1, 0, none⟩ = some (.slice (some ⟨gg, 0, none⟩) 4 cc) := HZ.out.cell 0 _ rfl
      have z1 : wz.cell? ⟨w.heap.size + 1, 1, none⟩ = some (.int .i64 k) := HZ.out.cell 1 _ rfl
      have z2 : wz.cell? ⟨w.heap.size + 1, 2, none⟩ = some (.bool zero) := HZ.out.cell 2 _ rfl
      have z3 : wz.cell? ⟨w.heap.size + 1, 3, none⟩ = some (.bool true) := HZ.out.cell 3 _ rfl
      refine l3Step_ret rfl rfl z0 z1 z2 z3 ⟨gg, cc, ?_, ?_, HXX.out⟩
      · rw [HST.out]
      · rw [HST.out]; exact HY.out
set_option maxRecDepth 100000 in
set_option maxHeartbeats 1600000 in
theorem l3Step_jz (A A' : Option Addr) (n c c' : Nat) (xs : List Ins) (rs : List Int) (k : Nat) (zero st : Bool) (xa xb xn : Int) (w : World) (hr : Reads w w.heap.size 4 A n (FL xs)) (hn : n ≤ 1048576) (hr' : Reads w w.heap.size 1 A' 4 (I rs))
    (hk : k < n) (hx : xs[k]? = some ⟨8, xa, xb, xn⟩) (hok : Ok ⟨8, xa, xb, xn⟩) (hrs : ∀ z ∈ rs, 0 ≤ z ∧ z ≤ 65535)  :
    Calls Tryd.prog 59 #[.slice A n c, .agg #[.slice A' 4 c', .int .i64 k, .bool zero, .bool st]] w fun e w' => ∃ gg cc, e = .returned (.agg #[.slice (some ⟨gg, 0, none⟩) 4 cc, .int .i64 (stepOf xs ⟨rs, k, zero, st⟩).place, .bool (stepOf xs ⟨rs, k, zero, st⟩).zero, .bool (stepOf xs ⟨rs, k, zero, st⟩).stopped]) ∧
      w'.ownsRow w.heap.size 3 1 (.slice (some ⟨gg, 0, none⟩) 4 cc) 4 (I (stepOf xs ⟨rs, k, zero, st⟩).r) ∧ Below w.heap.size w w' := by
  obtain ⟨b2, o2, rfl, hb2, hcells⟩ := hr'.2 (by omega)
  have hL : xs.length = n := reads_len hr
  have hget : xs.getD ((k : Int).toNat) default = ⟨8, xa, xb, xn⟩ := by rw [Int.toNat_natCast, List.getD, hx]; rfl
  have HCE := Lib.hid hcells
  clear hcells
  have HGET := Lib.hid hget
  have HL := Lib.hid hL
  have hxn := hok.2.2.2.1
  simp only at hxn
  obtain ⟨wb, hwb⟩ : ∃ wb, (w.alloc (.cells #[.slice (some ⟨b2, o2, none⟩) 4 c', .int .i64 k, .bool zero, .bool st] 40)).alloc (.cells #[.slice none 0 0, .int .i64 0, .bool false, .bool false] 40) = wb := ⟨_, rfl⟩
  have hb0 : Below w.heap.size w wb := by rw [← hwb]; exact below_more (below_more (Below.refl w.heap.size w) _) _
  have hsz : wb.heap.size = w.heap.size + 1 + 1 := by rw [← hwb, size1, size1]
  have HR1 := Lib.hid ((hr'.below hb0).more hb0.size)
  have HP1 := Lib.hid hr
  have hG : Blk wb w.heap.size 40 #[.slice (some ⟨b2, o2, none⟩) 4 c', .int .i64 k, .bool zero, .bool st] := by rw [← hwb]; exact Blk.alloc (Blk.new _ _ _) _
  have hR : Blk wb (w.heap.size + 1) 40 #[.slice none 0 0, .int .i64 0, .bool false, .bool false] := by
    rw [← hwb]
    have h := Blk.new (w.alloc (.cells #[.slice (some ⟨b2, o2, none⟩) 4 c', .int .i64 k, .bool zero, .bool st] 40)) #[.slice none 0 0, .int .i64 0, .bool false, .bool false] 40
    rwa [size1] at h
  have HG := Lib.hid hG
  have HR := Lib.hid hR
  have HX := Lib.hid hx
  have HRS := Lib.hid hrs
  have HW := Lib.hid hb0
  have HWB := Lib.hid hwb
  have hlen := hr'.len
  rw [I_len] at hlen
  have HLEN := Lib.hid hlen
  have k0 := HG.out.cell 0 _ rfl
  have k1 := HG.out.cell 1 _ rfl
  have k2 := HG.out.cell 2 _ rfl
  have HSZ := Lib.hid hsz
  clear hr hr' hb0 hx hrs hget hlen hG hR hwb hsz
  have _ := hok
  have e0 : wb.drew.cell? ⟨w.heap.size, 0, none⟩ = some (.slice (some ⟨b2, o2, none⟩) 4 c') := k0
  have e1 : wb.drew.cell? ⟨w.heap.size, 1, none⟩ = some (.int .i64 k) := k1
  have e2 : wb.drew.cell? ⟨w.heap.size, 2, none⟩ = some (.bool zero) := k2
  have hGA := Blk.alloc HG.out (.cells #[.slice none 0 0, .int .i64 0, .bool false, .bool false] 40)
  have a0 : (wb.alloc (.cells #[.slice none 0 0, .int .i64 0, .bool false, .bool false] 40)).drew.cell? ⟨w.heap.size, 0, none⟩ = some (.slice (some ⟨b2, o2, none⟩) 4 c') := hGA.cell 0 _ rfl
  have a1 : (wb.alloc (.cells #[.slice none 0 0, .int .i64 0, .bool false, .bool false] 40)).drew.cell? ⟨w.heap.size, 1, none⟩ = some (.int .i64 k) := hGA.cell 1 _ rfl
  have a2 : (wb.alloc (.cells #[.slice none 0 0, .int .i64 0, .bool false, .bool false] 40)).drew.cell? ⟨w.heap.size, 2, none⟩ = some (.bool zero) := hGA.cell 2 _ rfl
  clear hGA
  go_enter Tryd.func59, Tryd.ntmps59
  go_upto_region 1 with fail
  rw [HWB.out]
  clear HWB
  go_cut [5] from 9 to 16 (fun p wx => ∃ go gg cc, p = .pointer (some ⟨go, 0, none⟩) ∧ AtCopy w wx b2 o2 c' k zero st rs go gg cc)
  case first =>
    go_region_held3 (fun w' => w'.cell? ⟨w.heap.size, 0, none⟩ = some (.slice (some ⟨b2, o2, none⟩) 4 c') ∧ w'.cell? ⟨w.heap.size, 1, none⟩ = some (.int .i64 k) ∧ w'.cell? ⟨w.heap.size, 2, none⟩ = some (.bool zero)) (first | (with_reducible exact ⟨e0, e1, e2⟩) | (with_reducible exact ⟨k0, k1, k2⟩) | (with_reducible exact ⟨a0, a1, a2⟩) | (with_reducible exact ⟨m0, m1, m2⟩) | (with_reducible exact ⟨s0, s1, s2⟩))
      (first
        | (go_at_call 58; (with_reducible refine (l1Own_some b2 o2 4 c' _ rs wb.drew HR1.out.drew (by omega) (by omega)).mono ?_); rintro e w1 ⟨gg, cc, rfl, hown, hb⟩; replace hb : Below wb.heap.size wb w1 := (below_dr wb).trans hb; have HG2 := Lib.hid (Blk.kept hb HG.out); have HR2 := Lib.hid (Blk.kept hb HR.out); have hgg : wb.heap.size ≤ gg := (hown.lt gg rfl).1; have hgl : gg < w1.heap.size := (hown.lt gg rfl).2; have HO := Lib.hid (own_mono hown (b' := w.heap.size) (HW.out).size); have hs := hb.size; have HW2 := Lib.hid (below_then HW.out hb); clear hown hb; replace k0 : w1.cell? ⟨w.heap.size, 0, none⟩ = some (.slice (some ⟨b2, o2, none⟩) 4 c') := HG2.out.cell 0 _ rfl; replace k1 : w1.cell? ⟨w.heap.size, 1, none⟩ = some (.int .i64 k) := HG2.out.cell 1 _ rfl; replace k2 : w1.cell? ⟨w.heap.size, 2, none⟩ = some (.bool zero) := HG2.out.cell 2 _ rfl; have HGm := Lib.hid (Blk.alloc HG2.out (.cells #[.slice none 0 0, .int .i64 0, .bool false, .bool false] 40)); have HGs := Lib.hid (Blk.alloc HG2.out (.cells #[.slice (some ⟨gg, 0, none⟩) 4 cc, .int .i64 k, .bool zero, .bool false] 40)); have m0 : (w1.alloc (.cells #[.slice none 0 0, .int .i64 0, .bool false, .bool false] 40)).cell? ⟨w.heap.size, 0, none⟩ = some (.slice (some ⟨b2, o2, none⟩) 4 c') := HGm.out.cell 0 _ rfl; have m1 : (w1.alloc (.cells #[.slice none 0 0, .int .i64 0, .bool false, .bool false] 40)).cell? ⟨w.heap.size, 1, none⟩ = some (.int .i64 k) := HGm.out.cell 1 _ rfl; have m2 : (w1.alloc (.cells #[.slice none 0 0, .int .i64 0, .bool false, .bool false] 40)).cell? ⟨w.heap.size, 2, none⟩ = some (.bool zero) := HGm.out.cell 2 _ rfl; have s0 : (w1.alloc (.cells #[.slice (some ⟨gg, 0, none⟩) 4 cc, .int .i64 k, .bool zero, .bool false] 40)).cell? ⟨w.heap.size, 0, none⟩ = some (.slice (some ⟨b2, o2, none⟩) 4 c') := HGs.out.cell 0 _ rfl; have s1 : (w1.alloc (.cells #[.slice (some ⟨gg, 0, none⟩) 4 cc, .int .i64 k, .bool zero, .bool false] 40)).cell? ⟨w.heap.size, 1, none⟩ = some (.int .i64 k) := HGs.out.cell 1 _ rfl; have s2 : (w1.alloc (.cells #[.slice (some ⟨gg, 0, none⟩) 4 cc, .int .i64 k, .bool zero, .bool false] 40)).cell? ⟨w.heap.size, 2, none⟩ = some (.bool zero) := HGs.out.cell 2 _ rfl)
        | (go_at_call 58; have HGa := Blk.alloc HG.out (.cells #[.slice none 0 0, .int .i64 0, .bool false, .bool false] 40); have HRa := Blk.alloc HR.out (.cells #[.slice none 0 0, .int .i64 0, .bool false, .bool false] 40); have HOa := Blk.new wb #[.slice none 0 0, .int .i64 0, .bool false, .bool false] 40; have hra := HR1.out.alloc (Nat.le_refl _) (.cells #[.slice none 0 0, .int .i64 0, .bool false, .bool false] 40); have hba := below_more HW.out (.cells #[.slice none 0 0, .int .i64 0, .bool false, .bool false] 40); (with_reducible refine (l1Own_some b2 o2 4 c' _ rs (wb.alloc (.cells #[.slice none 0 0, .int .i64 0, .bool false, .bool false] 40)).drew hra.drew (by omega) (by omega)).mono ?_); rintro e w1 ⟨gg, cc, rfl, hown, hb⟩; replace hb : Below (wb.alloc (.cells #[.slice none 0 0, .int .i64 0, .bool false, .bool false] 40)).heap.size (wb.alloc (.cells #[.slice none 0 0, .int .i64 0, .bool false, .bool false] 40)) w1 := (below_dr (wb.alloc (.cells #[.slice none 0 0, .int .i64 0, .bool false, .bool false] 40))).trans hb; have HG2 := Lib.hid (Blk.kept hb HGa); have HR2 := Lib.hid (Blk.kept hb HRa); have HO2 := Lib.hid (Blk.kept hb HOa); have hgg : (wb.alloc (.cells #[.slice none 0 0, .int .i64 0, .bool false, .bool false] 40)).heap.size ≤ gg := (hown.lt gg rfl).1; have hgl : gg < w1.heap.size := (hown.lt gg rfl).2; have HO := Lib.hid (own_mono hown (b' := w.heap.size) (hba).size); have hs := hb.size; have HW2 := Lib.hid (below_then hba hb); clear hown hb; replace k0 : w1.cell? ⟨w.heap.size, 0, none⟩ = some (.slice (some ⟨b2, o2, none⟩) 4 c') := HG2.out.cell 0 _ rfl; replace k1 : w1.cell? ⟨w.heap.size, 1, none⟩ = some (.int .i64 k) := HG2.out.cell 1 _ rfl; replace k2 : w1.cell? ⟨w.heap.size, 2, none⟩ = some (.bool zero) := HG2.out.cell 2 _ rfl; have f0 := HO2.out.free 0; have f1 := HO2.out.free 1; have f2 := HO2.out.free 2; have f3 := HO2.out.free 3; have d0 := HO2.out.cell 0 _ rfl; have d1 := HO2.out.cell 1 _ rfl; have d2 := HO2.out.cell 2 _ rfl; have d3 := HO2.out.cell 3 _ rfl; have hne : ¬ (w.heap.size = wb.heap.size) := (by have := HSZ.out; omega); have HGs := Lib.hid (Blk.other (Blk.other (Blk.other (Blk.other HG2.out (.slice (some ⟨gg, 0, none⟩) 4 cc) (g' := wb.heap.size) (j := 0) hne) (.int .i64 k) (g' := wb.heap.size) (j := 1) hne) (.bool zero) (g' := wb.heap.size) (j := 2) hne) (.bool false) (g' := wb.heap.size) (j := 3) hne); have s0 : ((((w1.setCell ⟨wb.heap.size, 0, none⟩ (.slice (some ⟨gg, 0, none⟩) 4 cc)).setCell ⟨wb.heap.size, 1, none⟩ (.int .i64 k)).setCell ⟨wb.heap.size, 2, none⟩ (.bool zero)).setCell ⟨wb.heap.size, 3, none⟩ (.bool false)).cell? ⟨w.heap.size, 0, none⟩ = some (.slice (some ⟨b2, o2, none⟩) 4 c') := HGs.out.cell 0 _ rfl; have s1 : ((((w1.setCell ⟨wb.heap.size, 0, none⟩ (.slice (some ⟨gg, 0, none⟩) 4 cc)).setCell ⟨wb.heap.size, 1, none⟩ (.int .i64 k)).setCell ⟨wb.heap.size, 2, none⟩ (.bool zero)).setCell ⟨wb.heap.size, 3, none⟩ (.bool false)).cell? ⟨w.heap.size, 1, none⟩ = some (.int .i64 k) := HGs.out.cell 1 _ rfl; have s2 : ((((w1.setCell ⟨wb.heap.size, 0, none⟩ (.slice (some ⟨gg, 0, none⟩) 4 cc)).setCell ⟨wb.heap.size, 1, none⟩ (.int .i64 k)).setCell ⟨wb.heap.size, 2, none⟩ (.bool zero)).setCell ⟨wb.heap.size, 3, none⟩ (.bool false)).cell? ⟨w.heap.size, 2, none⟩ = some (.bool zero) := HGs.out.cell 2 _ rfl))
    all_goals (go_wp2_with fail; go_meet)
    all_goals have hsz := HSZ.out
    · case rel =>
      exact ⟨w1.heap.size, gg, cc, rfl, ⟨Blk.new _ _ _, Blk.alloc HG2.out _, Blk.alloc HR2.out _, own_more HO.out _, below_more HW2.out _, by omega⟩⟩
    · case rel =>
      rw [size1] at hgg
      have hnB : (Value.slice (some ⟨gg, 0, none⟩) 4 cc).ownBlock ≠ some wb.heap.size := by
        intro e
        injection e with e
        simp only at e
        omega
      exact ⟨wb.heap.size, gg, cc, rfl, ⟨(Blk.set (Blk.set (Blk.set (Blk.set HO2.out 0 (.slice (some ⟨gg, 0, none⟩) 4 cc)) 1 (.int .i64 k)) 2 (.bool zero)) 3 (.bool false)), (Blk.other (Blk.other (Blk.other (Blk.other HG2.out (.slice (some ⟨gg, 0, none⟩) 4 cc) (g' := wb.heap.size) (j := 0) (by omega)) (.int .i64 k) (g' := wb.heap.size) (j := 1) (by omega)) (.bool zero) (g' := wb.heap.size) (j := 2) (by omega)) (.bool false) (g' := wb.heap.size) (j := 3) (by omega)), (Blk.other (Blk.other (Blk.other (Blk.other HR2.out (.slice (some ⟨gg, 0, none⟩) 4 cc) (g' := wb.heap.size) (j := 0) (by omega)) (.int .i64 k) (g' := wb.heap.size) (j := 1) (by omega)) (.bool zero) (g' := wb.heap.size) (j := 2) (by omega)) (.bool false) (g' := wb.heap.size) (j := 3) (by omega)), (own_set (own_set (own_set (own_set HO.out (.slice (some ⟨gg, 0, none⟩) 4 cc) (g := wb.heap.size) (j := 0) hnB) (.int .i64 k) (g := wb.heap.size) (j := 1) hnB) (.bool zero) (g := wb.heap.size) (j := 2) hnB) (.bool false) (g := wb.heap.size) (j := 3) hnB), (below_set (below_set (below_set (below_set HW2.out (g := wb.heap.size) (j := 0) (by omega) (.slice (some ⟨gg, 0, none⟩) 4 cc)) (g := wb.heap.size) (j := 1) (by omega) (.int .i64 k)) (g := wb.heap.size) (j := 2) (by omega) (.bool zero)) (g := wb.heap.size) (j := 3) (by omega) (.bool false)), by omega⟩⟩
  case rest =>
    obtain ⟨go, gg, cc, rfl, HC⟩ := hcut
    have HG := Lib.hid HC.arg
    have HR := Lib.hid HC.res
    have HOUT := Lib.hid HC.out
    have HO := Lib.hid HC.own
    have HW := Lib.hid HC.below
    have hgo := HC.ord
    have hgol := HC.out.lt
    have hgl := (HC.own.lt gg rfl).2
    have hs1 := HC.arg.lt
    have hs2 := HC.res.lt
    have hb4 : b2 < wc.heap.size := Nat.lt_of_lt_of_le hb2 HC.below.size
    obtain ⟨b1, o1, y, rfl, hb1, hy, c0, c1, c2, c3⟩ := ins_at (HP1.out.below HC.below) hk
    have hb3 : b1 < wc.heap.size := Nat.lt_of_lt_of_le hb1 HC.below.size
    obtain rfl : y = ⟨8, xa, xb, xn⟩ := by rw [HX.out] at hy; exact (Option.some.inj hy).symm
    have hA' := fun j u hu => (HC.below.cell (p := ⟨b2, o2 + j, none⟩) hb2).trans (HCE.out j u hu)
    have HA := Lib.hid hA'
    clear hy HP1 HC e0 e1 e2 a0 a1 a2 HR1 hA'
    have hnG : (Value.slice (some ⟨gg, 0, none⟩) 4 cc).ownBlock ≠ some w.heap.size := by
      intro e
      injection e with e
      simp only at e
      omega
    have hnR : (Value.slice (some ⟨gg, 0, none⟩) 4 cc).ownBlock ≠ some (w.heap.size + 1) := by
      intro e
      injection e with e
      simp only at e
      omega
    have hnO : (Value.slice (some ⟨gg, 0, none⟩) 4 cc).ownBlock ≠ some go := by
      intro e
      injection e with e
      simp only at e
      omega
    have k0 := HG.out.cell 0 _ rfl
    have k1 := HG.out.cell 1 _ rfl
    have k2 := HG.out.cell 2 _ rfl
    have k3 := HG.out.cell 3 _ rfl
    have r0 := HR.out.cell 0 _ rfl
    have r1 := HR.out.cell 1 _ rfl
    have r2 := HR.out.cell 2 _ rfl
    have r3 := HR.out.cell 3 _ rfl
    have fr0 := HR.out.free 0
    have fr1 := HR.out.free 1
    have fr2 := HR.out.free 2
    have fr3 := HR.out.free 3
    have p0 := HOUT.out.cell 0 _ rfl
    have p1 := HOUT.out.cell 1 _ rfl
    have p2 := HOUT.out.cell 2 _ rfl
    have p3 := HOUT.out.cell 3 _ rfl
    have fp0 := HOUT.out.free 0
    have fp1 := HOUT.out.free 1
    have fp2 := HOUT.out.free 2
    have fp3 := HOUT.out.free 3
    have hx1 : ¬ (w.heap.size = go) := by omega
    have hx2 : ¬ (w.heap.size + 1 = go) := by omega
    have hx3 : ¬ (go = w.heap.size) := by omega
    have hx4 : ¬ (go = w.heap.size + 1) := by omega
    cases zero
    ·
      by_cases hnx : (k : Int) + 1 < (n : Int)
      · have hnx2 : ¬ ((n : Int) ≤ (k : Int) + 1) := by omega
        have hst : stepOf xs ⟨rs, k, false, st⟩ = ⟨rs, (k : Int) + 1, false, false⟩ := by
          unfold stepOf nextOf
          simp only [HGET.out]
          simp only [HL.out]
          simp [hnx, hnx2]
        have HST := Lib.hid hst
        clear hst
        go_wp2_with fail
        have hZ := (Blk.alloc (Blk.set (Blk.set (Blk.set (Blk.set (Blk.other (Blk.other HR.out (.int .i64 ((k : Int) + 1)) (g' := go) (j := 1) (by omega)) (.bool false) (g' := go) (j := 3) (by omega)) 0 (.slice (some ⟨gg, 0, none⟩) 4 cc)) 1 (.int .i64 ((k : Int) + 1))) 2 (.bool false)) 3 (.bool false)) (.cells #[.int .i64 8, .int .i64 xa, .int .i64 xb, .int .i64 xn] 25))
        have hY := (own_more (own_set (own_set (own_set (own_set (own_set (own_set HO.out (.int .i64 ((k : Int) + 1)) (g := go) (j := 1) hnO) (.bool false) (g := go) (j := 3) hnO) (.slice (some ⟨gg, 0, none⟩) 4 cc) (g := w.heap.size + 1) (j := 0) hnR) (.int .i64 ((k : Int) + 1)) (g := w.heap.size + 1) (j := 1) hnR) (.bool false) (g := w.heap.size + 1) (j := 2) hnR) (.bool false) (g := w.heap.size + 1) (j := 3) hnR) (.cells #[.int .i64 8, .int .i64 xa, .int .i64 xb, .int .i64 xn] 25))
        have hX := (below_more (below_set (below_set (below_set (below_set (below_set (below_set HW.out (g := go) (j := 1) (by omega) (.int .i64 ((k : Int) + 1))) (g := go) (j := 3) (by omega) (.bool false)) (g := w.heap.size + 1) (j := 0) (by omega) (.slice (some ⟨gg, 0, none⟩) 4 cc)) (g := w.heap.size + 1) (j := 1) (by omega) (.int .i64 ((k : Int) + 1))) (g := w.heap.size + 1) (j := 2) (by omega) (.bool false)) (g := w.heap.size + 1) (j := 3) (by omega) (.bool false)) (.cells #[.int .i64 8, .int .i64 xa, .int .i64 xb, .int .i64 xn] 25))
        have HZ := Lib.hid hZ
        have HY := Lib.hid hY
        have HXX := Lib.hid hX
        clear hZ hY hX k0 k1 k2 k3 r0 r1 r2 r3 fr0 fr1 fr2 fr3 p0 p1 p2 p3 fp0 fp1 fp2 fp3
        revert HZ HY HXX
        generalize (((((((wc.setCell _ _).setCell _ _).setCell _ _).setCell _ _).setCell _ _).setCell _ _).alloc _) = wz
        intro HZ HY HXX
        have z0 : wz.cell? ⟨w.heap.size + 1, 0, none⟩ = some (.slice (some ⟨gg, 0, none⟩) 4 cc) := HZ.out.cell 0 _ rfl
        have z1 : wz.cell? ⟨w.heap.size + 1, 1, none⟩ = some (.int .i64 ((k : Int) + 1)) := HZ.out.cell 1 _ rfl
        have z2 : wz.cell? ⟨w.heap.size + 1, 2, none⟩ = some (.bool false) := HZ.out.cell 2 _ rfl
        have z3 : wz.cell? ⟨w.heap.size + 1, 3, none⟩ = some (.bool false) := HZ.out.cell 3 _ rfl
        refine l3Step_ret rfl rfl z0 z1 z2 z3 ⟨gg, cc, ?_, ?_, HXX.out⟩
        · rw [HST.out]
        · rw [HST.out]; exact HY.out
      · have hnx2 : (n : Int) ≤ (k : Int) + 1 := by omega
        have hst : stepOf xs ⟨rs, k, false, st⟩ = ⟨rs, k, false, true⟩ := by
          unfold stepOf nextOf
          simp only [HGET.out]
          simp only [HL.out]
          simp [hnx, hnx2]
        have HST := Lib.hid hst
        clear hst
        go_wp2_with fail
        have hZ := (Blk.alloc (Blk.set (Blk.set (Blk.set (Blk.set (Blk.other HR.out (.bool true) (g' := go) (j := 3) (by omega)) 0 (.slice (some ⟨gg, 0, none⟩) 4 cc)) 1 (.int .i64 k)) 2 (.bool false)) 3 (.bool true)) (.cells #[.int .i64 8, .int .i64 xa, .int .i64 xb, .int .i64 xn] 25))
        have hY := (own_more (own_set (own_set (own_set (own_set (own_set HO.out (.bool true) (g := go) (j := 3) hnO) (.slice (some ⟨gg, 0, none⟩) 4 cc) (g := w.heap.size + 1) (j := 0) hnR) (.int .i64 k) (g := w.heap.size + 1) (j := 1) hnR) (.bool false) (g := w.heap.size + 1) (j := 2) hnR) (.bool true) (g := w.heap.size + 1) (j := 3) hnR) (.cells #[.int .i64 8, .int .i64 xa, .int .i64 xb, .int .i64 xn] 25))
        have hX := (below_more (below_set (below_set (below_set (below_set (below_set HW.out (g := go) (j := 3) (by omega) (.bool true)) (g := w.heap.size + 1) (j := 0) (by omega) (.slice (some ⟨gg, 0, none⟩) 4 cc)) (g := w.heap.size + 1) (j := 1) (by omega) (.int .i64 k)) (g := w.heap.size + 1) (j := 2) (by omega) (.bool false)) (g := w.heap.size + 1) (j := 3) (by omega) (.bool true)) (.cells #[.int .i64 8, .int .i64 xa, .int .i64 xb, .int .i64 xn] 25))
        have HZ := Lib.hid hZ
        have HY := Lib.hid hY
        have HXX := Lib.hid hX
        clear hZ hY hX k0 k1 k2 k3 r0 r1 r2 r3 fr0 fr1 fr2 fr3 p0 p1 p2 p3 fp0 fp1 fp2 fp3
        revert HZ HY HXX
        generalize ((((((wc.setCell _ _).setCell _ _).setCell _ _).setCell _ _).setCell _ _).alloc _) = wz
        intro HZ HY HXX
        have z0 : wz.cell? ⟨w.heap.size + 1, 0, none⟩ = some (.slice (some ⟨gg, 0, none⟩) 4 cc) := HZ.out.cell 0 _ rfl
        have z1 : wz.cell? ⟨w.heap.size + 1, 1, none⟩ = some (.int .i64 k) := HZ.out.cell 1 _ rfl
        have z2 : wz.cell? ⟨w.heap.size + 1, 2, none⟩ = some (.bool false) := HZ.out.cell 2 _ rfl
        have z3 : wz.cell? ⟨w.heap.size + 1, 3, none⟩ = some (.bool true) := HZ.out.cell 3 _ rfl
        refine l3Step_ret rfl rfl z0 z1 z2 z3 ⟨gg, cc, ?_, ?_, HXX.out⟩
        · rw [HST.out]
        · rw [HST.out]; exact HY.out
    ·
      by_cases hnx : xn < (n : Int)
      · have hnx2 : ¬ ((n : Int) ≤ xn) := by omega
        have hst : stepOf xs ⟨rs, k, true, st⟩ = ⟨rs, xn, true, false⟩ := by
          unfold stepOf nextOf
          simp only [HGET.out]
          simp only [HL.out]
          simp [hnx, hnx2]
        have HST := Lib.hid hst
        clear hst
        go_wp2_with fail
        have hZ := (Blk.alloc (Blk.set (Blk.set (Blk.set (Blk.set (Blk.other (Blk.other HR.out (.int .i64 xn) (g' := go) (j := 1) (by omega)) (.bool false) (g' := go) (j := 3) (by omega)) 0 (.slice (some ⟨gg, 0, none⟩) 4 cc)) 1 (.int .i64 xn)) 2 (.bool true)) 3 (.bool false)) (.cells #[.int .i64 8, .int .i64 xa, .int .i64 xb, .int .i64 xn] 25))
        have hY := (own_more (own_set (own_set (own_set (own_set (own_set (own_set HO.out (.int .i64 xn) (g := go) (j := 1) hnO) (.bool false) (g := go) (j := 3) hnO) (.slice (some ⟨gg, 0, none⟩) 4 cc) (g := w.heap.size + 1) (j := 0) hnR) (.int .i64 xn) (g := w.heap.size + 1) (j := 1) hnR) (.bool true) (g := w.heap.size + 1) (j := 2) hnR) (.bool false) (g := w.heap.size + 1) (j := 3) hnR) (.cells #[.int .i64 8, .int .i64 xa, .int .i64 xb, .int .i64 xn] 25))
        have hX := (below_more (below_set (below_set (below_set (below_set (below_set (below_set HW.out (g := go) (j := 1) (by omega) (.int .i64 xn)) (g := go) (j := 3) (by omega) (.bool false)) (g := w.heap.size + 1) (j := 0) (by omega) (.slice (some ⟨gg, 0, none⟩) 4 cc)) (g := w.heap.size + 1) (j := 1) (by omega) (.int .i64 xn)) (g := w.heap.size + 1) (j := 2) (by omega) (.bool true)) (g := w.heap.size + 1) (j := 3) (by omega) (.bool false)) (.cells #[.int .i64 8, .int .i64 xa, .int .i64 xb, .int .i64 xn] 25))
        have HZ := Lib.hid hZ
        have HY := Lib.hid hY
        have HXX := Lib.hid hX
        clear hZ hY hX k0 k1 k2 k3 r0 r1 r2 r3 fr0 fr1 fr2 fr3 p0 p1 p2 p3 fp0 fp1 fp2 fp3
        revert HZ HY HXX
        generalize (((((((wc.setCell _ _).setCell _ _).setCell _ _).setCell _ _).setCell _ _).setCell _ _).alloc _) = wz
        intro HZ HY HXX
        have z0 : wz.cell? ⟨w.heap.size + 1, 0, none⟩ = some (.slice (some ⟨gg, 0, none⟩) 4 cc) := HZ.out.cell 0 _ rfl
        have z1 : wz.cell? ⟨w.heap.size + 1, 1, none⟩ = some (.int .i64 xn) := HZ.out.cell 1 _ rfl
        have z2 : wz.cell? ⟨w.heap.size + 1, 2, none⟩ = some (.bool true) := HZ.out.cell 2 _ rfl
        have z3 : wz.cell? ⟨w.heap.size + 1, 3, none⟩ = some (.bool false) := HZ.out.cell 3 _ rfl
        refine l3Step_ret rfl rfl z0 z1 z2 z3 ⟨gg, cc, ?_, ?_, HXX.out⟩
        · rw [HST.out]
        · rw [HST.out]; exact HY.out
      · have hnx2 : (n : Int) ≤ xn := by omega
        have hst : stepOf xs ⟨rs, k, true, st⟩ = ⟨rs, k, true, true⟩ := by
          unfold stepOf nextOf
          simp only [HGET.out]
          simp only [HL.out]
          simp [hnx, hnx2]
        have HST := Lib.hid hst
        clear hst
        go_wp2_with fail
        have hZ := (Blk.alloc (Blk.set (Blk.set (Blk.set (Blk.set (Blk.other HR.out (.bool true) (g' := go) (j := 3) (by omega)) 0 (.slice (some ⟨gg, 0, none⟩) 4 cc)) 1 (.int .i64 k)) 2 (.bool true)) 3 (.bool true)) (.cells #[.int .i64 8, .int .i64 xa, .int .i64 xb, .int .i64 xn] 25))
        have hY := (own_more (own_set (own_set (own_set (own_set (own_set HO.out (.bool true) (g := go) (j := 3) hnO) (.slice (some ⟨gg, 0, none⟩) 4 cc) (g := w.heap.size + 1) (j := 0) hnR) (.int .i64 k) (g := w.heap.size + 1) (j := 1) hnR) (.bool true) (g := w.heap.size + 1) (j := 2) hnR) (.bool true) (g := w.heap.size + 1) (j := 3) hnR) (.cells #[.int .i64 8, .int .i64 xa, .int .i64 xb, .int .i64 xn] 25))
        have hX := (below_more (below_set (below_set (below_set (below_set (below_set HW.out (g := go) (j := 3) (by omega) (.bool true)) (g := w.heap.size + 1) (j := 0) (by omega) (.slice (some ⟨gg, 0, none⟩) 4 cc)) (g := w.heap.size + 1) (j := 1) (by omega) (.int .i64 k)) (g := w.heap.size + 1) (j := 2) (by omega) (.bool true)) (g := w.heap.size + 1) (j := 3) (by omega) (.bool true)) (.cells #[.int .i64 8, .int .i64 xa, .int .i64 xb, .int .i64 xn] 25))
        have HZ := Lib.hid hZ
        have HY := Lib.hid hY
        have HXX := Lib.hid hX
        clear hZ hY hX k0 k1 k2 k3 r0 r1 r2 r3 fr0 fr1 fr2 fr3 p0 p1 p2 p3 fp0 fp1 fp2 fp3
        revert HZ HY HXX
        generalize ((((((wc.setCell _ _).setCell _ _).setCell _ _).setCell _ _).setCell _ _).alloc _) = wz
        intro HZ HY HXX
        have z0 : wz.cell? ⟨w.heap.size + 1, 0, none⟩ = some (.slice (some ⟨gg, 0, none⟩) 4 cc) := HZ.out.cell 0 _ rfl
        have z1 : wz.cell? ⟨w.heap.size + 1, 1, none⟩ = some (.int .i64 k) := HZ.out.cell 1 _ rfl
        have z2 : wz.cell? ⟨w.heap.size + 1, 2, none⟩ = some (.bool true) := HZ.out.cell 2 _ rfl
        have z3 : wz.cell? ⟨w.heap.size + 1, 3, none⟩ = some (.bool true) := HZ.out.cell 3 _ rfl
        refine l3Step_ret rfl rfl z0 z1 z2 z3 ⟨gg, cc, ?_, ?_, HXX.out⟩
        · rw [HST.out]
        · rw [HST.out]; exact HY.out
set_option maxRecDepth 100000 in
set_option maxHeartbeats 1600000 in
theorem l3Step_alu (A A' : Option Addr) (n c c' : Nat) (xs : List Ins) (rs : List Int) (k : Nat) (zero st : Bool) (op xa xb xn : Int) (w : World) (hr : Reads w w.heap.size 4 A n (FL xs)) (hn : n ≤ 1048576) (hr' : Reads w w.heap.size 1 A' 4 (I rs))
    (hk : k < n) (hx : xs[k]? = some ⟨op, xa, xb, xn⟩) (hok : Ok ⟨op, xa, xb, xn⟩) (hrs : ∀ z ∈ rs, 0 ≤ z ∧ z ≤ 65535) (h1 : 1 ≤ op) (h6 : op ≤ 6) :
    Calls Tryd.prog 59 #[.slice A n c, .agg #[.slice A' 4 c', .int .i64 k, .bool zero, .bool st]] w fun e w' => ∃ gg cc, e = .returned (.agg #[.slice (some ⟨gg, 0, none⟩) 4 cc, .int .i64 (stepOf xs ⟨rs, k, zero, st⟩).place, .bool (stepOf xs ⟨rs, k, zero, st⟩).zero, .bool (stepOf xs ⟨rs, k, zero, st⟩).stopped]) ∧
      w'.ownsRow w.heap.size 3 1 (.slice (some ⟨gg, 0, none⟩) 4 cc) 4 (I (stepOf xs ⟨rs, k, zero, st⟩).r) ∧ Below w.heap.size w w' := by
  obtain ⟨b2, o2, rfl, hb2, hcells⟩ := hr'.2 (by omega)
  have hL : xs.length = n := reads_len hr
  have hget : xs.getD ((k : Int).toNat) default = ⟨op, xa, xb, xn⟩ := by rw [Int.toNat_natCast, List.getD, hx]; rfl
  have HCE := Lib.hid hcells
  clear hcells
  have hk4 := hok.2.1
  have hk5 := hok.2.2.1
  have hk6 := cntA_le op
  have hk7 := cntB_le op
  have hn3 := hok.2.2.2
  have hn4 := mostN_le op
  simp only at hk4 hk5 hn3
  obtain ⟨ka, rfl⟩ := Int.eq_ofNat_of_zero_le hk4.1
  obtain ⟨kb, rfl⟩ := Int.eq_ofNat_of_zero_le hk5.1
  have hka : ka < 4 := by omega
  have hkb : kb < 4 := by omega
  have hn6 : op = 6 → xn ≤ 15 := by
    rintro rfl
    have : mostN 6 = 15 := rfl
    omega
  have hnn : 0 ≤ xn ∧ xn ≤ 65535 := by omega
  obtain ⟨u, hu⟩ : ∃ u, rs.getD ka 0 = u := ⟨_, rfl⟩
  obtain ⟨v2, hv2⟩ : ∃ v, rs.getD kb 0 = v := ⟨_, rfl⟩
  have hur : 0 ≤ u ∧ u ≤ 65535 := by rw [← hu]; exact getD_range hrs
  have hvr : 0 ≤ v2 ∧ v2 ≤ 65535 := by rw [← hv2]; exact getD_range hrs
  obtain ⟨y, hy⟩ : ∃ y, valueOf ⟨op, ka, kb, xn⟩ u v2 = y := ⟨_, rfl⟩
  have HU := Lib.hid hu
  have HV := Lib.hid hv2
  have HY0 := Lib.hid hy
  have h0 : ¬ op = 0 := by omega
  have h7 : ¬ op = 7 := by omega
  have h8 : ¬ op = 8 := by omega
  have h9 : ¬ op = 9 := by omega
  have h9b : (op == 9) = false := by simpa using h9
  have h0b : (op == 0) = false := by simpa using h0
  have h7b : (op == 7) = false := by simpa using h7
  have h8b : (op == 8) = false := by simpa using h8
  have HC := Lib.hid fun (w' : World) (g o c2 : Nat) (hl : g < w'.heap.size) (ca : w'.cell? ⟨g, o + ka, none⟩ = some (.int .i64 u)) (cb : w'.cell? ⟨g, o + kb, none⟩ = some (.int .i64 v2)) => l3Value_any op xn ka kb u v2 g o c2 w' h1 h6 hka hkb hnn.1 hnn.2 hn6 hur hvr hl ca cb
  rw [hy] at HC
  have HGET := Lib.hid hget
  have HL := Lib.hid hL
  clear hu hv2 hy hk4 hk5 hk6 hk7 hn3 hn4 hn6 hok
  obtain ⟨wb, hwb⟩ : ∃ wb, (w.alloc (.cells #[.slice (some ⟨b2, o2, none⟩) 4 c', .int .i64 k, .bool zero, .bool st] 40)).alloc (.cells #[.slice none 0 0, .int .i64 0, .bool false, .bool false] 40) = wb := ⟨_, rfl⟩
  have hb0 : Below w.heap.size w wb := by rw [← hwb]; exact below_more (below_more (Below.refl w.heap.size w) _) _
  have hsz : wb.heap.size = w.heap.size + 1 + 1 := by rw [← hwb, size1, size1]
  have HR1 := Lib.hid ((hr'.below hb0).more hb0.size)
  have HP1 := Lib.hid hr
  have hG : Blk wb w.heap.size 40 #[.slice (some ⟨b2, o2, none⟩) 4 c', .int .i64 k, .bool zero, .bool st] := by rw [← hwb]; exact Blk.alloc (Blk.new _ _ _) _
  have hR : Blk wb (w.heap.size + 1) 40 #[.slice none 0 0, .int .i64 0, .bool false, .bool false] := by
    rw [← hwb]
    have h := Blk.new (w.alloc (.cells #[.slice (some ⟨b2, o2, none⟩) 4 c', .int .i64 k, .bool zero, .bool st] 40)) #[.slice none 0 0, .int .i64 0, .bool false, .bool false] 40
    rwa [size1] at h
  have HG := Lib.hid hG
  have HR := Lib.hid hR
  have HX := Lib.hid hx
  have HRS := Lib.hid hrs
  have HW := Lib.hid hb0
  have HWB := Lib.hid hwb
  have hlen := hr'.len
  rw [I_len] at hlen
  have HLEN := Lib.hid hlen
  have k0 := HG.out.cell 0 _ rfl
  have k1 := HG.out.cell 1 _ rfl
  have k2 := HG.out.cell 2 _ rfl
  have HSZ := Lib.hid hsz
  clear hr hr' hb0 hx hrs hget hlen hG hR hwb hsz
  have e0 : wb.drew.cell? ⟨w.heap.size, 0, none⟩ = some (.slice (some ⟨b2, o2, none⟩) 4 c') := k0
  have e1 : wb.drew.cell? ⟨w.heap.size, 1, none⟩ = some (.int .i64 k) := k1
  have e2 : wb.drew.cell? ⟨w.heap.size, 2, none⟩ = some (.bool zero) := k2
  have hGA := Blk.alloc HG.out (.cells #[.slice none 0 0, .int .i64 0, .bool false, .bool false] 40)
  have a0 : (wb.alloc (.cells #[.slice none 0 0, .int .i64 0, .bool false, .bool false] 40)).drew.cell? ⟨w.heap.size, 0, none⟩ = some (.slice (some ⟨b2, o2, none⟩) 4 c') := hGA.cell 0 _ rfl
  have a1 : (wb.alloc (.cells #[.slice none 0 0, .int .i64 0, .bool false, .bool false] 40)).drew.cell? ⟨w.heap.size, 1, none⟩ = some (.int .i64 k) := hGA.cell 1 _ rfl
  have a2 : (wb.alloc (.cells #[.slice none 0 0, .int .i64 0, .bool false, .bool false] 40)).drew.cell? ⟨w.heap.size, 2, none⟩ = some (.bool zero) := hGA.cell 2 _ rfl
  clear hGA
  go_enter Tryd.func59, Tryd.ntmps59
  go_upto_region 1 with fail
  rw [HWB.out]
  clear HWB
  go_cut [5] from 9 to 16 (fun p wx => ∃ go gg cc, p = .pointer (some ⟨go, 0, none⟩) ∧ AtCopy w wx b2 o2 c' k zero st rs go gg cc)
  case first =>
    go_region_held3 (fun w' => w'.cell? ⟨w.heap.size, 0, none⟩ = some (.slice (some ⟨b2, o2, none⟩) 4 c') ∧ w'.cell? ⟨w.heap.size, 1, none⟩ = some (.int .i64 k) ∧ w'.cell? ⟨w.heap.size, 2, none⟩ = some (.bool zero)) (first | (with_reducible exact ⟨e0, e1, e2⟩) | (with_reducible exact ⟨k0, k1, k2⟩) | (with_reducible exact ⟨a0, a1, a2⟩) | (with_reducible exact ⟨m0, m1, m2⟩) | (with_reducible exact ⟨s0, s1, s2⟩))
      (first
        | (go_at_call 58; (with_reducible refine (l1Own_some b2 o2 4 c' _ rs wb.drew HR1.out.drew (by omega) (by omega)).mono ?_); rintro e w1 ⟨gg, cc, rfl, hown, hb⟩; replace hb : Below wb.heap.size wb w1 := (below_dr wb).trans hb; have HG2 := Lib.hid (Blk.kept hb HG.out); have HR2 := Lib.hid (Blk.kept hb HR.out); have hgg : wb.heap.size ≤ gg := (hown.lt gg rfl).1; have hgl : gg < w1.heap.size := (hown.lt gg rfl).2; have HO := Lib.hid (own_mono hown (b' := w.heap.size) (HW.out).size); have hs := hb.size; have HW2 := Lib.hid (below_then HW.out hb); clear hown hb; replace k0 : w1.cell? ⟨w.heap.size, 0, none⟩ = some (.slice (some ⟨b2, o2, none⟩) 4 c') := HG2.out.cell 0 _ rfl; replace k1 : w1.cell? ⟨w.heap.size, 1, none⟩ = some (.int .i64 k) := HG2.out.cell 1 _ rfl; replace k2 : w1.cell? ⟨w.heap.size, 2, none⟩ = some (.bool zero) := HG2.out.cell 2 _ rfl; have HGm := Lib.hid (Blk.alloc HG2.out (.cells #[.slice none 0 0, .int .i64 0, .bool false, .bool false] 40)); have HGs := Lib.hid (Blk.alloc HG2.out (.cells #[.slice (some ⟨gg, 0, none⟩) 4 cc, .int .i64 k, .bool zero, .bool false] 40)); have m0 : (w1.alloc (.cells #[.slice none 0 0, .int .i64 0, .bool false, .bool false] 40)).cell? ⟨w.heap.size, 0, none⟩ = some (.slice (some ⟨b2, o2, none⟩) 4 c') := HGm.out.cell 0 _ rfl; have m1 : (w1.alloc (.cells #[.slice none 0 0, .int .i64 0, .bool false, .bool false] 40)).cell? ⟨w.heap.size, 1, none⟩ = some (.int .i64 k) := HGm.out.cell 1 _ rfl; have m2 : (w1.alloc (.cells #[.slice none 0 0, .int .i64 0, .bool false, .bool false] 40)).cell? ⟨w.heap.size, 2, none⟩ = some (.bool zero) := HGm.out.cell 2 _ rfl; have s0 : (w1.alloc (.cells #[.slice (some ⟨gg, 0, none⟩) 4 cc, .int .i64 k, .bool zero, .bool false] 40)).cell? ⟨w.heap.size, 0, none⟩ = some (.slice (some ⟨b2, o2, none⟩) 4 c') := HGs.out.cell 0 _ rfl; have s1 : (w1.alloc (.cells #[.slice (some ⟨gg, 0, none⟩) 4 cc, .int .i64 k, .bool zero, .bool false] 40)).cell? ⟨w.heap.size, 1, none⟩ = some (.int .i64 k) := HGs.out.cell 1 _ rfl; have s2 : (w1.alloc (.cells #[.slice (some ⟨gg, 0, none⟩) 4 cc, .int .i64 k, .bool zero, .bool false] 40)).cell? ⟨w.heap.size, 2, none⟩ = some (.bool zero) := HGs.out.cell 2 _ rfl)
        | (go_at_call 58; have HGa := Blk.alloc HG.out (.cells #[.slice none 0 0, .int .i64 0, .bool false, .bool false] 40); have HRa := Blk.alloc HR.out (.cells #[.slice none 0 0, .int .i64 0, .bool false, .bool false] 40); have HOa := Blk.new wb #[.slice none 0 0, .int .i64 0, .bool false, .bool false] 40; have hra := HR1.out.alloc (Nat.le_refl _) (.cells #[.slice none 0 0, .int .i64 0, .bool false, .bool false] 40); have hba := below_more HW.out (.cells #[.slice none 0 0, .int .i64 0, .bool false, .bool false] 40); (with_reducible refine (l1Own_some b2 o2 4 c' _ rs (wb.alloc (.cells #[.slice none 0 0, .int .i64 0, .bool false, .bool false] 40)).drew hra.drew (by omega) (by omega)).mono ?_); rintro e w1 ⟨gg, cc, rfl, hown, hb⟩; replace hb : Below (wb.alloc (.cells #[.slice none 0 0, .int .i64 0, .bool false, .bool false] 40)).heap.size (wb.alloc (.cells #[.slice none 0 0, .int .i64 0, .bool false, .bool false] 40)) w1 := (below_dr (wb.alloc (.cells #[.slice none 0 0, .int .i64 0, .bool false, .bool false] 40))).trans hb; have HG2 := Lib.hid (Blk.kept hb HGa); have HR2 := Lib.hid (Blk.kept hb HRa); have HO2 := Lib.hid (Blk.kept hb HOa); have hgg : (wb.alloc (.cells #[.slice none 0 0, .int .i64 0, .bool false, .bool false] 40)).heap.size ≤ gg := (hown.lt gg rfl).1; have hgl : gg < w1.heap.size := (hown.lt gg rfl).2; have HO := Lib.hid (own_mono hown (b' := w.heap.size) (hba).size); have hs := hb.size; have HW2 := Lib.hid (below_then hba hb); clear hown hb; replace k0 : w1.cell? ⟨w.heap.size, 0, none⟩ = some (.slice (some ⟨b2, o2, none⟩) 4 c') := HG2.out.cell 0 _ rfl; replace k1 : w1.cell? ⟨w.heap.size, 1, none⟩ = some (.int .i64 k) := HG2.out.cell 1 _ rfl; replace k2 : w1.cell? ⟨w.heap.size, 2, none⟩ = some (.bool zero) := HG2.out.cell 2 _ rfl; have f0 := HO2.out.free 0; have f1 := HO2.out.free 1; have f2 := HO2.out.free 2; have f3 := HO2.out.free 3; have d0 := HO2.out.cell 0 _ rfl; have d1 := HO2.out.cell 1 _ rfl; have d2 := HO2.out.cell 2 _ rfl; have d3 := HO2.out.cell 3 _ rfl; have hne : ¬ (w.heap.size = wb.heap.size) := (by have := HSZ.out; omega); have HGs := Lib.hid (Blk.other (Blk.other (Blk.other (Blk.other HG2.out (.slice (some ⟨gg, 0, none⟩) 4 cc) (g' := wb.heap.size) (j := 0) hne) (.int .i64 k) (g' := wb.heap.size) (j := 1) hne) (.bool zero) (g' := wb.heap.size) (j := 2) hne) (.bool false) (g' := wb.heap.size) (j := 3) hne); have s0 : ((((w1.setCell ⟨wb.heap.size, 0, none⟩ (.slice (some ⟨gg, 0, none⟩) 4 cc)).setCell ⟨wb.heap.size, 1, none⟩ (.int .i64 k)).setCell ⟨wb.heap.size, 2, none⟩ (.bool zero)).setCell ⟨wb.heap.size, 3, none⟩ (.bool false)).cell? ⟨w.heap.size, 0, none⟩ = some (.slice (some ⟨b2, o2, none⟩) 4 c') := HGs.out.cell 0 _ rfl; have s1 : ((((w1.setCell ⟨wb.heap.size, 0, none⟩ (.slice (some ⟨gg, 0, none⟩) 4 cc)).setCell ⟨wb.heap.size, 1, none⟩ (.int .i64 k)).setCell ⟨wb.heap.size, 2, none⟩ (.bool zero)).setCell ⟨wb.heap.size, 3, none⟩ (.bool false)).cell? ⟨w.heap.size, 1, none⟩ = some (.int .i64 k) := HGs.out.cell 1 _ rfl; have s2 : ((((w1.setCell ⟨wb.heap.size, 0, none⟩ (.slice (some ⟨gg, 0, none⟩) 4 cc)).setCell ⟨wb.heap.size, 1, none⟩ (.int .i64 k)).setCell ⟨wb.heap.size, 2, none⟩ (.bool zero)).setCell ⟨wb.heap.size, 3, none⟩ (.bool false)).cell? ⟨w.heap.size, 2, none⟩ = some (.bool zero) := HGs.out.cell 2 _ rfl))
    all_goals (go_wp2_with fail; go_meet)
    all_goals have hsz := HSZ.out
    · case rel =>
      exact ⟨w1.heap.size, gg, cc, rfl, ⟨Blk.new _ _ _, Blk.alloc HG2.out _, Blk.alloc HR2.out _, own_more HO.out _, below_more HW2.out _, by omega⟩⟩
    · case rel =>
      rw [size1] at hgg
      have hnB : (Value.slice (some ⟨gg, 0, none⟩) 4 cc).ownBlock ≠ some wb.heap.size := by
        intro e
        injection e with e
        simp only at e
        omega
      exact ⟨wb.heap.size, gg, cc, rfl, ⟨(Blk.set (Blk.set (Blk.set (Blk.set HO2.out 0 (.slice (some ⟨gg, 0, none⟩) 4 cc)) 1 (.int .i64 k)) 2 (.bool zero)) 3 (.bool false)), (Blk.other (Blk.other (Blk.other (Blk.other HG2.out (.slice (some ⟨gg, 0, none⟩) 4 cc) (g' := wb.heap.size) (j := 0) (by omega)) (.int .i64 k) (g' := wb.heap.size) (j := 1) (by omega)) (.bool zero) (g' := wb.heap.size) (j := 2) (by omega)) (.bool false) (g' := wb.heap.size) (j := 3) (by omega)), (Blk.other (Blk.other (Blk.other (Blk.other HR2.out (.slice (some ⟨gg, 0, none⟩) 4 cc) (g' := wb.heap.size) (j := 0) (by omega)) (.int .i64 k) (g' := wb.heap.size) (j := 1) (by omega)) (.bool zero) (g' := wb.heap.size) (j := 2) (by omega)) (.bool false) (g' := wb.heap.size) (j := 3) (by omega)), (own_set (own_set (own_set (own_set HO.out (.slice (some ⟨gg, 0, none⟩) 4 cc) (g := wb.heap.size) (j := 0) hnB) (.int .i64 k) (g := wb.heap.size) (j := 1) hnB) (.bool zero) (g := wb.heap.size) (j := 2) hnB) (.bool false) (g := wb.heap.size) (j := 3) hnB), (below_set (below_set (below_set (below_set HW2.out (g := wb.heap.size) (j := 0) (by omega) (.slice (some ⟨gg, 0, none⟩) 4 cc)) (g := wb.heap.size) (j := 1) (by omega) (.int .i64 k)) (g := wb.heap.size) (j := 2) (by omega) (.bool zero)) (g := wb.heap.size) (j := 3) (by omega) (.bool false)), by omega⟩⟩
  case rest =>
    obtain ⟨go, gg, cc, rfl, HC⟩ := hcut
    have HG := Lib.hid HC.arg
    have HR := Lib.hid HC.res
    have HOUT := Lib.hid HC.out
    have HO := Lib.hid HC.own
    have HW := Lib.hid HC.below
    have hgo := HC.ord
    have hgol := HC.out.lt
    have hgl := (HC.own.lt gg rfl).2
    have hs1 := HC.arg.lt
    have hs2 := HC.res.lt
    have hb4 : b2 < wc.heap.size := Nat.lt_of_lt_of_le hb2 HC.below.size
    obtain ⟨b1, o1, y, rfl, hb1, hy, c0, c1, c2, c3⟩ := ins_at (HP1.out.below HC.below) hk
    have hb3 : b1 < wc.heap.size := Nat.lt_of_lt_of_le hb1 HC.below.size
    obtain rfl : y = ⟨op, ka, kb, xn⟩ := by rw [HX.out] at hy; exact (Option.some.inj hy).symm
    have hA' := fun j u hu => (HC.below.cell (p := ⟨b2, o2 + j, none⟩) hb2).trans (HCE.out j u hu)
    have HA := Lib.hid hA'
    clear hy HP1 HC e0 e1 e2 a0 a1 a2 HR1 hA'
    have hnG : (Value.slice (some ⟨gg, 0, none⟩) 4 cc).ownBlock ≠ some w.heap.size := by
      intro e
      injection e with e
      simp only at e
      omega
    have hnR : (Value.slice (some ⟨gg, 0, none⟩) 4 cc).ownBlock ≠ some (w.heap.size + 1) := by
      intro e
      injection e with e
      simp only at e
      omega
    have hnO : (Value.slice (some ⟨gg, 0, none⟩) 4 cc).ownBlock ≠ some go := by
      intro e
      injection e with e
      simp only at e
      omega
    have k0 := HG.out.cell 0 _ rfl
    have k1 := HG.out.cell 1 _ rfl
    have k2 := HG.out.cell 2 _ rfl
    have k3 := HG.out.cell 3 _ rfl
    have r0 := HR.out.cell 0 _ rfl
    have r1 := HR.out.cell 1 _ rfl
    have r2 := HR.out.cell 2 _ rfl
    have r3 := HR.out.cell 3 _ rfl
    have fr0 := HR.out.free 0
    have fr1 := HR.out.free 1
    have fr2 := HR.out.free 2
    have fr3 := HR.out.free 3
    have p0 := HOUT.out.cell 0 _ rfl
    have p1 := HOUT.out.cell 1 _ rfl
    have p2 := HOUT.out.cell 2 _ rfl
    have p3 := HOUT.out.cell 3 _ rfl
    have fp0 := HOUT.out.free 0
    have fp1 := HOUT.out.free 1
    have fp2 := HOUT.out.free 2
    have fp3 := HOUT.out.free 3
    have hx1 : ¬ (w.heap.size = go) := by omega
    have hx2 : ¬ (w.heap.size + 1 = go) := by omega
    have hx3 : ¬ (go = w.heap.size) := by omega
    have hx4 : ¬ (go = w.heap.size + 1) := by omega
    go_wp2_with fail
    have hGv := Blk.alloc HG.out (.cells #[.int .i64 op, .int .i64 ka, .int .i64 kb, .int .i64 xn] 25)
    have hRv := Blk.alloc HR.out (.cells #[.int .i64 op, .int .i64 ka, .int .i64 kb, .int .i64 xn] 25)
    have hOutv := Blk.alloc HOUT.out (.cells #[.int .i64 op, .int .i64 ka, .int .i64 kb, .int .i64 xn] 25)
    have hXv := Blk.new wc #[.int .i64 op, .int .i64 ka, .int .i64 kb, .int .i64 xn] 25
    have hOv := own_more HO.out (.cells #[.int .i64 op, .int .i64 ka, .int .i64 kb, .int .i64 xn] 25)
    have hBv := below_more HW.out (.cells #[.int .i64 op, .int .i64 ka, .int .i64 kb, .int .i64 xn] 25)
    have hrl : rs.length = 4 := HLEN.out
    have hca : (wc.alloc (.cells #[.int .i64 op, .int .i64 ka, .int .i64 kb, .int .i64 xn] 25)).cell? ⟨b2, o2 + ka, none⟩ = some (.int .i64 u) := by
      rw [World.cell?_alloc_lt _ _ _ hb4]
      refine HA.out ka _ (I_at ?_)
      have hu := HU.out
      rw [List.getD, List.getElem?_eq_getElem (by omega)] at hu
      rw [List.getElem?_eq_getElem (by omega), ← hu]
      rfl
    have hcb : (wc.alloc (.cells #[.int .i64 op, .int .i64 ka, .int .i64 kb, .int .i64 xn] 25)).cell? ⟨b2, o2 + kb, none⟩ = some (.int .i64 v2) := by
      rw [World.cell?_alloc_lt _ _ _ hb4]
      refine HA.out kb _ (I_at ?_)
      have hu := HV.out
      rw [List.getD, List.getElem?_eq_getElem (by omega)] at hu
      rw [List.getElem?_eq_getElem (by omega), ← hu]
      rfl
    have hbv : b2 < (wc.alloc (.cells #[.int .i64 op, .int .i64 ka, .int .i64 kb, .int .i64 xn] 25)).heap.size := by rw [size1]; omega
    refine (HC.out _ b2 o2 c' hbv hca hcb).mono ?_
    rintro e w2 ⟨rfl, hb⟩
    have hG2 := Blk.kept hb hGv
    have hR2 := Blk.kept hb hRv
    have hOut2 := Blk.kept hb hOutv
    have hX2 := Blk.kept hb hXv
    have hO2 := own_below hOv hb
    have hB2 := below_then hBv hb
    clear hb hGv hRv hOutv hXv hOv hBv hca hcb hbv HG HR HOUT HO HW k0 k1 k2 k3 r0 r1 r2 r3 fr0 fr1 fr2 fr3 p0 p1 p2 p3 fp0 fp1 fp2 fp3 c0 c1 c2 c3
    have HG := Lib.hid hG2
    have HR := Lib.hid hR2
    have HOUT := Lib.hid hOut2
    have HX2 := Lib.hid hX2
    have HO := Lib.hid hO2
    have HW := Lib.hid hB2
    have hgl2 := (hO2.lt gg rfl).2
    have hgol2 := hOut2.lt
    have d0 : ∃ z, w2.cell? ⟨gg, ka, none⟩ = some z := ⟨_, (hO2.cellAt ka (by omega)).trans (List.getElem?_eq_getElem (by rw [I_len]; omega))⟩
    obtain ⟨dz, hdz⟩ := d0
    have hfz := hO2.frozenAt ka
    clear hG2 hR2 hOut2 hX2 hO2 hB2
    have hki0 : (0 : Int) ≤ (ka : Int) := by omega
    have hki1 : (ka : Int) < 4 := by omega
    have hy1 : ¬ (w.heap.size = gg) := by omega
    have hy2 : ¬ (wc.heap.size = gg) := by omega
    have hy3 : ¬ (go = gg) := by omega
    have x0 := HX2.out.cell 0 _ rfl
    have x1 := HX2.out.cell 1 _ rfl
    have x2 := HX2.out.cell 2 _ rfl
    have x3 := HX2.out.cell 3 _ rfl
    have k0 := HG.out.cell 0 _ rfl
    have k1 := HG.out.cell 1 _ rfl
    have k2 := HG.out.cell 2 _ rfl
    have k3 := HG.out.cell 3 _ rfl
    have r0 := HR.out.cell 0 _ rfl
    have r1 := HR.out.cell 1 _ rfl
    have r2 := HR.out.cell 2 _ rfl
    have r3 := HR.out.cell 3 _ rfl
    have p0 := HOUT.out.cell 0 _ rfl
    have p1 := HOUT.out.cell 1 _ rfl
    have p2 := HOUT.out.cell 2 _ rfl
    have p3 := HOUT.out.cell 3 _ rfl
    have fr0 := HR.out.free 0
    have fr1 := HR.out.free 1
    have fr2 := HR.out.free 2
    have fr3 := HR.out.free 3
    have fp0 := HOUT.out.free 0
    have fp1 := HOUT.out.free 1
    have fp2 := HOUT.out.free 2
    have fp3 := HOUT.out.free 3
    by_cases hnx : (k : Int) + 1 < (n : Int)
    ·
      have hnx2 : ¬ ((n : Int) ≤ (k : Int) + 1) := by omega
      have hst : stepOf xs ⟨rs, k, zero, st⟩ = ⟨rs.set ka y, (k : Int) + 1, (y == 0), false⟩ := by
        unfold stepOf nextOf
        simp only [HGET.out]
        simp only [HL.out, Int.toNat_natCast, HU.out, HV.out, HY0.out]
        simp [hnx, hnx2, h0, h7, h8, h9, h1, h6]
        all_goals rfl
      have HST := Lib.hid hst
      clear hst
      go_wp2_with fail
      have hZ := (Blk.set (Blk.set (Blk.set (Blk.set (Blk.other (Blk.other (Blk.other (Blk.other HR.out (.int .i64 y) (g' := gg) (j := ka) (by omega)) (.bool (y == 0)) (g' := go) (j := 2) (by omega)) (.int .i64 ((k : Int) + 1)) (g' := go) (j := 1) (by omega)) (.bool false) (g' := go) (j := 3) (by omega)) 0 (.slice (some ⟨gg, 0, none⟩) 4 cc)) 1 (.int .i64 ((k : Int) + 1))) 2 (.bool (y == 0))) 3 (.bool false))
      have hY := (own_set (own_set (own_set (own_set (own_set (own_set (own_set (World.ownsRow.stored HO.out ka (.int .i64 y)).1 (.bool (y == 0)) (g := go) (j := 2) hnO) (.int .i64 ((k : Int) + 1)) (g := go) (j := 1) hnO) (.bool false) (g := go) (j := 3) hnO) (.slice (some ⟨gg, 0, none⟩) 4 cc) (g := w.heap.size + 1) (j := 0) hnR) (.int .i64 ((k : Int) + 1)) (g := w.heap.size + 1) (j := 1) hnR) (.bool (y == 0)) (g := w.heap.size + 1) (j := 2) hnR) (.bool false) (g := w.heap.size + 1) (j := 3) hnR)
      have hX := (below_set (below_set (below_set (below_set (below_set (below_set (below_set (below_set HW.out (g := gg) (j := ka) (by omega) (.int .i64 y)) (g := go) (j := 2) (by omega) (.bool (y == 0))) (g := go) (j := 1) (by omega) (.int .i64 ((k : Int) + 1))) (g := go) (j := 3) (by omega) (.bool false)) (g := w.heap.size + 1) (j := 0) (by omega) (.slice (some ⟨gg, 0, none⟩) 4 cc)) (g := w.heap.size + 1) (j := 1) (by omega) (.int .i64 ((k : Int) + 1))) (g := w.heap.size + 1) (j := 2) (by omega) (.bool (y == 0))) (g := w.heap.size + 1) (j := 3) (by omega) (.bool false))
      have HZ := Lib.hid hZ
      have HY := Lib.hid hY
      have HXX := Lib.hid hX
      clear hZ hY hX k0 k1 k2 k3 r0 r1 r2 r3 fr0 fr1 fr2 fr3 p0 p1 p2 p3 fp0 fp1 fp2 fp3
      revert HZ HY HXX
      generalize ((((((((w2.setCell _ _).setCell _ _).setCell _ _).setCell _ _).setCell _ _).setCell _ _).setCell _ _).setCell _ _) = wz
      intro HZ HY HXX
      have z0 : wz.cell? ⟨w.heap.size + 1, 0, none⟩ = some (.slice (some ⟨gg, 0, none⟩) 4 cc) := HZ.out.cell 0 _ rfl
      have z1 : wz.cell? ⟨w.heap.size + 1, 1, none⟩ = some (.int .i64 ((k : Int) + 1)) := HZ.out.cell 1 _ rfl
      have z2 : wz.cell? ⟨w.heap.size + 1, 2, none⟩ = some (.bool (y == 0)) := HZ.out.cell 2 _ rfl
      have z3 : wz.cell? ⟨w.heap.size + 1, 3, none⟩ = some (.bool false) := HZ.out.cell 3 _ rfl
      refine l3Step_ret rfl rfl z0 z1 z2 z3 ⟨gg, cc, ?_, ?_, HXX.out⟩
      · rw [HST.out]
      · rw [HST.out]; rw [← I_set]; exact HY.out
    ·
      have hnx2 : (n : Int) ≤ (k : Int) + 1 := by omega
      have hst : stepOf xs ⟨rs, k, zero, st⟩ = ⟨rs.set ka y, k, (y == 0), true⟩ := by
        unfold stepOf nextOf
        simp only [HGET.out]
        simp only [HL.out, Int.toNat_natCast, HU.out, HV.out, HY0.out]
        simp [hnx, hnx2, h0, h7, h8, h9, h1, h6]
        all_goals rfl
      have HST := Lib.hid hst
      clear hst
      go_wp2_with fail
      have hZ := (Blk.set (Blk.set (Blk.set (Blk.set (Blk.other (Blk.other (Blk.other HR.out (.int .i64 y) (g' := gg) (j := ka) (by omega)) (.bool (y == 0)) (g' := go) (j := 2) (by omega)) (.bool true) (g' := go) (j := 3) (by omega)) 0 (.slice (some ⟨gg, 0, none⟩) 4 cc)) 1 (.int .i64 k)) 2 (.bool (y == 0))) 3 (.bool true))
      have hY := (own_set (own_set (own_set (own_set (own_set (own_set (World.ownsRow.stored HO.out ka (.int .i64 y)).1 (.bool (y == 0)) (g := go) (j := 2) hnO) (.bool true) (g := go) (j := 3) hnO) (.slice (some ⟨gg, 0, none⟩) 4 cc) (g := w.heap.size + 1) (j := 0) hnR) (.int .i64 k) (g := w.heap.size + 1) (j := 1) hnR) (.bool (y == 0)) (g := w.heap.size + 1) (j := 2) hnR) (.bool true) (g := w.heap.size + 1) (j := 3) hnR)
      have hX := (below_set (below_set (below_set (below_set (below_set (below_set (below_set HW.out (g := gg) (j := ka) (by omega) (.int .i64 y)) (g := go) (j := 2) (by omega) (.bool (y == 0))) (g := go) (j := 3) (by omega) (.bool true)) (g := w.heap.size + 1) (j := 0) (by omega) (.slice (some ⟨gg, 0, none⟩) 4 cc)) (g := w.heap.size + 1) (j := 1) (by omega) (.int .i64 k)) (g := w.heap.size + 1) (j := 2) (by omega) (.bool (y == 0))) (g := w.heap.size + 1) (j := 3) (by omega) (.bool true))
      have HZ := Lib.hid hZ
      have HY := Lib.hid hY
      have HXX := Lib.hid hX
      clear hZ hY hX k0 k1 k2 k3 r0 r1 r2 r3 fr0 fr1 fr2 fr3 p0 p1 p2 p3 fp0 fp1 fp2 fp3
      revert HZ HY HXX
      generalize (((((((w2.setCell _ _).setCell _ _).setCell _ _).setCell _ _).setCell _ _).setCell _ _).setCell _ _) = wz
      intro HZ HY HXX
      have z0 : wz.cell? ⟨w.heap.size + 1, 0, none⟩ = some (.slice (some ⟨gg, 0, none⟩) 4 cc) := HZ.out.cell 0 _ rfl
      have z1 : wz.cell? ⟨w.heap.size + 1, 1, none⟩ = some (.int .i64 k) := HZ.out.cell 1 _ rfl
      have z2 : wz.cell? ⟨w.heap.size + 1, 2, none⟩ = some (.bool (y == 0)) := HZ.out.cell 2 _ rfl
      have z3 : wz.cell? ⟨w.heap.size + 1, 3, none⟩ = some (.bool true) := HZ.out.cell 3 _ rfl
      refine l3Step_ret rfl rfl z0 z1 z2 z3 ⟨gg, cc, ?_, ?_, HXX.out⟩
      · rw [HST.out]
      · rw [HST.out]; rw [← I_set]; exact HY.out
end Go.Proofs.YtfdbnolifimnhabDoor.L3
