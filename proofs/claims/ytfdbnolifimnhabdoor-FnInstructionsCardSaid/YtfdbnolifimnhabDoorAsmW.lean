/- What impl.ParseAssembly answers. -/
import Derived.Test.YtfdbnolifimnhabDoorWOp
import Derived.Test.YtfdbnolifimnhabDoorOpNm
import Derived.Test.YtfdbnolifimnhabDoorSpI
namespace Go.Proofs.YtfdbnolifimnhabDoor.L3
open Go Go.RowKit Go.Proofs.YtfdbnolifimnhabDoor.Mem Go.Proofs.YtfdbnolifimnhabDoor.Own Go.Proofs.YtfdbnolifimnhabDoor.L1
theorem pre_num {n : Int} (h0 : 0 ≤ n) : pre (NumB n) = false := by
  rw [← Bool.not_eq_true]
  intro h
  unfold pre at h
  rw [Bool.and_eq_true, beq_iff_eq] at h
  have h2 : ((NumB n).extract 0 1).data.toList = [114] := by simpa [ByteArray.toList_eq] using h.2
  rw [ext_list, numB_pos h0] at h2
  have hd := dd_digits n.natAbs
  cases hl : Lib.decDigits n.natAbs with
  | nil => rw [hl] at h2; simp at h2
  | cons c l =>
    rw [hl] at h2
    simp at h2
    have := (hd c (by rw [hl]; exact List.mem_cons_self)).2
    rw [h2] at this
    revert this
    decide
theorem rg_list (n : Int) : (rg n).data.toList = 114 :: (NumB n).data.toList := by
  unfold rg
  rw [ByteArray.data_append]
  simp
theorem pre_rg (n : Int) : pre (rg n) = true := by
  unfold pre
  rw [Bool.and_eq_true, beq_iff_eq]
  constructor
  · refine decide_eq_true ?_
    have : (rg n).size = (rg n).data.toList.length := by
      show (rg n).data.size = _
      exact Array.length_toList.symm
    rw [this, rg_list]
    simp
  · have h : ((rg n).extract 0 1).data.toList = (⟨#[114]⟩ : ByteArray).data.toList := by rw [ext_list, rg_list]; rfl
    have h2 : (rg n).extract 0 1 = ⟨#[114]⟩ := ByteArray.ext (Array.toList_inj.1 h)
    rw [h2]
    simp [ByteArray.toList_eq]
theorem wv_num {n : Int} (h0 : 0 ≤ n) (h1 : n ≤ 65535) : wv (NumB n) = n := by
  unfold wv trim
  rw [if_neg (by rw [pre_num h0]; decide)]
  exact rdv_num h0 h1
theorem wv_rg {n : Int} (h0 : 0 ≤ n) (h1 : n ≤ 3) : wv (rg n) = n := by
  unfold wv trim
  rw [if_pos (pre_rg n), rg_tail]
  exact rdv_num h0 (by omega)
/-- the candidate that the words say, and the answer -/
theorem cand_says {s : ByteArray} {x : Ins} {b : Bool} (hx : AsmRead s x b) {j : Nat} (hj : j < 10) {u : ByteArray} {r : List ByteArray} (hp : Parts s 32 = u :: r) (hu : opName j = u) :
    ((Ok (cand wv wv j r) ∧ asmOf (cand wv wv j r) = s) → b = true ∧ x = cand wv wv j r) ∧ (¬ (Ok (cand wv wv j r) ∧ asmOf (cand wv wv j r) = s) → b = false ∧ x = ⟨0, 0, 0, 0⟩) := by
  have key : ∀ y, Ok y → asmOf y = s → y = cand wv wv j r := by
    intro y hy hs
    have h1 := parts_asm hy
    rw [hs, hp] at h1
    have h2 := congrArg (fun l => l[0]?) h1
    rw [words_head] at h2
    simp only [List.getElem?_cons_zero, Option.some.injEq] at h2
    rw [← hu] at h2
    have h3 : j = y.op.toNat := opName_inj hj (by have := hy.1; omega) h2
    have h4 : (j : Int) = y.op := by have := hy.1; omega
    have h5 := cand_words hy wv wv (fun n a b => wv_rg a b) (fun n a b => wv_num a b)
    rw [← h1, List.tail_cons, ← h4] at h5
    exact h5.symm
  rcases hx with ⟨rfl, h1, h2⟩ | ⟨rfl, rfl, h2⟩
  · have e := key x h1 h2
    rw [← e]
    exact ⟨fun _ => ⟨rfl, rfl⟩, fun h => absurd ⟨h1, h2⟩ h⟩
  · exact ⟨fun h => absurd h.2 (h2 _ h.1), fun _ => ⟨rfl, rfl⟩⟩
theorem no_name {s : ByteArray} {x : Ins} {b : Bool} (hx : AsmRead s x b) {u : ByteArray} {r : List ByteArray} (hp : Parts s 32 = u :: r) (hu : ∀ j, j < 10 → opName j ≠ u) : b = false ∧ x = ⟨0, 0, 0, 0⟩ := by
  rcases hx with ⟨rfl, h1, h2⟩ | ⟨rfl, rfl, h2⟩
  · exfalso
    have h3 := parts_asm h1
    rw [h2, hp] at h3
    have h4 := congrArg (fun l => l[0]?) h3
    rw [words_head] at h4
    simp only [List.getElem?_cons_zero, Option.some.injEq] at h4
    exact hu x.op.toNat (by have := h1.1; omega) h4.symm
  · exact ⟨rfl, rfl⟩
theorem too_long {s : ByteArray} {x : Ins} {b : Bool} (hx : AsmRead s x b) (h : 4000 < s.size) : b = false ∧ x = ⟨0, 0, 0, 0⟩ := by
  rcases hx with ⟨rfl, h1, h2⟩ | ⟨rfl, rfl, h2⟩
  · exfalso
    have := asm_size h1
    rw [h2] at this
    omega
  · exact ⟨rfl, rfl⟩
set_option maxRecDepth 100000 in
set_option maxHeartbeats 2000000 in
theorem implParseAsm_any (s : ByteArray) (x0 x1 x2 x3 : Int) (b : Bool) (hx : AsmRead s ⟨x0, x1, x2, x3⟩ b) (w : World) (hs : s.size ≤ 1048576) (ht : Lib.TabIs Tryd.prog w "internal/strconv.uint64pow10" .u64 Lib.pow10Tab) (he : ErrsIs w) (ho : OpsIs w) :
    Calls Tryd.prog 16 #[.string s] w fun e w' => e = .returned (.tuple #[.agg #[.int .i64 x0, .int .i64 x1, .int .i64 x2, .int .i64 x3], .bool b]) ∧ Below w.heap.size w w' := by
  obtain ⟨ps, q, hsp⟩ := splitIs_ex s ⟨#[32]⟩
  have hb0 := below_more (Below.refl w.heap.size w) (.cells #[.int .i64 0, .int .i64 0, .int .i64 0, .int .i64 0] 25)
  have HQ0 := Lib.hid (Blk.new w #[.int .i64 0, .int .i64 0, .int .i64 0, .int .i64 0] 25)
  have HB0 := Lib.hid hb0
  have HSP := Lib.hid hsp
  have HT := Lib.hid ht
  have HE := Lib.hid he
  have HO := Lib.hid ho
  have HX := Lib.hid hx
  clear hb0 hsp ht he ho hx
  go_enter Tryd.func16, Tryd.ntmps16
  go_wp2_with fail
  refine (implSplit_any s ⟨#[32]⟩ ps q HSP.out hs (by decide) _).mono ?_
  rintro e w1 ⟨A, c, rfl, hown, hb⟩
  have HQ := Lib.hid (Blk.kept hb HQ0.out)
  have HW := Lib.hid (below_then HB0.out hb)
  clear hb HQ0
  cases q with
  | false =>
    have h4 : 4000 < s.size := by
      rcases HSP.out with ⟨h, _⟩ | ⟨_, _, h | h⟩
      · cases h
      · exact h
      · exact absurd rfl h
    obtain ⟨rfl, h2⟩ := too_long HX.out h4
    simp only [Ins.mk.injEq] at h2
    obtain ⟨rfl, rfl, rfl, rfl⟩ := h2
    clear hown h4
    have q0 := HQ.out.cell 0 _ rfl
    have f0 := HQ.out.free 0
    have q1 := HQ.out.cell 1 _ rfl
    have f1 := HQ.out.free 1
    have q2 := HQ.out.cell 2 _ rfl
    have f2 := HQ.out.free 2
    have q3 := HQ.out.cell 3 _ rfl
    have f3 := HQ.out.free 3
    go_wp2_with fail
    have hZ := Lib.hid ((((HQ.out.set 0 (.int .i64 0)).set 1 (.int .i64 0)).set 2 (.int .i64 0)).set 3 (.int .i64 0))
    have hX := Lib.hid (below_set (below_set (below_set (below_set HW.out (g := w.heap.size) (j := 0) (Nat.le_refl _) (.int .i64 0)) (g := w.heap.size) (j := 1) (Nat.le_refl _) (.int .i64 0)) (g := w.heap.size) (j := 2) (Nat.le_refl _) (.int .i64 0)) (g := w.heap.size) (j := 3) (Nat.le_refl _) (.int .i64 0))
    clear q0 f0 q1 f1 q2 f2 q3 f3
    revert hZ hX
    generalize (World.setCell (World.setCell (World.setCell (World.setCell _ _ _) _ _) _ _) _ _) = wz
    intro hZ hX
    have z0 := hZ.out.cell 0 _ rfl
    have z1 := hZ.out.cell 1 _ rfl
    have z2 := hZ.out.cell 2 _ rfl
    have z3 := hZ.out.cell 3 _ rfl
    exact bodyPost_ret (v := .tuple #[.agg #[.int .i64 0, .int .i64 0, .int .i64 0, .int .i64 0], .bool false]) (by simp [results, Tryd.results16, go_sem, z0, z1, z2, z3]) rfl ⟨rfl, hX.out⟩
  | true =>
    obtain ⟨hps, hs4⟩ : ps = Parts s 32 ∧ s.size ≤ 4000 := by
      rcases HSP.out with ⟨_, h4, c', hc', h⟩ | ⟨h, _⟩
      · have : c' = 32 := by injection hc' with h5; injection h5 with h6; injection h6 with h7; exact h7.symm
        rw [this] at h
        exact ⟨h, h4⟩
      · cases h
    cases hp : ps with
    | nil =>
      exfalso
      have := parts_ne s 32
      rw [← hps, hp] at this
      simp at this
    | cons u r =>
      subst hp
      have hl1 : r.length ≤ 4001 := by have := splitIs_len HSP.out; simp at this; omega
      have hsz : ∀ v ∈ u :: r, v.size ≤ 1048576 := fun v hv => by
        rw [hps] at hv
        have := parts_size s 32 v hv
        omega
      obtain ⟨n, hn⟩ : ∃ n, r.length = n := ⟨_, rfl⟩
      have hn4 : n ≤ 4001 := by omega
      rw [show (u :: r).length = n + 1 by simp [hn]] at hown ⊢
      have hnc : n + 1 ≤ c := by
        obtain ⟨_, _, e1, h3, _⟩ := own_form hown
        simp only [Value.slice.injEq, true_and] at e1
        omega
      obtain ⟨g, rfl⟩ := own_head hown (by omega)
      have hrd := own_reads hown
      have c0 : w1.cell? ⟨g, 0, none⟩ = some (.string u) := (hown.cellAt 0 (by omega)).trans rfl
      have HRD := Lib.hid hrd
      have HPS := Lib.hid hps.symm
      have HSZ := Lib.hid hsz
      have HN := Lib.hid hn
      have hn1z : (1 : Int) ≤ (n : Int) + 1 := by omega
      have hn0z : (0 : Int) < (n : Int) + 1 := by omega
      obtain ⟨o2, hite, hoe⟩ : ∃ o2, (if c = 1 then (some ⟨g, 0, none⟩ : Option Addr) else some ⟨g, 1, none⟩) = some ⟨g, o2, none⟩ ∧ (c = 1 ∨ o2 = 1) := by
        by_cases h : c = 1
        · exact ⟨0, by rw [if_pos h], .inl h⟩
        · exact ⟨1, by rw [if_neg h], .inr rfl⟩
      have HOE := Lib.hid hoe
      obtain ⟨kz, kb, hnm⟩ := namedIs_ex u
      have HNM := Lib.hid hnm
      clear hown hrd hps hsz hn hoe hnm
      go_wp2_with fail
      refine (opNamed_any u kz kb HNM.out _ (ops_below HW.out HO.out)).mono ?_
      rintro e w2 ⟨rfl, hb⟩
      have HRD2 : Hid (Reads w2 w2.heap.size 1 (some ⟨g, o2, none⟩) n (r.map .string)) := Lib.hid (by
        refine ⟨by simp [HN.out], fun hpos => ?_⟩
        obtain ⟨b', off', e', hlt', hc'⟩ := HRD.out.2 (by omega)
        simp only [Option.some.injEq, Addr.mk.injEq, and_true] at e'
        obtain ⟨rfl, rfl⟩ := e'
        refine ⟨g, o2, rfl, Nat.lt_of_lt_of_le hlt' hb.size, fun j v hv => ?_⟩
        rcases HOE.out with h | h
        · omega
        · have h2 := hc' (j + 1) v (by simpa using hv)
          rw [hb.cell (p := ⟨g, o2 + j, none⟩) hlt', h, Nat.add_comm 1 j]
          simpa using h2)
      replace HQ := Lib.hid (Blk.kept hb HQ.out)
      replace HW := Lib.hid (below_then HW.out hb)
      clear hb c0 HRD
      rcases HNM.out with ⟨rfl, j, hj, rfl, hju⟩ | ⟨rfl, rfl, hno⟩
      · obtain ⟨hyes, hnot⟩ := cand_says HX.out hj HPS.out hju
        obtain ⟨z, hz⟩ : ∃ z, cand wv wv j r = z := ⟨_, rfl⟩
        rw [hz] at hyes hnot
        obtain ⟨z0, z1, z2, z3⟩ := z
        have HZ := Lib.hid hz
        have HYES := Lib.hid hyes
        have HNOT := Lib.hid hnot
        clear hyes hnot hz hju
        have hwop := withOperands_any j hj (some ⟨g, o2, none⟩) n (c - 1) r w2 HRD2.out HN.out (by omega) (by omega) (fun v hv => HSZ.out v (List.mem_cons_of_mem _ hv)) (Fr.tabIs_below HW.out HT.out) (errs_below HW.out HE.out) (ops_below HW.out HO.out) z0 z1 z2 z3 HZ.out
        have HWOP := Lib.hid hwop
        clear hwop HZ
        go_wp2_with fail
        refine HWOP.out.mono ?_
        rintro e w3 ⟨rfl, hb⟩
        replace HQ := Lib.hid ((Blk.kept hb HQ.out).alloc (.cells #[.int .i64 z0, .int .i64 z1, .int .i64 z2, .int .i64 z3] 25))
        replace HW := Lib.hid (below_more (below_then HW.out hb) (.cells #[.int .i64 z0, .int .i64 z1, .int .i64 z2, .int .i64 z3] 25))
        have HXB := Lib.hid (Blk.new w3 #[.int .i64 z0, .int .i64 z1, .int .i64 z2, .int .i64 z3] 25)
        obtain ⟨wx, hwx⟩ : ∃ wx, w3.alloc (.cells #[.int .i64 z0, .int .i64 z1, .int .i64 z2, .int .i64 z3] 25) = wx := ⟨_, rfl⟩
        obtain ⟨gx, hgx⟩ : ∃ gx, w3.heap.size = gx := ⟨_, rfl⟩
        rw [hwx] at HQ HW HXB
        rw [hgx] at HXB
        have HWX := Lib.hid hwx
        have HGX := Lib.hid hgx
        clear hb hwx hgx HWOP HRD2 hite
        go_upto_region 8 with fail
        rw [HWX.out, HGX.out]
        clear HWX HGX
        have p0 := HXB.out.cell 0 _ rfl
        have p1 := HXB.out.cell 1 _ rfl
        have p2 := HXB.out.cell 2 _ rfl
        have p3 := HXB.out.cell 3 _ rfl
        have hasm := fun w' ho' ht' => implAsm_any ⟨z0, z1, z2, z3⟩ w' ho' ht'
        by_cases hok : Ok ⟨z0, z1, z2, z3⟩
        · rw [show asmAns ⟨z0, z1, z2, z3⟩ = .tuple #[.string (asmOf ⟨z0, z1, z2, z3⟩), .bool true] by unfold asmAns; rw [if_pos hok]] at hasm
          have HASM := Lib.hid hasm
          have HOK := Lib.hid hok
          clear hasm hok
          obtain ⟨rt, hrt⟩ : ∃ rt, asmOf ⟨z0, z1, z2, z3⟩ = rt := ⟨_, rfl⟩
          rw [hrt] at HASM
          have HRT := Lib.hid hrt
          clear hrt
          go_wp2_with fail
          refine (HASM.out _ (ops_below HW.out HO.out) (Fr.tabIs_below HW.out HT.out)).mono ?_
          rintro e w4 ⟨rfl, hb⟩
          replace HQ := Lib.hid (Blk.kept hb HQ.out)
          replace HXB := Lib.hid (Blk.kept hb HXB.out)
          replace HW := Lib.hid (below_then HW.out hb)
          clear hb p0 p1 p2 p3 HASM
          by_cases hrs : rt = s
          · subst hrs
            obtain ⟨rfl, h2⟩ := HYES.out ⟨HOK.out, HRT.out⟩
            simp only [Ins.mk.injEq] at h2
            obtain ⟨rfl, rfl, rfl, rfl⟩ := h2
            have t1 : (rt.toList != rt.toList) = false := by simp
            have p0 := HXB.out.cell 0 _ rfl
            have p1 := HXB.out.cell 1 _ rfl
            have p2 := HXB.out.cell 2 _ rfl
            have p3 := HXB.out.cell 3 _ rfl
            have q0 := HQ.out.cell 0 _ rfl
            have f0 := HQ.out.free 0
            have q1 := HQ.out.cell 1 _ rfl
            have f1 := HQ.out.free 1
            have q2 := HQ.out.cell 2 _ rfl
            have f2 := HQ.out.free 2
            have q3 := HQ.out.cell 3 _ rfl
            have f3 := HQ.out.free 3
            go_wp2_with fail
            have hZ := Lib.hid ((((HQ.out.set 0 (.int .i64 x0)).set 1 (.int .i64 x1)).set 2 (.int .i64 x2)).set 3 (.int .i64 x3))
            have hX := Lib.hid (below_set (below_set (below_set (below_set HW.out (g := w.heap.size) (j := 0) (Nat.le_refl _) (.int .i64 x0)) (g := w.heap.size) (j := 1) (Nat.le_refl _) (.int .i64 x1)) (g := w.heap.size) (j := 2) (Nat.le_refl _) (.int .i64 x2)) (g := w.heap.size) (j := 3) (Nat.le_refl _) (.int .i64 x3))
            clear q0 f0 q1 f1 q2 f2 q3 f3
            revert hZ hX
            generalize (World.setCell (World.setCell (World.setCell (World.setCell _ _ _) _ _) _ _) _ _) = wz
            intro hZ hX
            have z0 := hZ.out.cell 0 _ rfl
            have z1 := hZ.out.cell 1 _ rfl
            have z2 := hZ.out.cell 2 _ rfl
            have z3 := hZ.out.cell 3 _ rfl
            exact bodyPost_ret (v := .tuple #[.agg #[.int .i64 x0, .int .i64 x1, .int .i64 x2, .int .i64 x3], .bool true]) (by simp [results, Tryd.results16, go_sem, z0, z1, z2, z3]) rfl ⟨rfl, hX.out⟩
          · obtain ⟨rfl, h2⟩ := HNOT.out (fun hh => hrs (HRT.out.symm.trans hh.2))
            simp only [Ins.mk.injEq] at h2
            obtain ⟨rfl, rfl, rfl, rfl⟩ := h2
            have t0 := toList_ne hrs
            have t1 : (rt.toList != s.toList) = true := by simp only [bne, t0, Bool.not_false]
            clear hrs
            have q0 := HQ.out.cell 0 _ rfl
            have f0 := HQ.out.free 0
            have q1 := HQ.out.cell 1 _ rfl
            have f1 := HQ.out.free 1
            have q2 := HQ.out.cell 2 _ rfl
            have f2 := HQ.out.free 2
            have q3 := HQ.out.cell 3 _ rfl
            have f3 := HQ.out.free 3
            go_wp2_with fail
            have hZ := Lib.hid ((((HQ.out.set 0 (.int .i64 0)).set 1 (.int .i64 0)).set 2 (.int .i64 0)).set 3 (.int .i64 0))
            have hX := Lib.hid (below_set (below_set (below_set (below_set HW.out (g := w.heap.size) (j := 0) (Nat.le_refl _) (.int .i64 0)) (g := w.heap.size) (j := 1) (Nat.le_refl _) (.int .i64 0)) (g := w.heap.size) (j := 2) (Nat.le_refl _) (.int .i64 0)) (g := w.heap.size) (j := 3) (Nat.le_refl _) (.int .i64 0))
            clear q0 f0 q1 f1 q2 f2 q3 f3
            revert hZ hX
            generalize (World.setCell (World.setCell (World.setCell (World.setCell _ _ _) _ _) _ _) _ _) = wz
            intro hZ hX
            have z0 := hZ.out.cell 0 _ rfl
            have z1 := hZ.out.cell 1 _ rfl
            have z2 := hZ.out.cell 2 _ rfl
            have z3 := hZ.out.cell 3 _ rfl
            exact bodyPost_ret (v := .tuple #[.agg #[.int .i64 0, .int .i64 0, .int .i64 0, .int .i64 0], .bool false]) (by simp [results, Tryd.results16, go_sem, z0, z1, z2, z3]) rfl ⟨rfl, hX.out⟩
        · rw [show asmAns ⟨z0, z1, z2, z3⟩ = .tuple #[.string ByteArray.empty, .bool false] by unfold asmAns; rw [if_neg hok]] at hasm
          have HASM := Lib.hid hasm
          obtain ⟨rfl, h2⟩ := HNOT.out (fun hh => hok hh.1)
          simp only [Ins.mk.injEq] at h2
          obtain ⟨rfl, rfl, rfl, rfl⟩ := h2
          clear hasm hok
          go_wp2_with fail
          refine (HASM.out _ (ops_below HW.out HO.out) (Fr.tabIs_below HW.out HT.out)).mono ?_
          rintro e w4 ⟨rfl, hb⟩
          replace HQ := Lib.hid (Blk.kept hb HQ.out)
          replace HW := Lib.hid (below_then HW.out hb)
          clear hb p0 p1 p2 p3 HASM HXB
          have q0 := HQ.out.cell 0 _ rfl
          have f0 := HQ.out.free 0
          have q1 := HQ.out.cell 1 _ rfl
          have f1 := HQ.out.free 1
          have q2 := HQ.out.cell 2 _ rfl
          have f2 := HQ.out.free 2
          have q3 := HQ.out.cell 3 _ rfl
          have f3 := HQ.out.free 3
          go_wp2_with fail
          have hZ := Lib.hid ((((HQ.out.set 0 (.int .i64 0)).set 1 (.int .i64 0)).set 2 (.int .i64 0)).set 3 (.int .i64 0))
          have hX := Lib.hid (below_set (below_set (below_set (below_set HW.out (g := w.heap.size) (j := 0) (Nat.le_refl _) (.int .i64 0)) (g := w.heap.size) (j := 1) (Nat.le_refl _) (.int .i64 0)) (g := w.heap.size) (j := 2) (Nat.le_refl _) (.int .i64 0)) (g := w.heap.size) (j := 3) (Nat.le_refl _) (.int .i64 0))
          clear q0 f0 q1 f1 q2 f2 q3 f3
          revert hZ hX
          generalize (World.setCell (World.setCell (World.setCell (World.setCell _ _ _) _ _) _ _) _ _) = wz
          intro hZ hX
          have z0 := hZ.out.cell 0 _ rfl
          have z1 := hZ.out.cell 1 _ rfl
          have z2 := hZ.out.cell 2 _ rfl
          have z3 := hZ.out.cell 3 _ rfl
          exact bodyPost_ret (v := .tuple #[.agg #[.int .i64 0, .int .i64 0, .int .i64 0, .int .i64 0], .bool false]) (by simp [results, Tryd.results16, go_sem, z0, z1, z2, z3]) rfl ⟨rfl, hX.out⟩
      · obtain ⟨rfl, h2⟩ := no_name HX.out HPS.out hno
        simp only [Ins.mk.injEq] at h2
        obtain ⟨rfl, rfl, rfl, rfl⟩ := h2
        clear hno HRD2 hite
        have q0 := HQ.out.cell 0 _ rfl
        have f0 := HQ.out.free 0
        have q1 := HQ.out.cell 1 _ rfl
        have f1 := HQ.out.free 1
        have q2 := HQ.out.cell 2 _ rfl
        have f2 := HQ.out.free 2
        have q3 := HQ.out.cell 3 _ rfl
        have f3 := HQ.out.free 3
        go_wp2_with fail
        have hZ := Lib.hid ((((HQ.out.set 0 (.int .i64 0)).set 1 (.int .i64 0)).set 2 (.int .i64 0)).set 3 (.int .i64 0))
        have hX := Lib.hid (below_set (below_set (below_set (below_set HW.out (g := w.heap.size) (j := 0) (Nat.le_refl _) (.int .i64 0)) (g := w.heap.size) (j := 1) (Nat.le_refl _) (.int .i64 0)) (g := w.heap.size) (j := 2) (Nat.le_refl _) (.int .i64 0)) (g := w.heap.size) (j := 3) (Nat.le_refl _) (.int .i64 0))
        clear q0 f0 q1 f1 q2 f2 q3 f3
        revert hZ hX
        generalize (World.setCell (World.setCell (World.setCell (World.setCell _ _ _) _ _) _ _) _ _) = wz
        intro hZ hX
        have z0 := hZ.out.cell 0 _ rfl
        have z1 := hZ.out.cell 1 _ rfl
        have z2 := hZ.out.cell 2 _ rfl
        have z3 := hZ.out.cell 3 _ rfl
        exact bodyPost_ret (v := .tuple #[.agg #[.int .i64 0, .int .i64 0, .int .i64 0, .int .i64 0], .bool false]) (by simp [results, Tryd.results16, go_sem, z0, z1, z2, z3]) rfl ⟨rfl, hX.out⟩
end Go.Proofs.YtfdbnolifimnhabDoor.L3
