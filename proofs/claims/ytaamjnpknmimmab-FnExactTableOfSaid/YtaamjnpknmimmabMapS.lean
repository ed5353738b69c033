/- What MapPage answers, of spec; the pure part. -/
import Derived.Test.YtaamjnpknmimmabProtS
import Derived.Test.YtaamjnpknmimmabL4MapN
namespace Go.Proofs.Ytaamjnpknmimmab.L4
open Go Go.RowKit Go.Proofs.Ytaamjnpknmimmab.Mem Go.Proofs.Ytaamjnpknmimmab.Own Go.Proofs.Ytaamjnpknmimmab.L1
/-- a page's entry set, its leaf made where it lacks -/
def mapT (t : Tab) (p : Nat) (x : Ent) : Tab := setE (if dirOf t p = -1 then newLeaf t p else t) p x
def CanM (t : Tab) (page frame : Int) : Prop := OkT t ∧ (0 ≤ page ∧ page < 16) ∧ (0 ≤ frame ∧ frame < 16) ∧ faultOf t page.toNat ≠ 0
instance (t : Tab) (page frame : Int) : Decidable (CanM t page frame) := by unfold CanM; infer_instance
def mapOf (t : Tab) (page frame : Int) (wr : Bool) : Tab × Bool := if CanM t page frame then (mapT t page.toNat ⟨frame, wr⟩, true) else (noTab, false)
theorem dir_cases {t : Tab} {p m : Nat} (ok : OkT t) (hm : t.leaves.length = m) (hp : p < 16) : dirOf t p = -1 ∨ ∃ q : Nat, dirOf t p = q ∧ q < m := by
  have hmem : dirOf t p ∈ t.dirs := by
    unfold dirOf
    rw [List.getD, List.getElem?_eq_getElem (by rw [ok.1]; omega)]
    exact List.getElem_mem _
  rcases ok.2.1 _ hmem with h1 | h1
  · exact .inl h1
  · exact .inr ⟨(dirOf t p).toNat, by omega, by omega⟩
theorem mapT_dirs (t : Tab) (p : Nat) (x : Ent) : (mapT t p x).dirs.length = t.dirs.length := by
  unfold mapT
  rw [setE_dirs]
  split
  · simp [newLeaf]
  · rfl
theorem l4Map_any (A : Option Addr) (n c : Nat) (D : Option Addr) (m d p : Nat) (t : Tab) (f : Int) (wr : Bool) (w : World) (hr : ReadsT w w.heap.size A n D m t) (ok : OkT t) (hm : m ≤ 1048576) (hp : p < 16) (T : Tab) (hT : mapT t p ⟨f, wr⟩ = T) :
    Calls Try.prog 52 #[.agg #[.slice A n c, .slice D m d], .int .i64 p, .agg #[.int .i64 f, .bool wr]] w fun e w' => ∃ A' c' D' d', e = .returned (.agg #[.slice A' T.dirs.length c', .slice D' T.leaves.length d']) ∧ OwnT w' w.heap.size w'.heap.size A' T.dirs.length c' D' T.leaves.length d' T ∧ Below w.heap.size w w' := by
  have hml := hr.leaves.len
  have hd4 : T.dirs.length = 4 := by rw [← hT, mapT_dirs, ok.1]
  rcases dir_cases ok hml hp with hq | ⟨q, hq, hqm⟩
  · have hTT : T = setE (newLeaf t p) p ⟨f, wr⟩ := by rw [← hT]; unfold mapT; rw [if_pos hq]
    have hl : T.leaves.length = m + 1 := by rw [hTT, setE_leaves]; simp [newLeaf, hml]
    rw [hd4, hl, hTT]
    exact l4Map_no A n c D m d p t f wr w hr ok hm hq hp
  · have hTT : T = setE t p ⟨f, wr⟩ := by rw [← hT]; unfold mapT; rw [if_neg (by omega)]
    have hl : T.leaves.length = m := by rw [hTT, setE_leaves, hml]
    rw [hd4, hl, hTT]
    exact l4Map_yes A n c D m d p q t f wr w hr ok hm hq hqm hp
set_option maxRecDepth 100000 in
set_option maxHeartbeats 4000000 in
theorem specMap_any (A : Option Addr) (n c : Nat) (D : Option Addr) (m d : Nat) (page frame : Int) (write : Bool) (t : Tab) (w : World) (hr : ReadsT w w.heap.size A n D m t) (hn : n ≤ 1048576) (hm : m ≤ 1048576) (hl : ∀ xs ∈ t.leaves, xs.length ≤ 1048576) (hnc : n ≤ c) (T : Tab) (b : Bool) (hT : mapOf t page frame write = (T, b)) :
    Calls Try.prog 42 #[.agg #[.slice A n c, .slice D m d], .int .i64 page, .int .i64 frame, .bool write] w fun e w' => ∃ A' c' D' d', e = .returned (.tuple #[.agg #[.slice A' T.dirs.length c', .slice D' T.leaves.length d'], .bool b]) ∧ OwnT w' w.heap.size w'.heap.size A' T.dirs.length c' D' T.leaves.length d' T ∧ Below w.heap.size w w' := by
  obtain ⟨wb, hwb⟩ : ∃ wb, (w.alloc (.cells #[.slice A n c, .slice D m d] 29)).alloc (.cells #[.slice none 0 0, .slice none 0 0] 29) = wb := ⟨_, rfl⟩
  have hb0 : Below w.heap.size w wb := by rw [← hwb]; exact below_more (below_more (Below.refl _ _) _) _
  have h0 : Blk wb w.heap.size 29 #[.slice A n c, .slice D m d] := by rw [← hwb]; exact Blk.alloc (Blk.new _ _ _) _
  have h1 : Blk wb (w.heap.size + 1) 29 #[.slice none 0 0, .slice none 0 0] := by
    rw [← hwb]
    have h := Blk.new (w.alloc (.cells #[.slice A n c, .slice D m d] 29)) #[.slice none 0 0, .slice none 0 0] 29
    rwa [size1] at h
  have hsz : wb.heap.size = w.heap.size + 1 + 1 := by rw [← hwb, size1, size1]
  have hml := hr.leaves.len
  have HR := Lib.hid (hr.grow hb0)
  have H0 := Lib.hid h0
  have H1 := Lib.hid h1
  have HB0 := Lib.hid hb0
  have HWB := Lib.hid hwb
  have HSZ := Lib.hid hsz
  have k0 := h0.cell 0 _ rfl
  have k1 := h0.cell 1 _ rfl
  clear hr h0 h1 hb0 hwb hsz
  by_cases ok : OkT t ∧ 0 ≤ page ∧ page < 16
  · obtain ⟨p, rfl⟩ : ∃ p : Nat, page = p := ⟨page.toNat, by omega⟩
    have hp16 : p < 16 := by omega
    obtain ⟨f, hf⟩ : ∃ f, (get t p).f = f := ⟨_, rfl⟩
    obtain ⟨wr0, hwr⟩ : ∃ f, (get t p).wr = f := ⟨_, rfl⟩
    have HFD : Hid (∀ wx : World, (Instr.field 70 (.agg #[.int .i64 f, .bool wr0]) 0).run Try.prog wx = .ok (.int .i64 f) wx) := Lib.hid (fun _ => by kernel_rfl)
    have HF := Lib.hid hf
    have HWR := Lib.hid hwr
    clear hf hwr
    by_cases hfr : 0 ≤ frame ∧ frame < 16
    · by_cases hz : faultOf t p ≠ 0
      · have hTT : mapT t p ⟨frame, write⟩ = T ∧ true = b := by
          unfold mapOf at hT
          rw [if_pos ⟨ok.1, ok.2, hfr, hz⟩] at hT
          exact ⟨congrArg Prod.fst hT, congrArg Prod.snd hT⟩
        obtain ⟨hTM, rfl⟩ := hTT
        clear hT
        have HTM := Lib.hid hTM
        have hff : f = -1 := by rw [← HF.out]; exact frame_of_nofault hz
        subst hff
        clear hTM hz
        go_enter Try.func42, Try.ntmps42
        go_upto_region 1 with fail
        rw [HWB.out]
        clear HWB
        go_wp2_with fail
        refine (l4Page_any A n c D m d p t _ HR.out hn hm hl hnc true (decide_eq_true ok)).mono ?_
        rintro e w1 ⟨rfl, hb⟩
        clear k0 k1
        have HB1 := Lib.hid (below_then HB0.out hb)
        replace HR := Lib.hid (HR.out.grow hb)
        replace H0 := Lib.hid (Blk.kept hb H0.out)
        replace H1 := Lib.hid (Blk.kept hb H1.out)
        have HS1 := Lib.hid hb.size
        have k0 := H0.out.cell 0 _ rfl
        have k1 := H0.out.cell 1 _ rfl
        clear hb HB0
        go_wp2_with fail
        refine (l1In_yes frame 0 15 (by omega) (by omega) _).mono ?_
        rintro e w9 ⟨rfl, hw⟩
        subst hw
        go_wp2_with fail
        refine (l4Get_any A n c D m d p t _ HR.out ok.1 hp16).mono ?_
        rintro e w2 ⟨rfl, hb⟩
        rw [HF.out, HWR.out]
        clear k0 k1
        have hfd := HFD.out
        have HB2 := Lib.hid (below_then HB1.out hb)
        replace HR := Lib.hid (HR.out.grow hb)
        replace H0 := Lib.hid (Blk.kept hb H0.out)
        replace H1 := Lib.hid (Blk.kept hb H1.out)
        have HS2 := Lib.hid hb.size
        have k0 := H0.out.cell 0 _ rfl
        have k1 := H0.out.cell 1 _ rfl
        clear hb HB1
        go_wp2_with fail
        refine (l4Map_any A n c D m d p t frame write _ HR.out ok.1 hm hp16 T HTM.out).mono ?_
        rintro e w5 ⟨A', c', D', d', rfl, hown, hb5⟩
        have hs2 := HB2.out.size
        have hs5 := hb5.size
        have hlow : w.heap.size + 1 + 1 ≤ w2.heap.size := by have := HSZ.out; have := HS1.out; have := HS2.out; omega
        obtain ⟨N', hN⟩ : ∃ k, T.dirs.length = k := ⟨_, rfl⟩
        obtain ⟨M', hM⟩ : ∃ k, T.leaves.length = k := ⟨_, rfl⟩
        rw [hN, hM] at hown ⊢
        have HNM := Lib.hid (And.intro hN hM)
        have H15 := Lib.hid (Blk.kept hb5 H1.out)
        have r0 := H15.out.cell 0 _ rfl
        have r1 := H15.out.cell 1 _ rfl
        have r2 := H15.out.free 0
        have r3 := H15.out.free 1
        have hbb := below_then HB2.out hb5
        have hZ := (Blk.set (Blk.set H15.out 0 (.slice A' N' c')) 1 (.slice D' M' d'))
        have hX := below_set (below_set hbb (g := w.heap.size + 1) (j := 0) (by omega) (.slice A' N' c')) (g := w.heap.size + 1) (j := 1) (by omega) (.slice D' M' d')
        have ho := ((Only.set w5 (w.heap.size + 1) 0 (.slice A' N' c')).trans (Only.set _ (w.heap.size + 1) 1 (.slice D' M' d')))
        have hTO := hown.only ho (.inr (by omega))
        have HZ := Lib.hid hZ
        have HX := Lib.hid hX
        have HTT := Lib.hid hTO
        have HS : Hid (((w5.setCell ⟨w.heap.size + 1, 0, none⟩ (.slice A' N' c')).setCell ⟨w.heap.size + 1, 1, none⟩ (.slice D' M' d')).heap.size = w5.heap.size) := Lib.hid (by simp)
        clear hZ hX ho hTO hbb hown hb5 H15 k0 k1 hfd HR H0 H1 HFD HTM hN hM
        go_wp2_with fail
        clear r0 r1 r2 r3
        revert HZ HX HTT HS
        generalize ((w5.setCell _ _).setCell _ _) = wy
        intro HZ HX HTT HS
        have z0 := HZ.out.cell 0 _ rfl
        have z1 := HZ.out.cell 1 _ rfl
        obtain ⟨rfl, rfl⟩ := HNM.out
        exact bodyPost_ret (v := .tuple #[.agg #[.slice A' T.dirs.length c', .slice D' T.leaves.length d'], .bool true]) (by simp [results, Try.results42, go_sem, z0, z1]) rfl ⟨_, _, _, _, rfl, HTT.out.mono (by omega) (Nat.le_of_eq HS.out.symm), HX.out⟩
      · have hTT : T = noTab ∧ b = false := by
          unfold mapOf at hT
          rw [if_neg (fun h => hz h.2.2.2)] at hT
          exact ⟨(congrArg Prod.fst hT).symm, (congrArg Prod.snd hT).symm⟩
        obtain ⟨rfl, rfl⟩ := hTT
        clear hT
        have hff : ¬ (f = -1) := by rw [← HF.out]; exact frame_of_fault (by omega)
        have hfb : (f != -1) = true := by simpa using hff
        go_enter Try.func42, Try.ntmps42
        go_upto_region 1 with fail
        rw [HWB.out]
        clear HWB
        go_wp2_with fail
        refine (l4Page_any A n c D m d p t _ HR.out hn hm hl hnc true (decide_eq_true ok)).mono ?_
        rintro e w1 ⟨rfl, hb⟩
        clear k0 k1
        have HB1 := Lib.hid (below_then HB0.out hb)
        replace HR := Lib.hid (HR.out.grow hb)
        replace H0 := Lib.hid (Blk.kept hb H0.out)
        replace H1 := Lib.hid (Blk.kept hb H1.out)
        have HS1 := Lib.hid hb.size
        have k0 := H0.out.cell 0 _ rfl
        have k1 := H0.out.cell 1 _ rfl
        clear hb HB0
        go_wp2_with fail
        refine (l1In_yes frame 0 15 (by omega) (by omega) _).mono ?_
        rintro e w9 ⟨rfl, hw⟩
        subst hw
        go_wp2_with fail
        refine (l4Get_any A n c D m d p t _ HR.out ok.1 hp16).mono ?_
        rintro e w2 ⟨rfl, hb⟩
        rw [HF.out, HWR.out]
        clear k0 k1
        have hfd := HFD.out
        have HB2 := Lib.hid (below_then HB1.out hb)
        replace HR := Lib.hid (HR.out.grow hb)
        replace H0 := Lib.hid (Blk.kept hb H0.out)
        replace H1 := Lib.hid (Blk.kept hb H1.out)
        have HS2 := Lib.hid hb.size
        have k0 := H0.out.cell 0 _ rfl
        have k1 := H0.out.cell 1 _ rfl
        clear hb HB1
        have r0 := H1.out.cell 0 _ rfl
        have r1 := H1.out.cell 1 _ rfl
        have r2 := H1.out.free 0
        have r3 := H1.out.free 1
        have hZ := (Blk.set (Blk.set H1.out 0 (.slice none 0 0)) 1 (.slice none 0 0))
        have hX := below_set (below_set HB2.out (g := w.heap.size + 1) (j := 0) (by omega) (.slice none 0 0)) (g := w.heap.size + 1) (j := 1) (by omega) (.slice none 0 0)
        have HZ := Lib.hid hZ
        have HX := Lib.hid hX
        clear hZ hX
        go_wp2_with fail
        clear r0 r1 r2 r3 k0 k1
        revert HZ HX
        generalize ((World.setCell _ _ _).setCell _ _) = wz
        intro HZ HX
        have z0 := HZ.out.cell 0 _ rfl
        have z1 := HZ.out.cell 1 _ rfl
        exact bodyPost_ret (v := .tuple #[.agg #[.slice none 0 0, .slice none 0 0], .bool false]) (by simp [results, Try.results42, go_sem, z0, z1]) rfl ⟨none, 0, none, 0, rfl, own_none _ _ _, HX.out⟩
    · have hTT : T = noTab ∧ b = false := by
        unfold mapOf at hT
        rw [if_neg (fun h => hfr h.2.2.1)] at hT
        exact ⟨(congrArg Prod.fst hT).symm, (congrArg Prod.snd hT).symm⟩
      obtain ⟨rfl, rfl⟩ := hTT
      clear hT
      go_enter Try.func42, Try.ntmps42
      go_upto_region 1 with fail
      rw [HWB.out]
      clear HWB
      go_wp2_with fail
      refine (l4Page_any A n c D m d p t _ HR.out hn hm hl hnc true (decide_eq_true ok)).mono ?_
      rintro e w1 ⟨rfl, hb⟩
      clear k0 k1
      have HB1 := Lib.hid (below_then HB0.out hb)
      replace HR := Lib.hid (HR.out.grow hb)
      replace H0 := Lib.hid (Blk.kept hb H0.out)
      replace H1 := Lib.hid (Blk.kept hb H1.out)
      have HS1 := Lib.hid hb.size
      have k0 := H0.out.cell 0 _ rfl
      have k1 := H0.out.cell 1 _ rfl
      clear hb HB0
      go_wp2_with fail
      refine (l1In_no frame 0 15 (by omega) _).mono ?_
      rintro e w9 ⟨rfl, hw⟩
      subst hw
      have r0 := H1.out.cell 0 _ rfl
      have r1 := H1.out.cell 1 _ rfl
      have r2 := H1.out.free 0
      have r3 := H1.out.free 1
      have hZ := (Blk.set (Blk.set H1.out 0 (.slice none 0 0)) 1 (.slice none 0 0))
      have hX := below_set (below_set HB1.out (g := w.heap.size + 1) (j := 0) (by omega) (.slice none 0 0)) (g := w.heap.size + 1) (j := 1) (by omega) (.slice none 0 0)
      have HZ := Lib.hid hZ
      have HX := Lib.hid hX
      clear hZ hX
      go_wp2_with fail
      clear r0 r1 r2 r3 k0 k1
      revert HZ HX
      generalize ((World.setCell _ _ _).setCell _ _) = wz
      intro HZ HX
      have z0 := HZ.out.cell 0 _ rfl
      have z1 := HZ.out.cell 1 _ rfl
      exact bodyPost_ret (v := .tuple #[.agg #[.slice none 0 0, .slice none 0 0], .bool false]) (by simp [results, Try.results42, go_sem, z0, z1]) rfl ⟨none, 0, none, 0, rfl, own_none _ _ _, HX.out⟩
  · have hTT : T = noTab ∧ b = false := by
      unfold mapOf at hT
      rw [if_neg (fun h => ok ⟨h.1, h.2.1⟩)] at hT
      exact ⟨(congrArg Prod.fst hT).symm, (congrArg Prod.snd hT).symm⟩
    obtain ⟨rfl, rfl⟩ := hTT
    clear hT
    go_enter Try.func42, Try.ntmps42
    go_upto_region 1 with fail
    rw [HWB.out]
    clear HWB
    go_wp2_with fail
    refine (l4Page_any A n c D m d page t _ HR.out hn hm hl hnc false (decide_eq_false ok)).mono ?_
    rintro e w1 ⟨rfl, hb⟩
    clear k0 k1
    have HB1 := Lib.hid (below_then HB0.out hb)
    replace HR := Lib.hid (HR.out.grow hb)
    replace H0 := Lib.hid (Blk.kept hb H0.out)
    replace H1 := Lib.hid (Blk.kept hb H1.out)
    have HS1 := Lib.hid hb.size
    have k0 := H0.out.cell 0 _ rfl
    have k1 := H0.out.cell 1 _ rfl
    clear hb HB0
    have r0 := H1.out.cell 0 _ rfl
    have r1 := H1.out.cell 1 _ rfl
    have r2 := H1.out.free 0
    have r3 := H1.out.free 1
    have hZ := (Blk.set (Blk.set H1.out 0 (.slice none 0 0)) 1 (.slice none 0 0))
    have hX := below_set (below_set HB1.out (g := w.heap.size + 1) (j := 0) (by omega) (.slice none 0 0)) (g := w.heap.size + 1) (j := 1) (by omega) (.slice none 0 0)
    have HZ := Lib.hid hZ
    have HX := Lib.hid hX
    clear hZ hX
    go_wp2_with fail
    clear r0 r1 r2 r3 k0 k1
    revert HZ HX
    generalize ((World.setCell _ _ _).setCell _ _) = wz
    intro HZ HX
    have z0 := HZ.out.cell 0 _ rfl
    have z1 := HZ.out.cell 1 _ rfl
    exact bodyPost_ret (v := .tuple #[.agg #[.slice none 0 0, .slice none 0 0], .bool false]) (by simp [results, Try.results42, go_sem, z0, z1]) rfl ⟨none, 0, none, 0, rfl, own_none _ _ _, HX.out⟩
end Go.Proofs.Ytaamjnpknmimmab.L4
