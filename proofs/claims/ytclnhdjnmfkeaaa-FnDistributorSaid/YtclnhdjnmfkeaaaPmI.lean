/- What impl.PriorityMask answers. -/
import Derived.Test.YtclnhdjnmfkeaaaRdI
import Derived.Test.YtclnhdjnmfkeaaaLayD
import Derived.Deep.QuietTactic
import Derived.BigQuiet
namespace Go.Proofs.Ytclnhdjnmfkeaaa.L6
open Go Go.RowKit Go.Proofs.Ytclnhdjnmfkeaaa.Mem Go.Proofs.Ytclnhdjnmfkeaaa.Own Go.Sort Go.Lib
set_option maxRecDepth 100000 in
set_option maxHeartbeats 1000000 in
theorem pmCl_any (gl gm : Nat) (A : Option Addr) (c j : Nat) (xs : List Irq) (mask : Int) (w : World) (hl : w.cell? ⟨gl, 0, none⟩ = some (.slice A 8 c)) (hm : w.cell? ⟨gm, 0, none⟩ = some (.int .i64 mask)) (hr : Reads w w.heap.size 5 A 8 (FL xs)) (hj : j < 8) :
    Calls Try.prog 76 #[.int .i64 j, .pointer (some ⟨gl, 0, none⟩), .pointer (some ⟨gm, 0, none⟩)] w fun e w' => e = .returned (.bool (decide (mask ≤ prio xs j))) ∧ ∃ q, w' = w.drewN q := by
  obtain ⟨b1, o1, x, rfl, _, hu, _, _, _, c3, _⟩ := irq_at hr hj
  have hp : prio xs j = x.pr := by unfold prio; rw [getD_at hu]
  rw [hp]
  have hjz : (j : Int) < 8 := by omega
  obtain ⟨x0, x1, x2, p, x4⟩ := x
  simp only at c3 ⊢
  clear hr hu hp
  go_enter Try.func76, Try.ntmps76
  go_wp2_with fail
  go_quiet (fail)
  go_wp2_with fail
  go_ret
  exact ⟨rfl, _, rfl⟩
theorem del_none (p : Option Addr) (cap : Nat) (fv : Value) (w : World) : Calls Try.prog 75 #[.slice p 0 cap, fv] w fun e w' => e = .returned (.slice p 0 cap) ∧ w' = w := by
  have hI : Calls Try.prog 88 #[.slice p 0 cap, fv] w fun e w' => e = .returned (.int .i64 (-1)) ∧ w' = w := Go.Proofs.AnyE.slices_IndexFunc_empty (P := Try.prog) (ρ := delFLays_ren) { delFLays with } p cap fv w
  go_enter Try.func75, Try.ntmps75
  go_wp2_with (go_at_call 88; refine hI.mono ?_; rintro e w1 ⟨rfl, rfl⟩)
  go_ret
  exact ⟨rfl, rfl⟩
theorem filter_vals (fs : List (Fin 8)) (p : Nat → Bool) : (fs.filter fun i => p i.val).map Fin.val = (fs.map Fin.val).filter p := by
  induction fs with
  | nil => rfl
  | cons f fs ih =>
    by_cases h : p f.val = true
    · simp [h, ih]
    · simp [h, ih]
set_option maxHeartbeats 1000000 in
/-- the interrupts that a mask strikes are taken out -/
theorem del_some (g gl gm : Nat) (A : Option Addr) (c n cc base : Nat) (xs : List Irq) (mask : Int) (l : List Nat) (h8 : ∀ j ∈ l, j < 8) (w : World) (hl : w.cell? ⟨gl, 0, none⟩ = some (.slice A 8 c)) (hm : w.cell? ⟨gm, 0, none⟩ = some (.int .i64 mask)) (hgl : gl < base) (hgm : gm < base) (hr : Reads w base 5 A 8 (FL xs)) (hn : n ≤ 8)
    (hown : w.ownsRow base 3 1 (.slice (some ⟨g, 0, none⟩) n cc) n (I (ints l))) :
    Calls Try.prog 75 #[.slice (some ⟨g, 0, none⟩) n cc, .func (.func 76) #[] #[.pointer (some ⟨gl, 0, none⟩), .pointer (some ⟨gm, 0, none⟩)]] w fun e w' => ∃ k, k = (l.filter fun j => decide (prio xs j < mask)).length ∧ e = .returned (.slice (some ⟨g, 0, none⟩) k cc) ∧
      w'.ownsRow base 3 1 (.slice (some ⟨g, 0, none⟩) k cc) k (I (ints (l.filter fun j => decide (prio xs j < mask)))) ∧ w.grownBy w' (some g) := by
  obtain ⟨fs, hf⟩ := fins l h8
  have hen : I (ints l) = fs.map encF := by rw [encF_map, hf]
  rw [hen] at hown
  have hlen : fs.length = n := by have := hown.1; rw [List.length_map] at this; omega
  have hH := holds_of_own hown
  have hg := hown.lt g rfl
  have hsz : fs.toArray.size = n := by simpa using hlen
  have hcap : n ≤ cc := by
    obtain ⟨_, _, e1, h3, _⟩ := own_form hown
    simp only [Value.slice.injEq, true_and] at e1
    omega
  have hpa : PredAt Try.prog 76 #[.pointer (some ⟨gl, 0, none⟩), .pointer (some ⟨gm, 0, none⟩)] encF (fun i => decide (mask ≤ prio xs i.val)) w := by
    intro W x hb
    exact pmCl_any gl gm A c x.val xs mask W ((hb.cell (p := ⟨gl, 0, none⟩) (by show gl < _; omega)).trans hl) ((hb.cell (p := ⟨gm, 0, none⟩) (by show gm < _; omega)).trans hm) ((hr.keep fun p hp => hb.cell (by omega)).more (by have := hb.size; omega)) x.isLt
  have hpo : PredOver Try.prog 76 #[.pointer (some ⟨gl, 0, none⟩), .pointer (some ⟨gm, 0, none⟩)] encF (fun i => decide (mask ≤ prio xs i.val)) g 0 fs.toArray.size w := by
    intro m os dk x hd
    have hsz2 : (putRow encF (Go.Sort.ahead w m) g 0 dk).heap.size = w.heap.size := by simp [putRow, mapBlock, Go.Sort.ahead]
    have hle : w.heap.size ≤ (sortWorld encF w g 0 m dk os).heap.size := by unfold sortWorld; rw [size_grow, hsz2]; omega
    have hcell : ∀ p : Addr, p.block < base → (sortWorld encF w g 0 m dk os).cell? p = w.cell? p := by
      intro p hp
      unfold sortWorld
      have hpw : p.block < w.heap.size := by omega
      rw [cell?_grow _ _ _ (by rw [hsz2]; exact hpw), show p = ⟨p.block, p.off, p.spot⟩ from rfl]
      exact World.cell?_of_block (by
        have hne : g ≠ p.block := by omega
        simp [putRow, mapBlock, Go.Sort.ahead, Array.getElem?_modify, hne])
    exact pmCl_any gl gm A c x.val xs mask _ ((hcell ⟨gl, 0, none⟩ hgl).trans hl) ((hcell ⟨gm, 0, none⟩ hgm).trans hm) ((hr.keep hcell).more (by omega)) x.isLt
  have eg : ∀ args w, (callFunc 76 args).run Try.prog w = .ok (.enter 76 args) w := enters_of Try.func76 (by kernel_rfl) rfl
  have hcon := Go.Proofs.AnyE.slices_DeleteFunc delFLays encF (fun _ => rfl) (fun i => decide (mask ≤ prio xs i.val)) 76 #[.pointer (some ⟨gl, 0, none⟩), .pointer (some ⟨gm, 0, none⟩)] eg (0 : Fin 8) (fun w => Try.zeroValue3 w) g 0 cc fs.toArray w hpa hpo hH (by omega) (by omega)
  rw [hsz] at hcon
  have hfl : (fs.toArray.toList.filter fun i => !decide (mask ≤ prio xs i.val)).map Fin.val = l.filter fun j => decide (prio xs j < mask) := by
    have h1 : (fs.toArray.toList.filter fun i => !decide (mask ≤ prio xs i.val)) = fs.filter fun i => (fun j => decide (prio xs j < mask)) i.val := by
      simp only
      refine List.filter_congr fun i _ => ?_
      rw [← decide_not]
      exact decide_eq_decide.2 (by omega)
    rw [h1, filter_vals fs (fun j => decide (prio xs j < mask)), hf]
  obtain ⟨F, hF⟩ : ∃ F, (fs.toArray.toList.filter fun i => !decide (mask ≤ prio xs i.val)) = F := ⟨_, rfl⟩
  rw [hF] at hcon hfl
  have hFn : F.length ≤ n := by rw [← hF, ← hlen]; exact List.length_filter_le _ _
  refine hcon.mono ?_
  rintro e w' ⟨rfl, q, rfl⟩
  have h1 := own_sorted hown fs.toArray hH hsz (F ++ List.replicate (n - F.length) 0) (by rw [List.length_append, List.length_replicate]; omega) q #[]
  rw [Go.Sort.grow_empty] at h1
  have h2 := own_take h1.1 hFn
  have h3 : ((F ++ List.replicate (n - F.length) 0).map encF).take F.length = I (ints (l.filter fun j => decide (prio xs j < mask))) := by
    rw [← List.map_take, List.take_left' rfl, encF_map, hfl]
  rw [h3] at h2
  exact ⟨F.length, by rw [← hfl, List.length_map], rfl, h2, h1.2⟩
theorem pmAns_no {xs : List Irq} {cpu mask : Int} {l : List Nat} {b : Bool} (h : pmAns xs cpu mask = (l, b)) (hn : ¬ (OkL xs ∧ (0 ≤ cpu ∧ cpu < 4) ∧ (0 ≤ mask ∧ mask < 17))) : l = [] ∧ b = false := by
  unfold pmAns at h
  rw [if_neg hn] at h
  exact ⟨(congrArg Prod.fst h).symm, (congrArg Prod.snd h).symm⟩
theorem pmAns_yes {xs : List Irq} {cpu mask : Int} {l : List Nat} {b : Bool} (h : pmAns xs cpu mask = (l, b)) (hn : OkL xs ∧ (0 ≤ cpu ∧ cpu < 4) ∧ (0 ≤ mask ∧ mask < 17)) : l = ((rdy xs cpu 8).filter fun j => decide (prio xs j < mask)) ∧ b = true := by
  unfold pmAns at h
  rw [if_pos hn] at h
  exact ⟨(congrArg Prod.fst h).symm, (congrArg Prod.snd h).symm⟩
theorem pmAns_len {xs : List Irq} {cpu mask : Int} {l : List Nat} {b : Bool} (h : pmAns xs cpu mask = (l, b)) : l.length ≤ 8 := by
  by_cases hh : OkL xs ∧ (0 ≤ cpu ∧ cpu < 4) ∧ (0 ≤ mask ∧ mask < 17)
  · obtain ⟨rfl, _⟩ := pmAns_yes h hh
    exact Nat.le_trans (List.length_filter_le _ _) (rdy_len xs cpu 8)
  · obtain ⟨rfl, _⟩ := pmAns_no h hh
    simp
theorem rdAns_of' {xs : List Irq} {cpu : Int} (ho : OkL xs) (hk : 0 ≤ cpu ∧ cpu < 4) : rdAns xs cpu = (rdy xs cpu 8, true) := by unfold rdAns; rw [if_pos ⟨ho, hk⟩]
theorem rdAns_not' {xs : List Irq} {cpu : Int} (hn : ¬ (OkL xs ∧ (0 ≤ cpu ∧ cpu < 4))) : rdAns xs cpu = ([], false) := by unfold rdAns; rw [if_neg hn]
set_option maxRecDepth 100000 in
set_option maxHeartbeats 1000000 in
theorem implMask_any (A : Option Addr) (n c : Nat) (xs : List Irq) (cpu mask : Int) (w : World) (hr : Reads w w.heap.size 5 A n (FL xs)) (l : List Nat) (b : Bool) (h : pmAns xs cpu mask = (l, b)) :
    Calls Try.prog 42 #[.slice A n c, .int .i64 cpu, .int .i64 mask] w (NatPost w l b) := by
  obtain ⟨wb, hwb⟩ : ∃ wb, (w.alloc (.cells #[.slice A n c] 25)).alloc (.cells #[.int .i64 mask] 3) = wb := ⟨_, rfl⟩
  have hb0 : Below w.heap.size w wb := by rw [← hwb]; exact below_more (below_more (Below.refl _ _) _) _
  have hx : Blk wb w.heap.size 25 #[.slice A n c] := by rw [← hwb]; exact (Blk.new _ _ _).alloc _
  have hx2 : Blk wb (w.heap.size + 1) 3 #[.int .i64 mask] := by
    rw [← hwb]
    have h := Blk.new (w.alloc (.cells #[.slice A n c] 25)) #[.int .i64 mask] 3
    rwa [size1] at h
  have hsz : wb.heap.size = w.heap.size + 1 + 1 := by rw [← hwb, size1, size1]
  have HL : Hid (xs.length = n) := Lib.hid (reads_len hr)
  have HR := Lib.hid ((hr.below hb0).more hb0.size)
  have HH := Lib.hid h
  have HX := Lib.hid hx
  have HX2 := Lib.hid hx2
  have HB0 := Lib.hid hb0
  have HWB := Lib.hid hwb
  have HSZ := Lib.hid hsz
  have k0 := hx.cell 0 _ rfl
  clear hr h hx hx2 hb0 hwb hsz
  by_cases hok : OkL xs ∧ (0 ≤ cpu ∧ cpu < 4)
  · have HC := Lib.hid (implReady_any A n c xs cpu wb HR.out (rdy xs cpu 8) true (rdAns_of' hok.1 hok.2))
    have h8 : n = 8 := by rw [← HL.out]; exact hok.1.1
    subst h8
    have hRlen := rdy_len xs cpu 8
    have HR8 : Hid (∀ j ∈ rdy xs cpu 8, j < 8) := Lib.hid (fun j hj => rdy_lt hj)
    by_cases hm : 0 ≤ mask ∧ mask < 17
    · have HM := Lib.hid (decide_eq_true hm)
      obtain ⟨rfl, rfl⟩ := pmAns_yes HH.out ⟨hok.1, hok.2, hm⟩
      obtain ⟨R, hR⟩ : ∃ R, rdy xs cpu 8 = R := ⟨_, rfl⟩
      rw [hR] at HC HR8 hRlen ⊢
      obtain ⟨m, hmm⟩ : ∃ m, R.length = m := ⟨_, rfl⟩
      have HMM := Lib.hid hmm
      rw [hmm] at hRlen
      clear hok hm HH hR hmm
      go_enter Try.func42, Try.ntmps42
      go_upto_region 1 with fail
      rw [HWB.out]
      clear HWB
      go_wp2_with fail
      refine HC.out.mono ?_
      rintro e w1 ⟨A', c', rfl, hown, hb⟩
      rw [HMM.out] at hown ⊢
      have HB1 := Lib.hid hb
      have HO := Lib.hid hown
      have k1 := (Blk.kept hb HX2.out).cell 0 _ rfl
      have k2 := (Blk.kept hb HX.out).cell 0 _ rfl
      clear hown hb k0
      go_wp2_with fail
      refine (isLimit_any _ _ HM.out _).mono ?_
      rintro e w2 ⟨rfl, rfl⟩
      by_cases h0 : m = 0
      · subst h0
        have hnil : R = [] := List.length_eq_zero_iff.1 HMM.out
        have HNIL := Lib.hid hnil
        clear hnil k1 k2
        go_wp2_with (go_at_call 75; (with_reducible refine (del_none A' c' _ _).mono ?_); rintro e w5 ⟨rfl, rfl⟩)
        go_ret2
        rw [HNIL.out]
        exact ⟨A', c', rfl, by have h := HO.out; rw [HNIL.out] at h; exact own_mono h HB0.out.size, below_then HB0.out HB1.out⟩
      · obtain ⟨g, rfl⟩ := own_head HO.out (by omega)
        have hgs := HSZ.out
        go_wp2_with (go_at_call 75; (with_reducible refine (del_some g w.heap.size (w.heap.size + 1) A c m c' wb.heap.size xs mask R HR8.out _ k2 k1 (by omega) (by omega) (HR.out.below HB1.out) hRlen HO.out).mono ?_); rintro e w5 ⟨k, hk, rfl, hown5, hgrow5⟩; have HK := Lib.hid hk; clear hk)
        have HO5 := Lib.hid (own_mono hown5 HB0.out.size)
        have HB5 := Lib.hid (below_then HB0.out (HB1.out.grown hgrow5 HB1.out.size (fun q hq => by injection hq with hq; subst hq; exact (HO.out.lt g rfl).1)))
        clear hown5 hgrow5 k1 k2
        go_wp2_with fail
        go_ret2
        exact natPost_of HK.out.symm HO5.out HB5.out
    · have HM := Lib.hid (decide_eq_false hm)
      obtain ⟨rfl, rfl⟩ := pmAns_no HH.out (fun hh => hm hh.2.2)
      clear hok hm HH
      go_enter Try.func42, Try.ntmps42
      go_upto_region 1 with fail
      rw [HWB.out]
      clear HWB
      go_wp2_with fail
      refine HC.out.mono ?_
      rintro e w1 ⟨A', c', rfl, hown, hb⟩
      have HB1 := Lib.hid (below_then HB0.out hb)
      have k1 := (Blk.kept hb HX2.out).cell 0 _ rfl
      clear hown hb k0
      go_wp2_with fail
      refine (isLimit_any _ _ HM.out _).mono ?_
      rintro e w2 ⟨rfl, rfl⟩
      clear k1
      go_wp2_with fail
      go_ret2
      exact ⟨none, 0, rfl, World.ownsRow_nil _ _ _ _, HB1.out⟩
  · have HC := Lib.hid (implReady_any A n c xs cpu wb HR.out [] false (rdAns_not' hok))
    obtain ⟨rfl, rfl⟩ := pmAns_no HH.out (fun hh => hok ⟨hh.1, hh.2.1⟩)
    clear hok HH
    go_enter Try.func42, Try.ntmps42
    go_upto_region 1 with fail
    rw [HWB.out]
    clear HWB
    go_wp2_with fail
    refine HC.out.mono ?_
    rintro e w1 ⟨A', c', rfl, hown, hb⟩
    have HB1 := Lib.hid (below_then HB0.out hb)
    clear hown hb k0
    go_wp2_with fail
    go_ret2
    exact ⟨none, 0, rfl, World.ownsRow_nil _ _ _ _, HB1.out⟩
end Go.Proofs.Ytclnhdjnmfkeaaa.L6
