/- What IsWithin of both answers. -/
import Derived.Test.YtcpfnihpheoiiaaPages
import Derived.Test.YtcpfnihpheoiiaaGst
import Derived.Laws.AppendOwnNone
import Derived.Deep.RegionHeld3
namespace Go.Proofs.Ytcpfnihpheoiiaa.L4
open Go Go.RowKit Go.Proofs.Ytcpfnihpheoiiaa.Mem Go.Proofs.Ytcpfnihpheoiiaa.Own Go.Proofs.Ytcpfnihpheoiiaa.L1 Go.Proofs.Ytcpfnihpheoiiaa.Fra
/-- an entry whose frame is not the guest's -/
def outBool (zs : List Int) (o : Int) (x : Ent) : Bool := decide (x.f ≠ -1) && (decide ((zs.length : Int) ≤ x.f) || decide (zs.getD x.f.toNat 0 ≠ o))
def Ask (t : Tab) (zs : List Int) (o : Int) : Prop := OkT t ∧ GoodOw zs ∧ 1 ≤ o ∧ o ≤ 4
instance (t : Tab) (zs : List Int) (o : Int) : Decidable (Ask t zs o) := by unfold Ask; infer_instance
/-- no page's entry lies outside -/
def Inside (t : Tab) (zs : List Int) (o : Int) : Prop := ∀ p, p < 16 → outBool zs o (get t p) = false
instance (t : Tab) (zs : List Int) (o : Int) : Decidable (Inside t zs o) := by unfold Inside; infer_instance
def withinOf (t : Tab) (zs : List Int) (o : Int) : Bool × Bool := if Ask t zs o then (decide (Inside t zs o), true) else (false, false)
/-- a function value that tells a property of a table's entries -/
def TellsR (t : Tab) (k : Nat) (lb : Array Value) (p : Ent → Bool) (w : World) : Prop :=
  ∀ (i : Nat), i < 16 → ∀ (w' : World), Below w.heap.size w w' → Calls Try.prog k (#[.agg #[.int .i64 (get t i).f, .bool (get t i).wr]] ++ lb) w' fun e w'' => e = .returned (.bool (p (get t i))) ∧ Below w'.heap.size w' w''
theorem TellsR.grow {t : Tab} {k : Nat} {lb : Array Value} {p : Ent → Bool} {w w' : World} (h : TellsR t k lb p w) (hb : Below w.heap.size w w') : TellsR t k lb p w' :=
  fun i hi w2 h2 => h i hi w2 (below_then hb h2)
set_option maxRecDepth 100000 in
set_option maxHeartbeats 2000000 in
theorem pagesWithR_any (A : Option Addr) (n c : Nat) (D : Option Addr) (m d g : Nat) (lb : Array Value) (p : Ent → Bool) (eg : ∀ args w, (callFunc g args).run Try.prog w = .ok (.enter g args) w) (t : Tab) (w : World) (hr : ReadsT w w.heap.size A n D m t) (ok : OkT t) (hp : TellsR t g lb p w) :
    Calls Try.prog 57 #[.agg #[.slice A n c, .slice D m d], .func (.func g) #[] lb] w fun e w' => ∃ v, e = .returned v ∧ w'.ownsRow w.heap.size 3 1 v (pagesBy p t 16).length (I (pagesBy p t 16)) ∧ Below w.heap.size w w' := by
  obtain ⟨i0, hi, hz0, hz1, hz2⟩ := info_parts intInfo
  obtain ⟨wb, hwb⟩ : ∃ wb, w.alloc (.cells #[.slice A n c, .slice D m d] 27) = wb := ⟨_, rfl⟩
  have hb0 : Below w.heap.size w wb := by rw [← hwb]; exact below_more (Below.refl _ _) _
  have hB0 : Blk wb w.heap.size 27 #[.slice A n c, .slice D m d] := by rw [← hwb]; exact Blk.new _ _ _
  have HK := Lib.hid hB0
  have HR := Lib.hid (hr.grow hb0)
  have HB0 := Lib.hid hb0
  have HWB := Lib.hid hwb
  have HP := Lib.hid (hp.grow hb0)
  clear hr hb0 hB0 hwb hp
  go_enter Try.func57, Try.ntmps57
  go_wp2_with fail
  rw [HWB.out]
  clear HWB
  have hown0 : wb.ownsRow wb.heap.size 3 1 (.slice none 0 0) 0 [] := World.ownsRow_nil _ _ _ _
  go_loopw [5, 9] (fun v i wr => ∃ (k : Nat) (l : List Int), i = .int .i64 k ∧ k ≤ 16 ∧ l.length ≤ k ∧ Hid (l = pagesBy p t k) ∧ Hid (wr.ownsRow wb.heap.size 3 1 v l.length (I l)) ∧ Hid (Below wb.heap.size wb wr)) (fun _ i _ => 16 - (intOf i).toNat)
  case atStart => exact ⟨0, [], rfl, Nat.zero_le _, Nat.le_refl _, Lib.hid rfl, Lib.hid hown0, Lib.hid (Below.refl _ _)⟩
  case round =>
    clear hown0
    obtain ⟨k, l, rfl, hk, hl, HD, HOWN, HBL⟩ := hrel
    by_cases hlt : k < 16
    · have HR1 := Lib.hid (HR.out.grow HBL.out)
      have hKr := Blk.kept HBL.out HK.out
      have k0 := hKr.cell 0 _ rfl
      have k1 := hKr.cell 1 _ rfl
      obtain ⟨f, hf⟩ : ∃ f, (get t k).f = f := ⟨_, rfl⟩
      obtain ⟨wr_, hwr⟩ : ∃ f, (get t k).wr = f := ⟨_, rfl⟩
      have hg : get t k = ⟨f, wr_⟩ := by rw [← hf, ← hwr]
      have HG := Lib.hid hg
      have HF := Lib.hid hf
      have HWR := Lib.hid hwr
      clear hf hwr hg hKr
      go_wp2_with fail
      refine (entryOf_any A n c D m d k t _ HR1.out ok hlt).mono ?_
      rintro e w2 ⟨rfl, hb⟩
      rw [HF.out, HWR.out]
      have hba := below_more hb (.cells #[.int .i64 f, .bool wr_] 76)
      have HB2 := Lib.hid (below_then HBL.out hba)
      have HO2 := Lib.hid (own_below HOWN.out hba)
      have hw2 := Blk.new w2 #[.int .i64 f, .bool wr_] 76
      obtain ⟨wa, hwa⟩ : ∃ wa, w2.alloc (.cells #[.int .i64 f, .bool wr_] 76) = wa := ⟨_, rfl⟩
      rw [hwa] at HB2 HO2 hw2
      have e0 := hw2.cell 0 _ rfl
      have e1 := hw2.cell 1 _ rfl
      have HWA := Lib.hid hwa
      clear hb hba hw2 hwa k0 k1 HR1 HBL HOWN
      go_upto_region 6 with fail
      rw [HWA.out]
      clear HWA
      go_wp2_with fail
      have hcl := HP.out k hlt wa HB2.out
      rw [HG.out] at hcl
      refine hcl.mono ?_
      rintro e w3 ⟨rfl, hb⟩
      have HB3 := Lib.hid (below_then HB2.out hb)
      have HO3 := Lib.hid (own_below HO2.out hb)
      clear hb HB2 HO2 e0 e1 hcl
      cases hq : p ⟨f, wr_⟩ with
      | true =>
        have HN : Hid (l ++ [(k : Int)] = pagesBy p t (k + 1)) := Lib.hid (by rw [pagesBy_hit (by rw [HG.out]; exact hq), HD.out])
        have hown := HO3.out
        have hbel := HB3.out
        have hsz := hbel.size
        clear hq
        go_wp2_with (at_builtin; refine wpList_append_own _ rfl _ _ 24 rfl wb.heap.size 3 i0 (.int .i64 0) 1 8 Try.underlying24 hi hz0 hz1 hz2 rfl (by decide) _ _ _ rfl (hown.alloc _) ⟨w3.heap.size, 0, none⟩ 1 1 [.int .i64 k] rfl rfl (cell_one_new _ _ _) (fun x hx => by simp at hx; subst hx; rfl) (by unfold maxLen; omega) (by omega) (by simp; omega) ?_; intro v' w4 hown1 hgrow1 _)
        have HB4 := Lib.hid ((hbel.alloc hsz (.cells #[.int .i64 (k : Int)] 3)).grown hgrow1 (by simp; omega) (fun q hq => (hown.lt q hq).1))
        have HO4 : Hid (w4.ownsRow wb.heap.size 3 1 v' (l ++ [(k : Int)]).length (I (l ++ [(k : Int)]))) := Lib.hid (by simpa [I] using hown1)
        clear hown hbel hsz hown1 hgrow1
        go_roundw
        case rel => exact ⟨k + 1, l ++ [(k : Int)], by go_num, by omega, by simp; omega, HN, HO4, HB4⟩
        case measure => simp [intOf]; omega
      | false =>
        have HN : Hid (l = pagesBy p t (k + 1)) := Lib.hid (by rw [pagesBy_miss (by rw [HG.out]; exact hq), HD.out])
        clear hq
        go_wp2_with fail
        go_roundw
        case rel => exact ⟨k + 1, l, by go_num, by omega, by omega, HN, HO3, HB3⟩
        case measure => simp [intOf]; omega
    · have hkn : k = 16 := by omega
      subst hkn
      have HO : Hid (wr.ownsRow wb.heap.size 3 1 u5 (pagesBy p t 16).length (I (pagesBy p t 16))) := Lib.hid (by rw [← HD.out]; exact HOWN.out)
      clear HP eg
      go_wp2_with fail
      go_ret
      exact ⟨_, rfl, own_mono HO.out HB0.out.size, below_then HB0.out HBL.out⟩
theorem pagesBy_nil {p : Ent → Bool} {t : Tab} (k : Nat) : (pagesBy p t k).length = 0 ↔ ∀ i, i < k → p (get t i) = false := by
  induction k with
  | zero => simp [pagesBy]
  | succ k ih =>
    cases h : p (get t k) with
    | true =>
      rw [pagesBy_hit h]
      simp only [List.length_append, List.length_singleton]
      constructor
      · intro h'; omega
      · intro h'; have := h' k (by omega); rw [h] at this; cases this
    | false =>
      rw [pagesBy_miss h, ih]
      constructor
      · intro h' i hi
        by_cases e : i = k
        · subst e; exact h
        · exact h' i (by omega)
      · intro h' i hi; exact h' i (by omega)
/-- an entry of a valid table has a frame below 16, or none -/
theorem get_range {t : Tab} (ok : OkT t) {p : Nat} (hp : p < 16) : (get t p).f = -1 ∨ (0 ≤ (get t p).f ∧ (get t p).f < 16) := by
  unfold get
  by_cases hd : dirOf t p = -1
  · rw [if_pos hd]; exact .inl rfl
  · rw [if_neg hd]
    have hmem : dirOf t p ∈ t.dirs := by
      unfold dirOf
      have hl : p / 4 < t.dirs.length := by rw [ok.1]; omega
      rw [List.getD, List.getElem?_eq_getElem hl]
      exact List.getElem_mem hl
    have hb := (ok.2.1 _ hmem).resolve_left hd
    obtain ⟨h1, _, h3⟩ := (ok.2.2 (dirOf t p).toNat (by omega)).2
    have hl : p % 4 < (t.leaves.getD (dirOf t p).toNat ([] : List Ent)).length := by rw [h1]; omega
    rw [List.getD, List.getElem?_eq_getElem hl]
    have hw := h3 _ (List.getElem_mem hl)
    unfold Wrong at hw
    simp only [Option.getD_some]
    split at hw
    · left; assumption
    · right; exact Classical.not_not.1 hw
set_option maxRecDepth 100000 in
set_option maxHeartbeats 2000000 in
/-- the closure of IsWithin, at entries of a valid table -/
theorem out_calls (g g2 : Nat) (A : Option Addr) (n c : Nat) (zs : List Int) (o : Int) (w w' : World) (hb : Blk w g 24 #[.slice A n c]) (hb2 : Blk w g2 3 #[.int .i64 o]) (hr : Reads w w.heap.size 1 A n (I zs)) (hbel : Below w.heap.size w w') (f : Int) (wr : Bool) (hf : f = -1 ∨ 0 ≤ f) :
    Calls Try.prog 72 #[.agg #[.int .i64 f, .bool wr], .pointer (some ⟨g, 0, none⟩), .pointer (some ⟨g2, 0, none⟩)] w' fun e w'' => e = .returned (.bool (outBool zs o ⟨f, wr⟩)) ∧ Below w'.heap.size w' w'' := by
  have HL : Hid (zs.length = n) := Lib.hid (by have := hr.len; simpa [I] using this)
  obtain ⟨wb, hwb⟩ : ∃ wb, w'.alloc (.cells #[.int .i64 f, .bool wr] 76) = wb := ⟨_, rfl⟩
  have hb0 : Below w'.heap.size w' wb := by rw [← hwb]; exact below_more (Below.refl _ _) _
  have hx : Blk wb w'.heap.size 76 #[.int .i64 f, .bool wr] := by rw [← hwb]; exact Blk.new _ _ _
  have e0 := cell_regrown (hx.cell 0 _ rfl)
  have e1 := cell_regrown (hx.cell 1 _ rfl)
  have k0 := cell_regrown ((Blk.kept hb0 (Blk.kept hbel hb)).cell 0 _ rfl)
  have k1 := cell_regrown ((Blk.kept hb0 (Blk.kept hbel hb2)).cell 0 _ rfl)
  have hrb : Reads wb wb.heap.size 1 A n (I zs) := (((hr.below hbel).more hbel.size).below hb0).more hb0.size
  have HB0 := Lib.hid hb0
  have HWB := Lib.hid hwb
  clear hb hb2 hr hbel hb0 hwb hx
  have cQ : ∀ (b : Bool), decide (f ≠ -1) = b → ∀ d os, Calls Try.prog 58 #[.agg #[.int .i64 f, .bool wr]] (Sort.grow (redrawn wb d) os) fun e w'' => e = .returned (.bool b) ∧ ∃ p : Regrown, w'' = Sort.grow (redrawn wb p.d) p.os := fun b hb d os => Calls.regrown_of (hasFrame_any f wr b hb (Sort.grow (redrawn wb d) os))
  rcases hf with rfl | hf
  · have HO : Hid (outBool zs o ⟨-1, wr⟩ = false) := Lib.hid (by unfold outBool; simp)
    have cF := cQ false (by decide)
    clear cQ hrb
    go_enter Try.func72, Try.ntmps72
    go_upto_region 1 with fail
    rw [HWB.out]
    clear HWB
    refine wp_region_quiet_below (by kernel_rfl) (by kernel_rfl) ?_
    generalize hz : Act.mk _ _ = a0
    repeat (refine wpQuiet_step (fun K hK => ?_); subst hz; go_simp; first | (generalize hz : Act.mk _ _ = a0; refine hK a0 ?_; clear hK K) | (rw [if_neg (by simp [undef])]; generalize hz : Act.mk _ _ = a0; refine hK a0 ?_; clear hK K) | (apply Exists.intro; refine ⟨fun _ => ?_, hK _ ?_⟩; exact cF _ _; clear hK K; generalize hz : Act.mk _ _ = a0))
    refine wpQuiet_nil ?_
    subst hz
    intro _ hw'
    obtain ⟨⟨dq, osq⟩, hw''⟩ := hw'
    subst hw''
    have HB2 : Hid (Below w'.heap.size w' (Sort.grow (redrawn wb dq) osq)) := Lib.hid (below_then HB0.out (below_regrown wb dq osq))
    go_wp2_with fail
    go_ret
    exact ⟨by rw [HO.out]; rfl, HB2.out⟩
  · have h1 : f ≠ -1 := by omega
    have cF := cQ true (by simpa using h1)
    clear cQ
    by_cases hlt : f < n
    · obtain ⟨q, rfl⟩ : ∃ q : Nat, f = q := ⟨f.toNat, by omega⟩
      have hq : q < n := by omega
      obtain ⟨b1, o1, z, rfl, _, hu, hc⟩ := hrb.int_at hq
      have i2 := cell_regrown hc
      have hgd : zs.getD q 0 = z := by rw [List.getD, hu]; rfl
      have HO : Hid (outBool zs o ⟨q, wr⟩ = decide (z ≠ o)) := Lib.hid (by
        unfold outBool
        simp only [Int.toNat_natCast, hgd, HL.out]
        have e1 : decide ((q : Int) ≠ -1) = true := decide_eq_true h1
        have e2 : decide ((n : Int) ≤ q) = false := decide_eq_false (by omega)
        rw [e1, e2]; rfl)
      have hge : decide ((n : Int) ≤ (q : Int)) = false := decide_eq_false (by omega)
      clear hu hgd hc hrb
      by_cases hz : z = o
      · subst hz
        have hzb : (z != z) = false := by simp
        go_enter Try.func72, Try.ntmps72
        go_upto_region 1 with fail
        rw [HWB.out]
        clear HWB
        refine wp_region_quiet_below (by kernel_rfl) (by kernel_rfl) ?_
        generalize hz : Act.mk _ _ = a0
        repeat (refine wpQuiet_step (fun K hK => ?_); subst hz; go_simp; first | (generalize hz : Act.mk _ _ = a0; refine hK a0 ?_; clear hK K) | (rw [if_neg (by simp [undef])]; generalize hz : Act.mk _ _ = a0; refine hK a0 ?_; clear hK K) | (apply Exists.intro; refine ⟨fun _ => ?_, hK _ ?_⟩; exact cF _ _; clear hK K; generalize hz : Act.mk _ _ = a0))
        refine wpQuiet_nil ?_
        subst hz
        intro _ hw'
        obtain ⟨⟨dq, osq⟩, hw''⟩ := hw'
        subst hw''
        have HB2 : Hid (Below w'.heap.size w' (Sort.grow (redrawn wb dq) osq)) := Lib.hid (below_then HB0.out (below_regrown wb dq osq))
        go_wp2_with fail
        go_ret
        exact ⟨by rw [HO.out]; simp <;> exact hq, HB2.out⟩
      · have hzb : (z != o) = true := by simpa using hz
        rw [decide_eq_true hz] at HO
        go_enter Try.func72, Try.ntmps72
        go_upto_region 1 with fail
        rw [HWB.out]
        clear HWB
        refine wp_region_quiet_below (by kernel_rfl) (by kernel_rfl) ?_
        generalize hz : Act.mk _ _ = a0
        repeat (refine wpQuiet_step (fun K hK => ?_); subst hz; go_simp; first | (generalize hz : Act.mk _ _ = a0; refine hK a0 ?_; clear hK K) | (rw [if_neg (by simp [undef])]; generalize hz : Act.mk _ _ = a0; refine hK a0 ?_; clear hK K) | (apply Exists.intro; refine ⟨fun _ => ?_, hK _ ?_⟩; exact cF _ _; clear hK K; generalize hz : Act.mk _ _ = a0))
        refine wpQuiet_nil ?_
        subst hz
        intro _ hw'
        obtain ⟨⟨dq, osq⟩, hw''⟩ := hw'
        subst hw''
        have HB2 : Hid (Below w'.heap.size w' (Sort.grow (redrawn wb dq) osq)) := Lib.hid (below_then HB0.out (below_regrown wb dq osq))
        go_wp2_with fail
        go_ret
        exact ⟨by rw [HO.out]; rfl, HB2.out⟩
    · have HO : Hid (outBool zs o ⟨f, wr⟩ = true) := Lib.hid (by
        unfold outBool
        simp only [HL.out]
        rw [decide_eq_true h1, decide_eq_true (show (n : Int) ≤ f by omega)]; rfl)
      have hge : decide ((n : Int) ≤ f) = true := decide_eq_true (by omega)
      clear hrb
      go_enter Try.func72, Try.ntmps72
      go_upto_region 1 with fail
      rw [HWB.out]
      clear HWB
      refine wp_region_quiet_below (by kernel_rfl) (by kernel_rfl) ?_
      generalize hz : Act.mk _ _ = a0
      repeat (refine wpQuiet_step (fun K hK => ?_); subst hz; go_simp; first | (generalize hz : Act.mk _ _ = a0; refine hK a0 ?_; clear hK K) | (rw [if_neg (by simp [undef])]; generalize hz : Act.mk _ _ = a0; refine hK a0 ?_; clear hK K) | (apply Exists.intro; refine ⟨fun _ => ?_, hK _ ?_⟩; exact cF _ _; clear hK K; generalize hz : Act.mk _ _ = a0))
      refine wpQuiet_nil ?_
      subst hz
      intro _ hw'
      obtain ⟨⟨dq, osq⟩, hw''⟩ := hw'
      subst hw''
      have HB2 : Hid (Below w'.heap.size w' (Sort.grow (redrawn wb dq) osq)) := Lib.hid (below_then HB0.out (below_regrown wb dq osq))
      go_wp2_with fail
      go_ret
      exact ⟨by rw [HO.out]; rfl, HB2.out⟩
theorem out_tells (t : Tab) (ok : OkT t) (g g2 : Nat) (A : Option Addr) (n c : Nat) (zs : List Int) (o : Int) (w : World) (hb : Blk w g 24 #[.slice A n c]) (hb2 : Blk w g2 3 #[.int .i64 o]) (hr : Reads w w.heap.size 1 A n (I zs)) :
    TellsR t 72 #[.pointer (some ⟨g, 0, none⟩), .pointer (some ⟨g2, 0, none⟩)] (outBool zs o) w := by
  intro i hi w' hbel
  have hr_ := get_range ok hi
  have h := out_calls g g2 A n c zs o w w' hb hb2 hr hbel (get t i).f (get t i).wr (by omega)
  exact h
theorem out_enters : ∀ args w, (callFunc 72 args).run Try.prog w = .ok (.enter 72 args) w := enters_of Try.func72 (by kernel_rfl) rfl
theorem within_yes {t : Tab} {zs : List Int} {o : Int} (h : Ask t zs o) : withinOf t zs o = (decide (Inside t zs o), true) := by unfold withinOf; rw [if_pos h]
theorem within_no {t : Tab} {zs : List Int} {o : Int} (h : ¬ Ask t zs o) : withinOf t zs o = (false, false) := by unfold withinOf; rw [if_neg h]
set_option maxRecDepth 100000 in
set_option maxHeartbeats 2000000 in
theorem implWithin_any (A : Option Addr) (n c : Nat) (D : Option Addr) (m d : Nat) (t : Tab) (A1 : Option Addr) (n1 c1 : Nat) (zs : List Int) (o : Int) (w : World) (hr : ReadsT w w.heap.size A n D m t) (hn : n ≤ 1048576) (hm : m ≤ 1048576) (hl : ∀ xs ∈ t.leaves, xs.length ≤ 1048576) (hr1 : Reads w w.heap.size 1 A1 n1 (I zs)) (hn1 : n1 ≤ 1048576) :
    Calls Try.prog 22 #[.agg #[.slice A n c, .slice D m d], .slice A1 n1 c1, .int .i64 o] w fun e w' => e = .returned (.tuple #[.bool (withinOf t zs o).1, .bool (withinOf t zs o).2]) ∧ Below w.heap.size w w' := by
  have hmf : ∀ (fn : Fn) (first cap : Array Value) (w : World), (Instr.makeFunc fn first cap).run Try.prog w = .ok (.func fn first cap) w := fun _ _ _ _ => rfl
  obtain ⟨wb, hwb⟩ : ∃ wb, ((w.alloc (.cells #[.slice A n c, .slice D m d] 27)).alloc (.cells #[.slice A1 n1 c1] 24)).alloc (.cells #[.int .i64 o] 3) = wb := ⟨_, rfl⟩
  have hb0 : Below w.heap.size w wb := by rw [← hwb]; exact below_more (below_more (below_more (Below.refl _ _) _) _) _
  have h0 : Blk wb w.heap.size 27 #[.slice A n c, .slice D m d] := by rw [← hwb]; exact Blk.alloc (Blk.alloc (Blk.new _ _ _) _) _
  have h1 : Blk wb (w.heap.size + 1) 24 #[.slice A1 n1 c1] := by
    rw [← hwb]
    have h := Blk.alloc (Blk.new (w.alloc (.cells #[.slice A n c, .slice D m d] 27)) #[.slice A1 n1 c1] 24) (.cells #[.int .i64 o] 3)
    rwa [size1] at h
  have h2 : Blk wb (w.heap.size + 1 + 1) 3 #[.int .i64 o] := by
    rw [← hwb]
    have h := Blk.new ((w.alloc (.cells #[.slice A n c, .slice D m d] 27)).alloc (.cells #[.slice A1 n1 c1] 24)) #[.int .i64 o] 3
    rwa [size1, size1] at h
  have HR := Lib.hid (hr.grow hb0)
  have HR1 := Lib.hid ((hr1.below hb0).more hb0.size)
  have H0 := Lib.hid h0
  have H1 := Lib.hid h1
  have H2 := Lib.hid h2
  have HB0 := Lib.hid hb0
  have HWB := Lib.hid hwb
  clear hr hr1 h0 h1 h2 hb0 hwb
  by_cases ok : OkT t
  · by_cases hz : GoodOw zs
    · by_cases ho : 1 ≤ o ∧ o ≤ 4
      · obtain ⟨q, hq⟩ : ∃ q, decide (Inside t zs o) = q := ⟨_, rfl⟩
        have HW : Hid (withinOf t zs o = (q, true)) := Lib.hid (by rw [within_yes ⟨ok, hz, ho⟩, hq])
        have HQ := Lib.hid hq
        clear hq
        go_enter Try.func22, Try.ntmps22
        go_wp2_with fail
        rw [HWB.out]
        clear HWB
        refine (implIsTable_any A n c D m d t _ HR.out hn hm hl true (decide_eq_true ok)).mono ?_
        rintro e w1 ⟨rfl, hb⟩
        have HB1 := Lib.hid (below_then HB0.out hb)
        have HRa := Lib.hid (HR.out.grow hb)
        have HRb := Lib.hid ((HR1.out.below hb).more hb.size)
        have j0 := Blk.kept hb H0.out
        have j1 := Blk.kept hb H1.out
        have j2 := Blk.kept hb H2.out
        have k0 := j0.cell 0 _ rfl
        have k1 := j0.cell 1 _ rfl
        have k2 := j1.cell 0 _ rfl
        have k3 := j2.cell 0 _ rfl
        have J1 := Lib.hid j1
        have J2 := Lib.hid j2
        clear hb HB0 HR HR1 H0 H1 H2 j0 j1 j2
        go_wp2_with fail
        refine (implAreOwners_any A1 n1 c1 _ zs _ HRb.out hn1 true (decide_eq_true hz)).mono ?_
        rintro e w2 ⟨rfl, hw⟩
        subst hw
        go_wp2_with fail
        refine (isGuest_any o true (decide_eq_true ho) _).mono ?_
        rintro e w2 ⟨rfl, hw⟩
        subst hw
        go_wp2_with fail
        refine (pagesWithR_any A n c D m d _ _ _ out_enters t _ HRa.out ok (out_tells t ok _ _ A1 n1 c1 zs o _ J1.out J2.out HRb.out)).mono ?_
        rintro e w2 ⟨v, rfl, hown, hb⟩
        obtain ⟨L, hL⟩ : ∃ L, (pagesBy (outBool zs o) t 16).length = L := ⟨_, rfl⟩
        have HZ : Hid (q = decide (L = 0)) := Lib.hid (by
          rw [← HQ.out, ← hL]
          exact decide_eq_decide.2 (pagesBy_nil (p := outBool zs o) (t := t) 16).symm)
        rw [hL] at hown
        have hlen : L ≤ 16 := by rw [← hL]; exact pagesBy_len _ _ _
        obtain ⟨A', c', rfl, _, _⟩ := own_form hown
        have HB2 := Lib.hid (below_then HB1.out hb)
        clear hown hb HB1 HRa HRb k0 k1 k2 k3 J1 J2 hmf hL
        by_cases h0 : L = 0
        · subst h0
          go_wp2_with fail
          go_ret2
          exact ⟨by rw [HW.out, HZ.out]; rfl, HB2.out⟩
        · have hb1 : ((L : Int) == 0) = false := by simp; omega
          rw [decide_eq_false h0] at HZ
          go_wp2_with fail
          go_ret2
          exact ⟨by rw [HW.out, HZ.out]; rfl, HB2.out⟩
      · have HW := Lib.hid (within_no (t := t) (zs := zs) (o := o) fun h => ho h.2.2)
        go_enter Try.func22, Try.ntmps22
        go_wp2_with fail
        rw [HWB.out]
        clear HWB
        refine (implIsTable_any A n c D m d t _ HR.out hn hm hl true (decide_eq_true ok)).mono ?_
        rintro e w1 ⟨rfl, hb⟩
        have HB1 := Lib.hid (below_then HB0.out hb)
        have HRb := Lib.hid ((HR1.out.below hb).more hb.size)
        have k2 := (Blk.kept hb H1.out).cell 0 _ rfl
        have k3 := (Blk.kept hb H2.out).cell 0 _ rfl
        clear hb HB0 HR HR1 H0 H1 H2
        go_wp2_with fail
        refine (implAreOwners_any A1 n1 c1 _ zs _ HRb.out hn1 true (decide_eq_true hz)).mono ?_
        rintro e w2 ⟨rfl, hw⟩
        subst hw
        go_wp2_with fail
        refine (isGuest_any o false (decide_eq_false ho) _).mono ?_
        rintro e w2 ⟨rfl, hw⟩
        subst hw
        go_wp2_with fail
        go_ret2
        exact ⟨by rw [HW.out]; rfl, HB1.out⟩
    · have HW := Lib.hid (within_no (t := t) (zs := zs) (o := o) fun h => hz h.2.1)
      go_enter Try.func22, Try.ntmps22
      go_wp2_with fail
      rw [HWB.out]
      clear HWB
      refine (implIsTable_any A n c D m d t _ HR.out hn hm hl true (decide_eq_true ok)).mono ?_
      rintro e w1 ⟨rfl, hb⟩
      have HB1 := Lib.hid (below_then HB0.out hb)
      have HRb := Lib.hid ((HR1.out.below hb).more hb.size)
      have k2 := (Blk.kept hb H1.out).cell 0 _ rfl
      clear hb HB0 HR HR1 H0 H1 H2
      go_wp2_with fail
      refine (implAreOwners_any A1 n1 c1 _ zs _ HRb.out hn1 false (decide_eq_false hz)).mono ?_
      rintro e w2 ⟨rfl, hw⟩
      subst hw
      go_wp2_with fail
      go_ret2
      exact ⟨by rw [HW.out]; rfl, HB1.out⟩
  · have HW := Lib.hid (within_no (t := t) (zs := zs) (o := o) fun h => ok h.1)
    go_enter Try.func22, Try.ntmps22
    go_wp2_with fail
    rw [HWB.out]
    clear HWB
    refine (implIsTable_any A n c D m d t _ HR.out hn hm hl false (decide_eq_false ok)).mono ?_
    rintro e w1 ⟨rfl, hb⟩
    have HB1 := Lib.hid (below_then HB0.out hb)
    clear hb
    go_wp2_with fail
    go_ret2
    exact ⟨by rw [HW.out]; rfl, HB1.out⟩
theorem pagesBy_mem {p : Ent → Bool} {t : Tab} {z : Int} (n : Nat) : z ∈ pagesBy p t n ↔ ∃ k : Nat, k < n ∧ z = k ∧ p (get t k) = true := by
  induction n with
  | zero => simp [pagesBy]
  | succ n ih =>
    cases h : p (get t n) with
    | true =>
      rw [pagesBy_hit h, List.mem_append, ih]
      constructor
      · rintro (⟨k, h1, h2, h3⟩ | h1)
        · exact ⟨k, by omega, h2, h3⟩
        · simp at h1; exact ⟨n, by omega, h1, h⟩
      · rintro ⟨k, h1, h2, h3⟩
        by_cases e : k = n
        · subst e; right; simp [h2]
        · left; exact ⟨k, by omega, h2, h3⟩
    | false =>
      rw [pagesBy_miss h, ih]
      constructor
      · rintro ⟨k, h1, h2, h3⟩; exact ⟨k, by omega, h2, h3⟩
      · rintro ⟨k, h1, h2, h3⟩
        by_cases e : k = n
        · subst e; rw [h] at h3; cases h3
        · exact ⟨k, by omega, h2, h3⟩
/-- the entries of the listed pages lie inside -/
def InsideL (t : Tab) (zs : List Int) (o : Int) (l : List Int) : Prop := ∀ z ∈ l, outBool zs o (get t z.toNat) = false
theorem inside_iff (t : Tab) (zs : List Int) (o : Int) : Inside t zs o ↔ InsideL t zs o (mapped t) := by
  constructor
  · intro h z hz
    obtain ⟨k, h1, rfl, _⟩ := (pagesBy_mem 16).1 hz
    rw [Int.toNat_natCast]
    exact h k h1
  · intro h p hp
    by_cases e : (get t p).f = -1
    · unfold outBool; simp [e]
    · have := h p ((pagesBy_mem 16).2 ⟨p, hp, rfl, by simpa using e⟩)
      rwa [Int.toNat_natCast] at this
set_option maxRecDepth 100000 in
set_option maxHeartbeats 4000000 in
theorem specWithin_any (A : Option Addr) (n c : Nat) (D : Option Addr) (m d : Nat) (t : Tab) (A1 : Option Addr) (n1 c1 : Nat) (zs : List Int) (o : Int) (w : World) (hr : ReadsT w w.heap.size A n D m t) (hn : n ≤ 1048576) (hm : m ≤ 1048576) (hl : ∀ xs ∈ t.leaves, xs.length ≤ 1048576) (hnc : n ≤ c) (hr1 : Reads w w.heap.size 1 A1 n1 (I zs)) (hn1 : n1 ≤ 1048576) :
    Calls Try.prog 23 #[.agg #[.slice A n c, .slice D m d], .slice A1 n1 c1, .int .i64 o] w fun e w' => e = .returned (.tuple #[.bool (withinOf t zs o).1, .bool (withinOf t zs o).2]) ∧ Below w.heap.size w w' := by
  have hb0 := below_more (Below.refl w.heap.size w) (.cells #[.slice A n c, .slice D m d] 27)
  have HR := Lib.hid (hr.grow hb0)
  have HR1 := Lib.hid ((hr1.below hb0).more hb0.size)
  have HK : Hid (Blk (w.alloc (.cells #[.slice A n c, .slice D m d] 27)) w.heap.size 27 #[.slice A n c, .slice D m d]) := Lib.hid (Blk.new _ _ _)
  have HB0 := Lib.hid hb0
  have HZL : Hid (zs.length = n1) := Lib.hid (by have := hr1.len; simpa [I] using this)
  clear hr hr1 hb0
  by_cases ok : OkT t
  · by_cases hgo : GoodOw zs ∧ 1 ≤ o ∧ o ≤ 4
    · obtain ⟨q, hq⟩ : ∃ q, decide (Inside t zs o) = q := ⟨_, rfl⟩
      have HW : Hid (withinOf t zs o = (q, true)) := Lib.hid (by rw [within_yes ⟨ok, hgo⟩, hq])
      have HQ : Hid (decide (Inside t zs o) = q) := Lib.hid hq
      obtain ⟨l0, hl0⟩ : ∃ l0, mapped t = l0 := ⟨_, rfl⟩
      have HL0 := Lib.hid hl0
      have HIL : Hid (Inside t zs o ↔ InsideL t zs o l0) := Lib.hid (by rw [← hl0]; exact inside_iff t zs o)
      have HMEM : Hid (∀ z ∈ l0, ∃ k : Nat, k < 16 ∧ z = k ∧ (get t k).f ≠ -1) := Lib.hid (by
        intro z hz
        rw [← hl0] at hz
        obtain ⟨k, h1, h2, h3⟩ := (pagesBy_mem 16).1 hz
        exact ⟨k, h1, h2, by simpa using h3⟩)
      have hlen : l0.length ≤ 16 := by rw [← hl0]; exact pagesBy_len _ _ _
      clear hq hl0
      go_enter Try.func23, Try.ntmps23
      go_wp2_with fail
      refine (l4Good_any A n c D m d t _ HR.out hn hm hl hnc true (decide_eq_true ok)).mono ?_
      rintro e w1 ⟨rfl, hb⟩
      have HB1 := Lib.hid (below_then HB0.out hb)
      have HRa := Lib.hid (HR.out.grow hb)
      have HRb := Lib.hid ((HR1.out.below hb).more hb.size)
      have HK1 := Lib.hid (Blk.kept hb HK.out)
      have k0 := HK1.out.cell 0 _ rfl
      have k1 := HK1.out.cell 1 _ rfl
      clear hb HB0 HR HR1 HK
      go_wp2_with fail
      refine (l2Guest_any A1 n1 c1 _ zs o _ HRb.out hn1 true (decide_eq_true hgo)).mono ?_
      rintro e w2 ⟨rfl, hw⟩
      subst hw
      go_wp2_with fail
      refine (l4Mapped_any A n c D m d t _ HRa.out ok).mono ?_
      rintro e w2 ⟨v, rfl, hown, hb⟩
      change w2.ownsRow w1.heap.size 3 1 v (mapped t).length (I (mapped t)) at hown
      rw [HL0.out] at hown
      obtain ⟨A', c', rfl, _, _⟩ := own_form hown
      obtain ⟨L, hL⟩ : ∃ L, l0.length = L := ⟨_, rfl⟩
      rw [hL] at hown hlen ⊢
      have HLL := Lib.hid hL
      have HB2 := Lib.hid (below_then HB1.out hb)
      have HP := Lib.hid (own_reads hown)
      have HRc := Lib.hid (HRa.out.grow hb)
      have HRd := Lib.hid ((HRb.out.below hb).more hb.size)
      have HK2 := Lib.hid (Blk.kept hb HK1.out)
      clear hown hb HB1 HRa HRb k0 k1 HK1 hL
      go_wp2
      go_loopw [9] (fun i wr => ∃ (k : Nat), i = .int .i64 k ∧ k ≤ L ∧ Hid (InsideL t zs o (l0.take k)) ∧ Hid (Below w2.heap.size w2 wr)) (fun i _ => L - (intOf i).toNat)
      case atStart => exact ⟨0, rfl, Nat.zero_le _, Lib.hid (by intro z hz; simp at hz), Lib.hid (Below.refl _ _)⟩
      case round =>
        obtain ⟨k, rfl, hk, HA, HBL⟩ := hrel
        have HX := Lib.hid (below_then HB2.out HBL.out)
        by_cases hlt : k < L
        · obtain ⟨b1, o1, z, rfl, hb1, hu, hc⟩ := ((HP.out.below HBL.out).more HBL.out.size).int_at hlt
          obtain ⟨p, hp16, rfl, hpf⟩ := HMEM.out z (List.mem_of_getElem? hu)
          have HU := Lib.hid hu
          have hKr := Blk.kept HBL.out HK2.out
          have k0 : wr.cell? ⟨w.heap.size, 0, none⟩ = some (.slice A n c) := hKr.cell 0 _ rfl
          have k1 : wr.cell? ⟨w.heap.size, 1, none⟩ = some (.slice D m d) := hKr.cell 1 _ rfl
          have HR3 := Lib.hid (HRc.out.grow HBL.out)
          have HR4 := Lib.hid ((HRd.out.below HBL.out).more HBL.out.size)
          have hlt0 := hKr.lt
          obtain ⟨f, hf⟩ : ∃ f, (get t p).f = f := ⟨_, rfl⟩
          obtain ⟨wr_, hwr⟩ : ∃ f, (get t p).wr = f := ⟨_, rfl⟩
          have hg : get t p = ⟨f, wr_⟩ := by rw [← hf, ← hwr]
          have hrange := get_range ok hp16
          rw [hf] at hrange hpf
          have hf0 : 0 ≤ f ∧ f < 16 := by omega
          have HG := Lib.hid hg
          have HF := Lib.hid hf
          have HWR := Lib.hid hwr
          have HT : Hid (outBool zs o ⟨f, wr_⟩ = false → InsideL t zs o (l0.take (k + 1))) := Lib.hid (by
            intro h z hz
            rw [List.take_add_one, HU.out] at hz
            rcases List.mem_append.1 hz with h1 | h1
            · exact HA.out z h1
            · simp at h1
              subst h1
              rw [Int.toNat_natCast, HG.out]
              exact h)
          have HBAD : Hid (outBool zs o ⟨f, wr_⟩ = true → q = false) := Lib.hid (by
            intro h
            rw [← HQ.out]
            refine decide_eq_false fun hi => ?_
            have := HIL.out.1 hi p (List.mem_of_getElem? HU.out)
            rw [Int.toNat_natCast, HG.out, h] at this
            cases this)
          have e0 : wr.drew.cell? ⟨w.heap.size, 0, none⟩ = some (.slice A n c) := k0
          have e1 : wr.drew.cell? ⟨w.heap.size, 1, none⟩ = some (.slice D m d) := k1
          have e2 : wr.drew.cell? ⟨b1, o1 + k, none⟩ = some (.int .i64 p) := hc
          have HR3D : Hid (ReadsT wr.drew wr.drew.heap.size A n D m t) := Lib.hid HR3.out.drew
          clear hu hKr hf hwr hg hrange HA HP
          go_upto_region 7 with fail
          go_region_held3 (fun wz => wz.cell? ⟨w.heap.size, 0, none⟩ = some (.slice A n c) ∧ wz.cell? ⟨w.heap.size, 1, none⟩ = some (.slice D m d) ∧ wz.cell? ⟨b1, o1 + k, none⟩ = some (.int .i64 p)) (first | (with_reducible exact ⟨e0, e1, e2⟩) | (with_reducible exact ⟨k0, k1, hc⟩) | fail)
            (first
              | (go_at_call 68; (with_reducible refine (l4Get_any A n c D m d p t wr.drew HR3D.out ok hp16).mono ?_); rintro e w3 ⟨rfl, hb⟩; rw [HF.out, HWR.out]; replace hb : Below wr.heap.size wr w3 := (below_drew1 wr).trans hb; have HB3 := Lib.hid (HBL.out.trans (hb.mono HBL.out.size)); have HX3 := Lib.hid (below_then HX.out hb); have HR5 := Lib.hid ((HR4.out.below hb).more hb.size); replace k0 : w3.cell? ⟨w.heap.size, 0, none⟩ = some (.slice A n c) := (hb.cell (p := ⟨w.heap.size, 0, none⟩) hlt0).trans k0; replace k1 : w3.cell? ⟨w.heap.size, 1, none⟩ = some (.slice D m d) := (hb.cell (p := ⟨w.heap.size, 1, none⟩) hlt0).trans k1; replace hc : w3.cell? ⟨b1, o1 + k, none⟩ = some (.int .i64 p) := (hb.cell (p := ⟨b1, o1 + k, none⟩) hb1).trans hc; clear hb; have hfd : ∀ wx : World, (Instr.field 76 (.agg #[.int .i64 f, .bool wr_]) 0).run Try.prog wx = .ok (.int .i64 f) wx := (fun _ => by kernel_rfl)))
          clear e0 e1 e2 k0 k1 hc
          by_cases hfn : f < n1
          · obtain ⟨r, rfl⟩ : ∃ r : Nat, f = r := ⟨f.toNat, by omega⟩
            have hrn : r < n1 := by omega
            obtain ⟨b2, o2, y, rfl, _, hy, hcy⟩ := HR5.out.int_at hrn
            have hgd : zs.getD r 0 = y := by rw [List.getD, hy]; rfl
            have hge : decide ((n1 : Int) ≤ (r : Int)) = false := decide_eq_false (by omega)
            have HOB : Hid (outBool zs o ⟨r, wr_⟩ = decide (y ≠ o)) := Lib.hid (by
              unfold outBool
              simp only [Int.toNat_natCast, hgd, HZL.out, hge]
              have e1 : decide ((r : Int) ≠ -1) = true := decide_eq_true (by omega)
              rw [e1]; rfl)
            clear hy hgd
            by_cases hyo : y = o
            · have HN := Lib.hid (HT.out (by rw [HOB.out]; exact decide_eq_false (fun h => h hyo)))
              subst hyo
              go_wp2_with fail
              go_roundw
              case rel => exact ⟨k + 1, by go_num, by omega, HN, HB3⟩
              case measure => simp [intOf]; omega
            · have hyb : (y != o) = true := by simpa using hyo
              have HN := Lib.hid (HBAD.out (by rw [HOB.out]; exact decide_eq_true hyo))
              go_wp2_with fail
              go_ret2
              exact ⟨by rw [HW.out, HN.out]; rfl, HX3.out⟩
          · have hge : decide ((n1 : Int) ≤ f) = true := decide_eq_true (by omega)
            have HN := Lib.hid (HBAD.out (by
              unfold outBool
              simp only [HZL.out, hge]
              rw [decide_eq_true hpf]; rfl))
            go_wp2_with fail
            go_ret2
            exact ⟨by rw [HW.out, HN.out]; rfl, HX3.out⟩
        · have hkL : k = L := by omega
          subst hkL
          have HN : Hid (q = true) := Lib.hid (by
            rw [← HQ.out]
            refine decide_eq_true (HIL.out.2 ?_)
            have h := HA.out
            rwa [List.take_of_length_le (by rw [HLL.out]; exact Nat.le_refl _)] at h)
          go_wp2_with fail
          go_ret2
          exact ⟨by rw [HW.out, HN.out]; rfl, HX.out⟩
    · have HW := Lib.hid (within_no (t := t) (zs := zs) (o := o) fun h => hgo h.2)
      go_enter Try.func23, Try.ntmps23
      go_wp2_with fail
      refine (l4Good_any A n c D m d t _ HR.out hn hm hl hnc true (decide_eq_true ok)).mono ?_
      rintro e w1 ⟨rfl, hb⟩
      have HB1 := Lib.hid (below_then HB0.out hb)
      have HRb := Lib.hid ((HR1.out.below hb).more hb.size)
      clear hb
      go_wp2_with fail
      refine (l2Guest_any A1 n1 c1 _ zs o _ HRb.out hn1 false (decide_eq_false hgo)).mono ?_
      rintro e w2 ⟨rfl, hw⟩
      subst hw
      go_wp2_with fail
      go_ret2
      exact ⟨by rw [HW.out]; rfl, HB1.out⟩
  · have HW := Lib.hid (within_no (t := t) (zs := zs) (o := o) fun h => ok h.1)
    go_enter Try.func23, Try.ntmps23
    go_wp2_with fail
    refine (l4Good_any A n c D m d t _ HR.out hn hm hl hnc false (decide_eq_false ok)).mono ?_
    rintro e w1 ⟨rfl, hb⟩
    have HB1 := Lib.hid (below_then HB0.out hb)
    clear hb
    go_wp2_with fail
    go_ret2
    exact ⟨by rw [HW.out]; rfl, HB1.out⟩
end Go.Proofs.Ytcpfnihpheoiiaa.L4
