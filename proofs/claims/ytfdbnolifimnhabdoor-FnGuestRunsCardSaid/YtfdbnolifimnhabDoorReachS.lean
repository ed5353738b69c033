/- What spec.ReachedBy answers. -/
import Derived.Test.YtfdbnolifimnhabDoorPut
import Derived.Test.YtfdbnolifimnhabDoorHas
import Derived.Test.YtfdbnolifimnhabDoorPgmP
import Derived.Deep.LoopGhost
import Derived.Deep.CutRange
namespace Go.Proofs.YtfdbnolifimnhabDoor.L3
open Go Go.RowKit Go.Proofs.YtfdbnolifimnhabDoor.Mem Go.Proofs.YtfdbnolifimnhabDoor.Own
/-- a rising list of what is reached, of the call's own -/
structure OSt (w wr : World) (xs : List Ins) (L : List Int) (go c' : Nat) : Prop where
  own : wr.ownsRow w.heap.size 3 1 (.slice (some ⟨go, 0, none⟩) L.length c') L.length (I L)
  below : Below w.heap.size w wr
  rise : L.Pairwise (· < ·)
  sub : ∀ z ∈ L, ∃ i : Nat, z = i ∧ Reach xs i
  zero : (0 : Int) ∈ L
theorem OSt.kept {w wr w' : World} {xs : List Ins} {L : List Int} {go c' : Nat} (h : OSt w wr xs L go c') (hb : Below wr.heap.size wr w') : OSt w w' xs L go c' :=
  ⟨own_below h.own hb, below_then h.below hb, h.rise, h.sub, h.zero⟩
theorem OSt.len {w wr : World} {xs : List Ins} {L : List Int} {go c' : Nat} (h : OSt w wr xs L go c') (hp : 0 < xs.length) : L.length ≤ xs.length := by
  have h1 := rising_len L 0 xs.length h.rise (fun z hz => by
    obtain ⟨i, rfl, hi⟩ := h.sub z hz
    have := reach_lt hp hi
    omega) (by omega)
  omega
/-- where a number would be put -/
theorem spot (L : List Int) (x : Int) (h : L.Pairwise (· < ·)) (hx : x ∉ L) : ∃ k, k ≤ L.length ∧ (∀ a z, a < k → L[a]? = some z → z < x) ∧ (∀ z, L[k]? = some z → x < z) ∧ (∀ z ∈ L.take k, z < x) ∧ (∀ z ∈ L.drop k, x < z) := by
  induction L with
  | nil => exact ⟨0, Nat.le_refl _, fun a z h => by omega, fun z h => by simp at h, fun z h => by simp at h, fun z h => by simp at h⟩
  | cons y L ih =>
    rw [List.pairwise_cons] at h
    have hxy : x ≠ y := fun e => hx (by simp [e])
    by_cases hlt : x < y
    · refine ⟨0, Nat.zero_le _, fun a z h => by omega, fun z hz => ?_, fun z hz => by simp at hz, fun z hz => ?_⟩
      · simp at hz; omega
      · rcases List.mem_cons.1 hz with rfl | hz
        · exact hlt
        · have := h.1 z hz; omega
    · obtain ⟨k, h1, h2, h3, h4, h5⟩ := ih h.2 (fun hh => hx (by simp [hh]))
      refine ⟨k + 1, by simp; omega, fun a z ha hz => ?_, fun z hz => h3 z (by simpa using hz), fun z hz => ?_, fun z hz => h5 z (by simpa using hz)⟩
      · cases a with
        | zero => simp at hz; omega
        | succ a => exact h2 a z (by omega) (by simpa using hz)
      · rw [List.take_succ_cons] at hz
        rcases List.mem_cons.1 hz with rfl | hz
        · omega
        · exact h4 z hz
/-- a number that is reached is put in -/
theorem put_calls {w wr : World} {xs : List Ins} {L : List Int} {go c' : Nat} (h : OSt w wr xs L go c') (x : Int) (hx : x ∉ L) (hr : ∃ i : Nat, x = i ∧ Reach xs i) (hl : L.length ≤ 16) :
    Calls Tryd.prog 66 #[.slice (some ⟨go, 0, none⟩) L.length c', .int .i64 x] wr fun e w' => ∃ g c2 L2, e = .returned (.slice (some ⟨g, 0, none⟩) (L.length + 1) c2) ∧ L2.length = L.length + 1 ∧ OSt w w' xs L2 g c2 ∧ (x ∈ L2 ∧ ∀ z ∈ L, z ∈ L2) ∧ Below wr.heap.size wr w' := by
  obtain ⟨k, h1, h2, h3, h4, h5⟩ := spot L x h.rise hx
  obtain ⟨h6, h7⟩ := put_rising h.rise h4 h5
  have hlen : (L.take k ++ x :: L.drop k).length = L.length + 1 := by simp; omega
  refine (l1Put_at go L.length c' w.heap.size k L x wr h.own (by omega) h1 h2 h3).mono ?_
  rintro e w' ⟨g, c2, rfl, hown, hb⟩
  refine ⟨g, c2, _, rfl, hlen, ⟨by rw [hlen]; exact own_mono hown h.below.size, below_then h.below hb, h6, fun z hz => ?_, (h7 0).2 (.inr h.zero)⟩, ⟨(h7 x).2 (.inl rfl), fun z hz => (h7 z).2 (.inr hz)⟩, hb⟩
  rcases (h7 z).1 hz with rfl | hz
  · exact hr
  · exact h.sub z hz
theorem isReach_ex (xs : List Ins) (h : 0 < xs.length) : ∃ L, IsReach xs L := by
  classical
  refine ⟨((List.range xs.length).filter fun i => decide (Reach xs i)).map fun i : Nat => (i : Int), ?_, fun z => ?_⟩
  · rw [List.pairwise_map]
    exact (List.Pairwise.filter _ List.pairwise_lt_range).imp fun {a b} hab => by omega
  · simp only [List.mem_map, List.mem_filter, List.mem_range, decide_eq_true_eq]
    constructor
    · rintro ⟨i, ⟨_, hi⟩, rfl⟩
      exact ⟨i, rfl, hi⟩
    · rintro ⟨i, rfl, hi⟩
      exact ⟨i, ⟨reach_lt h hi, hi⟩, rfl⟩
/-- a closed list of what is reached is the answer -/
theorem OSt.done {w wr : World} {xs : List Ins} {L M : List Int} {go c' : Nat} (h : OSt w wr xs L go c') (hc : ∀ i : Nat, (i : Int) ∈ L → ∀ z ∈ ways xs i, z < xs.length → z ∈ L) (hM : IsReach xs M) : L = M := by
  refine isReach_one ⟨h.rise, fun z => ⟨h.sub z, ?_⟩⟩ hM
  rintro ⟨i, rfl, hi⟩
  exact reach_in (S := fun i => (i : Int) ∈ L) h.zero (fun i hi j hj hl => hc i hi _ hj (by omega)) hi
/-- what is known when the indices below i have been visited -/
def Vis (xs : List Ins) (L0 L : List Int) (f : Bool) (i : Nat) : Prop :=
  (f = false → L = L0 ∧ ∀ q, q < i → (q : Int) ∈ L0 → ∀ z ∈ ways xs q, z < xs.length → z ∈ L0) ∧ (f = true → L0.length < L.length)
/-- one index visited -/
def One (xs : List Ins) (L L2 : List Int) (f f2 : Bool) (i : Nat) : Prop :=
  (f2 = false → f = false ∧ L2 = L ∧ ((i : Int) ∈ L → ∀ z ∈ ways xs i, z < xs.length → z ∈ L)) ∧ (f2 = true → (f = true ∧ L.length ≤ L2.length) ∨ L.length < L2.length)
theorem Vis.next {xs : List Ins} {L0 L L2 : List Int} {f f2 : Bool} {i : Nat} (h : Vis xs L0 L f i) (k : One xs L L2 f f2 i) : Vis xs L0 L2 f2 (i + 1) := by
  refine ⟨fun e => ?_, fun e => ?_⟩
  · obtain ⟨h1, h2, h3⟩ := k.1 e
    obtain ⟨h4, h5⟩ := h.1 h1
    subst h4
    refine ⟨h2, fun q hq => ?_⟩
    by_cases e2 : q = i
    · subst e2; exact h3
    · exact h5 q (by omega)
  · rcases k.2 e with ⟨h1, h2⟩ | h2
    · have := h.2 h1; omega
    · cases f with
      | false => have h4 := (h.1 rfl).1; rw [← h4]; exact h2
      | true => have := h.2 rfl; omega
set_option maxRecDepth 100000 in
set_option maxHeartbeats 2000000 in
theorem specReach_any (A : Option Addr) (n c : Nat) (xs : List Ins) (w : World) (hr : Reads w w.heap.size 4 A n (FL xs)) (hn : n ≤ 1048576) (M : List Int) (b : Bool) (hM : OkP xs → IsReach xs M ∧ b = true) (hF : ¬ OkP xs → M = [] ∧ b = false) :
    Calls Tryd.prog 30 #[.slice A n c] w fun e w' => ∃ A' c', e = .returned (.tuple #[.slice A' M.length c', .bool b]) ∧ w'.ownsRow w.heap.size 3 1 (.slice A' M.length c') M.length (I M) ∧ Below w.heap.size w w' := by
  have HR := Lib.hid hr
  have HL : Hid (xs.length = n) := Lib.hid (reads_len hr)
  clear hr
  by_cases hok : OkP xs
  · obtain ⟨hm, rfl⟩ := hM hok
    have HM := Lib.hid hm
    have HOK := Lib.hid hok
    have HA := Lib.hid (decide_eq_true hok)
    have hn1 : 1 ≤ n := by rw [← HL.out]; exact hok.2.1
    have hn16 : n ≤ 16 := by rw [← HL.out]; exact hok.2.2
    clear hM hF hok hm
    go_enter Tryd.func30, Tryd.ntmps30
    go_wp2_with fail
    refine (l3Program_any A n c xs _ HR.out hn _ HA.out).mono ?_
    rintro e w1 ⟨rfl, hb1⟩
    have hO : OSt w (w1.alloc (.cells #[.int .i64 0] 3)) xs [0] w1.heap.size 1 := ⟨own_mono (World.ownsRow_lit w1 #[.int .i64 0] 1 (Nat.le_refl _) (by decide) rfl) hb1.size, below_more hb1 _, List.pairwise_singleton _ _, fun z hz => ⟨0, by simpa using hz, .zero⟩, by simp⟩
    have HO := Lib.hid hO
    clear hb1 hO
    go_wp2_with fail
    go_loopg [4, 5] 18 (fun gg u4 u5 wr => ∃ (L : List Int) (m go c' : Nat) (f : Bool), u4 = .slice (some ⟨go, 0, none⟩) m c' ∧ u5 = .bool f ∧ Hid (L.length = m) ∧ m ≤ 16 ∧ (f = true → 17 - m < gg) ∧ Hid (OSt w wr xs L go c') ∧ Hid (f = false → ∀ i : Nat, (i : Int) ∈ L → ∀ z ∈ ways xs i, z < xs.length → z ∈ L))
    case atStart => exact ⟨[0], 1, _, 1, true, rfl, rfl, Lib.hid rfl, by omega, fun _ => by omega, HO, Lib.hid (fun h => by cases h)⟩
    case round =>
      clear HO
      obtain ⟨L0, m0, go, c', f, rfl, rfl, HM0, hm0, hgg, HO, HC⟩ := hrel
      cases f with
      | false =>
        have heq := HO.out.done (HC.out rfl) HM.out
        have hml : M.length = m0 := by rw [← heq]; exact HM0.out
        have hown := HO.out.own
        rw [HM0.out, heq] at hown
        have HX := Lib.hid hown
        have HB := Lib.hid HO.out.below
        have HML := Lib.hid hml
        clear heq hml hown HO HC
        go_wp2_with fail
        go_ret2
        rw [HML.out]
        exact ⟨_, c', rfl, HX.out, HB.out⟩
      | true =>
        have hg2 := hgg rfl
        clear hgg HC
        obtain ⟨wo, hwo⟩ : ∃ wo, wo = wr := ⟨_, rfl⟩
        subst hwo
        go_wp2_with fail
        go_loopw [4, 5, 6] (fun u4 u5 u6 wr => ∃ (i : Nat) (L : List Int) (m go c' : Nat) (f : Bool), u6 = .int .i64 i ∧ i ≤ n ∧ u4 = .slice (some ⟨go, 0, none⟩) m c' ∧ u5 = .bool f ∧ Hid (L.length = m) ∧ m ≤ 16 ∧ Hid (OSt w wr xs L go c') ∧ Hid (Vis xs L0 L f i)) (fun _ _ u6 _ => n - (intOf u6).toNat)
        case atStart => exact ⟨0, L0, m0, go, c', false, rfl, Nat.zero_le _, rfl, rfl, HM0, hm0, HO, Lib.hid ⟨fun _ => ⟨rfl, fun q hq => by omega⟩, fun h => by cases h⟩⟩
        case round =>
          clear HO
          obtain ⟨i, L, m, go, c', f, rfl, hi, rfl, rfl, HML, hm, HO, HV⟩ := hrel
          by_cases hlt : i < n
          · obtain ⟨b1, o1, x, rfl, hbB, hx, hcx⟩ := reads_elem (α := Ins) (HR.out.below HO.out.below) hlt
            have hokx := HOK.out.1 x (List.mem_of_getElem? hx)
            have HWY := Lib.hid (ways_at hx)
            have c0 := hcx 0 _ rfl
            have c1 := hcx 1 _ rfl
            have c2 := hcx 2 _ rfl
            have c3 := hcx 3 _ rfl
            simp only [show Cells.size Ins = 4 from rfl, Nat.add_zero] at c0 c1 c2 c3
            obtain ⟨x0, x1, x2, x3⟩ := x
            simp only at c0 c1 c2 c3
            have hx3 : 0 ≤ x3 := hokx.2.2.2.1
            have HRI : Hid ((i : Int) ∈ L → Reach xs i) := Lib.hid (fun h => (HO.out.sub _ h).elim fun j hj => (show i = j by have := hj.1; omega) ▸ hj.2)
            have hbx := below_more (Below.refl wr.heap.size wr) (.cells #[.int .i64 x0, .int .i64 x1, .int .i64 x2, .int .i64 x3] 25)
            have HOX := Lib.hid (HO.out.kept hbx)
            have HK := Lib.hid (Blk.new wr #[.int .i64 x0, .int .i64 x1, .int .i64 x2, .int .i64 x3] 25)
            obtain ⟨wa, hwa⟩ : ∃ wa, wr.alloc (.cells #[.int .i64 x0, .int .i64 x1, .int .i64 x2, .int .i64 x3] 25) = wa := ⟨_, rfl⟩
            obtain ⟨gv, hgv⟩ : ∃ g, wr.heap.size = g := ⟨_, rfl⟩
            rw [hwa] at HOX HK
            rw [hgv] at HK
            have HWA := Lib.hid hwa
            have HGV := Lib.hid hgv
            clear hx hcx hbx hwa hgv HO hokx
            go_upto_region 11 with fail
            rw [HWA.out, HGV.out]
            clear HWA HGV c0 c1 c2 c3
            have k0 := HK.out.cell 0 _ rfl
            have k3 := HK.out.cell 3 _ rfl
            have HRD := Lib.hid (own_reads HOX.out.own)
            rw [HML.out] at HRD
            by_cases hin : (i : Int) ∈ L
            · have HIN := Lib.hid (decide_eq_true hin)
              have HRE := Lib.hid (HRI.out hin)
              clear hin
              by_cases h0 : x0 = 0
              · subst h0
                have HVN : Hid (Vis xs L0 L f (i + 1)) := Lib.hid (HV.out.next ⟨fun e => ⟨e, rfl, fun _ z hz => by rw [HWY.out] at hz; simp at hz⟩, fun e => .inl ⟨e, Nat.le_refl _⟩⟩)
                go_wp2_with fail
                refine (l1Has_any _ m c' _ L (i : Int) _ HRD.out (by omega) true HIN.out).mono ?_
                rintro e w2 ⟨rfl, rfl⟩
                go_wp2_with fail
                go_roundw
                case rel => exact ⟨i + 1, L, m, go, c', f, by go_num, by omega, rfl, rfl, HML, hm, HOX, HVN⟩
                case measure => simp [intOf]; omega
              · have h0b : (x0 == 0) = false := by simpa using h0
                go_wp2_with fail
                refine (l1Has_any _ m c' _ L (i : Int) _ HRD.out (by omega) true HIN.out).mono ?_
                rintro e w2 ⟨rfl, rfl⟩
                have HH0 := Lib.hid h0
                clear h0
                go_upto_region 13 with fail
                clear k0 k3
                go_cut [50] from 15 to 79 (fun u50 wx => ∃ q, u50 = .bool q ∧ wx = wa ∧ Hid (q = true → x0 ≠ 7 ∧ (i : Int) + 1 < n ∧ (i : Int) + 1 ∉ L) ∧ Hid (q = false → x0 ≠ 7 → (i : Int) + 1 < n → (i : Int) + 1 ∈ L))
                case first =>
                  have k0 := HK.out.cell 0 _ rfl
                  by_cases h7 : x0 = 7
                  · subst h7
                    go_wp2_with fail
                    go_meet
                    exact ⟨false, rfl, rfl, Lib.hid (fun h => by cases h), Lib.hid (fun _ h => absurd rfl h)⟩
                  have h7b : (x0 != 7) = true := by simpa using h7
                  by_cases hil : (i : Int) + 1 < n
                  · by_cases hi1 : (i : Int) + 1 ∈ L
                    · have HI1 := Lib.hid (decide_eq_true hi1)
                      have HI2 := Lib.hid hi1
                      clear hi1 h7
                      go_wp2_with fail
                      refine (l1Has_any _ m c' _ L ((i : Int) + 1) _ HRD.out (by omega) true HI1.out).mono ?_
                      rintro e w2 ⟨rfl, rfl⟩
                      go_wp2_with fail
                      go_meet
                      exact ⟨false, rfl, rfl, Lib.hid (fun h => by cases h), Lib.hid (fun _ _ _ => HI2.out)⟩
                    · have HI1 := Lib.hid (decide_eq_false hi1)
                      have HI3 := Lib.hid (And.intro h7 (And.intro hil hi1))
                      clear hi1 h7
                      go_wp2_with fail
                      refine (l1Has_any _ m c' _ L ((i : Int) + 1) _ HRD.out (by omega) false HI1.out).mono ?_
                      rintro e w2 ⟨rfl, rfl⟩
                      go_wp2_with fail
                      go_meet
                      exact ⟨true, rfl, rfl, Lib.hid (fun _ => HI3.out), Lib.hid (fun h => by cases h)⟩
                  · have hil2 : decide ((i : Int) + 1 < n) = false := decide_eq_false hil
                    have HIL := Lib.hid hil
                    clear hil h7
                    go_wp2_with fail
                    go_meet
                    exact ⟨false, rfl, rfl, Lib.hid (fun h => by cases h), Lib.hid (fun _ _ h => by have h9 := HIL.out; omega)⟩
                case rest =>
                obtain ⟨q, rfl, hwq, HQ1, HQ2⟩ := hcut
                subst hwq
                go_upto_if 50 with fail
                go_cut [4, 5] from 15 to 79 (fun u4 u5 wx => ∃ (L1 : List Int) (m1 go1 c1 : Nat) (f1 : Bool), u4 = .slice (some ⟨go1, 0, none⟩) m1 c1 ∧ u5 = .bool f1 ∧ Hid (L1.length = m1) ∧ m1 ≤ 16 ∧ Hid (OSt w wx xs L1 go1 c1) ∧ Hid (Blk wx gv 25 #[.int .i64 x0, .int .i64 x1, .int .i64 x2, .int .i64 x3]) ∧ Hid (f1 = false → f = false ∧ L1 = L) ∧ Hid (f1 = true → (f = true ∧ L.length ≤ L1.length) ∨ L.length < L1.length) ∧ Hid (x0 ≠ 7 → (i : Int) + 1 < n → (i : Int) + 1 ∈ L1))
                case first =>
                  cases q with
                  | false =>
                    go_wp2_with fail
                    go_meet
                    exact ⟨L, m, go, c', f, rfl, rfl, HML, hm, HOX, HK, Lib.hid (fun e => ⟨e, rfl⟩), Lib.hid (fun e => .inl ⟨e, Nat.le_refl _⟩), Lib.hid (fun h => HQ2.out (by simp) h)⟩
                  | true =>
                    obtain ⟨h7, hil, hi1⟩ := HQ1.out rfl
                    have hre : Reach xs (i + 1) := .step HRE.out (by rw [HWY.out, if_neg HH0.out, if_neg h7]; split <;> simp) (by rw [HL.out]; omega)
                    have HPC := Lib.hid (put_calls HOX.out ((i : Int) + 1) hi1 ⟨i + 1, by push_cast; rfl, hre⟩ (by rw [HML.out]; exact hm))
                    rw [HML.out] at HPC
                    clear hi1 h7 hre hil
                    go_wp2_with fail
                    refine HPC.out.mono ?_
                    rintro e w3 ⟨g3, c3, L3, rfl, hl3, ho3, hm3, hb3⟩
                    have HL3 := Lib.hid hl3
                    have HO3 := Lib.hid ho3
                    have HM3 := Lib.hid hm3
                    have HK3 := Lib.hid (Blk.kept hb3 HK.out)
                    have h16 : m + 1 ≤ 16 := by have h9 := ho3.len (by rw [HL.out]; omega); rw [hl3, HL.out] at h9; omega
                    clear hl3 ho3 hm3 hb3 HPC
                    go_wp2_with fail
                    go_meet
                    exact ⟨L3, m + 1, g3, c3, true, rfl, rfl, HL3, h16, HO3, HK3, Lib.hid (fun e => by cases e), Lib.hid (fun _ => .inr (by rw [HML.out, HL3.out]; omega)), Lib.hid (fun _ _ => HM3.out.1)⟩
                case rest =>
                  clear HOX HK HRD h0b
                  obtain ⟨L1, m1, go1, c1, f1, rfl, rfl, HL1, hm1, HO1, HK, HS1, HG1, HW1⟩ := hcut
                  have HRD := Lib.hid (own_reads HO1.out.own)
                  rw [HL1.out] at HRD
                  have k0 := HK.out.cell 0 _ rfl
                  have k3 := HK.out.cell 3 _ rfl
                  have HONE : Hid (∀ L2 f2, (f2 = false → f1 = false ∧ L2 = L1) → (f2 = true → (f1 = true ∧ L1.length ≤ L2.length) ∨ L1.length < L2.length) → (f2 = false → (x0 = 7 ∨ x0 = 8) → x3 < n → x3 ∈ L1) → Vis xs L0 L2 f2 (i + 1)) := Lib.hid (fun L2 f2 e1 e2 e3 => HV.out.next ⟨fun e => by
                    obtain ⟨h1, h2⟩ := e1 e
                    obtain ⟨h3, h4⟩ := HS1.out h1
                    refine ⟨h3, h2.trans h4, fun _ z hz hzl => ?_⟩
                    rw [HL.out] at hzl
                    rw [HWY.out, if_neg HH0.out] at hz
                    try simp only at hz
                    rw [← h4]
                    split at hz
                    · rename_i h7
                      have hz2 : z = x3 := by simpa using hz
                      rw [hz2] at hzl ⊢
                      exact e3 e (.inl h7) hzl
                    · rename_i h7
                      split at hz
                      · rename_i h8
                        rcases List.mem_cons.1 hz with rfl | hz
                        · exact HW1.out h7 hzl
                        · have hz2 : z = x3 := by simpa using hz
                          rw [hz2] at hzl ⊢
                          exact e3 e (.inr h8) hzl
                      · have hz2 : z = (i : Int) + 1 := by simpa using hz
                        rw [hz2] at hzl ⊢
                        exact HW1.out h7 hzl, fun e => by
                    rcases e2 e with ⟨h1, h2⟩ | h2
                    · rcases HG1.out h1 with ⟨h3, h4⟩ | h4
                      · exact .inl ⟨h3, Nat.le_trans h4 h2⟩
                      · exact .inr (Nat.lt_of_lt_of_le h4 h2)
                    · cases hf : f1 with
                      | false => rw [(HS1.out hf).2] at h2; exact .inr h2
                      | true =>
                        rcases HG1.out hf with ⟨_, h4⟩ | h4
                        · exact .inr (Nat.lt_of_le_of_lt h4 h2)
                        · exact .inr (Nat.lt_trans h4 h2)⟩)
                  by_cases h78 : x0 = 7 ∨ x0 = 8
                  · have HRX : Hid (x3 < n → ∃ q : Nat, x3 = q ∧ Reach xs q) := Lib.hid (fun h => ⟨x3.toNat, by omega, .step HRE.out (by rw [HWY.out, if_neg HH0.out, Int.toNat_of_nonneg hx3]; rcases h78 with h | h <;> simp [h]) (by rw [HL.out]; omega)⟩)
                    rcases h78 with rfl | rfl
                    all_goals
                      by_cases hxl : x3 < n
                      · obtain HRQ := Lib.hid (HRX.out hxl)
                        by_cases hx1 : x3 ∈ L1
                        · have HI1 := Lib.hid (decide_eq_true hx1)
                          have HVN := Lib.hid (HONE.out L1 f1 (fun e => ⟨e, rfl⟩) (fun e => .inl ⟨e, Nat.le_refl _⟩) (fun _ _ _ => hx1))
                          clear hx1
                          go_wp2_with fail
                          refine (l1Has_any _ m1 c1 _ L1 x3 _ HRD.out (by omega) true HI1.out).mono ?_
                          rintro e w2 ⟨rfl, rfl⟩
                          go_wp2_with fail
                          clear k0 k3
                          go_roundw
                          case rel => exact ⟨i + 1, L1, m1, go1, c1, f1, by go_num, by omega, rfl, rfl, HL1, hm1, HO1, HVN⟩
                          case measure => simp [intOf]; omega
                        · have HI1 := Lib.hid (decide_eq_false hx1)
                          have HPC := Lib.hid (put_calls HO1.out x3 hx1 HRQ.out (by rw [HL1.out]; exact hm1))
                          rw [HL1.out] at HPC
                          clear hx1
                          go_wp2_with fail
                          refine (l1Has_any _ m1 c1 _ L1 x3 _ HRD.out (by omega) false HI1.out).mono ?_
                          rintro e w2 ⟨rfl, rfl⟩
                          go_wp2_with fail
                          refine HPC.out.mono ?_
                          rintro e w3 ⟨g3, c3, L3, rfl, hl3, ho3, hm3, hb3⟩
                          have HL3 := Lib.hid hl3
                          have HO3 := Lib.hid ho3
                          have h16 : m1 + 1 ≤ 16 := by have h9 := ho3.len (by rw [HL.out]; omega); rw [hl3, HL.out] at h9; omega
                          have HVN := Lib.hid (HONE.out L3 true (fun e => by cases e) (fun _ => .inr (by rw [HL1.out, hl3]; omega)) (fun e => by cases e))
                          clear hl3 ho3 hm3 hb3 k0 k3 HPC
                          go_wp2_with fail
                          go_roundw
                          case rel => exact ⟨i + 1, L3, m1 + 1, g3, c3, true, by go_num, by omega, rfl, rfl, HL3, h16, HO3, HVN⟩
                          case measure => simp [intOf]; omega
                      · have hxd : decide (x3 < (n : Int)) = false := decide_eq_false hxl
                        have HVN := Lib.hid (HONE.out L1 f1 (fun e => ⟨e, rfl⟩) (fun e => .inl ⟨e, Nat.le_refl _⟩) (fun _ _ h => absurd h hxl))
                        clear hxl
                        go_wp2_with fail
                        clear k0 k3
                        go_roundw
                        case rel => exact ⟨i + 1, L1, m1, go1, c1, f1, by go_num, by omega, rfl, rfl, HL1, hm1, HO1, HVN⟩
                        case measure => simp [intOf]; omega
                  · have h7b : (x0 == 7) = false := by simp; omega
                    have h8b : (x0 == 8) = false := by simp; omega
                    have HVN := Lib.hid (HONE.out L1 f1 (fun e => ⟨e, rfl⟩) (fun e => .inl ⟨e, Nat.le_refl _⟩) (fun _ h => absurd h h78))
                    clear h78
                    go_wp2_with fail
                    clear k0 k3
                    go_roundw
                    case rel => exact ⟨i + 1, L1, m1, go1, c1, f1, by go_num, by omega, rfl, rfl, HL1, hm1, HO1, HVN⟩
                    case measure => simp [intOf]; omega
            · have HIN := Lib.hid (decide_eq_false hin)
              have HVN : Hid (Vis xs L0 L f (i + 1)) := Lib.hid (HV.out.next ⟨fun e => ⟨e, rfl, fun h => absurd h hin⟩, fun e => .inl ⟨e, Nat.le_refl _⟩⟩)
              clear hin
              go_wp2_with fail
              refine (l1Has_any _ m c' _ L (i : Int) _ HRD.out (by omega) false HIN.out).mono ?_
              rintro e w2 ⟨rfl, rfl⟩
              clear k0 k3
              go_wp2_with fail
              go_roundw
              case rel => exact ⟨i + 1, L, m, go, c', f, by go_num, by omega, rfl, rfl, HML, hm, HOX, HVN⟩
              case measure => simp [intOf]; omega
          · have hin : i = n := by omega
            subst hin
            have HCL : Hid (f = false → ∀ q : Nat, (q : Int) ∈ L → ∀ z ∈ ways xs q, z < xs.length → z ∈ L) := Lib.hid (fun e q hq z hz hl => by
              obtain ⟨h1, h2⟩ := HV.out.1 e
              rw [h1] at hq ⊢
              obtain ⟨j, hj, hrj⟩ := HO.out.sub q (by rw [h1]; exact hq)
              have hjl := reach_lt (by rw [HL.out]; omega) hrj
              rw [HL.out] at hjl
              exact h2 q (by omega) hq z hz hl)
            have HGR : Hid (f = true → m0 < m) := Lib.hid (fun e => by have h1 := HV.out.2 e; rw [HM0.out, HML.out] at h1; exact h1)
            go_wp2_with fail
            go_roundg (17 - m0)
            case measure => omega
            case rel => exact ⟨L, m, go, c', f, rfl, rfl, HML, hm, fun e => by have := HGR.out e; omega, HO, HCL⟩
  · obtain ⟨rfl, rfl⟩ := hF hok
    have HA := Lib.hid (decide_eq_false hok)
    clear hM hF hok
    go_enter Tryd.func30, Tryd.ntmps30
    go_wp2_with fail
    refine (l3Program_any A n c xs _ HR.out hn _ HA.out).mono ?_
    rintro e w1 ⟨rfl, hb1⟩
    have HB := Lib.hid hb1
    clear hb1
    go_wp2_with fail
    go_ret2
    exact ⟨_, 0, rfl, World.ownsRow_made _ #[] 0 HB.out.size (Nat.zero_le _) rfl, below_more HB.out _⟩
end Go.Proofs.YtfdbnolifimnhabDoor.L3
