/- What DrawJoinStrings answers: a few texts in a slice of its own, and a short one. -/
import Derived.Test.YtiieccpfnffcpaaDraw1
import Derived.Laws.IdiomStrings
namespace Go.Proofs.Ytiieccpfnffcpaa.Draw
open Go.RowKit Go.Proofs.Ytiieccpfnffcpaa.Mem
set_option linter.unusedVariables false
theorem strInfo3 : (Try.prog.info? 9).map (fun i => (i.zero, i.size, i.bytes)) = some (some (.string ByteArray.empty), 1, 16) := by kernel_rfl
theorem u8Info : (Try.prog.info? 5).map (fun i => (i.zero, i.size, i.bytes)) = some (some (.int .u8 0), 1, 1) := by kernel_rfl
def marks5 : List ByteArray := [⟨#[44]⟩, ⟨#[59]⟩, ⟨#[59]⟩, ⟨#[]⟩, ⟨#[97, 98]⟩]
theorem marks5_size : ∀ s ∈ marks5, s.size ≤ 20 := by decide
/-- the draw's answer -/
def ListAnd (w : World) (e : Ending) (w' : World) : Prop :=
  ∃ (C : Option Addr) (c : Nat) (ss : List ByteArray) (y : ByteArray), e = .returned (.tuple #[.slice C ss.length c, .string y]) ∧ w'.ownsRow w.heap.size 9 1 (.slice C ss.length c) ss.length (ss.map Value.string) ∧ ss.length ≤ 10 ∧ (∀ s ∈ ss, s.size ≤ 5000) ∧ y.size ≤ 20 ∧ Below w.heap.size w w'
theorem own_weaken {W : World} {b b' : Nat} {e : TypeId} {size n : Nat} {v : Value} {xs : List Value} (h : W.ownsRow b e size v n xs) (hb : b' ≤ b) : W.ownsRow b' e size v n xs := by
  refine ⟨h.1, ?_⟩
  rcases h.2 with h | ⟨g, cap, cur, h1, h2, h3⟩
  · exact .inl h
  · exact .inr ⟨g, cap, cur, h1, Nat.le_trans hb h2, h3⟩
theorem listAnd_mk {w w' : World} {g : Nat} {v : Value} {ss : List ByteArray} {y : ByteArray} (hown : w'.ownsRow (g + 1) 9 1 v ss.length (ss.map Value.string)) (hg : w.heap.size ≤ g) (h1 : ss.length ≤ 10) (h2 : ∀ s ∈ ss, s.size ≤ 5000) (h3 : y.size ≤ 20) (hb : Below w.heap.size w w') :
    ListAnd w (.returned (.tuple #[v, .string y])) w' := by
  obtain ⟨C, c, rfl, _, _⟩ := own_form hown
  exact ⟨C, c, ss, y, rfl, own_weaken hown (by omega), h1, h2, h3, hb⟩
theorem zeros_string (w : World) (g m : Nat) (hown : w.ownsRow (g + 1) 5 1 (.slice (some ⟨g + 1, 0, none⟩) m m) m (List.replicate m (.int .u8 0))) : True := trivial
/-- a text of zeros -/
def Zb (m : Nat) : ByteArray := ⟨(List.replicate m (0 : UInt8)).toArray⟩
theorem conv_zeros {w : World} {base b m : Nat} (hown : w.ownsRow base 5 1 (.slice (some ⟨b, 0, none⟩) m m) m (madeCells (Value.int .u8 0).cells (m * 1)).toList) :
    (convert 22 9 (.slice (some ⟨b, 0, none⟩) m m)).run Try.prog w = .ok (.string (Zb m)) w := by
  have h := run_convert_bytes_back w 22 9 5 ⟨b, 0, none⟩ m (List.replicate m 0) Try.underlying22 Try.underlying5 Try.underlying9 (P := Try.prog) (fun j hj => ?_)
  · rw [List.length_replicate] at h; exact h
  · have hj' : j < m := by simpa using hj
    have hc := hown.cells (g := b) rfl j (.int .u8 0) (by
      rw [show (Value.int IntKind.u8 0).cells = #[Value.int .u8 0] from rfl, Nat.mul_one, toList_madeCells_one]
      simp [hj'])
    rw [hc]
    simp
theorem zeros_size (m : Nat) : (Zb m).size = m := by
  show (List.replicate m (0 : UInt8)).toArray.size = m
  simp
set_option maxHeartbeats 2000000 in
theorem drawJoin_any (w : World) (A : Option Addr) (n cp : Nat) (zs : List Int) (hz : ∀ z ∈ zs, 0 ≤ z ∧ z ≤ 255) (hr : Reads w w.heap.size 1 A n (zs.map (Value.int .u8))) (hn : n ≤ 1000000) :
    Calls Try.prog 11 #[.slice A n cp] w (ListAnd w) := by
  obtain ⟨i0, hi, hz0, hz1, hz2⟩ := info_parts strInfo3
  obtain ⟨i1, ui, uz0, uz1, uz2⟩ := info_parts u8Info
  have HC := Lib.hid ((cur_new w A n cp zs hr).alloc (.cells #[] 9))
  have HZ := Lib.hid hz
  have HB := Lib.hid (((Below.refl w.heap.size w).alloc (Nat.le_refl _) (.cells #[.slice A n cp, .int .i64 0, .int .u64 0] 44)).alloc (by simp) (.cells #[] 9))
  have HO : Hid (((w.alloc (.cells #[.slice A n cp, .int .i64 0, .int .u64 0] 44)).alloc (.cells #[] 9)).ownsRow (w.heap.size + 1) 9 1 (.slice (some ⟨w.heap.size + 1, 0, none⟩) 0 0) 0 []) := Lib.hid (by
    have := World.ownsRow_made (base := w.heap.size + 1) (e := 9) (size := 1) (w.alloc (.cells #[.slice A n cp, .int .i64 0, .int .u64 0] 44)) #[] 0 (by simp) (Nat.zero_le _) rfl
    simpa using this)
  clear hr hz
  go_enter Try.func11, Try.ntmps11
  go_wp2_with fail
  refine (pick_any _ w.heap.size w.heap.size A n cp zs 0 HZ.out HC.out (by omega) hn 4 (by omega) (by omega)).mono ?_
  rintro e w1 ⟨x, rfl, hx0, hx1, ⟨t1, ht1, hc1⟩, hg1⟩
  have HC1 := Lib.hid hc1
  have HB1 := Lib.hid (below_cur HB.out hg1 (Nat.le_refl _))
  have HO1 := Lib.hid (HO.out.kept hg1 (.inr (by simp [Value.ownBlock])))
  clear hc1 hg1 HC HB HO
  go_wp2_with fail
  go_loopw [5, 7] (fun v i wr => ∃ (q : Nat) (t : Nat) (ss : List ByteArray), i = .int .i64 q ∧ (q : Int) ≤ x ∧ t ≤ 2 + 2 * q ∧ Hid (ss.length = q) ∧ Hid (∀ s ∈ ss, s.size ≤ 20) ∧ Hid (Cur wr w.heap.size w.heap.size A n cp zs t) ∧ wr.ownsRow (w.heap.size + 1) 9 1 v q (ss.map Value.string) ∧ Below w.heap.size w wr ∧ w.heap.size < wr.heap.size) (fun _ i _ => (x - intOf i).toNat)
  case atStart => exact ⟨0, t1, [], rfl, by omega, by omega, Lib.hid rfl, Lib.hid (by simp), HC1, HO1.out, HB1.out, HC1.out.lt⟩
  case round =>
    clear HC1 HB1 HO1
    obtain ⟨q, t, ss, rfl, hq, ht, HL, HS, HC, hown, hbel, hsz⟩ := hrel
    by_cases hlt : (q : Int) < x
    · go_wp2_with fail
      refine (any1_any _ w.heap.size w.heap.size A n cp zs t HZ.out HC.out (by omega) hn).mono ?_
      rintro e w2 ⟨y, rfl, hy, ⟨t2, ht2, hc2⟩, hg2⟩
      have HC2 := Lib.hid hc2
      have hown2 := hown.kept hg2 (.inr (fun e' => by have := (hown.lt _ e').1; omega))
      have hbel2 := below_cur hbel hg2 (Nat.le_refl _)
      have hsz2 := hc2.lt
      clear hc2 hg2 hown hbel HC
      go_wp2_with (at_builtin; refine wpList_append_own _ rfl _ _ 26 rfl (w.heap.size + 1) 9 i0 (.string ByteArray.empty) 1 16 Try.underlying26 hi hz0 hz1 hz2 rfl (by decide) _ _ _ rfl (hown2.alloc _) ⟨w2.heap.size, 0, none⟩ 1 1 [.string y] rfl rfl (cell_one_new _ _ _) (fun x hx => by simp at hx; subst hx; rfl) (by unfold maxLen; omega) (by omega) (by simp; omega) ?_; intro v' w3 hown3 hgrow3 _)
      have hbel3 : Below w.heap.size w w3 := (hbel2.alloc hbel2.size _).grown hgrow3 (by simp; omega) (fun r hr => by have := (hown2.lt r hr).1; omega)
      have HC3 : Hid (Cur w3 w.heap.size w.heap.size A n cp zs t2) := Lib.hid ((HC2.out.alloc _).grown hgrow3 (fun r hr => by have := (hown2.lt r hr).1; omega))
      have hown4 : w3.ownsRow (w.heap.size + 1) 9 1 v' (q + 1) ((ss ++ [y]).map Value.string) := by simpa using hown3
      have HL2 : Hid ((ss ++ [y]).length = q + 1) := Lib.hid (by rw [List.length_append, HL.out]; rfl)
      have HS2 : Hid (∀ s ∈ ss ++ [y], s.size ≤ 20) := Lib.hid (by
        intro s hs
        rcases List.mem_append.1 hs with hs | hs
        · exact HS.out s hs
        · simp only [List.mem_singleton] at hs; rw [hs]; exact hy)
      have hsz3 := HC3.out.lt
      clear hown3 hgrow3 hown2 hbel2
      go_wp2_with fail
      go_roundw
      case rel => exact ⟨q + 1, t2, ss ++ [y], by go_num, by omega, by omega, HL2, HS2, HC3, hown4, hbel3, hsz3⟩
      case measure => simp [intOf]; omega
    · have hq4 : q ≤ 3 := by omega
      obtain ⟨C0, c0, rfl, _, _⟩ := own_form hown
      go_wp2_with fail
      refine (one_any _ w.heap.size w.heap.size A n cp zs t HZ.out HC.out (by omega) hn 20 (by omega) (by omega)).mono ?_
      rintro e w2 ⟨b, rfl, ⟨t2, ht2, hc2⟩, hg2⟩
      have HC2 := Lib.hid hc2
      have hown2 := hown.kept hg2 (.inr (fun e' => by have := (hown.lt _ e').1; omega))
      have hbel2 := below_cur hbel hg2 (Nat.le_refl _)
      have hsz2 := hc2.lt
      clear hc2 hg2 hown hbel HC
      cases b with
      | true =>
        go_wp2_with fail
        refine (pick_any _ w.heap.size w.heap.size A n cp zs t2 HZ.out HC2.out (by omega) hn 20 (by omega) (by omega)).mono ?_
        rintro e w3 ⟨z, rfl, hz0', hz1', ⟨t3, ht3, hc3⟩, hg3⟩
        obtain ⟨m, rfl⟩ : ∃ m : Nat, z = m := ⟨z.toNat, by omega⟩
        have HC3 := Lib.hid hc3
        have hown3 := hown2.kept hg3 (.inr (fun e' => by have := (hown2.lt _ e').1; omega))
        have hbel3 := below_cur hbel2 hg3 (Nat.le_refl _)
        have hsz3 := hc3.lt
        clear hc3 hg3 hown2 hbel2 HC2
        have e39 : (3990 : Int) + (m : Int) = ((3990 + m : Nat) : Int) := by omega
        have hm20 : 3990 + m ≤ 4010 := by omega
        have HE := Lib.hid e39
        clear e39
        go_wp2_with (at_make; refine wpList_make_full _ rfl _ _ 22 rfl w3.heap.size 5 i1 (.int .u8 0) 1 Try.underlying22 ui uz0 uz1 .i64 .i64 _ _ (3990 + m) rfl rfl HE.out HE.out (by rw [uz2]; omega) (by unfold maxLen; omega) (Nat.le_refl _) ?_; intro w4 hown4 hg4; have hcv := conv_zeros hown4; have hownA := hown3.kept hg4 (Classical.em _); have hb4 := hbel3.grown hg4 hbel3.size (by simp); have HC4 := Lib.hid (HC3.out.grown hg4 (by simp)); have hz4 := HC4.out.lt; go_wp2_with (at_builtin; refine wpList_append_own _ rfl _ _ 26 rfl (w.heap.size + 1) 9 i0 (.string ByteArray.empty) 1 16 Try.underlying26 hi hz0 hz1 hz2 rfl (by decide) _ _ _ rfl (hownA.alloc _) ⟨w4.heap.size, 0, none⟩ 1 1 [.string (Zb (3990 + m))] rfl rfl (cell_one_new _ _ _) (fun x hx => by simp at hx; subst hx; rfl) (by unfold maxLen; omega) (by omega) (by simp; omega) ?_; intro v' w5 hown5 hgrow5 _))
        have hown6 : w5.ownsRow (w.heap.size + 1) 9 1 v' (q + 1) ((ss ++ [Zb (3990 + m)]).map Value.string) := by simpa using hown5
        have hbel5 : Below w.heap.size w w5 := (hb4.alloc hb4.size _).grown hgrow5 (by simp; omega) (fun r hr => by have := (hownA.lt r hr).1; omega)
        have HC5 : Hid (Cur w5 w.heap.size w.heap.size A n cp zs t3) := Lib.hid ((HC4.out.alloc _).grown hgrow5 (fun r hr => by have := (hownA.lt r hr).1; omega))
        have hsz5 := HC5.out.lt
        obtain ⟨C1, c1, hv1, _, _⟩ := own_form hown6
        rw [hv1] at hown6 ⊢
        clear hown5 hgrow5 hownA hb4 hcv hown4 hg4 hown3 hbel3 hv1 HC4 HC3
        go_wp2_with fail
        refine (of_any _ w.heap.size w.heap.size A n cp zs t3 HZ.out (HC5.out.alloc _) (by omega) hn w5.heap.size 5 5 marks5 (by omega) (by simp) (by omega) (by omega) (Nat.le_refl _) rfl (cells_list (heap_alloc_new w5 _) rfl)).mono ?_
        rintro e w6 ⟨y, rfl, hy, _, hg6⟩
        have hown7 := (hown6.alloc (.cells #[.string ⟨#[44]⟩, .string ⟨#[59]⟩, .string ⟨#[59]⟩, .string ⟨#[]⟩, .string ⟨#[97, 98]⟩] 9)).kept hg6 (.inr (fun e' => by have := (hown6.lt _ e').1; omega))
        have hbel6 := below_cur hbel5 (grown_alloc hg6) (Nat.le_refl _)
        have HR : Hid (ListAnd w (.returned (.tuple #[.slice C1 (q + 1) c1, .string y])) w6) := Lib.hid (by
          have hl2 : (ss ++ [Zb (3990 + m)]).length = q + 1 := by rw [List.length_append, HL.out]; rfl
          refine listAnd_mk (ss := ss ++ [Zb (3990 + m)]) ?_ (Nat.le_refl _) (by omega) (fun s hs => ?_) (marks5_size y hy) hbel6
          · rw [hl2]; exact hown7
          · rcases List.mem_append.1 hs with hs | hs
            · have := HS.out s hs; omega
            · simp only [List.mem_singleton] at hs; rw [hs, zeros_size]; omega)
        clear hg6 hy hown7 hbel6 hown6 hbel5
        go_wp2_with fail
        go_ret2
        exact HR.out
      | false =>
        go_wp2_with fail
        refine (of_any _ w.heap.size w.heap.size A n cp zs t2 HZ.out (HC2.out.alloc _) (by omega) hn w2.heap.size 5 5 marks5 (by omega) (by simp) (by omega) (by omega) (Nat.le_refl _) rfl (cells_list (heap_alloc_new w2 _) rfl)).mono ?_
        rintro e w3 ⟨y, rfl, hy, _, hg3⟩
        have hown3 := (hown2.alloc (.cells #[.string ⟨#[44]⟩, .string ⟨#[59]⟩, .string ⟨#[59]⟩, .string ⟨#[]⟩, .string ⟨#[97, 98]⟩] 9)).kept hg3 (.inr (fun e' => by have := (hown2.lt _ e').1; omega))
        have hbel3 := below_cur hbel2 (grown_alloc hg3) (Nat.le_refl _)
        have HR : Hid (ListAnd w (.returned (.tuple #[.slice C0 q c0, .string y])) w3) := Lib.hid (by
          refine listAnd_mk (ss := ss) ?_ (Nat.le_refl _) (by rw [HL.out]; omega) (fun s hs => by have := HS.out s hs; omega) (marks5_size y hy) hbel3
          rw [HL.out]; exact hown3)
        clear hg3 hy hown3 hbel3 hown2 hbel2
        go_wp2_with fail
        go_ret2
        exact HR.out
end Go.Proofs.Ytiieccpfnffcpaa.Draw
