/- What the laws' copies, sizes and comparisons of slices of strings answer. -/
import Derived.Test.YtiieccpfnffcpaaRows
import Derived.Test.YtiieccpfnffcpaaMem
import Derived.Test.YtiieccpfnffcpaaL1Pure
import Derived.Deep.QuietTactic
import Derived.BigQuiet
import Derived.Outline
namespace Go.Proofs.Ytiieccpfnffcpaa.Mem
open Go.RowKit
theorem strInfo' : (Try.prog.info? 9).map (fun i => (i.zero, i.size, i.bytes)) = some (some (.string ByteArray.empty), 1, 16) := by kernel_rfl
theorem set_take {α : Type} (xs ys : List α) (k : Nat) (u : α) (hl : ys.length = xs.length) (hu : xs[k]? = some u) (h : ys.take k = xs.take k) : (ys.set k u).take (k + 1) = xs.take (k + 1) := by
  have hk : k < xs.length := (List.getElem?_eq_some_iff.1 hu).1
  have hu' : xs[k] = u := by have := List.getElem?_eq_getElem hk; rw [this] at hu; exact Option.some.inj hu
  rw [List.take_succ_eq_append_getElem (by simpa [hl] using hk), List.take_succ_eq_append_getElem hk, List.take_set_of_le (Nat.le_refl _), h]
  simp [hu']
set_option maxHeartbeats 1000000 in
theorem toStringS_any (A : Option Addr) (n c B : Nat) (ss : List ByteArray) (w : World) (hr : Reads w B 1 A n (ss.map Value.string)) (hB : B ≤ w.heap.size) (hn : n ≤ 1048576) :
    Calls Try.prog 22 #[.slice A n c] w fun e w' => ∃ g, e = .returned (.slice (some ⟨g, 0, none⟩) n n) ∧ w'.ownsRow w.heap.size 9 1 (.slice (some ⟨g, 0, none⟩) n n) n (ss.map Value.string) ∧ Below w.heap.size w w' := by
  obtain ⟨i0, hi, hz0, hz1, hz2⟩ := info_parts strInfo'
  have HL := Lib.hid hr.len
  go_enter Try.func22, Try.ntmps22
  go_wp2_with (at_make; refine wpList_make_full _ rfl _ _ 26 rfl w.heap.size 9 i0 (.string ByteArray.empty) 1 Try.underlying26 hi hz0 hz1 .i64 .i64 _ _ n rfl rfl rfl rfl (by rw [hz2]; omega) (by unfold maxLen; omega) (Nat.le_refl _) ?_; intro w1 hown1 hg1)
  have hb1 : Below w.heap.size w w1 := (Below.refl _ _).grown hg1 (Nat.le_refl _) (by simp)
  have hr1 : Reads w1 B 1 A n (ss.map Value.string) := hr.keep fun p hp => hb1.cell (by omega)
  have hml : (madeCells (Value.string ByteArray.empty).cells (n * 1)).toList.length = n := by simp [madeCells]
  have HML := Lib.hid hml
  clear hr hml
  go_loopw [4] (fun i wr => ∃ (k : Nat) (ys : List Value), i = .int .i64 k ∧ k ≤ n ∧ Hid (ys.length = n) ∧ Hid (ys.take k = (ss.map Value.string).take k) ∧ wr.ownsRow w.heap.size 9 1 (.slice (some ⟨w.heap.size, 0, none⟩) n n) n ys ∧ Below w.heap.size w wr) (fun i _ => n - (intOf i).toNat)
  case atStart => exact ⟨0, _, rfl, Nat.zero_le _, HML, Lib.hid (by simp), hown1, hb1⟩
  case round =>
    clear hown1 hg1 HML
    obtain ⟨k, ys, rfl, hk, HY, HT, hown, hbel⟩ := hrel
    by_cases hlt : k < n
    · have hrr : Reads wr B 1 A n (ss.map Value.string) := hr1.keep fun p hp => by rw [hbel.cell (by omega), hb1.cell (by omega)]
      obtain ⟨b, off, x, rfl, hbB, hu, hc⟩ := hrr.str_at hlt
      have hst := Lib.hid (hown.stored k (.string x)).1
      have hfz := hown.frozenAt k
      have hcell : ∃ z, wr.cell? ⟨w.heap.size, k, none⟩ = some z := ⟨_, (hown.cellAt k (by omega)).trans (List.getElem?_eq_getElem (by rw [HY.out]; exact hlt))⟩
      obtain ⟨z, hz⟩ := hcell
      have hbel2 : Below w.heap.size w (wr.setCell ⟨w.heap.size, k, none⟩ (.string x)) := hbel.setCell (p := ⟨w.heap.size, k, none⟩) (Nat.le_refl _) _
      have HT2 := Lib.hid (set_take (ss.map Value.string) ys k (.string x) (by rw [HY.out, HL.out]) (by rw [List.getElem?_map, hu]; rfl) HT.out)
      have HY2 : Hid ((ys.set k (.string x)).length = n) := Lib.hid (by rw [List.length_set]; exact HY.out)
      clear hrr hr1 hown hu HT HY
      go_wp2
      go_roundw
      case rel => exact ⟨k + 1, _, by go_num, by omega, HY2, HT2, hst.out, hbel2⟩
      case measure => simp [intOf]; omega
    · have hy : ys = ss.map Value.string := by
        have h := HT.out
        rw [List.take_of_length_le (by rw [HY.out]; omega), List.take_of_length_le (by rw [HL.out]; omega)] at h
        exact h
      rw [hy] at hown
      clear hy HT HY
      go_wp2
      go_ret
      exact ⟨_, rfl, hown, hbel⟩
/-- the bytes of some texts together -/
def tot (ss : List ByteArray) : Nat := (ss.map ByteArray.size).sum
theorem tot_snoc (ss : List ByteArray) (k : Nat) (x : ByteArray) (h : ss[k]? = some x) : tot (ss.take (k + 1)) = tot (ss.take k) + x.size := by
  have hk : k < ss.length := (List.getElem?_eq_some_iff.1 h).1
  have hx : ss[k] = x := by rw [List.getElem?_eq_getElem hk] at h; exact Option.some.inj h
  rw [List.take_succ_eq_append_getElem hk, hx]
  simp [tot]
theorem tot_take (ss : List ByteArray) (k : Nat) : tot (ss.take k) ≤ tot ss := by
  have h := congrArg (fun l => (List.map ByteArray.size l).sum) (List.take_append_drop k ss)
  simp only [List.map_append, List.sum_append] at h
  unfold tot
  omega
set_option maxHeartbeats 1000000 in
theorem szStringS_any (A : Option Addr) (n c B : Nat) (ss : List ByteArray) (L : Int) (hL0 : 0 ≤ L) (hL1 : L ≤ 1048576) (w : World) (hr : Reads w B 1 A n (ss.map Value.string)) (hm : n ≤ 9223372036854775807) (hss : ∀ s ∈ ss, s.size ≤ 9223372036854775807) (r : Int) (hres : r = if (n : Int) + tot ss ≤ L then L - (n + tot ss) else -1) :
    Calls Try.prog 21 #[.slice A n c, .int .i64 L] w fun e w' => e = .returned (.int .i64 r) ∧ w = w' := by
  have HL : Hid (ss.length = n) := Lib.hid (by have := hr.len; simpa using this)
  by_cases h0 : L < n
  · have HR : Hid (r = -1) := Lib.hid (by rw [hres, if_neg (by omega)])
    clear hres
    go_enter Try.func21, Try.ntmps21
    go_wp2
    go_ret
    rw [HR.out]
    exact ⟨rfl, rfl⟩
  · have HR := Lib.hid hres
    clear hres
    go_enter Try.func21, Try.ntmps21
    go_wp2
    go_loop [1, 5] (fun l i => ∃ (k t : Nat), i = .int .i64 k ∧ k ≤ n ∧ l = .int .i64 (L - n - t) ∧ (n : Int) + t ≤ L ∧ Hid (tot (ss.take k) = t)) (fun _ i => n - (intOf i).toNat)
    case atStart => exact ⟨0, 0, rfl, Nat.zero_le _, by go_num, by omega, Lib.hid (by simp [tot])⟩
    case round =>
      obtain ⟨k, t, rfl, hk, rfl, ht, HT⟩ := hrel
      by_cases hlt : k < n
      · obtain ⟨b, off, x, rfl, hbB, hu, hc⟩ := hr.str_at hlt
        have hxs := hss x (List.mem_of_getElem? hu)
        have hsn := tot_snoc ss k x hu
        rw [HT.out] at hsn
        have HS := Lib.hid hsn
        have htk := tot_take ss (k + 1)
        by_cases hle : (n : Int) + t + x.size ≤ L
        · clear hsn htk hu
          go_wp2
          all_goals
            go_round
            case rel => exact ⟨k + 1, t + x.size, by go_num, by omega, by go_num, by omega, HS⟩
            case measure => simp [intOf]; omega
        · have HR2 : Hid (r = -1) := Lib.hid (by rw [HR.out, if_neg (by omega)])
          clear hsn htk hu HR HS
          go_wp2
          go_ret
          rw [HR2.out]
          exact ⟨rfl, rfl⟩
      · have HR2 : Hid (r = L - n - t) := by
          have h1 := HT.out
          rw [List.take_of_length_le (by rw [HL.out]; omega)] at h1
          exact Lib.hid (by rw [HR.out, h1, if_pos ht]; omega)
        clear HR HT
        go_wp2
        go_ret
        rw [HR2.out]
        exact ⟨rfl, rfl⟩
theorem bytes_ne {a b : ByteArray} (h : a ≠ b) : (a.toList == b.toList) = false := by
  simp only [beq_eq_false_iff_ne, ne_eq]
  intro e
  apply h
  apply ByteArray.ext
  have : a.data.toList = b.data.toList := by simpa [ByteArray.toList_eq] using e
  exact Array.toList_inj.1 this
theorem take_eq_succ {α : Type} {xs ys : List α} {k : Nat} {x : α} (h : xs.take k = ys.take k) (hx : xs[k]? = some x) (hy : ys[k]? = some x) : xs.take (k + 1) = ys.take (k + 1) := by
  rw [List.take_add_one, List.take_add_one, h, hx, hy]
set_option maxHeartbeats 1000000 in
theorem eqStringS_any (A A' : Option Addr) (n c n' c' B : Nat) (xs ys : List ByteArray) (w : World) (hx : Reads w B 1 A n (xs.map Value.string)) (hy : Reads w B 1 A' n' (ys.map Value.string)) (hn : n ≤ 9223372036854775807) (hn' : n' ≤ 9223372036854775807) (b : Bool) (hb : decide (xs = ys) = b) :
    Calls Try.prog 18 #[.slice A n c, .slice A' n' c'] w fun e w' => e = .returned (.bool b) ∧ ∃ j, w' = w.drewN j := by
  have HX : Hid (xs.length = n) := Lib.hid (by have := hx.len; simpa using this)
  have HY : Hid (ys.length = n') := Lib.hid (by have := hy.len; simpa using this)
  have HB := Lib.hid hb
  clear hb
  by_cases hnn : n = n'
  · subst hnn
    go_enter Try.func18, Try.ntmps18
    go_wp2
    go_loopw [5] (fun i wr => ∃ (k j : Nat), i = .int .i64 k ∧ k ≤ n ∧ Hid (xs.take k = ys.take k) ∧ wr = w.drewN j) (fun i _ => n - (intOf i).toNat)
    case atStart => exact ⟨0, 0, rfl, Nat.zero_le _, Lib.hid (by simp), rfl⟩
    case round =>
      obtain ⟨k, j, rfl, hk, HT, rfl⟩ := hrel
      by_cases hlt : k < n
      · obtain ⟨b1, o1, x, rfl, _, hu, hc⟩ := hx.str_at hlt
        obtain ⟨b2, o2, y, rfl, _, hv, hc'⟩ := hy.str_at hlt
        by_cases he : x = y
        · subst he
          have HT2 := Lib.hid (take_eq_succ HT.out hu hv)
          clear hu hv HT
          go_wp2
          go_quiet (fail)
          go_wp2
          go_roundw
          case rel => exact ⟨k + 1, _, by go_num, by omega, HT2, rfl⟩
          case measure => simp [intOf]; omega
        · have hne : b = false := by
            rw [← HB.out]
            simp only [decide_eq_false_iff_not]
            intro e
            rw [e, hv] at hu
            exact he (Option.some.inj hu).symm
          have HN := Lib.hid hne
          have t1 := bytes_ne he
          clear hu hv he hne HT
          go_wp2
          go_quiet (fail)
          go_wp2
          go_ret
          rw [HN.out]
          exact ⟨rfl, j + nq, by rw [World.drewN_drewN]⟩
      · have hbt : b = true := by
          rw [← HB.out]
          have h := HT.out
          rw [List.take_of_length_le (by rw [HX.out]; omega), List.take_of_length_le (by rw [HY.out]; omega)] at h
          simpa using h
        have HN := Lib.hid hbt
        clear hbt HT
        go_wp2
        go_ret
        rw [HN.out]
        exact ⟨rfl, _, rfl⟩
  · have hne : b = false := by
      rw [← HB.out]
      simp only [decide_eq_false_iff_not]
      intro e
      rw [e, HY.out] at HX
      exact hnn HX.out.symm
    have HN := Lib.hid hne
    have t2 : ((n : Int) == n') = false := by simp; omega
    clear hne
    go_enter Try.func18, Try.ntmps18
    go_wp2
    go_ret
    rw [HN.out]
    exact ⟨rfl, 0, rfl⟩
end Go.Proofs.Ytiieccpfnffcpaa.Mem
