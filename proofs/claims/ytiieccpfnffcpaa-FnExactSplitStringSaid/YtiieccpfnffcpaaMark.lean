/- What the laws' marks on slices of strings answer: markText, markStringS, heldStringS. -/
import Derived.Test.YtiieccpfnffcpaaRows
import Derived.Test.YtiieccpfnffcpaaMem
import Derived.Test.YtiieccpfnffcpaaL1Pure
import Derived.Lib.ItoaLen
import Derived.Lib.QuietBelow
import Derived.Outline
namespace Go.Proofs.Ytiieccpfnffcpaa.Mem
open Go.RowKit
/-- the digits of what is left of a number -/
def rest (q : Nat) : List UInt8 := if q = 0 then [] else Lib.decDigits q
/-- the last digit's byte -/
def dgb (q : Nat) : UInt8 := UInt8.ofNat (48 + q % 10)
theorem rest_step (q : Nat) (h : 0 < q) : rest q = rest (q / 10) ++ [dgb q] := by
  unfold rest dgb
  rw [if_neg (by omega), Lib.decDigits]
  by_cases h10 : q < 10
  · rw [dif_pos h10, if_pos (by omega), show q % 10 = q from by omega]; rfl
  · rw [dif_neg h10, if_neg (by omega)]
/-- the text of a mark -/
def MT (k : Nat) : ByteArray := ({ data := #[109] } : ByteArray) ++ ⟨(rest k).toArray⟩
theorem rest_len (q : Nat) (h : q ≤ 10000000) : (rest q).length ≤ 20 := by
  unfold rest
  split
  · simp
  · rw [Lib.decDigits_length]; exact Lib.nDigits_le20 q (by omega)
theorem rest_size {q K : Nat} {ob : ByteArray} (hK : K ≤ 10000000) (h : rest q ++ ob.data.toList = rest K) : ob.size ≤ 20 := by
  have h1 := congrArg List.length h
  rw [List.length_append] at h1
  have h2 := rest_len K hK
  have h3 : ob.data.toList.length = ob.size := rfl
  omega
theorem conv_one (w : World) (q : Nat) : (convert 22 9 (.slice (some ⟨w.heap.size, 0, none⟩) 1 1)).run Try.prog (w.alloc (.cells #[.int .u8 (48 + ↑q % 10)] 5)) = .ok (.string ⟨#[dgb q]⟩) (w.alloc (.cells #[.int .u8 (48 + ↑q % 10)] 5)) := by
  refine run_convert_bytes_back _ 22 9 5 ⟨w.heap.size, 0, none⟩ 1 [dgb q] Try.underlying22 Try.underlying5 Try.underlying9 (fun j hj => ?_)
  obtain rfl : j = 0 := by simpa using hj
  have e : (dgb q).toNat = 48 + q % 10 := by unfold dgb; simp [UInt8.toNat_ofNat']; omega
  have hb : ((w.alloc (.cells #[.int .u8 (48 + ↑q % 10)] 5)).heap[w.heap.size]? : Option Obj) = some (.cells #[.int .u8 (48 + ↑q % 10)] 5 (0, 0)) := heap_alloc_new w _
  simp only [Addr.add, if_true, World.cell?, hb, List.getElem_cons_zero, e]
  simp
set_option maxHeartbeats 1000000 in
theorem markText_any (K : Nat) (h0 : 0 < K) (h1 : K ≤ 10000000) (w : World) :
    Calls Try.prog 34 #[.int .i64 K] w fun e w' => e = .returned (.string (MT K)) ∧ Below w.heap.size w w' := by
  go_enter Try.func34, Try.ntmps34
  go_wp2
  go_loopw [0, 3] (fun k o wr => ∃ (q : Nat) (ob : ByteArray), k = .int .i64 q ∧ q ≤ K ∧ o = .string ob ∧ Hid (rest q ++ ob.data.toList = rest K) ∧ Below w.heap.size w wr) (fun k _ _ => (intOf k).toNat)
  case atStart => exact ⟨K, _, rfl, Nat.le_refl _, rfl, Lib.hid (by simp), Below.refl _ _⟩
  case round =>
    obtain ⟨q, ob, rfl, hq, rfl, HR, hbel⟩ := hrel
    have hob := rest_size h1 HR.out
    by_cases hlt : 0 < q
    · have hconv := conv_one wr q
      have hd1 : ({ data := #[dgb q] } : ByteArray).size = 1 := rfl
      have HR2 : Hid (rest (q / 10) ++ (({ data := #[dgb q] } : ByteArray) ++ ob).data.toList = rest K) := Lib.hid (by
        rw [← HR.out, rest_step q hlt, ByteArray.data_append]
        simp)
      go_wp2
      go_roundw
      case rel => exact ⟨q / 10, _, by go_num, by omega, rfl, HR2, hbel.alloc hbel.size _⟩
      case measure => simp [intOf]; omega
    · have hq0 : q = 0 := by omega
      have HE : Hid (ob = ⟨(rest K).toArray⟩) := by
        refine Lib.hid (ByteArray.ext ?_)
        have h := HR.out
        rw [hq0] at h
        simp only [rest, if_true, List.nil_append] at h
        apply Array.toList_inj.1
        rw [h]
        simp [rest]
      clear hq0
      go_wp2
      go_ret
      rw [HE.out]
      exact ⟨rfl, hbel⟩
/-- n marks from k0 on -/
def marks (k0 n : Nat) : List Value := (List.range n).map fun i => Value.string (MT (k0 + i))
theorem marks_len (k0 n : Nat) : (marks k0 n).length = n := by simp [marks]
theorem marks_at (k0 n i : Nat) (h : i < n) : (marks k0 n)[i]? = some (Value.string (MT (k0 + i))) := by simp [marks, h]
theorem set_take' {α : Type} (xs ys : List α) (k : Nat) (u : α) (hl : ys.length = xs.length) (hu : xs[k]? = some u) (h : ys.take k = xs.take k) : (ys.set k u).take (k + 1) = xs.take (k + 1) := by
  have hk : k < xs.length := (List.getElem?_eq_some_iff.1 hu).1
  have hu' : xs[k] = u := by have := List.getElem?_eq_getElem hk; rw [this] at hu; exact Option.some.inj hu
  rw [List.take_succ_eq_append_getElem (by simpa [hl] using hk), List.take_succ_eq_append_getElem hk, List.take_set_of_le (Nat.le_refl _), h]
  simp [hu']
theorem grown_of_below {w w' : World} (h : Below w.heap.size w w') (row : Option Nat) : w.grownBy w' row := ⟨h.os, h.tape, h.output, h.size, fun k hk _ => h.block k hk⟩
theorem grown_trans {a b c : World} {row : Option Nat} (h : a.grownBy b row) (k : b.grownBy c row) : a.grownBy c row :=
  ⟨k.os.trans h.os, k.tape.trans h.tape, k.output.trans h.output, Nat.le_trans h.size k.size, fun i hi hne => (k.block i (Nat.lt_of_lt_of_le hi h.size) hne).trans (h.block i hi hne)⟩
set_option maxHeartbeats 1000000 in
theorem markStringS_any (A : Option Addr) (n c base k0 : Nat) (xs : List Value) (w : World) (hown : w.ownsRow base 9 1 (.slice A n c) n xs) (hn : n ≤ 1048576) (hk0 : 0 < k0) (hk1 : k0 ≤ 1048576) :
    Calls Try.prog 19 #[.slice A n c, .int .i64 k0] w fun e w' => e = .returned (.int .i64 (k0 + n)) ∧ w'.ownsRow base 9 1 (.slice A n c) n (marks k0 n) ∧ w.grownBy w' (Value.slice A n c).ownBlock := by
  have HX := Lib.hid hown.1
  have HO := Lib.hid hown
  clear hown
  go_enter Try.func19, Try.ntmps19
  go_wp2
  go_loopw [1, 5] (fun k i wr => ∃ (q : Nat) (ys : List Value), i = .int .i64 q ∧ k = .int .i64 (k0 + q) ∧ q ≤ n ∧ Hid (ys.length = n) ∧ Hid (ys.take q = (marks k0 n).take q) ∧ wr.ownsRow base 9 1 (.slice A n c) n ys ∧ w.grownBy wr (Value.slice A n c).ownBlock) (fun _ i _ => n - (intOf i).toNat)
  case atStart => exact ⟨0, xs, rfl, by go_num, Nat.zero_le _, Lib.hid (by have := HX.out; omega), Lib.hid (by simp), HO.out, World.grownBy.refl _ _⟩
  case round =>
    obtain ⟨q, ys, rfl, rfl, hq, HY, HT, hown, hgr⟩ := hrel
    by_cases hlt : q < n
    · obtain ⟨g, hA⟩ : ∃ g, A = some ⟨g, 0, none⟩ := by
        rcases hown.2 with ⟨_, h0⟩ | ⟨g, cap, cur, h, _⟩
        · omega
        · injection h with h1; exact ⟨g, h1⟩
      subst hA
      have HU := Lib.hid (set_take' (marks k0 n) ys q _ (by rw [HY.out, marks_len]) (marks_at k0 n q hlt) HT.out)
      have HY2 : Hid ((ys.set q (.string (MT (k0 + q)))).length = n) := Lib.hid (by rw [List.length_set]; exact HY.out)
      clear HT
      go_wp2_with fail
      have hm := markText_any (k0 + q) (by omega) (by omega) wr
      rw [Int.natCast_add] at hm
      refine hm.mono ?_
      clear hm
      rintro e w1 ⟨rfl, hb1⟩
      have hown1 := hown.kept (grown_of_below hb1 none) (.inr (by simp [Value.ownBlock]))
      have hgr1 := grown_trans hgr (grown_of_below hb1 _)
      have hst := hown1.stored q (.string (MT (k0 + q)))
      have hst1 := Lib.hid hst.1
      have hgr2 := grown_trans hgr1 hst.2
      have hfz := hown1.frozenAt q
      obtain ⟨z, hz⟩ : ∃ z, w1.cell? ⟨g, q, none⟩ = some z := ⟨_, (hown1.cellAt q (by omega)).trans (List.getElem?_eq_getElem (by rw [HY.out]; exact hlt))⟩
      clear hst hown1 hgr1 hown hgr hb1
      go_wp2_with fail
      go_roundw
      case rel => exact ⟨q + 1, _, by go_num, by go_num, by omega, HY2, HU, hst1.out, hgr2⟩
      case measure => simp [intOf]; omega
    · have hqn : q = n := by omega
      have hy : ys = marks k0 n := by
        have h := HT.out
        rw [List.take_of_length_le (by rw [HY.out]; omega), List.take_of_length_le (by rw [marks_len]; omega)] at h
        exact h
      rw [hy] at hown
      clear hy HT
      subst hqn
      go_wp2
      go_ret
      exact ⟨rfl, hown, hgr⟩
set_option maxHeartbeats 1000000 in
theorem heldStringS_any (A : Option Addr) (n c B k0 : Nat) (w : World) (hr : Reads w B 1 A n (marks k0 n)) (hn : n ≤ 1048576) (hk0 : 0 < k0) (hk1 : k0 ≤ 1048576) :
    Calls Try.prog 20 #[.slice A n c, .int .i64 k0] w fun e w' => e = .returned (.int .i64 (k0 + n)) ∧ Below w.heap.size w w' := by
  go_enter Try.func20, Try.ntmps20
  go_wp2
  go_loopw [1, 5] (fun k i wr => ∃ (q : Nat), i = .int .i64 q ∧ k = .int .i64 (k0 + q) ∧ q ≤ n ∧ Below w.heap.size w wr) (fun _ i _ => n - (intOf i).toNat)
  case atStart => exact ⟨0, rfl, by go_num, Nat.zero_le _, Below.refl _ _⟩
  case round =>
    obtain ⟨q, rfl, rfl, hq, hbel⟩ := hrel
    by_cases hlt : q < n
    · have hlt2 : w.heap.size ≤ wr.heap.size := hbel.size
      obtain ⟨b, off, u, rfl, _, hu, hc0⟩ := hr.at_ hlt
      have hu2 : u = .string (MT (k0 + q)) := by rw [marks_at k0 n q hlt] at hu; exact (Option.some.inj hu).symm
      subst hu2
      have hcw : wr.cell? ⟨b, off + q, none⟩ = some (.string (MT (k0 + q))) := (hbel.cell (p := ⟨b, off + q, none⟩) (World.block_lt_of_cell? w _ hc0)).trans hc0
      have kc := cell_regrown hcw
      have cQ : ∀ d os, Calls Try.prog 34 #[.int .i64 (k0 + q)] (Sort.grow (redrawn wr d) os) fun e w'' => e = .returned (.string (MT (k0 + q))) ∧ ∃ p : Regrown, w'' = Sort.grow (redrawn wr p.d) p.os := fun d os => Calls.regrown_of (by
        have hm := markText_any (k0 + q) (by omega) (by omega) (Sort.grow (redrawn wr d) os)
        rwa [Int.natCast_add] at hm)
      clear hu hc0 hcw
      go_wp2
      refine wp_region_quiet_below (by kernel_rfl) (by kernel_rfl) ?_
      repeat (quiet_step (exact cQ _ _))
      refine wpQuiet_nil ?_
      intro _ hw'
      obtain ⟨⟨dq, osq⟩, hw''⟩ := hw'
      subst hw''
      have hb2 : Below w.heap.size w (Sort.grow (redrawn wr dq) osq) := hbel.trans ((below_regrown wr dq osq).mono hlt2)
      clear kc cQ
      go_wp2
      go_roundw
      case rel => exact ⟨q + 1, by go_num, by go_num, by omega, hb2⟩
      case measure => simp [intOf]; omega
    · have hqn : q = n := by omega
      subst hqn
      go_wp2
      go_ret
      exact ⟨rfl, hbel⟩
end Go.Proofs.Ytiieccpfnffcpaa.Mem
