/- What impl.SharedIrqs and impl.MixedIrqs answer. -/
import Derived.Test.YtfdbnolifimnhaaLnF
namespace Go.Proofs.Ytfdbnolifimnhaa.L7
open Go Go.RowKit Go.Proofs.Ytfdbnolifimnhaa.Mem Go.Proofs.Ytfdbnolifimnhaa.Own Go.Proofs.Ytfdbnolifimnhaa.L6
theorem shared_asks : Asks 150 pSh := by
  intro A n c l w hn hr
  have hl : l.length = n := reads_len hr
  have HT : Hid (decide ((2 : Int) ≤ n) = pSh l) := Lib.hid (by unfold pSh; rw [hl]; exact decide_eq_decide.2 (by omega))
  clear hr hl
  go_enter Try.func150, Try.ntmps150
  go_wp2_with fail
  go_ret
  exact ⟨by rw [← HT.out]; simp, Below.refl _ _⟩
theorem shared_enters : ∀ args w, (callFunc 150 args).run Try.prog w = .ok (.enter 150 args) w := enters_of Try.func150 (by kernel_rfl) rfl
theorem implShared_any (A : Option Addr) (n c : Nat) (xs : List Lin) (w : World) (hr : Reads w w.heap.size 4 A n (FL xs)) (hn : n ≤ 1048576) (l : List Nat) (b : Bool) (h : iqAns pSh xs = (l, b)) :
    Calls Try.prog 72 #[.slice A n c] w (NatPost w l b) := by
  have HR := Lib.hid hr
  have HH := Lib.hid h
  clear hr h
  go_enter Try.func72, Try.ntmps72
  go_wp2_with fail
  refine (irqsWhose_any _ pSh shared_asks shared_enters A n c xs _ HR.out hn l b HH.out).mono ?_
  rintro e w1 ⟨A', c', rfl, hown, hb⟩
  go_wp2_with fail
  go_ret2
  exact ⟨A', c', rfl, hown, hb⟩
theorem kind_tells (g : Nat) (z : Int) (w : World) (hg : g < w.heap.size) (hc : w.cell? ⟨g, 0, none⟩ = some (.int .i64 z)) : TellsL 162 #[.pointer (some ⟨g, 0, none⟩)] (fun x => decide (x.ki = z)) w := by
  intro x0 x1 x2 x3 w' hb
  have k0 : w'.cell? ⟨g, 0, none⟩ = some (.int .i64 z) := (hb.cell (p := ⟨g, 0, none⟩) hg).trans hc
  have hgw : g < w'.heap.size := Nat.lt_of_lt_of_le hg hb.size
  have p := Blk.new w' #[.int .i64 x0, .int .i64 x1, .bool x2, .bool x3] 58
  have k1 : (w'.alloc (.cells #[.int .i64 x0, .int .i64 x1, .bool x2, .bool x3] 58)).cell? ⟨g, 0, none⟩ = some (.int .i64 z) := by rw [World.cell?_alloc_lt _ _ _ (by exact hgw)]; exact k0
  have p0 := p.cell 0 _ rfl
  clear p hc
  show Calls Try.prog 162 #[.agg #[.int .i64 x0, .int .i64 x1, .bool x2, .bool x3], .pointer (some ⟨g, 0, none⟩)] w' _
  by_cases hz : x0 = z
  · have t1 : (x0 == z) = true := by simpa using hz
    have t2 : decide (x0 = z) = true := decide_eq_true hz
    clear hz
    go_enter Try.func162, Try.ntmps162
    go_wp2_with fail
    go_ret
    exact ⟨congrArg (fun b => Ending.returned (.bool b)) t2.symm, below_more (Below.refl _ _) _⟩
  · have t1 : (x0 == z) = false := by simpa using hz
    have t2 : decide (x0 = z) = false := decide_eq_false hz
    clear hz
    go_enter Try.func162, Try.ntmps162
    go_wp2_with fail
    go_ret
    exact ⟨congrArg (fun b => Ending.returned (.bool b)) t2.symm, below_more (Below.refl _ _) _⟩
theorem kind_enters : ∀ args w, (callFunc 162 args).run Try.prog w = .ok (.enter 162 args) w := enters_of Try.func162 (by kernel_rfl) rfl
theorem haveKind_any (A : Option Addr) (n c : Nat) (z : Int) (l : List Lin) (w : World) (hn : n ≤ 6) (hr : Reads w w.heap.size 4 A n (FL l)) (b : Bool) (hb : hasKi z l = b) :
    Calls Try.prog 149 #[.slice A n c, .int .i64 z] w fun e w' => e = .returned (.bool b) ∧ Below w.heap.size w w' := by
  have HB := Lib.hid hb
  obtain ⟨wb, hwb⟩ : ∃ wb, w.alloc (.cells #[.int .i64 z] 3) = wb := ⟨_, rfl⟩
  have hb0 : Below w.heap.size w wb := by rw [← hwb]; exact below_more (Below.refl _ _) _
  have hx : Blk wb w.heap.size 3 #[.int .i64 z] := by rw [← hwb]; exact Blk.new _ _ _
  have HT := Lib.hid (kind_tells w.heap.size z wb hx.lt (hx.cell 0 _ rfl))
  have HR := Lib.hid ((hr.below hb0).more hb0.size)
  have HB0 := Lib.hid hb0
  have HWB := Lib.hid hwb
  clear hr hb hx hb0 hwb
  go_enter Try.func149, Try.ntmps149
  go_upto_region 1 with fail
  rw [HWB.out]
  clear HWB
  go_wp2_with fail
  refine (containsFunc_any A n c _ _ _ kind_enters l _ HR.out (by omega) HT.out).mono ?_
  rintro e w1 ⟨rfl, hb⟩
  go_wp2_with fail
  go_ret
  exact ⟨by rw [← HB.out]; rfl, below_then HB0.out hb⟩
theorem mixed_asks : Asks 148 pMx := by
  intro A n c l w hn hr
  have HR := Lib.hid hr
  obtain ⟨q0, h0⟩ : ∃ q, hasKi 0 l = q := ⟨_, rfl⟩
  obtain ⟨q1, h1⟩ : ∃ q, hasKi 1 l = q := ⟨_, rfl⟩
  have HT : Hid ((q0 && q1) = pMx l) := Lib.hid (by unfold pMx; rw [h0, h1])
  have H1 := Lib.hid h1
  clear hr h1
  go_enter Try.func148, Try.ntmps148
  cases q0 with
  | true =>
    go_wp2_with fail
    refine (haveKind_any A n c 0 l _ hn HR.out _ h0).mono ?_
    rintro e w1 ⟨rfl, hb⟩
    have HB := Lib.hid hb
    clear hb h0
    go_wp2_with fail
    refine (haveKind_any A n c 1 l _ hn ((HR.out.below HB.out).more HB.out.size) _ H1.out).mono ?_
    rintro e w2 ⟨rfl, hb⟩
    have HB2 := Lib.hid (below_then HB.out hb)
    clear hb
    go_wp2_with fail
    go_ret
    exact ⟨by rw [← HT.out]; rfl, HB2.out⟩
  | false =>
    go_wp2_with fail
    refine (haveKind_any A n c 0 l _ hn HR.out _ h0).mono ?_
    rintro e w1 ⟨rfl, hb⟩
    have HB := Lib.hid hb
    clear hb h0
    go_wp2_with fail
    go_ret
    exact ⟨by rw [← HT.out]; rfl, HB.out⟩
theorem mixed_enters : ∀ args w, (callFunc 148 args).run Try.prog w = .ok (.enter 148 args) w := enters_of Try.func148 (by kernel_rfl) rfl
theorem implMixed_any (A : Option Addr) (n c : Nat) (xs : List Lin) (w : World) (hr : Reads w w.heap.size 4 A n (FL xs)) (hn : n ≤ 1048576) (l : List Nat) (b : Bool) (h : iqAns pMx xs = (l, b)) :
    Calls Try.prog 71 #[.slice A n c] w (NatPost w l b) := by
  have HR := Lib.hid hr
  have HH := Lib.hid h
  clear hr h
  go_enter Try.func71, Try.ntmps71
  go_wp2_with fail
  refine (irqsWhose_any _ pMx mixed_asks mixed_enters A n c xs _ HR.out hn l b HH.out).mono ?_
  rintro e w1 ⟨A', c', rfl, hown, hb⟩
  go_wp2_with fail
  go_ret2
  exact ⟨A', c', rfl, hown, hb⟩
end Go.Proofs.Ytfdbnolifimnhaa.L7
