/- What slices.ContainsFunc answers on entries; isEmpty, isLeaf of impl. -/
import Derived.Test.YtaamjnpknmimmabPred
import Derived.Shelf.Abstract
namespace Go.Proofs.Ytaamjnpknmimmab.L4
open Go Go.RowKit Go.Proofs.Ytaamjnpknmimmab.Mem Go.Proofs.Ytaamjnpknmimmab.Own
/-- a function value that tells a property of entries, in all worlds that hold what w holds -/
def Tells (k : Nat) (lb : Array Value) (p : Ent → Bool) (w : World) : Prop :=
  ∀ (f : Int) (wr : Bool) (w' : World), Below w.heap.size w w' → Calls Try.prog k (#[.agg #[.int .i64 f, .bool wr]] ++ lb) w' fun e w'' => e = .returned (.bool (p ⟨f, wr⟩)) ∧ Below w'.heap.size w' w''
theorem Tells.grow {k : Nat} {lb : Array Value} {p : Ent → Bool} {w w' : World} (h : Tells k lb p w) (hb : Below w.heap.size w w') : Tells k lb p w' :=
  fun f wr w2 h2 => h f wr w2 (below_then hb h2)
theorem any_take {xs : List Ent} {p : Ent → Bool} {k : Nat} {x : Ent} (h : xs[k]? = some x) : (xs.take (k + 1)).any p = ((xs.take k).any p || p x) := by
  rw [List.take_add_one, h, List.any_append]
  simp
set_option maxRecDepth 100000 in
set_option maxHeartbeats 2000000 in
theorem indexFunc_any (A : Option Addr) (n c k : Nat) (lb : Array Value) (p : Ent → Bool) (eg : ∀ args w, (callFunc k args).run Try.prog w = .ok (.enter k args) w) (xs : List Ent) (w : World) (hr : Reads w w.heap.size 2 A n (FL xs)) (hn : n ≤ 1048576) (hp : Tells k lb p w) :
    Calls Try.prog 111 #[.slice A n c, .func (.func k) #[] lb] w fun e w' => (∃ r : Int, e = .returned (.int .i64 r) ∧ decide (0 ≤ r) = xs.any p) ∧ Below w.heap.size w w' := by
  have HL : Hid (xs.length = n) := Lib.hid (reads_len hr)
  have HP := Lib.hid hp
  have HR := Lib.hid hr
  clear hp hr
  go_enter Try.func111, Try.ntmps111
  go_wp2
  go_loopw [8] (fun i wr => ∃ (j : Nat), i = .int .i64 j ∧ j ≤ n ∧ Hid ((xs.take j).any p = false) ∧ Below w.heap.size w wr) (fun i _ => n - (intOf i).toNat)
  case atStart => exact ⟨0, rfl, Nat.zero_le _, Lib.hid (by simp), Below.refl _ _⟩
  case round =>
    obtain ⟨j, rfl, hj, HA, hbel⟩ := hrel
    by_cases hlt : j < n
    · obtain ⟨b, off, x, rfl, _, hx, c0, c1⟩ := ent_at (HR.out.below hbel) hlt
      have HX := Lib.hid hx
      have HB := Lib.hid hbel
      clear hx hbel
      obtain ⟨f, wr_⟩ := x
      have hcall := HP.out f wr_ wr HB.out
      have HT := Lib.hid (any_take (p := p) HX.out)
      cases hq : p ⟨f, wr_⟩ with
      | true =>
        have HQ := Lib.hid hq
        rw [hq] at hcall
        clear hq
        go_wp2_with fail
        refine hcall.mono ?_
        rintro e w2 ⟨rfl, hb⟩
        clear c0 c1 hcall
        go_wp2_with fail
        go_ret
        refine ⟨⟨j, rfl, ?_⟩, below_then HB.out hb⟩
        have h1 : xs.any p = true := List.any_eq_true.2 ⟨_, List.mem_of_getElem? HX.out, HQ.out⟩
        rw [h1]
        exact decide_eq_true (by omega)
      | false =>
        have HQ := Lib.hid hq
        rw [hq] at hcall
        clear hq
        go_wp2_with fail
        refine hcall.mono ?_
        rintro e w2 ⟨rfl, hb⟩
        clear c0 c1 hcall
        go_wp2_with fail
        go_roundw
        case rel => exact ⟨j + 1, by go_num, by omega, Lib.hid (by rw [HT.out, HA.out, HQ.out]; rfl), below_then HB.out hb⟩
        case measure => simp [intOf]; omega
    · have hjn : j = n := by omega
      subst hjn
      have hz : xs.any p = false := by
        have h := HA.out
        rwa [List.take_of_length_le (by rw [HL.out]; exact Nat.le_refl _)] at h
      have HZ := Lib.hid hz
      clear hz HP eg HA
      go_wp2_with fail
      go_ret
      exact ⟨⟨-1, rfl, HZ.out.symm⟩, hbel⟩
set_option maxRecDepth 100000 in
set_option maxHeartbeats 2000000 in
theorem containsFunc_any (A : Option Addr) (n c k : Nat) (lb : Array Value) (p : Ent → Bool) (eg : ∀ args w, (callFunc k args).run Try.prog w = .ok (.enter k args) w) (xs : List Ent) (w : World) (hr : Reads w w.heap.size 2 A n (FL xs)) (hn : n ≤ 1048576) (hp : Tells k lb p w) :
    Calls Try.prog 101 #[.slice A n c, .func (.func k) #[] lb] w fun e w' => e = .returned (.bool (xs.any p)) ∧ Below w.heap.size w w' := by
  go_enter Try.func101, Try.ntmps101
  go_wp2_with fail
  refine (indexFunc_any A n c k lb p eg xs _ hr hn hp).mono ?_
  rintro e w1 ⟨⟨r, rfl, hr1⟩, hb⟩
  go_wp2_with fail
  go_ret
  exact ⟨by rw [← hr1]; rfl, hb⟩
theorem hasFrame_tells (w : World) : Tells 71 #[] (fun x => decide (x.f ≠ -1)) w := fun f wr w' _ => hasFrame_any f wr _ rfl w'
theorem wrong_tells (w : World) : Tells 108 #[] (fun x => decide (Wrong x)) w := fun f wr w' _ => isWrongEntry_any f wr _ rfl w'
theorem hasFrame_enters : ∀ args w, (callFunc 71 args).run Try.prog w = .ok (.enter 71 args) w := enters_of Try.func71 (by kernel_rfl) rfl
theorem wrong_enters : ∀ args w, (callFunc 108 args).run Try.prog w = .ok (.enter 108 args) w := enters_of Try.func108 (by kernel_rfl) rfl
set_option maxHeartbeats 1000000 in
theorem isEmpty_any (A : Option Addr) (n c : Nat) (xs : List Ent) (w : World) (hr : Reads w w.heap.size 2 A n (FL xs)) (hn : n ≤ 1048576) (b : Bool) (hb : (!xs.any fun x => decide (x.f ≠ -1)) = b) :
    Calls Try.prog 59 #[.slice A n c] w fun e w' => e = .returned (.bool b) ∧ Below w.heap.size w w' := by
  have HB := Lib.hid hb
  clear hb
  go_enter Try.func59, Try.ntmps59
  go_wp2_with fail
  refine (containsFunc_any A n c _ #[] _ hasFrame_enters xs _ hr hn (hasFrame_tells _)).mono ?_
  obtain ⟨q, hq⟩ : ∃ q, (xs.any fun x => decide (x.f ≠ -1)) = q := ⟨_, rfl⟩
  rw [hq] at HB ⊢
  rintro e w1 ⟨rfl, hb⟩
  go_wp2_with fail
  go_ret
  exact ⟨by rw [← HB.out]; rfl, hb⟩
end Go.Proofs.Ytaamjnpknmimmab.L4
