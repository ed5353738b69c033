/- What the draws of lines answer: line, lines7. -/
import Derived.Test.YtfdbnolifimnhaaDSt
import Derived.Test.YtfdbnolifimnhaaDrawO
import Derived.Test.YtfdbnolifimnhaaOne
import Derived.Test.YtfdbnolifimnhaaAmong
import Derived.Test.YtfdbnolifimnhaaNew
import Derived.Test.YtfdbnolifimnhaaLnN
import Derived.Test.YtfdbnolifimnhaaLinA
import Derived.Deep.Cut
import Derived.Deep.CutBlock
namespace Go.Proofs.Ytfdbnolifimnhaa.Draw
open Go Go.RowKit Go.Proofs.Ytfdbnolifimnhaa.Mem Go.Proofs.Ytfdbnolifimnhaa.Own Go.Proofs.Ytfdbnolifimnhaa.L7
set_option linter.unusedVariables false
/-- some line that has been drawn -/
def AnyLine (w : World) (g B : Nat) (A : Option Addr) (n cp : Nat) (zs : List Int) (t : Nat) (e : Ending) (w' : World) : Prop :=
  ∃ (x0 x1 : Int) (x2 x3 : Bool), e = .returned (.agg #[.int .i64 x0, .int .i64 x1, .bool x2, .bool x3]) ∧ (∃ t', t' ≤ t + 20 ∧ Cur w' g B A n cp zs t') ∧ w.grownBy w' (some g)
set_option maxRecDepth 100000 in
set_option maxHeartbeats 1000000 in
theorem line_any (w : World) (g B : Nat) (A : Option Addr) (n cp : Nat) (zs : List Int) (t : Nat) (hz : ∀ z ∈ zs, 0 ≤ z ∧ z ≤ 255) (hc : Cur w g B A n cp zs t) (ht : t ≤ 850000) (hn : n ≤ 1000000) :
    Calls Try.prog 131 #[.pointer (some ⟨g, 0, none⟩)] w (AnyLine w g B A n cp zs t) := by
  have HZ := Lib.hid hz
  have hgl := hc.lt
  have HC := Lib.hid (hc.alloc (.cells #[.int .i64 0, .int .i64 0, .bool false, .bool false] 58))
  have HG := Lib.hid (World.grownBy.refl (w.alloc (.cells #[.int .i64 0, .int .i64 0, .bool false, .bool false] 58)) (some g))
  clear hz hc
  go_enter Try.func131, Try.ntmps131
  go_wp2_with fail
  refine (pick_any _ g B A n cp zs _ HZ.out HC.out (by omega) hn 2 (by omega) (by omega)).mono ?_
  rintro e w1 ⟨x, rfl, hx0, hx1, ⟨a1, ha1, hc⟩, hg⟩
  replace HC := Lib.hid hc
  replace HG := Lib.hid (grown_trans' HG.out hg)
  clear hc hg
  go_wp2_with fail
  refine (among_list _ g B A n cp zs _ HZ.out HC.out (by omega) hn [0, 1, 1, 3, 7] _ rfl 3 5 rfl (by omega) (by omega)).mono ?_
  rintro e w2 ⟨y, rfl, _, ⟨a2, ha2, hc⟩, hg⟩
  replace HC := Lib.hid hc
  replace HG := Lib.hid (grown_trans' HG.out hg)
  clear hc hg
  go_wp2_with fail
  refine (one_any _ g B A n cp zs _ HZ.out HC.out (by omega) hn 2 (by omega) (by omega)).mono ?_
  rintro e w3 ⟨p, rfl, ⟨a3, ha3, hc⟩, hg⟩
  replace HC := Lib.hid hc
  replace HG := Lib.hid (grown_trans' HG.out hg)
  clear hc hg
  go_wp2_with fail
  refine (one_any _ g B A n cp zs _ HZ.out HC.out (by omega) hn 2 (by omega) (by omega)).mono ?_
  rintro e w4 ⟨q, rfl, ⟨a4, ha4, hc⟩, hg⟩
  replace HC := Lib.hid hc
  replace HG := Lib.hid (grown_trans' HG.out hg)
  clear hc hg
  have H := Lib.hid (DSt.start HC.out HG.out hgl #[.int .i64 x, .int .i64 y, .bool p, .bool q])
  obtain ⟨T, hT⟩ : ∃ T, w4.heap.size = T := ⟨_, rfl⟩
  obtain ⟨wa, hwa⟩ : ∃ wa, w4.alloc (.cells #[.int .i64 x, .int .i64 y, .bool p, .bool q] 58) = wa := ⟨_, rfl⟩
  rw [hwa, hT] at H
  have HW := Lib.hid hwa
  have HT := Lib.hid hT
  clear HC HG hwa hT
  go_upto_region 2 with fail
  rw [HW.out, HT.out]
  clear HW HT
  have hx : x = 0 ∨ x = 1 := by omega
  rcases hx with rfl | rfl
  · skip
    have k0 := H.out.loc.cell 0 _ rfl
    have k1 := H.out.loc.cell 1 _ rfl
    have k2 := H.out.loc.cell 2 _ rfl
    have k3 := H.out.loc.cell 3 _ rfl
    go_upto_region 4 with fail
    clear k0 k1 k2 k3
    go_wp2_with fail
    refine (pick_any _ g B A n cp zs _ HZ.out H.out.cur (by omega) hn 60 (by omega) (by omega)).mono ?_
    rintro e v6 ⟨sw, rfl, hsw0, hsw1, ⟨u6, hu6, hc⟩, hg⟩
    replace H := Lib.hid (H.out.draw hg hc)
    clear hc hg
    by_cases h0 : sw = 0
    · subst h0
      go_wp2_with fail
      refine (among_list _ g B A n cp zs _ HZ.out H.out.cur (by omega) hn [-1, 2] _ rfl 3 2 rfl (by omega) (by omega)).mono ?_
      rintro e v7 ⟨kk, rfl, _, ⟨u7, hu7, hc⟩, hg⟩
      replace H := Lib.hid (H.out.draw hg hc)
      clear hc hg
      have k0 := H.out.loc.cell 0 _ rfl
      have k1 := H.out.loc.cell 1 _ rfl
      have k2 := H.out.loc.cell 2 _ rfl
      have k3 := H.out.loc.cell 3 _ rfl
      have kf0 := H.out.loc.free 0
      go_upto_region 9 with fail
      replace H := Lib.hid (H.out.set 0 (.int .i64 kk))
      clear k0 k1 k2 k3 kf0
      revert H
      generalize (World.setCell _ _ _) = wx
      intro H
      have k0 := H.out.loc.cell 0 _ rfl
      have k1 := H.out.loc.cell 1 _ rfl
      have k2 := H.out.loc.cell 2 _ rfl
      have k3 := H.out.loc.cell 3 _ rfl
      have q0 := H.out.res.cell 0 _ rfl
      have f0 := H.out.res.free 0
      have q1 := H.out.res.cell 1 _ rfl
      have f1 := H.out.res.free 1
      have q2 := H.out.res.cell 2 _ rfl
      have f2 := H.out.res.free 2
      have q3 := H.out.res.cell 3 _ rfl
      have f3 := H.out.res.free 3
      go_wp2_with fail
      replace H := Lib.hid ((((H.out.put 0 (.int .i64 kk)).put 1 (.int .i64 y)).put 2 (.bool p)).put 3 (.bool q))
      clear k0 k1 k2 k3 q0 f0 q1 f1 q2 f2 q3 f3
      revert H
      generalize (World.setCell (World.setCell (World.setCell (World.setCell _ _ _) _ _) _ _) _ _) = wz
      intro H
      have z0 := H.out.res.cell 0 _ rfl
      have z1 := H.out.res.cell 1 _ rfl
      have z2 := H.out.res.cell 2 _ rfl
      have z3 := H.out.res.cell 3 _ rfl
      exact bodyPost_ret (v := .agg #[.int .i64 kk, .int .i64 y, .bool p, .bool q]) (by simp [results, Try.results131, go_sem, z0, z1, z2, z3]) rfl ⟨_, _, _, _, rfl, ⟨u7, by omega, H.out.cur⟩, H.out.gr⟩
    replace h0 : (sw == 0) = false := by simpa using h0
    by_cases h1 : sw = 1
    · subst h1
      clear h0
      go_wp2_with fail
      refine (among_list _ g B A n cp zs _ HZ.out H.out.cur (by omega) hn [-1, 8] _ rfl 3 2 rfl (by omega) (by omega)).mono ?_
      rintro e v7 ⟨kk, rfl, _, ⟨u7, hu7, hc⟩, hg⟩
      replace H := Lib.hid (H.out.draw hg hc)
      clear hc hg
      have k0 := H.out.loc.cell 0 _ rfl
      have k1 := H.out.loc.cell 1 _ rfl
      have k2 := H.out.loc.cell 2 _ rfl
      have k3 := H.out.loc.cell 3 _ rfl
      have kf1 := H.out.loc.free 1
      go_upto_region 9 with fail
      replace H := Lib.hid (H.out.set 1 (.int .i64 kk))
      clear k0 k1 k2 k3 kf1
      revert H
      generalize (World.setCell _ _ _) = wx
      intro H
      have k0 := H.out.loc.cell 0 _ rfl
      have k1 := H.out.loc.cell 1 _ rfl
      have k2 := H.out.loc.cell 2 _ rfl
      have k3 := H.out.loc.cell 3 _ rfl
      have q0 := H.out.res.cell 0 _ rfl
      have f0 := H.out.res.free 0
      have q1 := H.out.res.cell 1 _ rfl
      have f1 := H.out.res.free 1
      have q2 := H.out.res.cell 2 _ rfl
      have f2 := H.out.res.free 2
      have q3 := H.out.res.cell 3 _ rfl
      have f3 := H.out.res.free 3
      go_wp2_with fail
      replace H := Lib.hid ((((H.out.put 0 (.int .i64 0)).put 1 (.int .i64 kk)).put 2 (.bool p)).put 3 (.bool q))
      clear k0 k1 k2 k3 q0 f0 q1 f1 q2 f2 q3 f3
      revert H
      generalize (World.setCell (World.setCell (World.setCell (World.setCell _ _ _) _ _) _ _) _ _) = wz
      intro H
      have z0 := H.out.res.cell 0 _ rfl
      have z1 := H.out.res.cell 1 _ rfl
      have z2 := H.out.res.cell 2 _ rfl
      have z3 := H.out.res.cell 3 _ rfl
      exact bodyPost_ret (v := .agg #[.int .i64 0, .int .i64 kk, .bool p, .bool q]) (by simp [results, Try.results131, go_sem, z0, z1, z2, z3]) rfl ⟨_, _, _, _, rfl, ⟨u7, by omega, H.out.cur⟩, H.out.gr⟩
    replace h1 : (sw == 1) = false := by simpa using h1
    go_upto_region 9 with fail
    clear h0 h1
    have k0 := H.out.loc.cell 0 _ rfl
    have k1 := H.out.loc.cell 1 _ rfl
    have k2 := H.out.loc.cell 2 _ rfl
    have k3 := H.out.loc.cell 3 _ rfl
    have q0 := H.out.res.cell 0 _ rfl
    have f0 := H.out.res.free 0
    have q1 := H.out.res.cell 1 _ rfl
    have f1 := H.out.res.free 1
    have q2 := H.out.res.cell 2 _ rfl
    have f2 := H.out.res.free 2
    have q3 := H.out.res.cell 3 _ rfl
    have f3 := H.out.res.free 3
    go_wp2_with fail
    replace H := Lib.hid ((((H.out.put 0 (.int .i64 0)).put 1 (.int .i64 y)).put 2 (.bool p)).put 3 (.bool q))
    clear k0 k1 k2 k3 q0 f0 q1 f1 q2 f2 q3 f3
    revert H
    generalize (World.setCell (World.setCell (World.setCell (World.setCell _ _ _) _ _) _ _) _ _) = wz
    intro H
    have z0 := H.out.res.cell 0 _ rfl
    have z1 := H.out.res.cell 1 _ rfl
    have z2 := H.out.res.cell 2 _ rfl
    have z3 := H.out.res.cell 3 _ rfl
    exact bodyPost_ret (v := .agg #[.int .i64 0, .int .i64 y, .bool p, .bool q]) (by simp [results, Try.results131, go_sem, z0, z1, z2, z3]) rfl ⟨_, _, _, _, rfl, ⟨u6, by omega, H.out.cur⟩, H.out.gr⟩
  · skip
    have k0 := H.out.loc.cell 0 _ rfl
    have k1 := H.out.loc.cell 1 _ rfl
    have k2 := H.out.loc.cell 2 _ rfl
    have k3 := H.out.loc.cell 3 _ rfl
    go_wp2_with fail
    refine (one_any _ g B A n cp zs _ HZ.out H.out.cur (by omega) hn 40 (by omega) (by omega)).mono ?_
    rintro e v5 ⟨b5, rfl, ⟨u5, hu5, hc⟩, hg⟩
    replace H := Lib.hid (H.out.draw hg hc)
    clear hc hg k0 k1 k2 k3
    cases b5 with
    | true =>
      go_upto_region 4 with fail
      go_wp2_with fail
      refine (pick_any _ g B A n cp zs _ HZ.out H.out.cur (by omega) hn 60 (by omega) (by omega)).mono ?_
      rintro e v6 ⟨sw, rfl, hsw0, hsw1, ⟨u6, hu6, hc⟩, hg⟩
      replace H := Lib.hid (H.out.draw hg hc)
      clear hc hg
      by_cases h0 : sw = 0
      · subst h0
        go_wp2_with fail
        refine (among_list _ g B A n cp zs _ HZ.out H.out.cur (by omega) hn [-1, 2] _ rfl 3 2 rfl (by omega) (by omega)).mono ?_
        rintro e v7 ⟨kk, rfl, _, ⟨u7, hu7, hc⟩, hg⟩
        replace H := Lib.hid (H.out.draw hg hc)
        clear hc hg
        have k0 := H.out.loc.cell 0 _ rfl
        have k1 := H.out.loc.cell 1 _ rfl
        have k2 := H.out.loc.cell 2 _ rfl
        have k3 := H.out.loc.cell 3 _ rfl
        have kf0 := H.out.loc.free 0
        go_upto_region 9 with fail
        replace H := Lib.hid (H.out.set 0 (.int .i64 kk))
        clear k0 k1 k2 k3 kf0
        revert H
        generalize (World.setCell _ _ _) = wx
        intro H
        have k0 := H.out.loc.cell 0 _ rfl
        have k1 := H.out.loc.cell 1 _ rfl
        have k2 := H.out.loc.cell 2 _ rfl
        have k3 := H.out.loc.cell 3 _ rfl
        have q0 := H.out.res.cell 0 _ rfl
        have f0 := H.out.res.free 0
        have q1 := H.out.res.cell 1 _ rfl
        have f1 := H.out.res.free 1
        have q2 := H.out.res.cell 2 _ rfl
        have f2 := H.out.res.free 2
        have q3 := H.out.res.cell 3 _ rfl
        have f3 := H.out.res.free 3
        go_wp2_with fail
        replace H := Lib.hid ((((H.out.put 0 (.int .i64 kk)).put 1 (.int .i64 y)).put 2 (.bool p)).put 3 (.bool q))
        clear k0 k1 k2 k3 q0 f0 q1 f1 q2 f2 q3 f3
        revert H
        generalize (World.setCell (World.setCell (World.setCell (World.setCell _ _ _) _ _) _ _) _ _) = wz
        intro H
        have z0 := H.out.res.cell 0 _ rfl
        have z1 := H.out.res.cell 1 _ rfl
        have z2 := H.out.res.cell 2 _ rfl
        have z3 := H.out.res.cell 3 _ rfl
        exact bodyPost_ret (v := .agg #[.int .i64 kk, .int .i64 y, .bool p, .bool q]) (by simp [results, Try.results131, go_sem, z0, z1, z2, z3]) rfl ⟨_, _, _, _, rfl, ⟨u7, by omega, H.out.cur⟩, H.out.gr⟩
      replace h0 : (sw == 0) = false := by simpa using h0
      by_cases h1 : sw = 1
      · subst h1
        clear h0
        go_wp2_with fail
        refine (among_list _ g B A n cp zs _ HZ.out H.out.cur (by omega) hn [-1, 8] _ rfl 3 2 rfl (by omega) (by omega)).mono ?_
        rintro e v7 ⟨kk, rfl, _, ⟨u7, hu7, hc⟩, hg⟩
        replace H := Lib.hid (H.out.draw hg hc)
        clear hc hg
        have k0 := H.out.loc.cell 0 _ rfl
        have k1 := H.out.loc.cell 1 _ rfl
        have k2 := H.out.loc.cell 2 _ rfl
        have k3 := H.out.loc.cell 3 _ rfl
        have kf1 := H.out.loc.free 1
        go_upto_region 9 with fail
        replace H := Lib.hid (H.out.set 1 (.int .i64 kk))
        clear k0 k1 k2 k3 kf1
        revert H
        generalize (World.setCell _ _ _) = wx
        intro H
        have k0 := H.out.loc.cell 0 _ rfl
        have k1 := H.out.loc.cell 1 _ rfl
        have k2 := H.out.loc.cell 2 _ rfl
        have k3 := H.out.loc.cell 3 _ rfl
        have q0 := H.out.res.cell 0 _ rfl
        have f0 := H.out.res.free 0
        have q1 := H.out.res.cell 1 _ rfl
        have f1 := H.out.res.free 1
        have q2 := H.out.res.cell 2 _ rfl
        have f2 := H.out.res.free 2
        have q3 := H.out.res.cell 3 _ rfl
        have f3 := H.out.res.free 3
        go_wp2_with fail
        replace H := Lib.hid ((((H.out.put 0 (.int .i64 1)).put 1 (.int .i64 kk)).put 2 (.bool p)).put 3 (.bool q))
        clear k0 k1 k2 k3 q0 f0 q1 f1 q2 f2 q3 f3
        revert H
        generalize (World.setCell (World.setCell (World.setCell (World.setCell _ _ _) _ _) _ _) _ _) = wz
        intro H
        have z0 := H.out.res.cell 0 _ rfl
        have z1 := H.out.res.cell 1 _ rfl
        have z2 := H.out.res.cell 2 _ rfl
        have z3 := H.out.res.cell 3 _ rfl
        exact bodyPost_ret (v := .agg #[.int .i64 1, .int .i64 kk, .bool p, .bool q]) (by simp [results, Try.results131, go_sem, z0, z1, z2, z3]) rfl ⟨_, _, _, _, rfl, ⟨u7, by omega, H.out.cur⟩, H.out.gr⟩
      replace h1 : (sw == 1) = false := by simpa using h1
      go_upto_region 9 with fail
      clear h0 h1
      have k0 := H.out.loc.cell 0 _ rfl
      have k1 := H.out.loc.cell 1 _ rfl
      have k2 := H.out.loc.cell 2 _ rfl
      have k3 := H.out.loc.cell 3 _ rfl
      have q0 := H.out.res.cell 0 _ rfl
      have f0 := H.out.res.free 0
      have q1 := H.out.res.cell 1 _ rfl
      have f1 := H.out.res.free 1
      have q2 := H.out.res.cell 2 _ rfl
      have f2 := H.out.res.free 2
      have q3 := H.out.res.cell 3 _ rfl
      have f3 := H.out.res.free 3
      go_wp2_with fail
      replace H := Lib.hid ((((H.out.put 0 (.int .i64 1)).put 1 (.int .i64 y)).put 2 (.bool p)).put 3 (.bool q))
      clear k0 k1 k2 k3 q0 f0 q1 f1 q2 f2 q3 f3
      revert H
      generalize (World.setCell (World.setCell (World.setCell (World.setCell _ _ _) _ _) _ _) _ _) = wz
      intro H
      have z0 := H.out.res.cell 0 _ rfl
      have z1 := H.out.res.cell 1 _ rfl
      have z2 := H.out.res.cell 2 _ rfl
      have z3 := H.out.res.cell 3 _ rfl
      exact bodyPost_ret (v := .agg #[.int .i64 1, .int .i64 y, .bool p, .bool q]) (by simp [results, Try.results131, go_sem, z0, z1, z2, z3]) rfl ⟨_, _, _, _, rfl, ⟨u6, by omega, H.out.cur⟩, H.out.gr⟩
    | false =>
      have k0 := H.out.loc.cell 0 _ rfl
      have k1 := H.out.loc.cell 1 _ rfl
      have k2 := H.out.loc.cell 2 _ rfl
      have k3 := H.out.loc.cell 3 _ rfl
      have kf3 := H.out.loc.free 3
      go_upto_region 4 with fail
      replace H := Lib.hid (H.out.set 3 (.bool p))
      clear k0 k1 k2 k3 kf3
      revert H
      generalize (World.setCell _ _ _) = wx
      intro H
      go_wp2_with fail
      refine (pick_any _ g B A n cp zs _ HZ.out H.out.cur (by omega) hn 60 (by omega) (by omega)).mono ?_
      rintro e v6 ⟨sw, rfl, hsw0, hsw1, ⟨u6, hu6, hc⟩, hg⟩
      replace H := Lib.hid (H.out.draw hg hc)
      clear hc hg
      by_cases h0 : sw = 0
      · subst h0
        go_wp2_with fail
        refine (among_list _ g B A n cp zs _ HZ.out H.out.cur (by omega) hn [-1, 2] _ rfl 3 2 rfl (by omega) (by omega)).mono ?_
        rintro e v7 ⟨kk, rfl, _, ⟨u7, hu7, hc⟩, hg⟩
        replace H := Lib.hid (H.out.draw hg hc)
        clear hc hg
        have k0 := H.out.loc.cell 0 _ rfl
        have k1 := H.out.loc.cell 1 _ rfl
        have k2 := H.out.loc.cell 2 _ rfl
        have k3 := H.out.loc.cell 3 _ rfl
        have kf0 := H.out.loc.free 0
        go_upto_region 9 with fail
        replace H := Lib.hid (H.out.set 0 (.int .i64 kk))
        clear k0 k1 k2 k3 kf0
        revert H
        generalize (World.setCell _ _ _) = wx
        intro H
        have k0 := H.out.loc.cell 0 _ rfl
        have k1 := H.out.loc.cell 1 _ rfl
        have k2 := H.out.loc.cell 2 _ rfl
        have k3 := H.out.loc.cell 3 _ rfl
        have q0 := H.out.res.cell 0 _ rfl
        have f0 := H.out.res.free 0
        have q1 := H.out.res.cell 1 _ rfl
        have f1 := H.out.res.free 1
        have q2 := H.out.res.cell 2 _ rfl
        have f2 := H.out.res.free 2
        have q3 := H.out.res.cell 3 _ rfl
        have f3 := H.out.res.free 3
        go_wp2_with fail
        replace H := Lib.hid ((((H.out.put 0 (.int .i64 kk)).put 1 (.int .i64 y)).put 2 (.bool p)).put 3 (.bool p))
        clear k0 k1 k2 k3 q0 f0 q1 f1 q2 f2 q3 f3
        revert H
        generalize (World.setCell (World.setCell (World.setCell (World.setCell _ _ _) _ _) _ _) _ _) = wz
        intro H
        have z0 := H.out.res.cell 0 _ rfl
        have z1 := H.out.res.cell 1 _ rfl
        have z2 := H.out.res.cell 2 _ rfl
        have z3 := H.out.res.cell 3 _ rfl
        exact bodyPost_ret (v := .agg #[.int .i64 kk, .int .i64 y, .bool p, .bool p]) (by simp [results, Try.results131, go_sem, z0, z1, z2, z3]) rfl ⟨_, _, _, _, rfl, ⟨u7, by omega, H.out.cur⟩, H.out.gr⟩
      replace h0 : (sw == 0) = false := by simpa using h0
      by_cases h1 : sw = 1
      · subst h1
        clear h0
        go_wp2_with fail
        refine (among_list _ g B A n cp zs _ HZ.out H.out.cur (by omega) hn [-1, 8] _ rfl 3 2 rfl (by omega) (by omega)).mono ?_
        rintro e v7 ⟨kk, rfl, _, ⟨u7, hu7, hc⟩, hg⟩
        replace H := Lib.hid (H.out.draw hg hc)
        clear hc hg
        have k0 := H.out.loc.cell 0 _ rfl
        have k1 := H.out.loc.cell 1 _ rfl
        have k2 := H.out.loc.cell 2 _ rfl
        have k3 := H.out.loc.cell 3 _ rfl
        have kf1 := H.out.loc.free 1
        go_upto_region 9 with fail
        replace H := Lib.hid (H.out.set 1 (.int .i64 kk))
        clear k0 k1 k2 k3 kf1
        revert H
        generalize (World.setCell _ _ _) = wx
        intro H
        have k0 := H.out.loc.cell 0 _ rfl
        have k1 := H.out.loc.cell 1 _ rfl
        have k2 := H.out.loc.cell 2 _ rfl
        have k3 := H.out.loc.cell 3 _ rfl
        have q0 := H.out.res.cell 0 _ rfl
        have f0 := H.out.res.free 0
        have q1 := H.out.res.cell 1 _ rfl
        have f1 := H.out.res.free 1
        have q2 := H.out.res.cell 2 _ rfl
        have f2 := H.out.res.free 2
        have q3 := H.out.res.cell 3 _ rfl
        have f3 := H.out.res.free 3
        go_wp2_with fail
        replace H := Lib.hid ((((H.out.put 0 (.int .i64 1)).put 1 (.int .i64 kk)).put 2 (.bool p)).put 3 (.bool p))
        clear k0 k1 k2 k3 q0 f0 q1 f1 q2 f2 q3 f3
        revert H
        generalize (World.setCell (World.setCell (World.setCell (World.setCell _ _ _) _ _) _ _) _ _) = wz
        intro H
        have z0 := H.out.res.cell 0 _ rfl
        have z1 := H.out.res.cell 1 _ rfl
        have z2 := H.out.res.cell 2 _ rfl
        have z3 := H.out.res.cell 3 _ rfl
        exact bodyPost_ret (v := .agg #[.int .i64 1, .int .i64 kk, .bool p, .bool p]) (by simp [results, Try.results131, go_sem, z0, z1, z2, z3]) rfl ⟨_, _, _, _, rfl, ⟨u7, by omega, H.out.cur⟩, H.out.gr⟩
      replace h1 : (sw == 1) = false := by simpa using h1
      go_upto_region 9 with fail
      clear h0 h1
      have k0 := H.out.loc.cell 0 _ rfl
      have k1 := H.out.loc.cell 1 _ rfl
      have k2 := H.out.loc.cell 2 _ rfl
      have k3 := H.out.loc.cell 3 _ rfl
      have q0 := H.out.res.cell 0 _ rfl
      have f0 := H.out.res.free 0
      have q1 := H.out.res.cell 1 _ rfl
      have f1 := H.out.res.free 1
      have q2 := H.out.res.cell 2 _ rfl
      have f2 := H.out.res.free 2
      have q3 := H.out.res.cell 3 _ rfl
      have f3 := H.out.res.free 3
      go_wp2_with fail
      replace H := Lib.hid ((((H.out.put 0 (.int .i64 1)).put 1 (.int .i64 y)).put 2 (.bool p)).put 3 (.bool p))
      clear k0 k1 k2 k3 q0 f0 q1 f1 q2 f2 q3 f3
      revert H
      generalize (World.setCell (World.setCell (World.setCell (World.setCell _ _ _) _ _) _ _) _ _) = wz
      intro H
      have z0 := H.out.res.cell 0 _ rfl
      have z1 := H.out.res.cell 1 _ rfl
      have z2 := H.out.res.cell 2 _ rfl
      have z3 := H.out.res.cell 3 _ rfl
      exact bodyPost_ret (v := .agg #[.int .i64 1, .int .i64 y, .bool p, .bool p]) (by simp [results, Try.results131, go_sem, z0, z1, z2, z3]) rfl ⟨_, _, _, _, rfl, ⟨u6, by omega, H.out.cur⟩, H.out.gr⟩
/-- a cursor and a list of lines beside it -/
structure LnSt (w wr : World) (g B : Nat) (A : Option Addr) (n cp : Nat) (zs : List Int) (t : Nat) (v : Value) (m : Nat) (xs : List Lin) : Prop where
  cur : Cur wr g B A n cp zs t
  gr : w.grownBy wr (some g)
  own : wr.ownsRow w.heap.size 58 4 v m (FL xs)
  hg : g < w.heap.size
section
variable {w wr w' : World} {g B n cp t t' m m' : Nat} {A : Option Addr} {zs : List Int} {v v' : Value} {xs xs' : List Lin}
theorem LnSt.draw (h : LnSt w wr g B A n cp zs t v m xs) (hg : wr.grownBy w' (some g)) (hc : Cur w' g B A n cp zs t') : LnSt w w' g B A n cp zs t' v m xs :=
  ⟨hc, grown_trans' h.gr hg, own_cur h.own hg h.hg, h.hg⟩
theorem LnSt.below (h : LnSt w wr g B A n cp zs t v m xs) (hb : Below wr.heap.size wr w') : LnSt w w' g B A n cp zs t v m xs :=
  ⟨h.cur.below hb, grown_trans' h.gr ⟨hb.os, hb.tape, hb.output, hb.size, fun k hk _ => hb.block k hk⟩, own_below h.own hb, h.hg⟩
theorem LnSt.grow (h : LnSt w wr g B A n cp zs t v m xs) (hg : wr.grownBy w' v.ownBlock) (ho : w'.ownsRow w.heap.size 58 4 v' m' (FL xs')) : LnSt w w' g B A n cp zs t v' m' xs' :=
  ⟨h.cur.grown hg (fun r e => Nat.lt_of_lt_of_le h.hg (h.own.lt r e).1), grown_over h.gr hg (fun r e => (h.own.lt r e).1), ho, h.hg⟩
theorem LnSt.alloc (h : LnSt w wr g B A n cp zs t v m xs) (o : Obj) : LnSt w (wr.alloc o) g B A n cp zs t v m xs := h.below (below_more (Below.refl _ _) o)
end
/-- a list of at most seven lines has been drawn -/
def LinesDrawn (w : World) (g B : Nat) (A : Option Addr) (n cp : Nat) (zs : List Int) (t : Nat) (e : Ending) (w' : World) : Prop :=
  ∃ (m gl c t' : Nat) (xs : List Lin), e = .returned (.slice (some ⟨gl, 0, none⟩) m c) ∧ m ≤ 7 ∧ t' ≤ t + 130 ∧ LnSt w w' g B A n cp zs t' (.slice (some ⟨gl, 0, none⟩) m c) m xs
def lenV : Value → Nat
  | .slice _ n _ => n
  | _ => 0
set_option maxRecDepth 100000 in
set_option maxHeartbeats 1000000 in
theorem lines7_any (w : World) (g B : Nat) (A : Option Addr) (n cp : Nat) (zs : List Int) (t : Nat) (hz : ∀ z ∈ zs, 0 ≤ z ∧ z ≤ 255) (hc : Cur w g B A n cp zs t) (ht : t ≤ 800000) (hn : n ≤ 1000000) :
    Calls Try.prog 138 #[.pointer (some ⟨g, 0, none⟩)] w (LinesDrawn w g B A n cp zs t) := by
  obtain ⟨i0, hi, hz0, hz1, hz2⟩ := info_parts infoLin
  have HZ := Lib.hid hz
  have HL0 : Hid (LnSt w (w.alloc (.cells #[] 58)) g B A n cp zs t (.slice (some ⟨w.heap.size, 0, none⟩) 0 0) 0 []) := Lib.hid ⟨hc.alloc _, World.grownBy_alloc w _ (some g), World.ownsRow_made w #[] 0 (Nat.le_refl _) (Nat.zero_le _) rfl, hc.lt⟩
  clear hz hc
  go_enter Try.func138, Try.ntmps138
  go_wp2_with fail
  refine (pick_any _ g B A n cp zs _ HZ.out HL0.out.cur (by omega) hn 6 (by omega) (by omega)).mono ?_
  rintro e w1 ⟨y, rfl, hy0, hy1, ⟨a1, ha1, hc⟩, hg⟩
  replace HL0 := Lib.hid (HL0.out.draw hg hc)
  obtain ⟨y, rfl⟩ : ∃ k : Nat, y = k := ⟨y.toNat, by omega⟩
  clear hc hg
  go_wp2_with fail
  go_loopw [3, 4] (fun u3 u4 wr => ∃ (r k gl c t' : Nat) (xs : List Lin), u4 = .int .i64 r ∧ r + k ≤ 5 ∧ u3 = .slice (some ⟨gl, 0, none⟩) k c ∧ t' ≤ t + 2 + 20 * k ∧ Hid (LnSt w wr g B A n cp zs t' (.slice (some ⟨gl, 0, none⟩) k c) k xs)) (fun _ u4 _ => (intOf u4).toNat)
  case atStart => exact ⟨y, 0, _, 0, a1, [], rfl, by omega, rfl, by omega, HL0⟩
  case round =>
    clear HL0
    obtain ⟨r, k, gl, c, t', xs, rfl, hrk, rfl, htk, H⟩ := hrel
    by_cases hlt : 0 < r
    · have hr0 : decide ((0 : Nat) < r) = true := decide_eq_true hlt
      go_wp2_with fail
      refine (line_any _ g B A n cp zs _ HZ.out H.out.cur (by omega) hn).mono ?_
      rintro e v1 ⟨x0, x1, x2, x3, rfl, ⟨u1, hu1, hc⟩, hg⟩
      replace H := Lib.hid (H.out.draw hg hc)
      clear hc hg
      have hown := H.out.own
      have hsz := H.out.gr.size
      go_wp2_with (at_builtin; refine wpList_append_own _ rfl _ _ 66 rfl w.heap.size 58 i0 (.agg #[.int .i64 0, .int .i64 0, .bool false, .bool false]) 4 24 Try.underlying66 hi hz0 hz1 hz2 rfl (by decide) _ _ _ rfl (hown.alloc _) ⟨v1.heap.size, 0, none⟩ 1 1 [.int .i64 x0, .int .i64 x1, .bool x2, .bool x3] rfl rfl (L7.cells_new _ _ _) (one_lin ⟨x0, x1, x2, x3⟩) (by unfold maxLen; omega) (by omega) (by simp; omega) ?_; intro v' w4 hown1 hgrow1 _)
      obtain ⟨A6, c6, rfl, _, _⟩ := own_form hown1
      obtain ⟨g6, rfl⟩ := own_head hown1 (by omega)
      have hown2 : w4.ownsRow w.heap.size 58 4 (.slice (some ⟨g6, 0, none⟩) (k + 1) c6) (k + 1) (FL (xs ++ [⟨x0, x1, x2, x3⟩])) := by rw [← snoc_lin]; exact hown1
      have HN := Lib.hid ((H.out.alloc _).grow hgrow1 hown2)
      clear hown hsz hown1 hgrow1 hown2 H
      go_roundw
      case rel => exact ⟨r - 1, k + 1, g6, c6, u1, _, by first | (go_num; done) | (congr 1; omega), by omega, rfl, by omega, HN⟩
      case measure => simp [intOf]; omega
    · have hr0 : r = 0 := by omega
      subst hr0
      go_wp2_with fail
      refine (one_any _ g B A n cp zs _ HZ.out H.out.cur (by omega) hn 24 (by omega) (by omega)).mono ?_
      rintro e v2 ⟨b, rfl, ⟨u2, hu2, hc⟩, hg⟩
      replace H := Lib.hid (H.out.draw hg hc)
      clear hc hg
      cases b with
      | false =>
        go_wp2_with fail
        go_ret
        exact ⟨k, gl, c, u2, xs, rfl, by omega, by omega, H.out⟩
      | true =>
        obtain ⟨k0, hk0⟩ : ∃ k0, k0 = k := ⟨_, rfl⟩
        obtain ⟨g0, hg0⟩ : ∃ g0, g0 = gl := ⟨_, rfl⟩
        obtain ⟨c0, hc0⟩ : ∃ c0, c0 = c := ⟨_, rfl⟩
        rw [← hk0, ← hg0, ← hc0] at H
        have hk05 : k0 ≤ 5 := by omega
        have htk0 : u2 ≤ t + 110 := by omega
        rw [← hk0, ← hg0, ← hc0]
        have H0 := H
        obtain ⟨xs0, hxs0⟩ : ∃ xs0, xs0 = xs := ⟨_, rfl⟩
        rw [← hxs0] at H0
        clear H hk0 hg0 hc0 hrk htk hlt hxs0 hu2
        go_wp2_with fail
        go_loopw [3] (fun u3 wr => ∃ (k gl c t' : Nat) (xs : List Lin), u3 = .slice (some ⟨gl, 0, none⟩) k c ∧ k ≤ 7 ∧ t' ≤ t + 110 + 2 * k ∧ Hid (LnSt w wr g B A n cp zs t' (.slice (some ⟨gl, 0, none⟩) k c) k xs)) (fun u3 _ => 8 - lenV u3)
        case atStart => exact ⟨k0, g0, c0, u2, xs0, rfl, by omega, by omega, H0⟩
        case round =>
          clear H0
          obtain ⟨k, gl, c, t', xs, rfl, hk, htk, H⟩ := hrel
          go_wp2_with fail
          refine (pick_any _ g B A n cp zs _ HZ.out H.out.cur (by omega) hn 2 (by omega) (by omega)).mono ?_
          rintro e v3 ⟨s, rfl, hs0, hs1, ⟨u3, hu3, hc⟩, hg⟩
          replace H := Lib.hid (H.out.draw hg hc)
          clear hc hg
          have hws : IntKind.i64.wrap (6 + s) = 6 + s := IntWalk.i64_in _ (by omega)
          by_cases hlt : (k : Int) < 6 + s
          · skip
            have hown := H.out.own
            have hsz := H.out.gr.size
            go_wp2_with (at_builtin; refine wpList_append_own _ rfl _ _ 66 rfl w.heap.size 58 i0 (.agg #[.int .i64 0, .int .i64 0, .bool false, .bool false]) 4 24 Try.underlying66 hi hz0 hz1 hz2 rfl (by decide) _ _ _ rfl (hown.alloc _) ⟨v3.heap.size, 0, none⟩ 1 1 [.int .i64 0, .int .i64 2, .bool false, .bool false] rfl rfl (L7.cells_new _ _ _) (one_lin ⟨0, 2, false, false⟩) (by unfold maxLen; omega) (by omega) (by simp; omega) ?_; intro v' w4 hown1 hgrow1 _)
            obtain ⟨A6, c6, rfl, _, _⟩ := own_form hown1
            obtain ⟨g6, rfl⟩ := own_head hown1 (by omega)
            have hown2 : w4.ownsRow w.heap.size 58 4 (.slice (some ⟨g6, 0, none⟩) (k + 1) c6) (k + 1) (FL (xs ++ [⟨0, 2, false, false⟩])) := by rw [← snoc_lin]; exact hown1
            have HN := Lib.hid ((H.out.alloc _).grow hgrow1 hown2)
            clear hown hsz hown1 hgrow1 hown2 H
            go_roundw
            case rel => exact ⟨k + 1, g6, c6, u3, _, rfl, by omega, by omega, HN⟩
            case measure => simp [lenV]; omega
          · go_wp2_with fail
            go_ret
            exact ⟨k, gl, c, u3, xs, rfl, by omega, by omega, H.out⟩
end Go.Proofs.Ytfdbnolifimnhaa.Draw
