/- What spec.ParseAssembly answers. -/
import Derived.Test.YtfdbnolifimnhabDoorAsmR
import Derived.Test.YtfdbnolifimnhabDoorAsmS
import Derived.Test.YtfdbnolifimnhabDoorStepO
import Derived.Deep.Cut
import Derived.Deep.CutRange
namespace Go.Proofs.YtfdbnolifimnhabDoor.L3
open Go Go.RowKit Go.Proofs.YtfdbnolifimnhabDoor.Mem Go.Proofs.YtfdbnolifimnhabDoor.Own Go.Proofs.YtfdbnolifimnhabDoor.L1
/-- the result's block and the words, in a world -/
structure APst (w wr : World) (gv n cv : Nat) (ws : List ByteArray) : Prop where
  res : Blk wr w.heap.size 25 #[.int .i64 0, .int .i64 0, .int .i64 0, .int .i64 0]
  row : wr.ownsRow (w.heap.size + 1) 9 1 (.slice (some ⟨gv, 0, none⟩) n cv) n (ws.map .string)
  below : Below w.heap.size w wr
theorem APst.kept {w wr w' : World} {gv n cv : Nat} {ws : List ByteArray} (h : APst w wr gv n cv ws) (hb : Below wr.heap.size wr w') : APst w w' gv n cv ws :=
  ⟨Blk.kept hb h.res, own_below h.row hb, below_then h.below hb⟩
theorem APst.lt {w wr : World} {gv n cv : Nat} {ws : List ByteArray} (h : APst w wr gv n cv ws) : w.heap.size < gv ∧ gv < wr.heap.size := by
  have h1 : w.heap.size + 1 ≤ gv ∧ gv < wr.heap.size := h.row.lt gv rfl
  omega
theorem APst.set {w wr : World} {gv n cv : Nat} {ws : List ByteArray} (h : APst w wr gv n cv ws) {g j : Nat} (v : Value) (hg : gv < g) : APst w (wr.setCell ⟨g, j, none⟩ v) gv n cv ws :=
  ⟨h.res.other v (by have := h.lt.1; omega), own_set h.row v (fun e => by have e2 : gv = g := Option.some.inj e; omega), below_set h.below (by have := h.lt.1; omega) v⟩
theorem APst.word {w wr : World} {gv n cv k : Nat} {ws : List ByteArray} {u : ByteArray} (h : APst w wr gv n cv ws) (hk : ws[k]? = some u) : wr.cell? ⟨gv, k, none⟩ = some (.string u) := by
  have hl := h.row.1
  have hk2 : k < n := by
    have h1 := (List.getElem?_eq_some_iff.1 hk).1
    rw [List.length_map] at hl
    omega
  exact (h.row.cellAt k (by omega)).trans (by rw [List.getElem?_map, hk]; rfl)
theorem useA_is (op : Int) : useA op = decide (1 < cntA op) := by
  unfold useA cntA
  by_cases h : 1 ≤ op ∧ op ≤ 6 <;> simp [h]
theorem useB_is (op : Int) : useB op = decide (1 < cntB op) := by
  unfold useB cntB
  by_cases h : 2 ≤ op ∧ op ≤ 5 <;> simp [h]
theorem useN_is (op : Int) : useN op = decide (0 < mostN op) := by
  unfold useN mostN
  by_cases h : op = 1
  · simp [h]
  · by_cases h2 : 6 ≤ op ∧ op ≤ 8
    · simp [h, h2]; omega
    · by_cases h3 : op = 9
      · simp [h3]
      · simp [h, h2, h3]; omega
theorem parts_len (s : ByteArray) (c : UInt8) : (Parts s c).length ≤ s.size + 1 := by
  have h := (cuts_le s c s.size).2
  unfold Parts
  rw [List.length_append]
  simp
  exact h
theorem drop_at {ws : List ByteArray} {k : Nat} {u : ByteArray} (h : ws[k]? = some u) : ws.drop k = u :: ws.drop (k + 1) := by
  obtain ⟨h1, h2⟩ := List.getElem?_eq_some_iff.1 h
  rw [List.drop_eq_getElem_cons h1, h2]
/-- a word taken where one is wanted -/
def took (f : ByteArray → Int) (q : Bool) (r : List ByteArray) : Int := if q = true then hd f r else 0
def left (q : Bool) (r : List ByteArray) : List ByteArray := if q = true then r.tail else r
theorem no_word {ws r : List ByteArray} {k n : Nat} {q : Bool} (f : ByteArray → Int) (hn : ws.length = n) (hr : ws.drop k = r) (h : (q && decide ((k : Int) < n)) = false) : ws.drop k = left q r ∧ (0 : Int) = took f q r := by
  cases q with
  | false => exact ⟨by simpa [left] using hr, rfl⟩
  | true =>
    have h1 : ¬ (k : Int) < n := by simpa using h
    have h2 : ws.drop k = [] := List.drop_eq_nil_of_le (by omega)
    rw [← hr, h2]
    exact ⟨rfl, rfl⟩
theorem a_word {k n : Nat} {q : Bool} (h : (q && decide ((k : Int) < n)) = true) : q = true ∧ (k : Int) < n := by simpa using h
theorem word_took {ws r : List ByteArray} {k : Nat} {u : ByteArray} (f : ByteArray → Int) (hr : ws.drop k = r) (hd : ws.drop k = u :: ws.drop (k + 1)) : ws.drop (k + 1) = left true r ∧ f u = took f true r := by
  rw [← hr, hd]
  exact ⟨rfl, rfl⟩
theorem cand_took (f g : ByteArray → Int) (op : Int) (r : List ByteArray) : cand f g op r = ⟨op, took f (useA op) r, took f (useB op) (left (useA op) r), took g (useN op) (left (useB op) (left (useA op) r))⟩ := by
  unfold cand took left
  simp only [useA_is, useB_is, useN_is, decide_eq_true_eq]
theorem names_at {w : World} {g : Nat} (h : Blk w g 9 #[.string ⟨#[104, 97, 108, 116]⟩, .string ⟨#[115, 101, 116]⟩, .string ⟨#[109, 111, 118, 101]⟩, .string ⟨#[97, 100, 100]⟩, .string ⟨#[115, 117, 98]⟩, .string ⟨#[97, 110, 100]⟩, .string ⟨#[115, 104, 105, 102, 116]⟩, .string ⟨#[106, 117, 109, 112]⟩, .string ⟨#[106, 117, 109, 112, 122, 101, 114, 111]⟩, .string ⟨#[116, 114, 97, 112]⟩]) {k : Nat} (hk : k < 10) : w.cell? ⟨g, k, none⟩ = some (.string (opName k)) := by
  have h2 : k = 0 ∨ k = 1 ∨ k = 2 ∨ k = 3 ∨ k = 4 ∨ k = 5 ∨ k = 6 ∨ k = 7 ∨ k = 8 ∨ k = 9 := by omega
  rcases h2 with rfl | rfl | rfl | rfl | rfl | rfl | rfl | rfl | rfl | rfl <;> exact h.cell _ _ rfl
set_option maxRecDepth 100000 in
set_option maxHeartbeats 4000000 in
theorem specParseAsm_any (s : ByteArray) (x : Ins) (b : Bool) (hx : AsmRead s x b) (w : World) (hs : s.size ≤ 1048576) :
    Calls Tryd.prog 18 #[.string s] w fun e w' => e = .returned (.tuple #[x.val, .bool b]) ∧ Below w.heap.size w w' := by
  have HX := Lib.hid hx
  obtain ⟨ws, hws⟩ : ∃ ws, Parts s 32 = ws := ⟨_, rfl⟩
  have HSP := Lib.hid fun w => l1Split_any s 32 32 rfl w hs
  have hne := parts_ne s 32
  have hsz := parts_size s 32
  have hpl := parts_len s 32
  have hat : b = true → ws = wordsOf x := fun e => by
    rcases hx with ⟨_, h1, h2⟩ | ⟨h1, _⟩
    · rw [← hws, ← h2, parts_asm h1]
    · rw [h1] at e; cases e
  rw [hws] at HSP hne hsz hpl
  obtain ⟨n, hn⟩ : ∃ n, ws.length = n := ⟨_, rfl⟩
  rw [hn] at HSP hne
  have HN := Lib.hid hn
  have HSZ := Lib.hid hsz
  have HAT := Lib.hid hat
  clear hx hws hat hsz hn
  by_cases h20 : 20 < s.size
  · obtain ⟨rfl, rfl⟩ : b = false ∧ x = ⟨0, 0, 0, 0⟩ := by
      rcases HX.out with ⟨_, h1, h2⟩ | ⟨h1, h2, _⟩
      · have := asm_size h1; rw [h2] at this; omega
      · exact ⟨h1, h2⟩
    clear HX HAT
    show Calls Tryd.prog 18 #[.string s] w fun e w' => e = .returned (.tuple #[.agg #[.int .i64 0, .int .i64 0, .int .i64 0, .int .i64 0], .bool false]) ∧ Below w.heap.size w w'
    go_enter Tryd.func18, Tryd.ntmps18
    go_wp2_with fail
    refine (HSP.out _).mono ?_
    rintro e w1 ⟨v, rfl, _, hb⟩
    have hN := Lib.hid (Blk.kept hb (Blk.new _ _ _))
    have hB := Lib.hid (below_then (below_more (Below.refl w.heap.size w) _) hb)
    clear hb
    have k0 := hN.out.cell 0 _ rfl
    have f0 := hN.out.free 0
    have k1 := hN.out.cell 1 _ rfl
    have f1 := hN.out.free 1
    have k2 := hN.out.cell 2 _ rfl
    have f2 := hN.out.free 2
    have k3 := hN.out.cell 3 _ rfl
    have f3 := hN.out.free 3
    go_wp2_with fail
    have hZ := Lib.hid ((((hN.out.set 0 (.int .i64 0)).set 1 (.int .i64 0)).set 2 (.int .i64 0)).set 3 (.int .i64 0))
    have hX := Lib.hid (below_set (below_set (below_set (below_set hB.out (Nat.le_refl _) (.int .i64 0) (j := 0)) (Nat.le_refl _) (.int .i64 0) (j := 1)) (Nat.le_refl _) (.int .i64 0) (j := 2)) (Nat.le_refl _) (.int .i64 0) (j := 3))
    clear k0 k1 k2 k3 f0 f1 f2 f3
    revert hZ hX
    generalize ((((w1.setCell _ _).setCell _ _).setCell _ _).setCell _ _) = wz
    intro hZ hX
    have z0 := hZ.out.cell 0 _ rfl
    have z1 := hZ.out.cell 1 _ rfl
    have z2 := hZ.out.cell 2 _ rfl
    have z3 := hZ.out.cell 3 _ rfl
    exact bodyPost_ret (by simp [results, Tryd.results18, go_sem, z0, z1, z2, z3] <;> rfl) rfl ⟨rfl, hX.out⟩
  · have hs20 : s.size ≤ 20 := by omega
    have hnz : (1 : Int) ≤ n := by omega
    have hn1 : ws.length ≤ 1048576 := by omega
    rw [HN.out] at hn1
    clear h20
    go_enter Tryd.func18, Tryd.ntmps18
    go_wp2_with fail
    refine (HSP.out _).mono ?_
    rintro e w1 ⟨v, rfl, hown, hb⟩
    obtain ⟨A', cv, rfl, _, _⟩ := own_form hown
    obtain ⟨gv, rfl⟩ := own_head hown hne
    rw [size1] at hown
    have HP : Hid (APst w w1 gv n cv ws) := Lib.hid ⟨Blk.kept hb (Blk.new _ _ _), hown, below_then (below_more (Below.refl w.heap.size w) _) hb⟩
    clear hb hown
    go_wp2_with fail
    go_loopw [5] (fun u5 wr => ∃ op : Nat, u5 = .int .i64 op ∧ op ≤ 10 ∧ Hid (b = true → (op : Int) ≤ x.op) ∧ Hid (APst w wr gv n cv ws)) (fun u5 _ => 10 - (intOf u5).toNat)
    case atStart => exact ⟨0, rfl, Nat.zero_le _, Lib.hid (fun e => by rcases HX.out with ⟨_, h1, _⟩ | ⟨h1, _⟩; exact h1.1.1; rw [h1] at e; cases e), HP⟩
    case round =>
      clear HP
      obtain ⟨opn, rfl, hop, HGE, HP⟩ := hrel
      by_cases hlt : opn < 10
      · have ho0 : (0 : Int) ≤ opn := by omega
        have ho9 : (opn : Int) ≤ 9 := by omega
        obtain ⟨fa, hfa⟩ : ∃ q, useA opn = q := ⟨_, rfl⟩
        obtain ⟨fb, hfb⟩ : ∃ q, useB opn = q := ⟨_, rfl⟩
        obtain ⟨fn, hfn⟩ : ∃ q, useN opn = q := ⟨_, rfl⟩
        have HU := Lib.hid fun w => l3Uses_any (opn : Int) ho0 ho9 w
        rw [hfa, hfb, hfn] at HU
        obtain ⟨mo, hmo⟩ : ∃ m, mostN opn = m := ⟨_, rfl⟩
        rw [hmo] at HU
        have HFA := Lib.hid hfa
        have HFB := Lib.hid hfb
        have HFN := Lib.hid hfn
        have hbx := below_more (Below.refl wr.heap.size wr) (.cells #[.int .i64 (opn : Int), .int .i64 0, .int .i64 0, .int .i64 0] 25)
        have HPX := Lib.hid (HP.out.kept hbx)
        have HK := Lib.hid (Blk.new wr #[.int .i64 (opn : Int), .int .i64 0, .int .i64 0, .int .i64 0] 25)
        have hgg := HP.out.lt.2
        obtain ⟨wa, hwa⟩ : ∃ wa, wr.alloc (.cells #[.int .i64 (opn : Int), .int .i64 0, .int .i64 0, .int .i64 0] 25) = wa := ⟨_, rfl⟩
        obtain ⟨gx, hgx⟩ : ∃ g, wr.heap.size = g := ⟨_, rfl⟩
        rw [hwa] at HPX HK
        rw [hgx] at HK hgg
        have HWA := Lib.hid hwa
        have HGX := Lib.hid hgx
        clear hbx hwa hgx HP hfa hfb hfn hmo
        go_upto_region 8 with fail
        rw [HWA.out, HGX.out]
        clear HWA HGX
        go_wp2_with fail
        refine (HU.out _).mono ?_
        rintro e w0 ⟨rfl, hw⟩
        subst hw
        have HR0 : Hid (ws.drop 1 = ws.tail) := Lib.hid (by cases ws <;> rfl)
        go_upto_region 10 with fail
        go_cut [37] from 18 to 95 (fun u wx => ∃ v, u = .bool v ∧ wx = wa ∧ Hid ((fa && decide (((1 : Nat) : Int) < n)) = v))
        case first =>
          cases fa with
          | true =>
            by_cases hkn : (1 : Int) < n
            · go_wp2_with fail
              go_meet
              exact ⟨true, rfl, rfl, Lib.hid (by simpa using hkn)⟩
            · have hkf : decide ((1 : Int) < n) = false := decide_eq_false hkn
              go_wp2_with fail
              go_meet
              exact ⟨false, rfl, rfl, Lib.hid (by simpa using hkn)⟩
          | false =>
            go_wp2_with fail
            go_meet
            exact ⟨false, rfl, rfl, Lib.hid rfl⟩
        case rest =>
        obtain ⟨vfa, rfl, hcw, HVfa⟩ := hcut
        subst hcw
        go_upto_if 37 with fail
        go_cut [11] from 18 to 95 (fun u11 wx => ∃ (k1 : Nat) (A : Int), u11 = .int .i64 k1 ∧ k1 ≤ n ∧ Hid (ws.drop k1 = left fa (ws.tail)) ∧ Hid (A = took regS fa (ws.tail)) ∧ Hid (Blk wx gx 25 #[.int .i64 (opn : Int), .int .i64 (A), .int .i64 (0), .int .i64 (0)]) ∧ Hid (APst w wx gv n cv ws))
        case first =>
          cases vfa with
          | false =>
            have HW0 := Lib.hid (no_word regS HN.out HR0.out HVfa.out)
            go_wp2_with fail
            go_meet
            exact ⟨1, 0, rfl, by omega, Lib.hid HW0.out.1, Lib.hid HW0.out.2, HK, HPX⟩
          | true =>
            obtain ⟨hq, hkn⟩ := a_word HVfa.out
            obtain ⟨u, hu⟩ : ∃ u, ws[1]? = some u := ⟨_, List.getElem?_eq_getElem (by rw [HN.out]; omega)⟩
            have huz : u.size ≤ 1048576 := Nat.le_trans (HSZ.out u (List.mem_of_getElem? hu)) hs
            have cw := HPX.out.word hu
            have HDR := Lib.hid (word_took regS HR0.out (drop_at hu))
            rw [← hq] at HDR
            have HUZ := Lib.hid huz
            clear hu huz hq
            go_wp2_with fail
            refine (l3Register_any u _ HUZ.out).mono ?_
            rintro e w3 ⟨rfl, j, rfl⟩
            have hb3 := Go.Proofs.YtfdbnolifimnhabDoor.Own.below_drewN wc j
            have hk3 := Blk.kept hb3 HK.out
            have hp3 := HPX.out.kept hb3
            obtain ⟨wd, hwd⟩ : ∃ wd, World.drewN wc j = wd := ⟨_, rfl⟩
            rw [hwd] at hk3 hp3 ⊢
            have HK3 := Lib.hid hk3
            have HP3 := Lib.hid hp3
            have kj := hk3.cell 1 _ rfl
            have fj := hk3.free 1
            clear hb3 hwd hk3 hp3 cw
            go_wp2_with fail
            go_meet
            exact ⟨1 + 1, _, by go_num, by omega, Lib.hid HDR.out.1, Lib.hid HDR.out.2, Lib.hid (HK3.out.set 1 _), Lib.hid (HP3.out.set _ hgg)⟩
        case rest =>
        clear HK HPX
        obtain ⟨k1, A, rfl, hk1, HR1, HVA, HK1, HP1⟩ := hcut
        go_upto_region 13 with fail
        go_cut [52] from 18 to 95 (fun u wx => ∃ v, u = .bool v ∧ wx = wc ∧ Hid ((fb && decide (((k1 : Nat) : Int) < n)) = v))
        case first =>
          cases fb with
          | true =>
            by_cases hkn : (k1 : Int) < n
            · go_wp2_with fail
              go_meet
              exact ⟨true, rfl, rfl, Lib.hid (by simpa using hkn)⟩
            · have hkf : decide ((k1 : Int) < n) = false := decide_eq_false hkn
              go_wp2_with fail
              go_meet
              exact ⟨false, rfl, rfl, Lib.hid (by simpa using hkn)⟩
          | false =>
            go_wp2_with fail
            go_meet
            exact ⟨false, rfl, rfl, Lib.hid rfl⟩
        case rest =>
        obtain ⟨vfb, rfl, hcw, HVfb⟩ := hcut
        subst hcw
        go_upto_if 52 with fail
        go_cut [11] from 18 to 95 (fun u11 wx => ∃ (k2 : Nat) (B : Int), u11 = .int .i64 k2 ∧ k2 ≤ n ∧ Hid (ws.drop k2 = left fb (left fa ws.tail)) ∧ Hid (B = took regS fb (left fa ws.tail)) ∧ Hid (Blk wx gx 25 #[.int .i64 (opn : Int), .int .i64 (A), .int .i64 (B), .int .i64 (0)]) ∧ Hid (APst w wx gv n cv ws))
        case first =>
          cases vfb with
          | false =>
            have HW0 := Lib.hid (no_word regS HN.out HR1.out HVfb.out)
            go_wp2_with fail
            go_meet
            exact ⟨k1, 0, rfl, by omega, Lib.hid HW0.out.1, Lib.hid HW0.out.2, HK1, HP1⟩
          | true =>
            obtain ⟨hq, hkn⟩ := a_word HVfb.out
            obtain ⟨u, hu⟩ : ∃ u, ws[k1]? = some u := ⟨_, List.getElem?_eq_getElem (by rw [HN.out]; omega)⟩
            have huz : u.size ≤ 1048576 := Nat.le_trans (HSZ.out u (List.mem_of_getElem? hu)) hs
            have cw := HP1.out.word hu
            have HDR := Lib.hid (word_took regS HR1.out (drop_at hu))
            rw [← hq] at HDR
            have HUZ := Lib.hid huz
            clear hu huz hq
            go_wp2_with fail
            refine (l3Register_any u _ HUZ.out).mono ?_
            rintro e w3 ⟨rfl, j, rfl⟩
            have hb3 := Go.Proofs.YtfdbnolifimnhabDoor.Own.below_drewN wc j
            have hk3 := Blk.kept hb3 HK1.out
            have hp3 := HP1.out.kept hb3
            obtain ⟨wd, hwd⟩ : ∃ wd, World.drewN wc j = wd := ⟨_, rfl⟩
            rw [hwd] at hk3 hp3 ⊢
            have HK3 := Lib.hid hk3
            have HP3 := Lib.hid hp3
            have kj := hk3.cell 2 _ rfl
            have fj := hk3.free 2
            clear hb3 hwd hk3 hp3 cw
            go_wp2_with fail
            go_meet
            exact ⟨k1 + 1, _, by go_num, by omega, Lib.hid HDR.out.1, Lib.hid HDR.out.2, Lib.hid (HK3.out.set 2 _), Lib.hid (HP3.out.set _ hgg)⟩
        case rest =>
        clear HK1 HP1
        obtain ⟨k2, B, rfl, hk2, HR2, HVB, HK2, HP2⟩ := hcut
        go_upto_region 16 with fail
        go_cut [67] from 18 to 95 (fun u wx => ∃ v, u = .bool v ∧ wx = wc ∧ Hid ((fn && decide (((k2 : Nat) : Int) < n)) = v))
        case first =>
          cases fn with
          | true =>
            by_cases hkn : (k2 : Int) < n
            · go_wp2_with fail
              go_meet
              exact ⟨true, rfl, rfl, Lib.hid (by simpa using hkn)⟩
            · have hkf : decide ((k2 : Int) < n) = false := decide_eq_false hkn
              go_wp2_with fail
              go_meet
              exact ⟨false, rfl, rfl, Lib.hid (by simpa using hkn)⟩
          | false =>
            go_wp2_with fail
            go_meet
            exact ⟨false, rfl, rfl, Lib.hid rfl⟩
        case rest =>
        obtain ⟨vfn, rfl, hcw, HVfn⟩ := hcut
        subst hcw
        go_upto_if 67 with fail
        go_cut [] from 18 to 95 (fun wx => ∃ (C : Int), Hid (C = took rdv fn (left fb (left fa ws.tail))) ∧ Hid (Blk wx gx 25 #[.int .i64 (opn : Int), .int .i64 (A), .int .i64 (B), .int .i64 (C)]) ∧ Hid (APst w wx gv n cv ws))
        case first =>
          cases vfn with
          | false =>
            have HW0 := Lib.hid (no_word rdv HN.out HR2.out HVfn.out)
            go_wp2_with fail
            go_meet
            exact ⟨0, Lib.hid HW0.out.2, HK2, HP2⟩
          | true =>
            obtain ⟨hq, hkn⟩ := a_word HVfn.out
            obtain ⟨u, hu⟩ : ∃ u, ws[k2]? = some u := ⟨_, List.getElem?_eq_getElem (by rw [HN.out]; omega)⟩
            have huz : u.size ≤ 1048576 := Nat.le_trans (HSZ.out u (List.mem_of_getElem? hu)) hs
            have cw := HP2.out.word hu
            have HDR := Lib.hid (word_took rdv HR2.out (drop_at hu))
            rw [← hq] at HDR
            have HUZ := Lib.hid huz
            obtain ⟨b9, hb9⟩ := rdv_is u
            have HB9 := Lib.hid hb9
            clear hb9
            clear hu huz hq
            go_wp2_with fail
            refine (l1Read_any u _ b9 HB9.out _ HUZ.out).mono ?_
            rintro e w3 ⟨rfl, j, rfl⟩
            have hb3 := Go.Proofs.YtfdbnolifimnhabDoor.Own.below_drewN wc j
            have hk3 := Blk.kept hb3 HK2.out
            have hp3 := HP2.out.kept hb3
            obtain ⟨wd, hwd⟩ : ∃ wd, World.drewN wc j = wd := ⟨_, rfl⟩
            rw [hwd] at hk3 hp3 ⊢
            have HK3 := Lib.hid hk3
            have HP3 := Lib.hid hp3
            have kj := hk3.cell 3 _ rfl
            have fj := hk3.free 3
            clear hb3 hwd hk3 hp3 cw
            go_wp2_with fail
            go_meet
            exact ⟨_, Lib.hid HDR.out.2, Lib.hid (HK3.out.set 3 _), Lib.hid (HP3.out.set _ hgg)⟩
        case rest =>
        clear HK2 HP2
        obtain ⟨C, HVC, HK3, HP3⟩ := hcut
        have HY : Hid ((⟨opn, A, B, C⟩ : Ins) = cand regS rdv opn ws.tail) := Lib.hid (by rw [cand_took, HFA.out, HFB.out, HFN.out, HVA.out, HVB.out, HVC.out])
        obtain ⟨u0, hu0⟩ : ∃ u, ws[0]? = some u := ⟨_, List.getElem?_eq_getElem (by rw [HN.out]; exact hne)⟩
        have HU0 := Lib.hid hu0
        have heq : b = true → x.op = opn → (⟨opn, A, B, C⟩ : Ins) = x ∧ u0 = opName opn := fun hb ho => by
          rcases HX.out with ⟨_, h1, h2⟩ | ⟨h1, _⟩
          · have hw := HAT.out hb
            refine ⟨?_, ?_⟩
            · rw [HY.out, hw, ← ho]
              exact cand_words h1 regS rdv (fun n h0 h3 => regS_rg h0 h3) (fun n h0 h3 => rdv_num h0 h3)
            · have h3 := words_head x
              rw [← hw, hu0] at h3
              rw [Option.some.inj h3, ho]
              rfl
          · rw [hb] at h1; cases h1
        have hsuc : u0 = opName opn → Ok ⟨opn, A, B, C⟩ → asmOf ⟨opn, A, B, C⟩ = s → b = true ∧ x = ⟨opn, A, B, C⟩ := fun h1 h2 h3 => by
          rcases HX.out with ⟨hb, h4, h5⟩ | ⟨_, _, h⟩
          · have hw := HAT.out hb
            have h6 := words_head x
            rw [← hw, hu0, h1] at h6
            have h7 := name_inj (a := (opn : Int)) (b := x.op) (by omega) (by omega) h4.1.1 h4.1.2 (Option.some.inj h6)
            exact ⟨hb, (heq hb h7.symm).1.symm⟩
          · exact absurd h3 (h _ h2)
        have hfail : ¬ (u0 = opName opn ∧ Ok ⟨opn, A, B, C⟩ ∧ asmOf ⟨opn, A, B, C⟩ = s) → Hid (b = true → ((opn + 1 : Nat) : Int) ≤ x.op) := fun h => Lib.hid fun hb => by
          have h1 := HGE.out hb
          by_cases h2 : x.op = opn
          · obtain ⟨h3, h4⟩ := heq hb h2
            exfalso
            rcases HX.out with ⟨_, h5, h6⟩ | ⟨h5, _⟩
            · exact h ⟨h4, by rw [h3]; exact h5, by rw [h3]; exact h6⟩
            · rw [hb] at h5; cases h5
          · push_cast; omega
        have HSUC := Lib.hid hsuc
        have HFAIL := Lib.hid hfail
        clear hu0 heq hsuc hfail
        have HNM := Lib.hid (l3Names_any wc.drew)
        obtain ⟨t, ht⟩ : ∃ t, opName opn = t := ⟨_, rfl⟩
        have HT := Lib.hid ht
        clear ht
        have c0 := HP3.out.word HU0.out
        have c0d : wc.drew.cell? ⟨gv, 0, none⟩ = some (.string u0) := c0
        go_upto_region 18 with fail
        by_cases h1 : u0 = t
        · by_cases hok : Ok ⟨opn, A, B, C⟩
          · obtain ⟨y, hy⟩ : ∃ y, asmOf ⟨opn, A, B, C⟩ = y := ⟨_, rfl⟩
            have HONE : Hid (∀ w, Calls Tryd.prog 35 #[.agg #[.int .i64 (opn : Int), .int .i64 A, .int .i64 B, .int .i64 C]] w fun e w' => e = .returned (.bool true) ∧ Below w.heap.size w w') := Lib.hid fun w => l3One_any ⟨opn, A, B, C⟩ w true (decide_eq_true hok)
            have HTX : Hid (∀ w, Calls Tryd.prog 40 #[.agg #[.int .i64 (opn : Int), .int .i64 A, .int .i64 B, .int .i64 C]] w fun e w' => e = .returned (.string y) ∧ Below w.heap.size w w') := Lib.hid fun w => by rw [← hy]; exact l3Text_any ⟨opn, A, B, C⟩ w hok
            by_cases h3 : y = s
            · obtain ⟨hb, hxy⟩ := HSUC.out (h1.trans HT.out.symm) hok (hy.trans h3)
              subst hb hxy h1 h3
              have te : (u0.toList == u0.toList) = true := by simp
              have ye : (y.toList == y.toList) = true := by simp
              clear HX HAT HGE HFAIL HSUC hy hok HY
              (first | go_region_with (first | (go_at_call 50; (with_reducible refine HNM.out.mono ?_); rintro e w1 ⟨g, rfl, hnm, hgn, hbx⟩; replace hbx : Below wc.heap.size wc w1 := (below_d1 wc).trans hbx; replace HK3 := Lib.hid (Blk.kept hbx HK3.out); replace HP3 := Lib.hid (HP3.out.kept hbx); have hcn := names_at hnm hlt; rw [HT.out] at hcn; have c0 := HP3.out.word HU0.out; have k0 := HK3.out.cell 0 _ rfl; have k1 := HK3.out.cell 1 _ rfl; have k2 := HK3.out.cell 2 _ rfl; have k3 := HK3.out.cell 3 _ rfl; clear hnm hbx) | (go_at_call 35; (with_reducible refine (HONE.out _).mono ?_); rintro e w8 ⟨rfl, hbx⟩; replace HK3 := Lib.hid (Blk.kept hbx HK3.out); replace HP3 := Lib.hid (HP3.out.kept hbx); have k0 := HK3.out.cell 0 _ rfl; have k1 := HK3.out.cell 1 _ rfl; have k2 := HK3.out.cell 2 _ rfl; have k3 := HK3.out.cell 3 _ rfl; clear hbx) | (go_at_call 40; (with_reducible refine (HTX.out _).mono ?_); rintro e w9 ⟨rfl, hbx⟩; replace HK3 := Lib.hid (Blk.kept hbx HK3.out); replace HP3 := Lib.hid (HP3.out.kept hbx); have k0 := HK3.out.cell 0 _ rfl; have k1 := HK3.out.cell 1 _ rfl; have k2 := HK3.out.cell 2 _ rfl; have k3 := HK3.out.cell 3 _ rfl; clear hbx)) | fail)
              all_goals
                have HRS := Lib.hid HP3.out.res
                have HBL := Lib.hid HP3.out.below
                have k0 := HRS.out.cell 0 _ rfl
                have f0 := HRS.out.free 0
                have k1 := HRS.out.cell 1 _ rfl
                have f1 := HRS.out.free 1
                have k2 := HRS.out.cell 2 _ rfl
                have f2 := HRS.out.free 2
                have k3 := HRS.out.cell 3 _ rfl
                have f3 := HRS.out.free 3
                have n0 := HK3.out.cell 0 _ rfl
                have n1 := HK3.out.cell 1 _ rfl
                have n2 := HK3.out.cell 2 _ rfl
                have n3 := HK3.out.cell 3 _ rfl
                go_wp2_with fail
                have hZ := Lib.hid ((((HRS.out.set 0 (.int .i64 (opn : Int))).set 1 (.int .i64 A)).set 2 (.int .i64 B)).set 3 (.int .i64 C))
                have hX := Lib.hid (below_set (below_set (below_set (below_set HBL.out (Nat.le_refl _) (.int .i64 (opn : Int)) (j := 0)) (Nat.le_refl _) (.int .i64 A) (j := 1)) (Nat.le_refl _) (.int .i64 B) (j := 2)) (Nat.le_refl _) (.int .i64 C) (j := 3))
                clear k0 k1 k2 k3 f0 f1 f2 f3
                revert hZ hX
                generalize ((((w9.setCell _ _).setCell _ _).setCell _ _).setCell _ _) = wz
                intro hZ hX
                have z0 := hZ.out.cell 0 _ rfl
                have z1 := hZ.out.cell 1 _ rfl
                have z2 := hZ.out.cell 2 _ rfl
                have z3 := hZ.out.cell 3 _ rfl
                exact bodyPost_ret (by simp [results, Tryd.results18, go_sem, z0, z1, z2, z3] <;> rfl) rfl ⟨rfl, hX.out⟩
            · have HF := HFAIL.out (fun h => h3 (by rw [← hy]; exact h.2.2))
              subst h1
              have te : (u0.toList == u0.toList) = true := by simp
              have ye := toList_ne h3
              clear HSUC HFAIL hy hok HY h3
              (first | go_region_with (first | (go_at_call 50; (with_reducible refine HNM.out.mono ?_); rintro e w1 ⟨g, rfl, hnm, hgn, hbx⟩; replace hbx : Below wc.heap.size wc w1 := (below_d1 wc).trans hbx; replace HK3 := Lib.hid (Blk.kept hbx HK3.out); replace HP3 := Lib.hid (HP3.out.kept hbx); have hcn := names_at hnm hlt; rw [HT.out] at hcn; have c0 := HP3.out.word HU0.out; have k0 := HK3.out.cell 0 _ rfl; have k1 := HK3.out.cell 1 _ rfl; have k2 := HK3.out.cell 2 _ rfl; have k3 := HK3.out.cell 3 _ rfl; clear hnm hbx) | (go_at_call 35; (with_reducible refine (HONE.out _).mono ?_); rintro e w8 ⟨rfl, hbx⟩; replace HK3 := Lib.hid (Blk.kept hbx HK3.out); replace HP3 := Lib.hid (HP3.out.kept hbx); have k0 := HK3.out.cell 0 _ rfl; have k1 := HK3.out.cell 1 _ rfl; have k2 := HK3.out.cell 2 _ rfl; have k3 := HK3.out.cell 3 _ rfl; clear hbx) | (go_at_call 40; (with_reducible refine (HTX.out _).mono ?_); rintro e w9 ⟨rfl, hbx⟩; replace HK3 := Lib.hid (Blk.kept hbx HK3.out); replace HP3 := Lib.hid (HP3.out.kept hbx); have k0 := HK3.out.cell 0 _ rfl; have k1 := HK3.out.cell 1 _ rfl; have k2 := HK3.out.cell 2 _ rfl; have k3 := HK3.out.cell 3 _ rfl; clear hbx)) | fail)
              all_goals
                go_wp2_with fail
                go_roundw
                case rel => exact ⟨opn + 1, by go_num, by omega, HF, HP3⟩
                case measure => simp [intOf]; omega
          · have HF := HFAIL.out (fun h => hok h.2.1)
            have HONE : Hid (∀ w, Calls Tryd.prog 35 #[.agg #[.int .i64 (opn : Int), .int .i64 A, .int .i64 B, .int .i64 C]] w fun e w' => e = .returned (.bool false) ∧ Below w.heap.size w w') := Lib.hid fun w => l3One_any ⟨opn, A, B, C⟩ w false (decide_eq_false hok)
            subst h1
            have te : (u0.toList == u0.toList) = true := by simp
            clear HSUC HFAIL hok HY
            (first | go_region_with (first | (go_at_call 50; (with_reducible refine HNM.out.mono ?_); rintro e w1 ⟨g, rfl, hnm, hgn, hbx⟩; replace hbx : Below wc.heap.size wc w1 := (below_d1 wc).trans hbx; replace HK3 := Lib.hid (Blk.kept hbx HK3.out); replace HP3 := Lib.hid (HP3.out.kept hbx); have hcn := names_at hnm hlt; rw [HT.out] at hcn; have c0 := HP3.out.word HU0.out; have k0 := HK3.out.cell 0 _ rfl; have k1 := HK3.out.cell 1 _ rfl; have k2 := HK3.out.cell 2 _ rfl; have k3 := HK3.out.cell 3 _ rfl; clear hnm hbx) | (go_at_call 35; (with_reducible refine (HONE.out _).mono ?_); rintro e w8 ⟨rfl, hbx⟩; replace HK3 := Lib.hid (Blk.kept hbx HK3.out); replace HP3 := Lib.hid (HP3.out.kept hbx); have k0 := HK3.out.cell 0 _ rfl; have k1 := HK3.out.cell 1 _ rfl; have k2 := HK3.out.cell 2 _ rfl; have k3 := HK3.out.cell 3 _ rfl; clear hbx)) | fail)
            all_goals
              go_wp2_with fail
              go_roundw
              case rel => exact ⟨opn + 1, by go_num, by omega, HF, HP3⟩
              case measure => simp [intOf]; omega
        · have HF := HFAIL.out (fun h => h1 (h.1.trans HT.out))
          have te := toList_ne h1
          clear HSUC HFAIL HY h1
          (first | go_region_with (first | (go_at_call 50; (with_reducible refine HNM.out.mono ?_); rintro e w1 ⟨g, rfl, hnm, hgn, hbx⟩; replace hbx : Below wc.heap.size wc w1 := (below_d1 wc).trans hbx; replace HK3 := Lib.hid (Blk.kept hbx HK3.out); replace HP3 := Lib.hid (HP3.out.kept hbx); have hcn := names_at hnm hlt; rw [HT.out] at hcn; have c0 := HP3.out.word HU0.out; have k0 := HK3.out.cell 0 _ rfl; have k1 := HK3.out.cell 1 _ rfl; have k2 := HK3.out.cell 2 _ rfl; have k3 := HK3.out.cell 3 _ rfl; clear hnm hbx)) | fail)
          all_goals
            go_wp2_with fail
            go_roundw
            case rel => exact ⟨opn + 1, by go_num, by omega, HF, HP3⟩
            case measure => simp [intOf]; omega
      · have hop10 : opn = 10 := by omega
        subst hop10
        have hbf : b = false := by
          cases hb : b with
          | false => rfl
          | true =>
            have h1 := HGE.out hb
            rcases HX.out with ⟨_, h2, _⟩ | ⟨h2, _⟩
            · have h3 := h2.1.2; omega
            · rw [hb] at h2; cases h2
        subst hbf
        have hx0 : x = ⟨0, 0, 0, 0⟩ := by
          rcases HX.out with ⟨h1, _⟩ | ⟨_, h2, _⟩
          · cases h1
          · exact h2
        subst hx0
        have HRS := Lib.hid HP.out.res
        have HBL := Lib.hid HP.out.below
        clear HP HX HAT HGE
        have k0 := HRS.out.cell 0 _ rfl
        have f0 := HRS.out.free 0
        have k1 := HRS.out.cell 1 _ rfl
        have f1 := HRS.out.free 1
        have k2 := HRS.out.cell 2 _ rfl
        have f2 := HRS.out.free 2
        have k3 := HRS.out.cell 3 _ rfl
        have f3 := HRS.out.free 3
        go_wp2_with fail
        have hZ := Lib.hid ((((HRS.out.set 0 (.int .i64 0)).set 1 (.int .i64 0)).set 2 (.int .i64 0)).set 3 (.int .i64 0))
        have hX := Lib.hid (below_set (below_set (below_set (below_set HBL.out (Nat.le_refl _) (.int .i64 0) (j := 0)) (Nat.le_refl _) (.int .i64 0) (j := 1)) (Nat.le_refl _) (.int .i64 0) (j := 2)) (Nat.le_refl _) (.int .i64 0) (j := 3))
        clear k0 k1 k2 k3 f0 f1 f2 f3
        revert hZ hX
        generalize ((((wr.setCell _ _).setCell _ _).setCell _ _).setCell _ _) = wz
        intro hZ hX
        have z0 := hZ.out.cell 0 _ rfl
        have z1 := hZ.out.cell 1 _ rfl
        have z2 := hZ.out.cell 2 _ rfl
        have z3 := hZ.out.cell 3 _ rfl
        exact bodyPost_ret (by simp [results, Tryd.results18, go_sem, z0, z1, z2, z3] <;> rfl) rfl ⟨rfl, hX.out⟩
end Go.Proofs.YtfdbnolifimnhabDoor.L3
