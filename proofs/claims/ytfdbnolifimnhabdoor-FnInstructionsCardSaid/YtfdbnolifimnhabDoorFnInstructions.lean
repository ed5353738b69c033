/- For every code the law FnInstructions returns true; the listed variables read as the program's text lays them (the card ties them). -/
import Derived.Test.YtfdbnolifimnhabDoorCards
import Derived.Test.YtfdbnolifimnhabDoorTie
import Derived.Test.YtfdbnolifimnhabDoorFrame
import Derived.Test.YtfdbnolifimnhabDoorDr3A
import Derived.Test.YtfdbnolifimnhabDoorAsmW
import Derived.Test.YtfdbnolifimnhabDoorRInt
import Derived.Deep.Cut
import Derived.Deep.CutRange
namespace Go.Proofs.YtfdbnolifimnhabDoor.fnInstructions
open Go.ChangeShapes Go.WideShapes Go.ChangeAt Go.RowKit
open Go.ChangeMaps (open_string shut_string)
open Go Go.Proofs.YtfdbnolifimnhabDoor.L3 Go.Proofs.YtfdbnolifimnhabDoor.Mem Go.Proofs.YtfdbnolifimnhabDoor.Own Go.Proofs.YtfdbnolifimnhabDoor.L1 Go.Proofs.YtfdbnolifimnhabDoor.Draw
set_option linter.unusedVariables false
theorem own : ownKnob Tryd.prog.godebug = none := by kernel_rfl
theorem laidOut : laidOutB Tryd.prog = true := by kernel_rfl
theorem tab {W : World} (h : laidMetH Tryd.prog Rows.fnInstructionsRow.laid W) : OpsIs W := opsIs_of_mem h (.tail _ (.tail _ (.tail _ (.tail _ (.tail _ (.head _))))))
theorem tab2 {W : World} (h : laidMetH Tryd.prog Rows.fnInstructionsRow.laid W) : Lib.TabIs Tryd.prog W "internal/strconv.uint64pow10" .u64 Lib.pow10Tab :=
  Fr.tabIs_of_mem (g := 1) (by kernel_rfl) (by kernel_rfl) Tryd.underlying114 Tryd.underlying65 (by kernel_rfl) (by kernel_rfl) h (.tail _ (.tail _ (.head _)))
theorem errs {W : World} (h : laidMetH Tryd.prog Rows.fnInstructionsRow.laid W) : ErrsIs W :=
  ⟨Fr.errIs_of_mem (g := 4) (by kernel_rfl) (by kernel_rfl) Tryd.underlying109 h (.tail _ (.tail _ (.tail _ (.tail _ (.head _))))),
   Fr.errIs_of_mem (g := 5) (by kernel_rfl) (by kernel_rfl) Tryd.underlying109 h (.tail _ (.tail _ (.tail _ (.head _))))⟩
theorem pass {w w1 w2 : World} (h : Below w.heap.size w w1) (k : Below w1.heap.size w1 w2) : Below w.heap.size w w2 := h.trans (k.mono h.size)
theorem pack_is (x : Ins) : ∃ m, packAns x = .tuple #[.int .i64 m, .bool (decide (Ok x))] ∧ (Ok x → m = packOf x) := by
  unfold packAns
  by_cases h : Ok x
  · rw [if_pos h, decide_eq_true h]; exact ⟨_, rfl, fun _ => rfl⟩
  · rw [if_neg h, decide_eq_false h]; exact ⟨_, rfl, fun h2 => absurd h2 h⟩
theorem asm_is (x : Ins) : ∃ s, asmAns x = .tuple #[.string s, .bool (decide (Ok x))] ∧ (Ok x → s = asmOf x) ∧ s.size ≤ 20 := by
  unfold asmAns
  by_cases h : Ok x
  · rw [if_pos h, decide_eq_true h]; exact ⟨_, rfl, fun _ => rfl, asm_size h⟩
  · rw [if_neg h, decide_eq_false h]; exact ⟨_, rfl, fun h2 => absurd h2 h, by decide⟩
theorem unpack_is (m : Int) : ∃ (y0 y1 y2 y3 : Int) (b : Bool), unpackAns m = .tuple #[.agg #[.int .i64 y0, .int .i64 y1, .int .i64 y2, .int .i64 y3], .bool b] ∧ ∀ x : Ins, Ok x → m = packOf x → (⟨y0, y1, y2, y3⟩ : Ins) = x ∧ b = true := by
  unfold unpackAns
  by_cases h : Ok (unpackOf m)
  · rw [if_pos h]
    refine ⟨(unpackOf m).op, (unpackOf m).a, (unpackOf m).b, (unpackOf m).n, true, rfl, fun x hx e => ⟨?_, rfl⟩⟩
    rw [e, unpack_pack hx]
  · rw [if_neg h]
    exact ⟨0, 0, 0, 0, false, rfl, fun x hx e => absurd (by rw [e, unpack_pack hx]; exact hx) h⟩
theorem asm_inj {x y : Ins} (hx : Ok x) (hy : Ok y) (h : asmOf x = asmOf y) : x = y := by
  have h1 := parts_asm hx
  rw [h, parts_asm hy] at h1
  have h2 := congrArg (fun l => l[0]?) h1
  rw [words_head, words_head] at h2
  simp only [Option.some.injEq] at h2
  have hx1 := hx.1
  have hy1 := hy.1
  have h3 : y.op.toNat = x.op.toNat := opName_inj (by omega) (by omega) h2
  have h4 : y.op = x.op := by omega
  have h5 := cand_words hx wv wv (fun n a b => wv_rg a b) (fun n a b => wv_num a b)
  have h6 := cand_words hy wv wv (fun n a b => wv_rg a b) (fun n a b => wv_num a b)
  rw [h1, h4, h5] at h6
  exact h6
theorem read_back {x y : Ins} {s : ByteArray} {b : Bool} (h : AsmRead s y b) (hx : Ok x) (hs : s = asmOf x) : y = x ∧ b = true := by
  rcases h with ⟨rfl, h1, h2⟩ | ⟨_, _, h2⟩
  · exact ⟨asm_inj h1 hx (h2.trans hs), rfl⟩
  · exact absurd hs.symm (h2 x hx)
set_option maxRecDepth 100000 in
set_option maxHeartbeats 4000000 in
theorem walk0 (W : World) (A : Option Addr) (n c : Nat) (zs : List Int) (hz : ∀ z ∈ zs, 0 ≤ z ∧ z ≤ 255) (hr : Reads W W.heap.size 1 A n (zs.map (Value.int .u8))) (ho : OpsIs W) (ht : Lib.TabIs Tryd.prog W "internal/strconv.uint64pow10" .u64 Lib.pow10Tab) (he : ErrsIs W) :
    Calls Tryd.prog 3 #[.slice A n c] W fun e W' => e = .returned (.bool true) ∧ Below W.heap.size W W' := by
  by_cases h1 : (65536 : Int) < n
  · have hv := rBig_any A n c W
    rw [decide_eq_true h1] at hv
    have HV := Lib.hid hv
    clear hv hr ho ht he
    go_enter Tryd.func3, Tryd.ntmps3
    go_wp2_with fail
    refine HV.out.mono ?_
    rintro e w1 ⟨rfl, rfl⟩
    go_wp2_with fail
    go_ret
    exact ⟨rfl, Below.refl _ _⟩
  have hv := rBig_any A n c W
  rw [decide_eq_false h1] at hv
  have HV := Lib.hid hv
  have hn : n ≤ 1000000 := by omega
  have HR := Lib.hid fun (w : World) (hb : Below W.heap.size W w) => (show Reads w w.heap.size 1 A n (zs.map (Value.int .u8)) from (hr.below hb).more hb.size)
  have HZ := Lib.hid hz
  have HO := Lib.hid ho
  have HT := Lib.hid ht
  have HE := Lib.hid he
  have HW := Lib.hid (Below.refl W.heap.size W)
  clear hv hr hz h1 ho ht he
  go_enter Tryd.func3, Tryd.ntmps3
  go_wp2_with fail
  refine HV.out.mono ?_
  rintro e w0 ⟨rfl, rfl⟩
  clear HV
  go_wp2_with fail
  refine (drawPack_any _ A n c zs HZ.out (HR.out _ HW.out) hn).mono ?_
  rintro e w1 ⟨x0, x1, x2, x3, rfl, hb⟩
  replace HW := Lib.hid (pass HW.out hb)
  clear hb
  have BX := Lib.hid (Blk.new w1 #[.int .i64 x0, .int .i64 x1, .int .i64 x2, .int .i64 x3] 25)
  obtain ⟨gBX, hg⟩ : ∃ g, w1.heap.size = g := ⟨_, rfl⟩
  obtain ⟨w2, hwa⟩ : ∃ wa, w1.alloc (.cells #[.int .i64 x0, .int .i64 x1, .int .i64 x2, .int .i64 x3] 25) = wa := ⟨_, rfl⟩
  have hba : Below w1.heap.size w1 w2 := by rw [← hwa]; exact below_more (Below.refl _ _) _
  rw [hwa, hg] at BX
  have HWA := Lib.hid hwa
  have HG := Lib.hid hg
  clear hwa hg
  replace HW := Lib.hid (pass HW.out hba)
  clear hba
  go_upto_region 4 with fail
  rw [HWA.out, HG.out]
  clear HWA HG
  obtain ⟨pn, hp, hpv⟩ := pack_is ⟨x0, x1, x2, x3⟩
  obtain ⟨sx, hs, hsv, hsz⟩ := asm_is ⟨x0, x1, x2, x3⟩
  obtain ⟨b, hb_⟩ : ∃ b, decide (Ok ⟨x0, x1, x2, x3⟩) = b := ⟨_, rfl⟩
  rw [hb_] at hp hs
  have hPI : ∀ w, OpsIs w → Calls Tryd.prog 8 #[.agg #[.int .i64 x0, .int .i64 x1, .int .i64 x2, .int .i64 x3]] w fun e w' => e = .returned (.tuple #[.int .i64 pn, .bool b]) ∧ Below w.heap.size w w' := fun w ho => by rw [← hp]; exact implPack_any ⟨x0, x1, x2, x3⟩ w ho
  have hPS : ∀ w, Calls Tryd.prog 9 #[.agg #[.int .i64 x0, .int .i64 x1, .int .i64 x2, .int .i64 x3]] w fun e w' => e = .returned (.tuple #[.int .i64 pn, .bool b]) ∧ Below w.heap.size w w' := fun w => by rw [← hp]; exact specPack_any ⟨x0, x1, x2, x3⟩ w
  have hIS : ∀ w, OpsIs w → Calls Tryd.prog 10 #[.agg #[.int .i64 x0, .int .i64 x1, .int .i64 x2, .int .i64 x3]] w fun e w' => e = .returned (.bool b) ∧ Below w.heap.size w w' := fun w ho => implIs_any ⟨x0, x1, x2, x3⟩ w ho b hb_
  have hAI : ∀ w, OpsIs w → Lib.TabIs Tryd.prog w "internal/strconv.uint64pow10" .u64 Lib.pow10Tab → Calls Tryd.prog 14 #[.agg #[.int .i64 x0, .int .i64 x1, .int .i64 x2, .int .i64 x3]] w fun e w' => e = .returned (.tuple #[.string sx, .bool b]) ∧ Below w.heap.size w w' := fun w ho ht => by rw [← hs]; exact implAsm_any ⟨x0, x1, x2, x3⟩ w ho ht
  have hAS : ∀ w, Calls Tryd.prog 15 #[.agg #[.int .i64 x0, .int .i64 x1, .int .i64 x2, .int .i64 x3]] w fun e w' => e = .returned (.tuple #[.string sx, .bool b]) ∧ Below w.heap.size w w' := fun w => by rw [← hs]; exact specAsm_any ⟨x0, x1, x2, x3⟩ w
  have HPI := Lib.hid hPI
  have HPS := Lib.hid hPS
  have HIS := Lib.hid hIS
  have HAI := Lib.hid hAI
  have HAS := Lib.hid hAS
  have HPV : Hid (b = true → Ok ⟨x0, x1, x2, x3⟩ ∧ pn = packOf ⟨x0, x1, x2, x3⟩ ∧ sx = asmOf ⟨x0, x1, x2, x3⟩) := Lib.hid (fun h => by
    have h2 : Ok ⟨x0, x1, x2, x3⟩ := of_decide_eq_true (hb_.trans h)
    exact ⟨h2, hpv h2, hsv h2⟩)
  clear hPI hPS hIS hAI hAS hp hs hpv hsv hb_
  have pBX0 := BX.out.cell 0 _ rfl
  have pBX1 := BX.out.cell 1 _ rfl
  have pBX2 := BX.out.cell 2 _ rfl
  have pBX3 := BX.out.cell 3 _ rfl
  go_wp2_with fail
  refine (HPI.out _ (ops_below HW.out HO.out)).mono ?_
  rintro e w3 ⟨rfl, hb⟩
  replace HW := Lib.hid (pass HW.out hb)
  replace BX := Lib.hid (Blk.kept hb BX.out)
  clear hb
  clear pBX0 pBX1 pBX2 pBX3
  have pBX0 := BX.out.cell 0 _ rfl
  have pBX1 := BX.out.cell 1 _ rfl
  have pBX2 := BX.out.cell 2 _ rfl
  have pBX3 := BX.out.cell 3 _ rfl
  go_wp2_with fail
  refine (HPS.out _).mono ?_
  rintro e w4 ⟨rfl, hb⟩
  replace HW := Lib.hid (pass HW.out hb)
  replace BX := Lib.hid (Blk.kept hb BX.out)
  clear hb
  clear pBX0 pBX1 pBX2 pBX3
  have hnn : (pn != pn) = false := by simp
  have hnb : (b != b) = false := by simp
  have pBX0 := BX.out.cell 0 _ rfl
  have pBX1 := BX.out.cell 1 _ rfl
  have pBX2 := BX.out.cell 2 _ rfl
  have pBX3 := BX.out.cell 3 _ rfl
  go_wp2_with fail
  refine (HIS.out _ (ops_below HW.out HO.out)).mono ?_
  rintro e w5 ⟨rfl, hb⟩
  replace HW := Lib.hid (pass HW.out hb)
  replace BX := Lib.hid (Blk.kept hb BX.out)
  clear hb
  clear pBX0 pBX1 pBX2 pBX3
  clear hnn HPI HPS HIS
  obtain ⟨y0, y1, y2, y3, ub, hu, hub⟩ := unpack_is pn
  have hUI : ∀ w, OpsIs w → Calls Tryd.prog 11 #[.int .i64 pn] w fun e w' => e = .returned (.tuple #[.agg #[.int .i64 y0, .int .i64 y1, .int .i64 y2, .int .i64 y3], .bool ub]) ∧ Below w.heap.size w w' := fun w ho => by rw [← hu]; exact implUnpack_any pn w ho
  have HUI := Lib.hid hUI
  have HUB : Hid (b = true → (⟨y0, y1, y2, y3⟩ : Ins) = ⟨x0, x1, x2, x3⟩ ∧ ub = true) := Lib.hid (fun h => hub _ (HPV.out h).1 (HPV.out h).2.1)
  clear hUI hu hub hnb
  go_wp2_with fail
  refine (HUI.out _ (ops_below HW.out HO.out)).mono ?_
  rintro e w6 ⟨rfl, hb⟩
  replace HW := Lib.hid (pass HW.out hb)
  replace BX := Lib.hid (Blk.kept hb BX.out)
  clear hb
  have BY := Lib.hid (Blk.new w6 #[.int .i64 y0, .int .i64 y1, .int .i64 y2, .int .i64 y3] 25)
  obtain ⟨gBY, hg⟩ : ∃ g, w6.heap.size = g := ⟨_, rfl⟩
  obtain ⟨w7, hwa⟩ : ∃ wa, w6.alloc (.cells #[.int .i64 y0, .int .i64 y1, .int .i64 y2, .int .i64 y3] 25) = wa := ⟨_, rfl⟩
  have hba : Below w6.heap.size w6 w7 := by rw [← hwa]; exact below_more (Below.refl _ _) _
  rw [hwa, hg] at BY
  have HWA := Lib.hid hwa
  have HG := Lib.hid hg
  clear hwa hg
  replace HW := Lib.hid (pass HW.out hba)
  replace BX := Lib.hid (Blk.kept hba BX.out)
  clear hba
  go_upto_region 9 with fail
  rw [HWA.out, HG.out]
  clear HWA HG
  go_cut [68] from 59 to 67 (fun u wx => u = .bool false ∧ Hid (Below W.heap.size W wx) ∧ Hid (Blk wx gBX 25 #[.int .i64 x0, .int .i64 x1, .int .i64 x2, .int .i64 x3]))
  case first =>
    cases b with
    | false =>
      go_wp2_with fail
      go_meet
      exact ⟨rfl, HW, BX⟩
    | true =>
      obtain ⟨hy, rfl⟩ := HUB.out rfl
      simp only [Ins.mk.injEq] at hy
      obtain ⟨rfl, rfl, rfl, rfl⟩ := hy
      have pBX0 := BX.out.cell 0 _ rfl
      have pBX1 := BX.out.cell 1 _ rfl
      have pBX2 := BX.out.cell 2 _ rfl
      have pBX3 := BX.out.cell 3 _ rfl
      have pBY0 := BY.out.cell 0 _ rfl
      have pBY1 := BY.out.cell 1 _ rfl
      have pBY2 := BY.out.cell 2 _ rfl
      have pBY3 := BY.out.cell 3 _ rfl
      go_wp2_with fail
      go_meet
      exact ⟨rfl, HW, BX⟩
  case rest =>
    obtain ⟨rfl, hh, hh2⟩ := hcut
    replace HW := hh
    replace BX := hh2
    clear hh hh2 BY HUI HUB
    go_wp2_with fail
    refine (drawUnpack_any _ A n c zs HZ.out (HR.out _ HW.out) hn).mono ?_
    rintro e w8 ⟨⟨m, rfl, hm⟩, hb⟩
    replace HW := Lib.hid (pass HW.out hb)
    replace BX := Lib.hid (Blk.kept hb BX.out)
    clear hb
    obtain ⟨v0, v1, v2, v3, vb, hu, _⟩ := unpack_is m
    have hUI : ∀ w, OpsIs w → Calls Tryd.prog 11 #[.int .i64 m] w fun e w' => e = .returned (.tuple #[.agg #[.int .i64 v0, .int .i64 v1, .int .i64 v2, .int .i64 v3], .bool vb]) ∧ Below w.heap.size w w' := fun w ho => by rw [← hu]; exact implUnpack_any m w ho
    have hUS : ∀ w, Calls Tryd.prog 13 #[.int .i64 m] w fun e w' => e = .returned (.tuple #[.agg #[.int .i64 v0, .int .i64 v1, .int .i64 v2, .int .i64 v3], .bool vb]) ∧ Below w.heap.size w w' := fun w => by rw [← hu]; exact specUnpack_any m w
    have HUI := Lib.hid hUI
    have HUS := Lib.hid hUS
    clear hUI hUS hu
    go_wp2_with fail
    refine (HUI.out _ (ops_below HW.out HO.out)).mono ?_
    rintro e w9 ⟨rfl, hb⟩
    replace HW := Lib.hid (pass HW.out hb)
    replace BX := Lib.hid (Blk.kept hb BX.out)
    clear hb
    have BA := Lib.hid (Blk.new w9 #[.int .i64 v0, .int .i64 v1, .int .i64 v2, .int .i64 v3] 25)
    obtain ⟨gBA, hg⟩ : ∃ g, w9.heap.size = g := ⟨_, rfl⟩
    obtain ⟨w10, hwa⟩ : ∃ wa, w9.alloc (.cells #[.int .i64 v0, .int .i64 v1, .int .i64 v2, .int .i64 v3] 25) = wa := ⟨_, rfl⟩
    have hba : Below w9.heap.size w9 w10 := by rw [← hwa]; exact below_more (Below.refl _ _) _
    rw [hwa, hg] at BA
    have HWA := Lib.hid hwa
    have HG := Lib.hid hg
    clear hwa hg
    replace HW := Lib.hid (pass HW.out hba)
    replace BX := Lib.hid (Blk.kept hba BX.out)
    clear hba
    go_upto_region 13 with fail
    rw [HWA.out, HG.out]
    clear HWA HG
    go_wp2_with fail
    refine (HUS.out _).mono ?_
    rintro e w11 ⟨rfl, hb⟩
    replace HW := Lib.hid (pass HW.out hb)
    replace BX := Lib.hid (Blk.kept hb BX.out)
    replace BA := Lib.hid (Blk.kept hb BA.out)
    clear hb
    have BC := Lib.hid (Blk.new w11 #[.int .i64 v0, .int .i64 v1, .int .i64 v2, .int .i64 v3] 25)
    obtain ⟨gBC, hg⟩ : ∃ g, w11.heap.size = g := ⟨_, rfl⟩
    obtain ⟨w12, hwa⟩ : ∃ wa, w11.alloc (.cells #[.int .i64 v0, .int .i64 v1, .int .i64 v2, .int .i64 v3] 25) = wa := ⟨_, rfl⟩
    have hba : Below w11.heap.size w11 w12 := by rw [← hwa]; exact below_more (Below.refl _ _) _
    rw [hwa, hg] at BC
    have HWA := Lib.hid hwa
    have HG := Lib.hid hg
    clear hwa hg
    replace HW := Lib.hid (pass HW.out hba)
    replace BX := Lib.hid (Blk.kept hba BX.out)
    replace BA := Lib.hid (Blk.kept hba BA.out)
    clear hba
    go_upto_region 14 with fail
    rw [HWA.out, HG.out]
    clear HWA HG
    have hnb : (vb != vb) = false := by simp
    have pBX0 := BX.out.cell 0 _ rfl
    have pBX1 := BX.out.cell 1 _ rfl
    have pBX2 := BX.out.cell 2 _ rfl
    have pBX3 := BX.out.cell 3 _ rfl
    have pBA0 := BA.out.cell 0 _ rfl
    have pBA1 := BA.out.cell 1 _ rfl
    have pBA2 := BA.out.cell 2 _ rfl
    have pBA3 := BA.out.cell 3 _ rfl
    have pBC0 := BC.out.cell 0 _ rfl
    have pBC1 := BC.out.cell 1 _ rfl
    have pBC2 := BC.out.cell 2 _ rfl
    have pBC3 := BC.out.cell 3 _ rfl
    go_wp2_with fail
    refine (HAI.out _ (ops_below HW.out HO.out) (Fr.tabIs_below HW.out HT.out)).mono ?_
    rintro e w13 ⟨rfl, hb⟩
    replace HW := Lib.hid (pass HW.out hb)
    replace BX := Lib.hid (Blk.kept hb BX.out)
    replace BA := Lib.hid (Blk.kept hb BA.out)
    replace BC := Lib.hid (Blk.kept hb BC.out)
    clear hb hnb
    clear pBX0 pBX1 pBX2 pBX3 pBA0 pBA1 pBA2 pBA3 pBC0 pBC1 pBC2 pBC3
    clear BA BC
    have pBX0 := BX.out.cell 0 _ rfl
    have pBX1 := BX.out.cell 1 _ rfl
    have pBX2 := BX.out.cell 2 _ rfl
    have pBX3 := BX.out.cell 3 _ rfl
    go_wp2_with fail
    refine (HAS.out _).mono ?_
    rintro e w14 ⟨rfl, hb⟩
    replace HW := Lib.hid (pass HW.out hb)
    replace BX := Lib.hid (Blk.kept hb BX.out)
    clear hb
    clear pBX0 pBX1 pBX2 pBX3
    have hns : (sx.toList != sx.toList) = false := by simp
    have hnb : (b != b) = false := by simp
    obtain ⟨Y, yb, hy⟩ := asmRead_ex sx
    obtain ⟨y0, y1, y2, y3⟩ := Y
    have HRD := Lib.hid hy
    have HUB : Hid (b = true → (⟨y0, y1, y2, y3⟩ : Ins) = ⟨x0, x1, x2, x3⟩ ∧ yb = true) := Lib.hid (fun h => read_back hy (HPV.out h).1 (HPV.out h).2.2)
    clear hy
    go_wp2_with fail
    refine (implParseAsm_any sx y0 y1 y2 y3 yb HRD.out _ (by omega) (Fr.tabIs_below HW.out HT.out) (errs_below HW.out HE.out) (ops_below HW.out HO.out)).mono ?_
    rintro e w15 ⟨rfl, hb⟩
    replace HW := Lib.hid (pass HW.out hb)
    replace BX := Lib.hid (Blk.kept hb BX.out)
    clear hb
    clear hns hnb
    have BY := Lib.hid (Blk.new w15 #[.int .i64 y0, .int .i64 y1, .int .i64 y2, .int .i64 y3] 25)
    obtain ⟨gBY, hg⟩ : ∃ g, w15.heap.size = g := ⟨_, rfl⟩
    obtain ⟨w16, hwa⟩ : ∃ wa, w15.alloc (.cells #[.int .i64 y0, .int .i64 y1, .int .i64 y2, .int .i64 y3] 25) = wa := ⟨_, rfl⟩
    have hba : Below w15.heap.size w15 w16 := by rw [← hwa]; exact below_more (Below.refl _ _) _
    rw [hwa, hg] at BY
    have HWA := Lib.hid hwa
    have HG := Lib.hid hg
    clear hwa hg
    replace HW := Lib.hid (pass HW.out hba)
    replace BX := Lib.hid (Blk.kept hba BX.out)
    clear hba
    go_upto_region 21 with fail
    rw [HWA.out, HG.out]
    clear HWA HG
    go_cut [126] from 117 to 125 (fun u wx => u = .bool false ∧ Hid (Below W.heap.size W wx) ∧ Hid (Blk wx gBX 25 #[.int .i64 x0, .int .i64 x1, .int .i64 x2, .int .i64 x3]))
    case first =>
      cases b with
      | false =>
        go_wp2_with fail
        go_meet
        exact ⟨rfl, HW, BX⟩
      | true =>
        obtain ⟨hy, rfl⟩ := HUB.out rfl
        simp only [Ins.mk.injEq] at hy
        obtain ⟨rfl, rfl, rfl, rfl⟩ := hy
        have pBX0 := BX.out.cell 0 _ rfl
        have pBX1 := BX.out.cell 1 _ rfl
        have pBX2 := BX.out.cell 2 _ rfl
        have pBX3 := BX.out.cell 3 _ rfl
        have pBY0 := BY.out.cell 0 _ rfl
        have pBY1 := BY.out.cell 1 _ rfl
        have pBY2 := BY.out.cell 2 _ rfl
        have pBY3 := BY.out.cell 3 _ rfl
        go_wp2_with fail
        go_meet
        exact ⟨rfl, HW, BX⟩
    case rest =>
      obtain ⟨rfl, hh, hh2⟩ := hcut
      replace HW := hh
      replace BX := hh2
      clear hh hh2 BY HRD HUB HAI HAS HPV
      clear BX
      go_wp2_with fail
      refine (drawParseAsm_any _ A n c zs HZ.out (HR.out _ HW.out) hn).mono ?_
      rintro e w17 ⟨⟨t, rfl, ht⟩, hb⟩
      replace HW := Lib.hid (pass HW.out hb)
      clear hb
      obtain ⟨Y, yb, hy⟩ := asmRead_ex t
      obtain ⟨y0, y1, y2, y3⟩ := Y
      have hSP : ∀ w, Calls Tryd.prog 18 #[.string t] w fun e w' => e = .returned (.tuple #[.agg #[.int .i64 y0, .int .i64 y1, .int .i64 y2, .int .i64 y3], .bool yb]) ∧ Below w.heap.size w w' := fun w => specParseAsm_any t ⟨y0, y1, y2, y3⟩ yb hy w (by omega)
      have HSP := Lib.hid hSP
      have HRD := Lib.hid hy
      clear hy hSP
      go_wp2_with fail
      refine (implParseAsm_any t y0 y1 y2 y3 yb HRD.out _ (by omega) (Fr.tabIs_below HW.out HT.out) (errs_below HW.out HE.out) (ops_below HW.out HO.out)).mono ?_
      rintro e w18 ⟨rfl, hb⟩
      replace HW := Lib.hid (pass HW.out hb)
      clear hb
      have BA := Lib.hid (Blk.new w18 #[.int .i64 y0, .int .i64 y1, .int .i64 y2, .int .i64 y3] 25)
      obtain ⟨gBA, hg⟩ : ∃ g, w18.heap.size = g := ⟨_, rfl⟩
      obtain ⟨w19, hwa⟩ : ∃ wa, w18.alloc (.cells #[.int .i64 y0, .int .i64 y1, .int .i64 y2, .int .i64 y3] 25) = wa := ⟨_, rfl⟩
      have hba : Below w18.heap.size w18 w19 := by rw [← hwa]; exact below_more (Below.refl _ _) _
      rw [hwa, hg] at BA
      have HWA := Lib.hid hwa
      have HG := Lib.hid hg
      clear hwa hg
      replace HW := Lib.hid (pass HW.out hba)
      clear hba
      go_upto_region 25 with fail
      rw [HWA.out, HG.out]
      clear HWA HG
      go_wp2_with fail
      refine (HSP.out _).mono ?_
      rintro e w20 ⟨rfl, hb⟩
      replace HW := Lib.hid (pass HW.out hb)
      replace BA := Lib.hid (Blk.kept hb BA.out)
      clear hb
      have BC := Lib.hid (Blk.new w20 #[.int .i64 y0, .int .i64 y1, .int .i64 y2, .int .i64 y3] 25)
      obtain ⟨gBC, hg⟩ : ∃ g, w20.heap.size = g := ⟨_, rfl⟩
      obtain ⟨w21, hwa⟩ : ∃ wa, w20.alloc (.cells #[.int .i64 y0, .int .i64 y1, .int .i64 y2, .int .i64 y3] 25) = wa := ⟨_, rfl⟩
      have hba : Below w20.heap.size w20 w21 := by rw [← hwa]; exact below_more (Below.refl _ _) _
      rw [hwa, hg] at BC
      have HWA := Lib.hid hwa
      have HG := Lib.hid hg
      clear hwa hg
      replace HW := Lib.hid (pass HW.out hba)
      replace BA := Lib.hid (Blk.kept hba BA.out)
      clear hba
      go_upto_region 26 with fail
      rw [HWA.out, HG.out]
      clear HWA HG
      have hbb : (yb == yb) = true := by simp
      have pBA0 := BA.out.cell 0 _ rfl
      have pBA1 := BA.out.cell 1 _ rfl
      have pBA2 := BA.out.cell 2 _ rfl
      have pBA3 := BA.out.cell 3 _ rfl
      have pBC0 := BC.out.cell 0 _ rfl
      have pBC1 := BC.out.cell 1 _ rfl
      have pBC2 := BC.out.cell 2 _ rfl
      have pBC3 := BC.out.cell 3 _ rfl
      go_wp2_with fail
      go_ret
      exact ⟨by simp, HW.out⟩

set_option maxHeartbeats 4000000 in
set_option maxRecDepth 100000 in
/-- the law's Go text returns true, and nothing that was there has turned -/
theorem walk {H : Type} {enc : TypeId × Value → H} (W : World) (base : Nat) (v0 : Value) (d0 : DataW H) (p0 : List MemPlace) (q0 : Value.okWide Tryd.prog W .any base 22 v0) (h0 : DataW.Trod enc Tryd.prog W 0 (fun _ => true) true 22 v0 d0 p0) (l0 : ∀ x ∈ p0, x.block < W.heap.size) (hL : laidMetH Tryd.prog Rows.fnInstructionsRow.laid W) (hsh : W.ShapedOpen Tryd.prog) :
    Calls Tryd.prog 3 #[v0] W fun e W' => e = .returned (.bool true) ∧ Below W.heap.size W W' := by
  have ho := tab hL
  have ht := tab2 hL
  have he := errs hL
  clear hsh hL
  obtain ⟨A, n, c, zs, rfl, hc, hcm, hl, hwf, hr⟩ := open_nums Tryd.underlying22 Tryd.underlying5 (by kernel_rfl) q0 h0
  exact walk0 W A n c zs (fun z hz => bounds_u8 (hwf z hz)) hr ho ht he
noncomputable def laidWorld (os : Os) : World := { World.holding Tryd.prog os ⟨#[], #[], []⟩ with heap := (((((((((World.holding Tryd.prog os ⟨#[], #[], []⟩).heap).modify 2 (Fr.lay #[.int .u8 0, .int .u8 1, .int .u8 28, .int .u8 2, .int .u8 29, .int .u8 14, .int .u8 24, .int .u8 3, .int .u8 30, .int .u8 22, .int .u8 20, .int .u8 15, .int .u8 25, .int .u8 17, .int .u8 4, .int .u8 8, .int .u8 31, .int .u8 27, .int .u8 13, .int .u8 23, .int .u8 21, .int .u8 19, .int .u8 16, .int .u8 7, .int .u8 26, .int .u8 12, .int .u8 18, .int .u8 6, .int .u8 11, .int .u8 5, .int .u8 10, .int .u8 9])).modify 3 (Fr.lay #[.int .u8 0, .int .u8 1, .int .u8 56, .int .u8 2, .int .u8 57, .int .u8 49, .int .u8 28, .int .u8 3, .int .u8 61, .int .u8 58, .int .u8 42, .int .u8 50, .int .u8 38, .int .u8 29, .int .u8 17, .int .u8 4, .int .u8 62, .int .u8 47, .int .u8 59, .int .u8 36, .int .u8 45, .int .u8 43, .int .u8 51, .int .u8 22, .int .u8 53, .int .u8 39, .int .u8 33, .int .u8 30, .int .u8 24, .int .u8 18, .int .u8 12, .int .u8 5, .int .u8 63, .int .u8 55, .int .u8 48, .int .u8 27, .int .u8 60, .int .u8 41, .int .u8 37, .int .u8 16, .int .u8 46, .int .u8 35, .int .u8 44, .int .u8 21, .int .u8 52, .int .u8 32, .int .u8 23, .int .u8 11, .int .u8 54, .int .u8 26, .int .u8 40, .int .u8 15, .int .u8 34, .int .u8 20, .int .u8 31, .int .u8 10, .int .u8 25, .int .u8 14, .int .u8 19, .int .u8 9, .int .u8 13, .int .u8 8, .int .u8 7, .int .u8 6])).modify 1 (Fr.lay #[.int .u64 1, .int .u64 10, .int .u64 100, .int .u64 1000, .int .u64 10000, .int .u64 100000, .int .u64 1000000, .int .u64 10000000, .int .u64 100000000, .int .u64 1000000000, .int .u64 10000000000, .int .u64 100000000000, .int .u64 1000000000000, .int .u64 10000000000000, .int .u64 100000000000000, .int .u64 1000000000000000, .int .u64 10000000000000000, .int .u64 100000000000000000, .int .u64 1000000000000000000, .int .u64 10000000000000000000])).modify 5 (Fr.lay #[.iface 137 (.pointer (some ⟨(World.holding Tryd.prog os ⟨#[], #[], []⟩).heap.size + 0, 0, none⟩))])).modify 4 (Fr.lay #[.iface 137 (.pointer (some ⟨(World.holding Tryd.prog os ⟨#[], #[], []⟩).heap.size + 1, 0, none⟩))])).modify 0 (Fr.lay #[.string ⟨#[104, 97, 108, 116]⟩, .int .i64 1, .int .i64 1, .int .i64 1, .string ⟨#[115, 101, 116]⟩, .int .i64 4, .int .i64 1, .int .i64 65536, .string ⟨#[109, 111, 118, 101]⟩, .int .i64 4, .int .i64 4, .int .i64 1, .string ⟨#[97, 100, 100]⟩, .int .i64 4, .int .i64 4, .int .i64 1, .string ⟨#[115, 117, 98]⟩, .int .i64 4, .int .i64 4, .int .i64 1, .string ⟨#[97, 110, 100]⟩, .int .i64 4, .int .i64 4, .int .i64 1, .string ⟨#[115, 104, 105, 102, 116]⟩, .int .i64 4, .int .i64 1, .int .i64 16, .string ⟨#[106, 117, 109, 112]⟩, .int .i64 1, .int .i64 1, .int .i64 16, .string ⟨#[106, 117, 109, 112, 122, 101, 114, 111]⟩, .int .i64 1, .int .i64 1, .int .i64 16, .string ⟨#[116, 114, 97, 112]⟩, .int .i64 1, .int .i64 1, .int .i64 256])).push (.cells #[.string ⟨#[118, 97, 108, 117, 101, 32, 111, 117, 116, 32, 111, 102, 32, 114, 97, 110, 103, 101]⟩] 139)).push (.cells #[.string ⟨#[105, 110, 118, 97, 108, 105, 100, 32, 115, 121, 110, 116, 97, 120]⟩] 139) }
theorem laid_met (os : Os) : laidMetH Tryd.prog Rows.fnInstructionsRow.laid ((laidWorld os).forCall (fun _ _ => 0) ⟨#[], #[(.slice none 0 0 : Value)], []⟩).memory := laidMet_of_run' 8 (by kernel_rfl) (by kernel_rfl)
theorem reads (os : Os) {H : Type} (enc : TypeId × Value → H) : (DataW.whole enc Tryd.prog ((laidWorld os).forCall (fun _ _ => 0) ⟨#[], #[(.slice none 0 0 : Value)], []⟩).memory Tryd.f3.params.toList Rows.fnInstructionsSpec.vars false #[(.slice none 0 0 : Value)].toList 8).isSome = true := by kernel_rfl
set_option maxRecDepth 100000 in
theorem lifted (os : Os) (started : os.Started) (H : Type) (enc : TypeId × Value → H) (F : Stop.Interp) :
    ReturnsInHanded {} Tryd.checked os 3 .any ((OpenSpec.ofChange Rows.fnInstructionsSpec).preRow enc Tryd.prog Tryd.f3 Rows.fnInstructionsRow.domain false Rows.fnInstructionsRow.laid) (((OpenSpec.ofChange Rows.fnInstructionsSpec).at F).post enc Tryd.prog Tryd.f3 false true false false) := by
  obtain ⟨x, hx⟩ := Option.isSome_iff_exists.1 (reads os enc)
  refine returnsInHanded_of_row (C := Tryd.checked) (s := OpenSpec.ofChange Rows.fnInstructionsSpec) own started (by kernel_rfl) Tryd.func3
    (witness_row_at (enc := enc) (C := Tryd.checked) false (laidWorld os) #[(.slice none 0 0 : Value)] rfl (by kernel_rfl) (by kernel_rfl) (by kernel_rfl)
      (OpenSpec.preRow_of_cond 8 hx (by rfl) (fun k hk => by cases hk) (by kernel_rfl) (laid_met os))) ?_
  intro W base args ds gs before hval0 hW _ hcond hsz hL hsh _
  have hval : ∀ (j : Nat) t v, Tryd.f3.params[j]? = some t → args[j]? = some v → Value.okWide Tryd.prog W .any base t v := hval0
  have hW' := hW
  obtain ⟨p, q, hA0, hV, rfl, hfz, hnd⟩ := hW
  have hA : DataW.TrodAll enc Tryd.prog W 0 (fun _ => true) true Tryd.f3.params.toList args.toList ds p := hA0
  rw [Tryd.params3] at hA hval
  obtain ⟨v0, vs0, d0, ds0, p0, q0, hargs, rfl, rfl, h0, r0⟩ := trodAll_cons hA
  obtain ⟨rfl, rfl, rfl⟩ := trodAll_nil r0
  obtain rfl : args = #[v0] := by cases args; simp_all
  clear hA0 hval0
  try simp only [List.append_nil] at hW'
  refine (walk (enc := enc) W base v0 d0 p0 (hval 0 22 v0 rfl rfl) h0 (fun x hx => hW'.lt x (by simp [hx])) hL hsh).mono fun e W' ⟨he, hb⟩ => ⟨_, he, Fr.post_true_v laidOut (by kernel_rfl) (by kernel_rfl) Tryd.underlying4 (by kernel_rfl) hW' (fun xs ys hx hy => by match xs, ys, hx, hy with | [x0], [y0], _, _ => rfl) hb⟩
theorem said : Rows.FnInstructionsSaid :=
  OpenClaim.holds_of_cond 3 Tryd.f3 rfl rfl rfl rfl rfl rfl rfl ⟨rfl, rfl, rfl, rfl, rfl⟩ rfl rfl rfl rfl rfl (by kernel_rfl) Tryd.func3 (by kernel_rfl)
    (of_decide_eq_true (by kernel_rfl)) (by unfold Func.isWrapper; first | (rw [if_pos (by decide +kernel)]; kernel_rfl) | (rw [if_neg (by decide +kernel)]; exact ⟨rfl, rfl⟩))
    (fun os started H enc _ F => by rw [OpenClaim.pre_eq_preRow]; exact lifted os started H enc F)
theorem plain (f : FuncId) (fn : Func) (hf : Tryd.pinned.checked.prog.funcNamed "loop.example/g00843/laws.FnInstructions" = some f) (hfn : Tryd.pinned.checked.prog.funcs[f]? = some fn) :
    true = Tryd.pinned.checked.prog.looks [] ∧ ∀ (j : Nat) t, fn.params[j]? = some t → Tryd.pinned.checked.prog.wantsStandIn t = false := by
  obtain rfl : f = 3 := Option.some.inj ((show Tryd.prog.funcNamed "loop.example/g00843/laws.FnInstructions" = some 3 by kernel_rfl).symm.trans hf) |>.symm
  obtain rfl : fn = Tryd.f3 := (Option.some.inj (Tryd.func3.symm.trans hfn)).symm
  refine ⟨by kernel_rfl, fun j t ht => ?_⟩
  have hall : Tryd.f3.params.toList.all (fun t => !Tryd.prog.wantsStandIn t) = true := by kernel_rfl
  have := List.all_eq_true.1 hall t (by simpa using Array.mem_of_getElem? ht)
  show Tryd.prog.wantsStandIn t = false
  simpa using this
theorem card : Rows.FnInstructionsCardSaid :=
  Claim7.holds_tied_plain_at .later [] _ _ _ _ said (fun _ h => by cases h) (by kernel_rfl) (fun _ h => by cases h) fnInstructions_row_tie rfl ⟨rfl, rfl⟩ (by kernel_rfl) rfl plain (by kernel_rfl)
#print axioms card
end Go.Proofs.YtfdbnolifimnhabDoor.fnInstructions
