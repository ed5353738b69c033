/- For every instruction the law FnExactAssemblyText returns true; the listed variables read as the program's text lays them (the card ties them). -/
import Derived.Test.YtodecmdgcopkiaaDoorCards
import Derived.Test.YtodecmdgcopkiaaDoorTie
import Derived.Test.YtodecmdgcopkiaaDoorFrame
import Derived.Test.YtodecmdgcopkiaaDoorAsmS
import Derived.Test.YtodecmdgcopkiaaDoorOpenI
namespace Go.Proofs.YtodecmdgcopkiaaDoor.fnExactAssemblyText
open Go.ChangeShapes Go.WideShapes Go.ChangeAt Go.RowKit
open Go.ChangeMaps (open_string shut_string)
open Go.Proofs.YtodecmdgcopkiaaDoor.L3 Go.Proofs.YtodecmdgcopkiaaDoor.Mem Go.Proofs.YtodecmdgcopkiaaDoor.Own
set_option linter.unusedVariables false
theorem own : ownKnob Tryd.prog.godebug = none := by kernel_rfl
theorem laidOut : laidOutB Tryd.prog = true := by kernel_rfl
theorem tab {W : World} (h : laidMetH Tryd.prog Rows.fnExactAssemblyTextRow.laid W) : OpsIs W := opsIs_of_mem h (.tail _ (.tail _ (.tail _ (.head _))))
theorem tab2 {W : World} (h : laidMetH Tryd.prog Rows.fnExactAssemblyTextRow.laid W) : Lib.TabIs Tryd.prog W "internal/strconv.uint64pow10" .u64 Lib.pow10Tab :=
  Fr.tabIs_of_mem (g := 1) (by kernel_rfl) (by kernel_rfl) Tryd.underlying130 Tryd.underlying82 (by kernel_rfl) (by kernel_rfl) h (.tail _ (.tail _ (.head _)))

set_option maxHeartbeats 4000000 in
set_option maxRecDepth 100000 in
/-- the law's Go text returns true, and nothing that was there has turned -/
theorem walk {H : Type} {enc : TypeId × Value → H} (W : World) (base : Nat) (v0 : Value) (d0 : DataW H) (p0 : List MemPlace) (q0 : Value.okWide Tryd.prog W .any base 57 v0) (h0 : DataW.Trod enc Tryd.prog W 0 (fun _ => true) true 57 v0 d0 p0) (l0 : ∀ x ∈ p0, x.block < W.heap.size) (hL : laidMetH Tryd.prog Rows.fnExactAssemblyTextRow.laid W) (hsh : W.ShapedOpen Tryd.prog) :
    Calls Tryd.prog 12 #[v0] W fun e W' => e = .returned (.bool true) ∧ Below W.heap.size W W' := by
  have HO := Lib.hid (tab hL)
  have HTB := Lib.hid (tab2 hL)
  clear hL hsh
  obtain ⟨x, rfl⟩ := open_ins q0 h0
  obtain ⟨r, b, hb⟩ : ∃ r b, asmAns x = .tuple #[.string r, .bool b] := by
    unfold asmAns
    split
    · exact ⟨_, _, rfl⟩
    · exact ⟨_, _, rfl⟩
  have HS := Lib.hid fun w => specAsm_any x w
  have HI := Lib.hid fun w ho ht => implAsm_any x w ho ht
  rw [hb] at HS HI
  clear hb
  have HT := Lib.hid fun w => toInstruction_any x w
  clear h0 q0 l0
  obtain ⟨op, xa, xb, xn⟩ := x
  dsimp only at HS HI
  show Calls Tryd.prog 12 #[.agg #[.int .i64 op, .int .i64 xa, .int .i64 xb, .int .i64 xn]] W fun e W' => e = .returned (.bool true) ∧ Below W.heap.size W W'
  go_enter Tryd.func12, Tryd.ntmps12
  go_wp2_with fail
  refine (HT.out _).mono ?_
  rintro e w1 ⟨rfl, hb⟩
  have hX1 := Lib.hid (Blk.kept hb (Blk.new _ _ _))
  have hW1 := Lib.hid (below_then (below_more (Below.refl _ _) _) hb)
  clear hb
  go_wp2_with fail
  refine (HS.out _).mono ?_
  rintro e w2 ⟨rfl, hb⟩
  have hX2 := Lib.hid (Blk.kept hb hX1.out)
  have hW2 := Lib.hid (below_then hW1.out hb)
  clear hb hX1 hW1
  have k0 := hX2.out.cell 0 _ rfl
  have k1 := hX2.out.cell 1 _ rfl
  have k2 := hX2.out.cell 2 _ rfl
  have k3 := hX2.out.cell 3 _ rfl
  go_wp2_with fail
  refine (HT.out _).mono ?_
  rintro e w3 ⟨rfl, hb⟩
  have hW3 := Lib.hid (below_then hW2.out hb)
  clear hb hW2 k0 k1 k2 k3
  go_wp2_with fail
  refine (HI.out _ (ops_below hW3.out HO.out) (Fr.tabIs_below hW3.out HTB.out)).mono ?_
  rintro e w4 ⟨rfl, hb⟩
  have hW4 := Lib.hid (below_then hW3.out hb)
  clear hb hW3
  go_wp2_with fail
  go_ret
  exact ⟨rfl, hW4.out⟩
noncomputable def laidWorld (os : Os) : World := { World.holding Tryd.prog os ⟨#[], #[], []⟩ with heap := (((((World.holding Tryd.prog os ⟨#[], #[], []⟩).heap).modify 2 (Fr.lay #[.int .u8 0, .int .u8 1, .int .u8 28, .int .u8 2, .int .u8 29, .int .u8 14, .int .u8 24, .int .u8 3, .int .u8 30, .int .u8 22, .int .u8 20, .int .u8 15, .int .u8 25, .int .u8 17, .int .u8 4, .int .u8 8, .int .u8 31, .int .u8 27, .int .u8 13, .int .u8 23, .int .u8 21, .int .u8 19, .int .u8 16, .int .u8 7, .int .u8 26, .int .u8 12, .int .u8 18, .int .u8 6, .int .u8 11, .int .u8 5, .int .u8 10, .int .u8 9])).modify 3 (Fr.lay #[.int .u8 0, .int .u8 1, .int .u8 56, .int .u8 2, .int .u8 57, .int .u8 49, .int .u8 28, .int .u8 3, .int .u8 61, .int .u8 58, .int .u8 42, .int .u8 50, .int .u8 38, .int .u8 29, .int .u8 17, .int .u8 4, .int .u8 62, .int .u8 47, .int .u8 59, .int .u8 36, .int .u8 45, .int .u8 43, .int .u8 51, .int .u8 22, .int .u8 53, .int .u8 39, .int .u8 33, .int .u8 30, .int .u8 24, .int .u8 18, .int .u8 12, .int .u8 5, .int .u8 63, .int .u8 55, .int .u8 48, .int .u8 27, .int .u8 60, .int .u8 41, .int .u8 37, .int .u8 16, .int .u8 46, .int .u8 35, .int .u8 44, .int .u8 21, .int .u8 52, .int .u8 32, .int .u8 23, .int .u8 11, .int .u8 54, .int .u8 26, .int .u8 40, .int .u8 15, .int .u8 34, .int .u8 20, .int .u8 31, .int .u8 10, .int .u8 25, .int .u8 14, .int .u8 19, .int .u8 9, .int .u8 13, .int .u8 8, .int .u8 7, .int .u8 6])).modify 1 (Fr.lay #[.int .u64 1, .int .u64 10, .int .u64 100, .int .u64 1000, .int .u64 10000, .int .u64 100000, .int .u64 1000000, .int .u64 10000000, .int .u64 100000000, .int .u64 1000000000, .int .u64 10000000000, .int .u64 100000000000, .int .u64 1000000000000, .int .u64 10000000000000, .int .u64 100000000000000, .int .u64 1000000000000000, .int .u64 10000000000000000, .int .u64 100000000000000000, .int .u64 1000000000000000000, .int .u64 10000000000000000000])).modify 0 (Fr.lay #[.string ⟨#[104, 97, 108, 116]⟩, .int .i64 1, .int .i64 1, .int .i64 1, .string ⟨#[115, 101, 116]⟩, .int .i64 4, .int .i64 1, .int .i64 65536, .string ⟨#[109, 111, 118, 101]⟩, .int .i64 4, .int .i64 4, .int .i64 1, .string ⟨#[97, 100, 100]⟩, .int .i64 4, .int .i64 4, .int .i64 1, .string ⟨#[115, 117, 98]⟩, .int .i64 4, .int .i64 4, .int .i64 1, .string ⟨#[97, 110, 100]⟩, .int .i64 4, .int .i64 4, .int .i64 1, .string ⟨#[115, 104, 105, 102, 116]⟩, .int .i64 4, .int .i64 1, .int .i64 16, .string ⟨#[106, 117, 109, 112]⟩, .int .i64 1, .int .i64 1, .int .i64 16, .string ⟨#[106, 117, 109, 112, 122, 101, 114, 111]⟩, .int .i64 1, .int .i64 1, .int .i64 16, .string ⟨#[116, 114, 97, 112]⟩, .int .i64 1, .int .i64 1, .int .i64 256]) }
theorem laid_met (os : Os) : laidMetH Tryd.prog Rows.fnExactAssemblyTextRow.laid ((laidWorld os).forCall (fun _ _ => 0) ⟨#[], #[(.agg #[.int .i64 0, .int .i64 0, .int .i64 0, .int .i64 0] : Value)], []⟩).memory := laidMet_of_run' 8 (by kernel_rfl) (by kernel_rfl)
theorem reads (os : Os) {H : Type} (enc : TypeId × Value → H) : (DataW.whole enc Tryd.prog ((laidWorld os).forCall (fun _ _ => 0) ⟨#[], #[(.agg #[.int .i64 0, .int .i64 0, .int .i64 0, .int .i64 0] : Value)], []⟩).memory Tryd.f12.params.toList Rows.fnExactAssemblyTextSpec.vars false #[(.agg #[.int .i64 0, .int .i64 0, .int .i64 0, .int .i64 0] : Value)].toList 8).isSome = true := by kernel_rfl
set_option maxRecDepth 100000 in
theorem lifted (os : Os) (started : os.Started) (H : Type) (enc : TypeId × Value → H) (F : Stop.Interp) :
    ReturnsInHanded {} Tryd.checked os 12 .any ((OpenSpec.ofChange Rows.fnExactAssemblyTextSpec).preRow enc Tryd.prog Tryd.f12 Rows.fnExactAssemblyTextRow.domain false Rows.fnExactAssemblyTextRow.laid) (((OpenSpec.ofChange Rows.fnExactAssemblyTextSpec).at F).post enc Tryd.prog Tryd.f12 false true false false) := by
  obtain ⟨x, hx⟩ := Option.isSome_iff_exists.1 (reads os enc)
  refine returnsInHanded_of_row (C := Tryd.checked) (s := OpenSpec.ofChange Rows.fnExactAssemblyTextSpec) own started (by kernel_rfl) Tryd.func12
    (witness_row_at (enc := enc) (C := Tryd.checked) false (laidWorld os) #[(.agg #[.int .i64 0, .int .i64 0, .int .i64 0, .int .i64 0] : Value)] rfl (by kernel_rfl) (by kernel_rfl) (by kernel_rfl)
      (OpenSpec.preRow_of_cond 8 hx (by rfl) (fun k hk => by cases hk) (by kernel_rfl) (laid_met os))) ?_
  intro W base args ds gs before hval0 hW _ hcond hsz hL hsh _
  have hval : ∀ (j : Nat) t v, Tryd.f12.params[j]? = some t → args[j]? = some v → Value.okWide Tryd.prog W .any base t v := hval0
  have hW' := hW
  obtain ⟨p, q, hA0, hV, rfl, hfz, hnd⟩ := hW
  have hA : DataW.TrodAll enc Tryd.prog W 0 (fun _ => true) true Tryd.f12.params.toList args.toList ds p := hA0
  rw [Tryd.params12] at hA hval
  obtain ⟨v0, vs0, d0, ds0, p0, q0, hargs, rfl, rfl, h0, r0⟩ := trodAll_cons hA
  obtain ⟨rfl, rfl, rfl⟩ := trodAll_nil r0
  obtain rfl : args = #[v0] := by cases args; simp_all
  clear hA0 hval0
  try simp only [List.append_nil] at hW'
  refine (walk (enc := enc) W base v0 d0 p0 (hval 0 57 v0 rfl rfl) h0 (fun x hx => hW'.lt x (by simp [hx])) hL hsh).mono fun e W' ⟨he, hb⟩ => ⟨_, he, Fr.post_true_v laidOut (by kernel_rfl) (by kernel_rfl) Tryd.underlying4 (by kernel_rfl) hW' (fun xs ys hx hy => by match xs, ys, hx, hy with | [x0], [y0], _, _ => rfl) hb⟩
theorem said : Rows.FnExactAssemblyTextSaid :=
  OpenClaim.holds_of_cond 12 Tryd.f12 rfl rfl rfl rfl rfl rfl rfl ⟨rfl, rfl, rfl, rfl, rfl⟩ rfl rfl rfl rfl rfl (by kernel_rfl) Tryd.func12 (by kernel_rfl)
    (of_decide_eq_true (by kernel_rfl)) (by unfold Func.isWrapper; first | (rw [if_pos (by decide +kernel)]; kernel_rfl) | (rw [if_neg (by decide +kernel)]; exact ⟨rfl, rfl⟩))
    (fun os started H enc _ F => by rw [OpenClaim.pre_eq_preRow]; exact lifted os started H enc F)
theorem plain (f : FuncId) (fn : Func) (hf : Tryd.pinned.checked.prog.funcNamed "loop.example/g00843/laws.FnExactAssemblyText" = some f) (hfn : Tryd.pinned.checked.prog.funcs[f]? = some fn) :
    true = Tryd.pinned.checked.prog.looks [] ∧ ∀ (j : Nat) t, fn.params[j]? = some t → Tryd.pinned.checked.prog.wantsStandIn t = false := by
  obtain rfl : f = 12 := Option.some.inj ((show Tryd.prog.funcNamed "loop.example/g00843/laws.FnExactAssemblyText" = some 12 by kernel_rfl).symm.trans hf) |>.symm
  obtain rfl : fn = Tryd.f12 := (Option.some.inj (Tryd.func12.symm.trans hfn)).symm
  refine ⟨by kernel_rfl, fun j t ht => ?_⟩
  have hall : Tryd.f12.params.toList.all (fun t => !Tryd.prog.wantsStandIn t) = true := by kernel_rfl
  have := List.all_eq_true.1 hall t (by simpa using Array.mem_of_getElem? ht)
  show Tryd.prog.wantsStandIn t = false
  simpa using this
theorem card : Rows.FnExactAssemblyTextCardSaid :=
  Claim7.holds_tied_plain_at .later [] _ _ _ _ said (fun _ h => by cases h) (by kernel_rfl) (fun _ h => by cases h) fnExactAssemblyText_row_tie rfl ⟨rfl, rfl⟩ (by kernel_rfl) rfl plain (by kernel_rfl)
#print axioms card
end Go.Proofs.YtodecmdgcopkiaaDoor.fnExactAssemblyText
