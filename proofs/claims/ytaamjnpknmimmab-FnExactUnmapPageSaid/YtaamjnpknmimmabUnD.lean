/- What spec.UnmapPage answers where a leaf goes. -/
import Derived.Test.YtaamjnpknmimmabUnS
import Derived.Test.YtaamjnpknmimmabTabL
import Derived.Deep.AppendLies
import Derived.StillTailTactics
namespace Go.Proofs.Ytaamjnpknmimmab.L4
open Go Go.RowKit Go.Proofs.Ytaamjnpknmimmab.Mem Go.Proofs.Ytaamjnpknmimmab.Own Go.Proofs.Ytaamjnpknmimmab.L1
/-- where the leaves are a new slice: the parts lie apart -/
structure Und (w wx : World) (cp gA c' g5 m5 c5 : Nat) (vs5 : List Value) (ls : List (List Ent)) (ds : List Int) : Prop where
  below : Below w.heap.size w wx
  res : Blk wx (w.heap.size + 1) 29 #[.slice none 0 0, .slice none 0 0]
  cpy : Blk wx cp 29 #[.slice (some ⟨gA, 0, none⟩) 4 c', .slice (some ⟨g5, 0, none⟩) m5 c5]
  dirs : Row wx (w.heap.size + 1 + 1) cp 3 1 (.slice (some ⟨gA, 0, none⟩) 4 c') 4 (I ds)
  outer : wx.ownsRow (cp + 1) 74 1 (.slice (some ⟨g5, 0, none⟩) m5 c5) m5 vs5
  inn : Inn wx (w.heap.size + 1 + 1) cp vs5 ls
theorem Und.next {w wx wy : World} {cp gA c' g5 m5 c5 : Nat} {vs5 : List Value} {ls : List (List Ent)} {ds : List Int} (h : Und w wx cp gA c' g5 m5 c5 vs5 ls ds) (hb : Below wx.heap.size wx wy) : Und w wy cp gA c' g5 m5 c5 vs5 ls ds :=
  ⟨below_then h.below hb, Blk.kept hb h.res, Blk.kept hb h.cpy, h.dirs.below hb, own_below h.outer hb, h.inn.below hb⟩
theorem Und.setD {w wx : World} {cp gA c' g5 m5 c5 : Nat} {vs5 : List Value} {ls : List (List Ent)} {ds : List Int} (h : Und w wx cp gA c' g5 m5 c5 vs5 ls ds) (j : Nat) (z : Int) : Und w (wx.setCell ⟨gA, j, none⟩ (.int .i64 z)) cp gA c' g5 m5 c5 vs5 ls (ds.set j z) := by
  have s := h.dirs.own.stored j (.int .i64 z)
  have ho := Only.of_Row h.dirs s.2
  exact ⟨ho.below h.below (by omega), h.res.only ho (.inl (by omega)), h.cpy.only ho (.inr (Nat.le_refl _)), ⟨by rw [← I_set]; exact s.1, h.dirs.lt⟩,
    own_only (b := g5 + 1) h.outer (fun g hg => by simp only [Value.ownBlock, Option.some.injEq] at hg; omega) ho (.inr (Nat.le_succ _)), h.inn.away (u := .slice (some ⟨gA, 0, none⟩) 4 c') h.dirs.own (by decide) s.2⟩
theorem Und.fin {w wx : World} {cp gA c' g5 m5 c5 : Nat} {vs5 : List Value} {ls : List (List Ent)} {ds : List Int} (h : Und w wx cp gA c' g5 m5 c5 vs5 ls ds) (hc : w.heap.size + 1 + 1 ≤ cp) (u v : Value) :
    OwnT ((wx.setCell ⟨w.heap.size + 1, 0, none⟩ u).setCell ⟨w.heap.size + 1, 1, none⟩ v) w.heap.size ((wx.setCell ⟨w.heap.size + 1, 0, none⟩ u).setCell ⟨w.heap.size + 1, 1, none⟩ v).heap.size (some ⟨gA, 0, none⟩) 4 c' (some ⟨g5, 0, none⟩) m5 c5 ⟨ds, ls⟩ := by
  have ho := (Only.set wx (w.heap.size + 1) 0 u).trans (Only.set _ (w.heap.size + 1) 1 v)
  have hcl := h.cpy.lt
  have hsz : ((wx.setCell ⟨w.heap.size + 1, 0, none⟩ u).setCell ⟨w.heap.size + 1, 1, none⟩ v).heap.size = wx.heap.size := by simp
  have h5 := (h.outer.lt g5 rfl)
  have hout := own_only (b := g5 + 1) h.outer (fun g hg => by simp only [Value.ownBlock, Option.some.injEq] at hg; omega) ho (.inr (by omega))
  refine ⟨(h.dirs.only ho (.inr (by omega))).mono (by omega) (by omega), vs5, ⟨own_mono hout (by omega), fun g hg => ?_⟩, (h.inn.only ho (.inr (by omega))).mono (by omega) (by omega)⟩
  simp only [Value.ownBlock, Option.some.injEq] at hg
  omega
/-- append onto what is owned and is not nil, whatever its length, as a step of a region that draws -/
theorem step_own {P : Program} {w : World} {ops : Array Oper} {o : Oper} {a : Act} {K : Act → World → Prop} {Q : Exit → Act → World → Prop} {E : Prop} (hgd : o.guard = none) (s x : Operand) (t : TypeId)
    (ho : o.op = .call { callee := .builtin .append, args := #[s, x], argTypes := #[t, t] })
    (base : Nat) (e : TypeId) (i : TypeInfo) (z : Value) (size bytes : Nat) (ht : P.underlying t = some (.slice e)) (hi : P.info? e = some i) (hz : i.zero = some z)
    (hsize : i.size = size) (hby : i.bytes = bytes) (hzs : z.cells.size = size) (hsz : 0 < size)
    (v : Value) (n : Nat) (xs : List Value) (hs : a.eval s = v) (hown : w.ownsRow base e size v n xs) (hv : v ≠ .slice none 0 0)
    (ad : Addr) (m c : Nat) (news : List Value) (hx : a.eval x = .slice (some ad) m c) (hl : news.length = m * size) (hnews : ∀ j u, news[j]? = some u → w.cell? (ad.add j) = some u) (h1 : ∀ u ∈ news, u.oneCell' = true)
    (h63 : n + m ≤ maxLen) (hbytes : (n + m) * bytes ≤ 140737488355328) (hbase : base ≤ w.heap.size)
    (h : ∀ g cap w', w'.ownsRow base e size (.slice (some ⟨g, 0, none⟩) (n + m) cap) (n + m) (xs ++ news) → w.grownBy w' v.ownBlock → K (a.put o.dst (.slice (some ⟨g, 0, none⟩) (n + m) cap)) w') :
    if Region.wanted o (yielded ops a.tmps) = true then Oper.wp P o a w K Q else E := by
  have hw : Region.wanted o (yielded ops a.tmps) = true := by simp [Region.wanted, hgd]
  rw [if_pos hw]
  refine wp_append_own w s x t ho base e i z size bytes ht hi hz hsize hby hzs hsz v n xs hs hown ad m c news hx hl hnews h1 h63 hbytes hbase fun v' w' h2 h3 h4 => ?_
  rcases h2.2 with ⟨e1, _⟩ | ⟨g, cap, cur, rfl, _⟩
  · exact absurd (h4.1 e1).1 hv
  · exact h g cap w' h2 h3
set_option maxRecDepth 100000 in
set_option maxHeartbeats 4000000 in
theorem specUnm_drop (A : Option Addr) (n c : Nat) (D : Option Addr) (m d p : Nat) (t : Tab) (w : World) (hr : ReadsT w w.heap.size A n D m t) (hn : n ≤ 1048576) (hm : m ≤ 1048576) (hl : ∀ xs ∈ t.leaves, xs.length ≤ 1048576) (hnc : n ≤ c) (hcan : CanP t p) (hgo : isE ((setE t p noEnt).leaves.getD (dirOf t p).toNat ([] : List Ent)) = true) :
    Calls Try.prog 9 #[.agg #[.slice A n c, .slice D m d], .int .i64 p] w fun e w' => ∃ A' c' D' d', e = .returned (.tuple #[.agg #[.slice A' 4 c', .slice D' (m - 1) d'], .bool true]) ∧ OwnT w' w.heap.size w'.heap.size A' 4 c' D' (m - 1) d' (withoutT (setE t p noEnt) (dirOf t p).toNat) ∧ Below w.heap.size w w' := by
  obtain ⟨wb, hwb⟩ : ∃ wb, (w.alloc (.cells #[.slice A n c, .slice D m d] 29)).alloc (.cells #[.slice none 0 0, .slice none 0 0] 29) = wb := ⟨_, rfl⟩
  have hb0 : Below w.heap.size w wb := by rw [← hwb]; exact below_more (below_more (Below.refl _ _) _) _
  have h0 : Blk wb w.heap.size 29 #[.slice A n c, .slice D m d] := by rw [← hwb]; exact Blk.alloc (Blk.new _ _ _) _
  have h1 : Blk wb (w.heap.size + 1) 29 #[.slice none 0 0, .slice none 0 0] := by
    rw [← hwb]
    have h := Blk.new (w.alloc (.cells #[.slice A n c, .slice D m d] 29)) #[.slice none 0 0, .slice none 0 0] 29
    rwa [size1] at h
  have hsz : wb.heap.size = w.heap.size + 1 + 1 := by rw [← hwb, size1, size1]
  have hml := hr.leaves.len
  have HR := Lib.hid (hr.grow hb0)
  have H0 := Lib.hid h0
  have H1 := Lib.hid h1
  have HB0 := Lib.hid hb0
  have HWB := Lib.hid hwb
  have HSZ := Lib.hid hsz
  have k0 := h0.cell 0 _ rfl
  have k1 := h0.cell 1 _ rfl
  clear hr h0 h1 hb0 hwb hsz
  · obtain ⟨ok0, hp0, hp1, hz⟩ := hcan
    have ok : OkT t ∧ 0 ≤ (p : Int) ∧ (p : Int) < 16 := ⟨ok0, hp0, hp1⟩
    have hp16 : p < 16 := by omega
    rw [Int.toNat_natCast] at hz
    obtain ⟨i0, hi, hz0, hz1, hz2⟩ := info_parts leafInfo
    obtain ⟨f, hf⟩ : ∃ f, (get t p).f = f := ⟨_, rfl⟩
    obtain ⟨wr0, hwr⟩ : ∃ f, (get t p).wr = f := ⟨_, rfl⟩
    have HFD : Hid (∀ wx : World, (Instr.field 70 (.agg #[.int .i64 f, .bool wr0]) 0).run Try.prog wx = .ok (.int .i64 f) wx) := Lib.hid (fun _ => by kernel_rfl)
    have HF := Lib.hid hf
    have HWR := Lib.hid hwr
    clear hf hwr
    · have hff : ¬ (f = -1) := by rw [← HF.out]; exact frame_of_fault hz
      have hfb : (f == -1) = false := by simpa using hff
      obtain ⟨q, hq, hqm, hl4⟩ := mapped_at ok.1 hml hp16 hz
      have hqd : (setE t p noEnt).dirs[p / 4]? = some (q : Int) := by
        have hlt : p / 4 < t.dirs.length := by rw [ok.1.1]; omega
        have : dirOf t p = t.dirs[p / 4] := by unfold dirOf; rw [List.getD, List.getElem?_eq_getElem hlt]; rfl
        rw [setE_dirs, List.getElem?_eq_getElem hlt, ← this, hq]
      have hqt : (dirOf t p).toNat = q := by rw [hq]; rfl
      rw [hqt] at hgo ⊢
      have hdb : ∀ z ∈ (setE t p noEnt).dirs, -1 ≤ z ∧ z ≤ 1048576 := fun z hz => by rcases ok.1.2.1 z hz with h | h <;> omega
      have hd4 : (setE t p noEnt).dirs.length = 4 := ok.1.1
      have hlm : (setE t p noEnt).leaves.length = m := by rw [setE_leaves, hml]
      have hx4 : ((setE t p noEnt).leaves.getD q ([] : List Ent)).length = 4 := by
        have hql : q < t.leaves.length := by omega
        simp only [setE]
        rw [hqt, List.getD, List.getElem?_set_self hql]
        simp only [Option.getD_some, List.length_set]
        exact (ok.1.2.2 q hql).2.1
      have hm0 : 0 < m := by omega
      have HQ := Lib.hid hq
      obtain ⟨U, hU⟩ : ∃ U, setE t p noEnt = U := ⟨_, rfl⟩
      rw [hU] at hgo hdb hd4 hlm hx4 hqd
      rw [hU]
      have HU := Lib.hid hU
      have HDB := Lib.hid hdb
      have HGO := Lib.hid hgo
      have HX4 := Lib.hid hx4
      have HQD := Lib.hid hqd
      clear hq hl4 hqd hqt hgo hdb hx4 hU hz
      go_enter Try.func9, Try.ntmps9
      go_upto_region 1 with fail
      rw [HWB.out]
      clear HWB
      go_wp2_with fail
      refine (l4Page_any A n c D m d p t _ HR.out hn hm hl hnc true (decide_eq_true ok)).mono ?_
      rintro e w1 ⟨rfl, hb⟩
      clear k0 k1
      have HB1 := Lib.hid (below_then HB0.out hb)
      replace HR := Lib.hid (HR.out.grow hb)
      replace H0 := Lib.hid (Blk.kept hb H0.out)
      replace H1 := Lib.hid (Blk.kept hb H1.out)
      have HS1 := Lib.hid hb.size
      have k0 := H0.out.cell 0 _ rfl
      have k1 := H0.out.cell 1 _ rfl
      clear hb HB0
      go_wp2_with fail
      refine (l4Get_any A n c D m d p t _ HR.out ok.1 hp16).mono ?_
      rintro e w2 ⟨rfl, hb⟩
      rw [HF.out, HWR.out]
      clear k0 k1
      have hfd := HFD.out
      have HB2 := Lib.hid (below_then HB1.out hb)
      replace HR := Lib.hid (HR.out.grow hb)
      replace H0 := Lib.hid (Blk.kept hb H0.out)
      replace H1 := Lib.hid (Blk.kept hb H1.out)
      have HS2 := Lib.hid hb.size
      have k0 := H0.out.cell 0 _ rfl
      have k1 := H0.out.cell 1 _ rfl
      clear hb HB1
      go_upto_region 3 with fail
      go_wp2_with fail
      refine (l4Map_yes A n c D m d p q t (-1) false _ HR.out ok.1 hm HQ.out hqm hp16).mono ?_
      rintro e w3 ⟨A', c', D', d', rfl, hown, hb⟩
      have hs2 := hb.size
      have hlow : w.heap.size + 1 + 1 ≤ w2.heap.size := by have := HSZ.out; have := HS1.out; have := HS2.out; omega
      obtain ⟨wc, hwc⟩ : ∃ wc, w3.alloc (.cells #[.slice A' 4 c', .slice D' m d'] 29) = wc := ⟨_, rfl⟩
      obtain ⟨cp, hcp⟩ : ∃ cp, w3.heap.size = cp := ⟨_, rfl⟩
      have hb3 : Below w3.heap.size w3 wc := by rw [← hwc]; exact below_more (Below.refl _ _) _
      have hcc : Blk wc cp 29 #[.slice A' 4 c', .slice D' m d'] := by rw [← hwc, ← hcp]; exact Blk.new _ _ _
      have HB3 := Lib.hid (below_then (below_then HB2.out hb) hb3)
      have hown : OwnT wc (w.heap.size + 1 + 1) cp A' 4 c' D' m d' U := HU.out ▸ (hown.below hb3).mono (lo' := w.heap.size + 1 + 1) (hi' := cp) hlow (by omega)
      replace H1 := Lib.hid (Blk.kept hb3 (Blk.kept hb H1.out))
      have HC := Lib.hid hcc
      have HORD : Hid (w.heap.size + 1 + 1 ≤ cp) := Lib.hid (by omega)
      have HWC := Lib.hid hwc
      have HCP := Lib.hid hcp
      have hdo := hown.dirs.own
      obtain ⟨gA, rfl⟩ := own_head hdo (by omega)
      obtain ⟨gD, rfl⟩ : ∃ g, D' = some ⟨g, 0, none⟩ := by
        obtain ⟨vs, hv, _⟩ := hown.leaves
        exact own_head hv.own hm0
      have c0 := (hdo.cellAt (p / 4) (by omega)).trans (I_at HQD.out)
      obtain ⟨bl, ol, A5, n5, c5, xs, hDe, _, hxs, hcl, hrl, hn5, _, _⟩ := hown.reads.leaves.at_ hqm
      simp only [Option.some.injEq, Addr.mk.injEq, and_true] at hDe
      obtain ⟨rfl, rfl⟩ := hDe
      simp only [Nat.zero_add] at hcl
      have HXS : Hid (U.leaves[q]? = some xs) := Lib.hid hxs
      have hgd : U.leaves.getD q ([] : List Ent) = xs := by rw [List.getD, HXS.out]; rfl
      have hxl : xs.length = 4 := by rw [← hgd]; exact HX4.out
      have HOX : Hid (¬ OkL xs) := Lib.hid fun h => by
        have h2 := HGO.out
        rw [hgd] at h2
        obtain ⟨x, hx, hf⟩ := h.2.1
        unfold isE at h2
        rw [Bool.not_eq_true'] at h2
        have h3 := List.any_eq_false.1 h2 x hx
        exact h3 (by simpa using hf)
      clear hgd
      have HRL := Lib.hid hrl
      have HO5 : Hid (OwnT wc (w.heap.size + 1 + 1) cp (some ⟨gA, 0, none⟩) 4 c' (some ⟨gD, 0, none⟩) m d' U) := Lib.hid hown
      have hcp5 := hcc.lt
      have x0 := hcc.cell 0 _ rfl
      have x1 := hcc.cell 1 _ rfl
      clear hown hb hs2 hlow hb3 hcc hwc hcp k0 k1 H0 HB2 HR hfd hdo hxs hrl
      go_upto_region 4 with fail
      rw [HWC.out, HCP.out]
      clear HWC HCP HSZ HS1 HS2
      rw [hxl] at hn5
      subst hn5
      have ew : IntKind.i64.wrap ((p : Int) / 4) = ((p / 4 : Nat) : Int) := by rw [IntWalk.i64_in _ (by omega)]; omega
      obtain ⟨k4, hk4⟩ : ∃ k, p / 4 = k := ⟨_, rfl⟩
      rw [hk4] at c0 ew
      have hk44 : (k4 : Int) < 4 := by omega
      go_wp2_with fail
      refine (l4Leaf_any A5 4 c5 _ xs _ HRL.out (by omega) false (decide_eq_false HOX.out)).mono ?_
      rintro e w6 ⟨rfl, hw⟩
      subst hw
      clear c0 hcl ew HRL
      go_upto_region 7 with fail
      obtain ⟨vs, hv, hinn⟩ := HO5.out.leaves
      have hvl : vs.length = m := by rw [hinn.len, hlm]
      have hqi : (q : Int) < m := by omega
      have ew2 : IntKind.i64.wrap ((q : Int) + 1) = (q : Int) + 1 := IntWalk.i64_in _ (by omega)
      have ew3 : ((q : Int) + 1).toNat = q + 1 := by omega
      have h1v := hinn.one
      have hmd : m ≤ d' := by
        obtain ⟨_, _, e1, h3, _⟩ := own_form hv.own
        simp only [Value.slice.injEq, true_and] at e1
        omega
      have hqd : (q : Int) ≤ d' := by omega
      have hq1 : (q : Int) + 1 ≤ m := by omega
      have hqm1 : q + (m - (q + 1)) = m - 1 := by omega
      have hq0 : (0 : Int) ≤ (q : Int) + 1 := by omega
      obtain ⟨o2, hite, hoe⟩ : ∃ o2, (if d' = q + 1 then (some ⟨gD, 0, none⟩ : Option Addr) else some ⟨gD, q + 1, none⟩) = some ⟨gD, o2, none⟩ ∧ (d' = q + 1 ∨ o2 = q + 1) := by
        by_cases h : d' = q + 1
        · exact ⟨0, by rw [if_pos h], .inl h⟩
        · exact ⟨q + 1, by rw [if_neg h], .inr rfl⟩
      have hapV := apart_types hv.own HO5.out.dirs.own (by decide)
      have HV := Lib.hid hv
      have HIN := Lib.hid hinn
      have HDI := Lib.hid HO5.out.dirs
      clear hinn hv HO5 x0 hown
      go_cut [] from 9 (fun wx => ∃ g5 c5 vs5, Hid (Und w wx cp gA c' g5 (m - 1) c5 vs5 (U.leaves.eraseIdx q) U.dirs))
      case first =>
        have hE : (wc.drew.alloc (.cells #[] 74)).ownsRow wc.heap.size 74 1 (.slice (some ⟨wc.heap.size, 0, none⟩) 0 0) 0 [] :=
          World.ownsRow_made wc.drew #[] 0 (Nat.le_refl _) (Nat.zero_le _) rfl
        have HE := Lib.hid hE
        have hB1 : Below wc.heap.size wc (wc.drew.alloc (.cells #[] 74)) := below_more (below_drew1 wc) _
        have HB1 := Lib.hid hB1
        have hw1 : wc.heap.size ≤ (wc.drew.alloc (.cells #[] 74)).heap.size := hB1.size
        have HCE : Hid (∀ w2, Below wc.heap.size wc w2 → ∀ j u, vs[j]? = some u → w2.cell? ⟨gD, j, none⟩ = some u) := Lib.hid fun w2 hb j u hu => by
          have hjm : j < m := by rw [← hvl]; exact (List.getElem?_eq_some_iff.1 hu).1
          rw [hb.cell (p := ⟨gD, j, none⟩) (HV.out.own.lt gD rfl).2]
          exact (HV.out.own.cellAt j (by omega)).trans hu
        have HN1 : Hid ((vs.take q).length = q * 1 ∧ (∀ j u, (vs.take q)[j]? = some u → (wc.drew.alloc (.cells #[] 74)).cell? ((⟨gD, 0, none⟩ : Addr).add j) = some u) ∧ (∀ u ∈ vs.take q, u.oneCell' = true)) := Lib.hid (by
          refine ⟨by rw [List.length_take]; omega, ?_, fun u hu => h1v u (List.mem_of_mem_take hu)⟩
          intro j u hu
          rw [Go.WideShapes.add_plain, Nat.zero_add]
          rw [List.getElem?_take] at hu
          split at hu
          · exact HCE.out _ HB1.out j u hu
          · cases hu)
        have HN2 : Hid (∀ w2, Below wc.heap.size wc w2 → (vs.drop (q + 1)).length = (m - (q + 1)) * 1 ∧ (∀ j u, (vs.drop (q + 1))[j]? = some u → w2.cell? ((⟨gD, o2, none⟩ : Addr).add j) = some u) ∧ (∀ u ∈ vs.drop (q + 1), u.oneCell' = true)) := Lib.hid (by
          intro w2 hb
          refine ⟨by rw [List.length_drop]; omega, ?_, fun u hu => h1v u (List.mem_of_mem_drop hu)⟩
          intro j u hu
          rw [Go.WideShapes.add_plain]
          rw [List.getElem?_drop] at hu
          have hjl := (List.getElem?_eq_some_iff.1 hu).1
          rcases hoe with h | h
          · omega
          · rw [h]; exact HCE.out _ hb _ u hu)
        have xa1 := (HC.out.alloc (.cells #[] 74)).cell 1 _ rfl
        clear hE hB1
        go_region_law (first
          | (refine step_own rfl (.tmp 43) (.tmp 48) 27 rfl wc.heap.size 74 i0 (.slice none 0 0) 1 24 Try.underlying27 hi hz0 hz1 hz2 rfl (by decide) (.slice (some ⟨g3, 0, none⟩) q c3) q (vs.take q) (by simp [Act.eval, Act.put]) hown3 (by simp) ⟨gD, o2, none⟩ (m - (q + 1)) (d' - (q + 1)) (vs.drop (q + 1)) (by simp [Act.eval, Act.put]) (HN2.out _ hb3).1 (HN2.out _ hb3).2.1 (HN2.out _ hb3).2.2 (by unfold maxLen; omega) (by omega) hb3.size ?_; intro g4 c4 w3 hown4 hgrow4; rw [hqm1] at hown4 ⊢; have hb4 : Below wc.heap.size wc w3 := hb3.grown hgrow4 hb3.size (fun k hk => (hown3.lt k hk).1); have c9 := (Blk.kept hb4 HC.out).cell 1 _ rfl; have f9 := (Blk.kept hb4 HC.out).free 1)
          | (refine step_own rfl (.tmp 38) (.tmp 42) 27 rfl wc.heap.size 74 i0 (.slice none 0 0) 1 24 Try.underlying27 hi hz0 hz1 hz2 rfl (by decide) (.slice (some ⟨wc.heap.size, 0, none⟩) 0 0) 0 [] (by simp [Act.eval, Act.put]) HE.out (by simp) ⟨gD, 0, none⟩ q d' (vs.take q) (by simp [Act.eval, Act.put]) HN1.out.1 HN1.out.2.1 HN1.out.2.2 (by unfold maxLen; omega) (by omega) hw1 ?_; intro g3 c3 w2 hown3' hgrow3; have hown3 : w2.ownsRow wc.heap.size 74 1 (.slice (some ⟨g3, 0, none⟩) q c3) q (vs.take q) := (by simpa using hown3'); clear hown3'; rw [Nat.zero_add]; have hb3 : Below wc.heap.size wc w2 := HB1.out.grown hgrow3 hw1 (fun k hk => (HE.out.lt k hk).1); have c2 := (Blk.kept hb3 HC.out).cell 1 _ rfl))
        all_goals
          rw [← List.eraseIdx_eq_take_drop_succ] at hown4
          have hord := HORD.out
          have hlt4 := (hown4.lt g4 rfl).1
          have HU5 : Hid (Und w (w3.setCell ⟨cp, 1, none⟩ (.slice (some ⟨g4, 0, none⟩) (m - 1) c4)) cp gA c' g4 (m - 1) c4 (vs.eraseIdx q) (U.leaves.eraseIdx q) U.dirs) := Lib.hid
            ⟨below_set (below_then HB3.out hb4) (by omega) _, (Blk.kept hb4 H1.out).other _ (by omega), (Blk.kept hb4 HC.out).set 1 _,
             (HDI.out.below hb4).only (Only.set w3 cp 1 _) (.inl (Nat.le_refl _)), own_set (own_mono hown4 hcp5) _ (fun e => by simp only [Value.ownBlock, Option.some.injEq] at e; omega),
             ((HIN.out.below hb4).only (Only.set w3 cp 1 _) (.inl (Nat.le_refl _))).erase q⟩
          clear hown4 hgrow4 hown3 hgrow3 HE HB1 HCE HN1 HN2 HV HIN HDI HC H1 HB3
          go_wp2_with fail
          go_meet
          exact ⟨g4, c4, _, HU5⟩
      case rest =>
        obtain ⟨g5, c5', vs5, H5⟩ := hcut
        clear HV HIN HDI HC H1 HB3 x1
        go_wp2_with fail
        go_loopw [8] (fun i wr => ∃ (j : Nat), i = .int .i64 j ∧ j ≤ 4 ∧ Hid (Und w wr cp gA c' g5 (m - 1) c5' vs5 (U.leaves.eraseIdx q) (partD q U.dirs j))) (fun i _ => 4 - (intOf i).toNat)
        case atStart => exact ⟨0, by go_num, by omega, by rw [partD_zero]; exact H5⟩
        case round =>
          clear H5
          obtain ⟨j, rfl, hj, H5⟩ := hrel
          by_cases hj4 : (j : Int) < 4
          · obtain ⟨x, hx⟩ : ∃ x, U.dirs[j]? = some x := ⟨_, List.getElem?_eq_getElem (by omega)⟩
            have hxb := HDB.out x (List.mem_of_getElem? hx)
            have c0 := (H5.out.dirs.own.cellAt j (by omega)).trans (I_at ((partD_at q U.dirs j (by omega)).trans hx))
            have f0 := H5.out.dirs.own.frozenAt j
            have k0 := H5.out.cpy.cell 0 _ rfl
            by_cases ek : x = (q : Int)
            · have hdr : dropDir q x = -1 := by unfold dropDir; rw [if_pos ek]
              subst ek
              have H6 := Lib.hid (H5.out.setD j (-1))
              have hpn := partD_next q U.dirs j _ hx
              rw [hdr] at hpn
              rw [← hpn] at H6
              clear hpn hx H5
              go_wp2_with fail
              go_roundw
              case rel => exact ⟨j + 1, by go_num, by omega, H6⟩
              case measure => simp [intOf]; omega
            · have ek2 : (x == (q : Int)) = false := by simpa using ek
              by_cases egt : (q : Int) < x
              · have hdr : dropDir q x = x - 1 := by unfold dropDir; rw [if_neg ek, if_pos egt]
                have H6 := Lib.hid ((H5.out.next (below_drew1 wr)).setD j (x - 1))
                have hpn := partD_next q U.dirs j _ hx
                rw [hdr] at hpn
                rw [← hpn] at H6
                have k0d : wr.drew.cell? ⟨cp, 0, none⟩ = _ := k0
                have c0d : wr.drew.cell? ⟨gA, j, none⟩ = _ := c0
                have f0d : wr.drew.frozen? ⟨gA, j, none⟩ = false := f0
                have ex1 : IntKind.i64.wrap (x - 1) = x - 1 := IntWalk.i64_in _ (by omega)
                clear hpn hx H5
                go_upto_region 14 with fail
                go_still_tail 10, (by kernel_rfl)
                change wpList _ _ _ _ _ wr.drew
                go_wp2_with fail
                go_roundw
                case rel => exact ⟨j + 1, by go_num, by omega, H6⟩
                case measure => simp [intOf]; omega
              · have hdr : dropDir q x = x := by unfold dropDir; rw [if_neg ek, if_neg egt]
                have hpn := partD_same q U.dirs j _ hx hdr
                rw [← hpn] at H5
                clear hpn hx
                go_wp2_with fail
                go_roundw
                case rel => exact ⟨j + 1, by go_num, by omega, H5⟩
                case measure => simp [intOf]; omega
          · have hj : j = 4 := by omega
            subst hj
            rw [partD_all q U.dirs 4 (by omega)] at H5
            have k0 := H5.out.cpy.cell 0 _ rfl
            have k1 := H5.out.cpy.cell 1 _ rfl
            have q0 := H5.out.res.cell 0 _ rfl
            have q1 := H5.out.res.cell 1 _ rfl
            have s0 := H5.out.res.free 0
            have s1 := H5.out.res.free 1
            have HZ := Lib.hid ((H5.out.res.set 0 (.slice (some ⟨gA, 0, none⟩) 4 c')).set 1 (.slice (some ⟨g5, 0, none⟩) (m - 1) c5'))
            have HX := Lib.hid (below_set (below_set H5.out.below (g := w.heap.size + 1) (j := 0) (by omega) (.slice (some ⟨gA, 0, none⟩) 4 c')) (g := w.heap.size + 1) (j := 1) (by omega) (.slice (some ⟨g5, 0, none⟩) (m - 1) c5'))
            have HT := Lib.hid (H5.out.fin HORD.out (.slice (some ⟨gA, 0, none⟩) 4 c') (.slice (some ⟨g5, 0, none⟩) (m - 1) c5'))
            clear H5
            go_wp2_with fail
            clear k0 k1 q0 q1 s0 s1
            revert HZ HX HT
            generalize ((World.setCell _ _ _).setCell _ _) = wy
            intro HZ HX HT
            have z0 := HZ.out.cell 0 _ rfl
            have z1 := HZ.out.cell 1 _ rfl
            exact bodyPost_ret (v := .tuple #[.agg #[.slice (some ⟨gA, 0, none⟩) 4 c', .slice (some ⟨g5, 0, none⟩) (m - 1) c5'], .bool true]) (by simp [results, Try.results9, go_sem, z0, z1]) rfl ⟨_, _, _, _, rfl, HT.out, HX.out⟩
end Go.Proofs.Ytaamjnpknmimmab.L4
