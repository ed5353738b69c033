/- What the laws' marks on tables do. -/
import Derived.Test.YtaamjnpknmimmabTabL
import Derived.Test.YtaamjnpknmimmabOnly
import Derived.Test.YtaamjnpknmimmabMkI
namespace Go.Proofs.Ytaamjnpknmimmab.L4
open Go Go.RowKit Go.Proofs.Ytaamjnpknmimmab.Mem Go.Proofs.Ytaamjnpknmimmab.Own
/-- n marked entries from k0 on -/
def upE (k0 n : Nat) : List Ent := (List.range n).map fun i => ⟨((k0 + 2 * i : Nat) : Int), decide ((k0 + 2 * i + 1) % 3 = 0)⟩
theorem upE_len (k0 n : Nat) : (upE k0 n).length = n := by simp [upE]
theorem upE_at (k0 n i : Nat) (h : i < n) : (upE k0 n)[i]? = some ⟨((k0 + 2 * i : Nat) : Int), decide ((k0 + 2 * i + 1) % 3 = 0)⟩ := by simp [upE, h]
/-- marked leaves -/
def upL (k0 : Nat) : List (List Ent) → List (List Ent)
  | [] => []
  | xs :: xss => upE k0 xs.length :: upL (k0 + 2 * xs.length) xss
theorem upL_len (k0 : Nat) (xss : List (List Ent)) : (upL k0 xss).length = xss.length := by
  induction xss generalizing k0 with
  | nil => rfl
  | cons x xss ih => simp [upL, ih]
theorem upL_at {k0 : Nat} {xss : List (List Ent)} {k : Nat} {xs : List Ent} (h : xss[k]? = some xs) : (upL k0 xss)[k]? = some (upE (k0 + 2 * tot (xss.take k)) xs.length) := by
  induction xss generalizing k0 k with
  | nil => simp at h
  | cons x xss ih =>
    cases k with
    | zero => simp at h; subst h; simp [upL, tot]
    | succ k =>
      simp at h
      rw [upL, List.getElem?_cons_succ, ih h]
      simp only [tot, List.take_succ_cons, List.map_cons, List.sum_cons]
      congr 2
      omega
theorem upL_tot (k0 : Nat) (xss : List (List Ent)) : tot (upL k0 xss) = tot xss := by
  induction xss generalizing k0 with
  | nil => rfl
  | cons x xss ih => simp only [tot, upL, List.map_cons, List.sum_cons, upE_len]; have := ih (k0 + 2 * x.length); simp only [tot] at this; omega
def upT (k0 : Nat) (t : Tab) : Tab := ⟨upFrom k0 t.dirs.length, upL (k0 + t.dirs.length) t.leaves⟩
set_option maxRecDepth 100000 in
set_option maxHeartbeats 2000000 in
theorem markEntryS_step (A : Option Addr) (n c lo hi k0 : Nat) (K : Int) (hK : K = k0) (xs : List Value) (w : World) (hn : n ≤ 1048576) (hk1 : k0 ≤ 8589934592) (hown : Row w lo hi 70 2 (.slice A n c) n xs) :
    Calls Try.prog 104 #[.slice A n c, .int .i64 K] w fun e w' => e = .returned (.int .i64 (K + 2 * n)) ∧ Row w' lo hi 70 2 (.slice A n c) n (FL (upE k0 n)) ∧ w.grownBy w' (Value.slice A n c).ownBlock := by
  subst hK
  have HX := Lib.hid hown.own.1
  have HO := Lib.hid hown.own
  have HLT := Lib.hid hown.lt
  clear hown
  go_enter Try.func104, Try.ntmps104
  go_wp2
  go_loopw [1, 5] (fun k i wr => ∃ (q : Nat) (ys : List Value), i = .int .i64 q ∧ k = .int .i64 (k0 + 2 * q) ∧ q ≤ n ∧ Hid (ys.length = n * 2) ∧ Hid (ys.take (q * 2) = (FL (upE k0 n)).take (q * 2)) ∧ wr.ownsRow lo 70 2 (.slice A n c) n ys ∧ w.grownBy wr (Value.slice A n c).ownBlock) (fun _ i _ => n - (intOf i).toNat)
  case atStart => exact ⟨0, xs, rfl, by go_num, Nat.zero_le _, Lib.hid HX.out, Lib.hid (by simp), HO.out, World.grownBy.refl _ _⟩
  case round =>
    obtain ⟨q, ys, rfl, rfl, hq, HY, HT, hown, hgr⟩ := hrel
    by_cases hlt : q < n
    · obtain ⟨g, hA⟩ := own_head hown (by omega)
      subst hA
      obtain ⟨bq, hbq⟩ : ∃ b, decide ((k0 + 2 * q + 1) % 3 = 0) = b := ⟨_, rfl⟩
      have hb1 : (((k0 : Int) + 2 * q + 1) % 3 == 0) = bq := by rw [← hbq, Bool.eq_iff_iff]; simp; omega
      have hb2 : (((k0 : Int) + 2 * q + 1).tmod 3 == 0) = bq := by rw [Int.tmod_eq_emod_of_nonneg (by omega)]; exact hb1
      have HU := upE_at k0 n q hlt
      rw [hbq] at HU
      have HT2 := Lib.hid (set2_take (by rw [HY.out, upE_len]) HU HT.out)
      have HO2 := Lib.hid hown
      have f0 := HO2.out.frozenAt (q * 2)
      have f1 := HO2.out.frozenAt (q * 2 + 1)
      obtain ⟨y0, d0⟩ : ∃ z, wr.cell? ⟨g, q * 2, none⟩ = some z := ⟨_, (HO2.out.cellAt (q * 2) (by omega)).trans (List.getElem?_eq_getElem (by rw [HY.out]; omega))⟩
      obtain ⟨y1, d1⟩ : ∃ z, wr.cell? ⟨g, q * 2 + 1, none⟩ = some z := ⟨_, (HO2.out.cellAt (q * 2 + 1) (by omega)).trans (List.getElem?_eq_getElem (by rw [HY.out]; omega))⟩
      have s0 := HO2.out.stored (q * 2) (.int .i64 ((k0 : Int) + 2 * q))
      have s1 := s0.1.stored (q * 2 + 1) (.bool bq)
      have HS := Lib.hid s1.1
      have HG := Lib.hid (grown_trans (grown_trans hgr s0.2) s1.2)
      have HY2 : Hid (((ys.set (q * 2) (.int .i64 ((k0 : Int) + 2 * q))).set (q * 2 + 1) (.bool bq)).length = n * 2) := Lib.hid (by simp only [List.length_set]; exact HY.out)
      clear s0 s1 hown hgr HO2 hbq HU HT
      go_wp2
      go_roundw
      case rel => exact ⟨q + 1, _, by go_num, by go_num, by omega, HY2, by have h := HT2.out; push_cast at h; exact Lib.hid h, HS.out, HG.out⟩
      case measure => simp [intOf]; omega
    · have hqn : q = n := by omega
      have hy : ys = FL (upE k0 n) := by
        have h := HT.out
        rw [List.take_of_length_le (by rw [HY.out]; omega), List.take_of_length_le (by rw [FL_len, upE_len, hqn]; exact Nat.le_refl _)] at h
        exact h
      rw [hy] at hown
      clear hy HT
      subst hqn
      go_wp2
      go_ret
      exact ⟨rfl, ⟨hown, HLT.out⟩, hgr⟩
theorem mix_set {α : Type} {A B : List α} {q : Nat} {a : α} (hl : A.length = B.length) (ha : A[q]? = some a) : (A.take q ++ B.drop q).set q a = A.take (q + 1) ++ B.drop (q + 1) := by
  have hq : q < A.length := (List.getElem?_eq_some_iff.1 ha).1
  have hs : (A.take q).length = q := by rw [List.length_take]; omega
  rw [List.set_append_right _ _ (by omega), hs, Nat.sub_self, List.drop_eq_getElem_cons (by omega), List.set_cons_zero, List.take_add_one, ha]
  simp
theorem mix_at {α : Type} {A B : List α} {q : Nat} (hl : A.length = B.length) (hq : q < A.length) : (A.take q ++ B.drop q)[q]? = B[q]? := by
  have hs : (A.take q).length = q := by rw [List.length_take]; omega
  rw [List.getElem?_append_right (by omega), hs, Nat.sub_self, List.getElem?_drop, Nat.add_zero]
/-- one leaf is changed, its length kept -/
theorem Inn.mark {w w' : World} {lo hi q : Nat} {vs : List Value} {xss : List (List Ent)} {v : Value} {xs ys : List Ent} (h : Inn w lo hi vs xss) (hv : vs[q]? = some v) (hx : xss[q]? = some xs) (hg : w.grownBy w' v.ownBlock) (hr : Row w' lo hi 70 2 v ys.length (FL ys)) : Inn w' lo hi vs (xss.set q ys) := by
  refine ⟨by rw [List.length_set]; exact h.len, fun i u zs h1 h2 => ?_, h.apart⟩
  by_cases e : i = q
  · subst e
    rw [hv] at h1
    obtain rfl := Option.some.inj h1
    have hq : i < xss.length := (List.getElem?_eq_some_iff.1 hx).1
    rw [List.getElem?_set_self hq] at h2
    obtain rfl := Option.some.inj h2
    exact hr
  · rw [List.getElem?_set_ne (by omega)] at h2
    refine (h.row i u zs h1 h2).away hg ?_
    rcases Nat.lt_or_ge i q with hi | hi
    · exact (h.apart i q u v hi h1 hv).symm
    · exact h.apart q i v u (by omega) hv h1
/-- blocks that are none of the rows vs stay as they were -/
def Keeps (w w' : World) (vs : List Value) : Prop := w.heap.size ≤ w'.heap.size ∧ ∀ g, g < w.heap.size → (∀ (i : Nat) v, vs[i]? = some v → v.ownBlock ≠ some g) → w'.heap[g]? = w.heap[g]?
theorem Keeps.step {w w1 w2 : World} {vs : List Value} {q : Nat} {v : Value} (h : Keeps w w1 vs) (hv : vs[q]? = some v) (hg : w1.grownBy w2 v.ownBlock) : Keeps w w2 vs :=
  ⟨Nat.le_trans h.1 hg.size, fun g hg' hn => (hg.block g (Nat.lt_of_lt_of_le hg' h.1) (fun e => hn q v hv e.symm)).trans (h.2 g hg' hn)⟩
set_option maxRecDepth 100000 in
set_option maxHeartbeats 2000000 in
theorem markEntrySS_step (D : Option Addr) (m d lo hi k0 : Nat) (K : Int) (hK : K = k0) (xss : List (List Ent)) (w : World) (hm : m ≤ 1048576) (ht : tot xss ≤ 1048576) (hk1 : k0 ≤ 4300000000) (vs : List Value) (hr : Row w lo hi 74 1 (.slice D m d) m vs) (hi_ : Inn w lo hi vs xss) :
    Calls Try.prog 62 #[.slice D m d, .int .i64 K] w fun e w' => e = .returned (.int .i64 (K + 2 * tot xss)) ∧ Row w' lo hi 74 1 (.slice D m d) m vs ∧ Inn w' lo hi vs (upL k0 xss) ∧ Only lo hi w w' ∧ Keeps w w' vs := by
  subst hK
  have HL : Hid (xss.length = m) := Lib.hid (by rw [← hi_.len]; have := hr.own.1; simpa using this)
  have HUL : Hid ((upL k0 xss).length = m) := Lib.hid (by rw [upL_len]; exact HL.out)
  have HR := Lib.hid hr
  have HI : Hid (Inn w lo hi vs ((upL k0 xss).take 0 ++ xss.drop 0)) := Lib.hid (by simpa using hi_)
  clear hr hi_
  go_enter Try.func62, Try.ntmps62
  go_wp2
  go_loopw [1, 5] (fun k i wr => ∃ (q : Nat), i = .int .i64 q ∧ k = .int .i64 (k0 + 2 * (tot (xss.take q) : Nat)) ∧ q ≤ m ∧ Hid (Row wr lo hi 74 1 (.slice D m d) m vs) ∧ Hid (Inn wr lo hi vs ((upL k0 xss).take q ++ xss.drop q)) ∧ Hid (Only lo hi w wr) ∧ Hid (Keeps w wr vs)) (fun _ i _ => m - (intOf i).toNat)
  case atStart => exact ⟨0, rfl, by simp [tot], Nat.zero_le _, HR, HI, Lib.hid (Only.refl _ _ _), Lib.hid ⟨Nat.le_refl _, fun _ _ _ => rfl⟩⟩
  case round =>
    clear HR HI
    obtain ⟨q, rfl, rfl, hq, HR, HI, HO, HKP⟩ := hrel
    have hle := tot_le xss q
    by_cases hlt : q < m
    · obtain ⟨b, off, v, rfl, _, hv, hc⟩ := HR.out.reads.at_ hlt
      obtain ⟨xs, hx⟩ : ∃ xs, xss[q]? = some xs := ⟨_, List.getElem?_eq_getElem (show q < xss.length by rw [HL.out]; exact hlt)⟩
      have hmix : ((upL k0 xss).take q ++ xss.drop q)[q]? = some xs := by rw [mix_at (by rw [HUL.out, HL.out]) (by rw [HUL.out]; exact hlt), hx]
      have hrow := HI.out.row q v xs hv hmix
      obtain ⟨A, c, rfl, _, _⟩ := own_form hrow.own
      have HT := Lib.hid (tot_take hx)
      have hle2 := tot_le xss (q + 1)
      have hln : xs.length ≤ 1048576 := by have := len_le_tot (List.mem_of_getElem? hx); omega
      have HX := Lib.hid hx
      have HV := Lib.hid hv
      have HM := Lib.hid hmix
      have HRW := Lib.hid hrow
      have h9 : tot (xss.take q) ≤ 1048576 := by omega
      clear hx hv hmix hrow
      go_wp2_with fail
      refine (markEntryS_step A xs.length c lo hi (k0 + 2 * tot (xss.take q)) _ (by push_cast; rfl) _ _ hln (by omega) HRW.out).mono ?_
      rintro e w2 ⟨rfl, hrow2, hg⟩
      have hup : (upL k0 xss)[q]? = some (upE (k0 + 2 * tot (xss.take q)) xs.length) := upL_at HX.out
      have hl2 : (upE (k0 + 2 * tot (xss.take q)) xs.length).length = xs.length := upE_len _ _
      have HI2 : Hid (Inn w2 lo hi vs ((upL k0 xss).take (q + 1) ++ xss.drop (q + 1))) := Lib.hid (by
        rw [← mix_set (by rw [HUL.out, HL.out]) hup]
        exact HI.out.mark HV.out HM.out hg (by rw [hl2]; exact hrow2))
      have HR2 := Lib.hid (HR.out.away hg (apart_types HRW.out.own HR.out.own (by decide)))
      have HO2 := Lib.hid (HO.out.trans (Only.of_Row HRW.out hg))
      have HK2 := Lib.hid (HKP.out.step HV.out hg)
      have hq9 : ((k0 : Int) + 2 * (tot (xss.take q) : Nat) + 2 * (xs.length : Nat)) = k0 + 2 * (tot (xss.take (q + 1)) : Nat) := by rw [HT.out]; push_cast; omega
      have HQ9 := Lib.hid hq9
      clear hrow2 hg hup hl2 HI HR HO HRW hq9 hc
      rw [HQ9.out]
      go_wp2_with fail
      go_roundw
      case rel => exact ⟨q + 1, by go_num, rfl, by omega, HR2, HI2, HO2, HK2⟩
      case measure => simp [intOf]; omega
    · have hqm : q = m := by omega
      subst hqm
      have HE : Hid (xss.take q = xss) := Lib.hid (List.take_of_length_le (by rw [HL.out]; exact Nat.le_refl _))
      have HF : Hid (Inn wr lo hi vs (upL k0 xss)) := Lib.hid (by
        have h := HI.out
        rwa [List.take_of_length_le (by rw [HUL.out]; exact Nat.le_refl _), List.drop_eq_nil_of_le (by rw [HL.out]; exact Nat.le_refl _), List.append_nil] at h)
      go_wp2_with fail
      go_ret
      exact ⟨by rw [HE.out]; rfl, HR.out, HF.out, HO.out, HKP.out⟩
set_option maxRecDepth 100000 in
set_option maxHeartbeats 2000000 in
theorem markTable_step (A : Option Addr) (n c : Nat) (D : Option Addr) (m d lo hi : Nat) (t : Tab) (k0 : Nat) (K : Int) (hK : K = k0) (w : World) (hn : n ≤ 1048576) (hm : m ≤ 1048576) (ht : tot t.leaves ≤ 1048576) (hk1 : k0 ≤ 4294967296) (hown : OwnT w lo hi A n c D m d t) :
    Calls Try.prog 13 #[.agg #[.slice A n c, .slice D m d], .int .i64 K] w fun e w' => e = .returned (.int .i64 (K + (n + 2 * tot t.leaves : Nat))) ∧ OwnT w' lo hi A n c D m d (upT k0 t) ∧ Only lo hi w w' := by
  subst hK
  have hb0 := below_more (Below.refl w.heap.size w) (.cells #[.slice A n c, .slice D m d] 29)
  have h1 := hown.below hb0
  have hdl : t.dirs.length = n := by have := h1.dirs.own.1; simpa [I] using this
  have HDL := Lib.hid hdl
  have H1 := Lib.hid h1
  have HO1 : Hid (Only lo hi w (w.alloc (.cells #[.slice A n c, .slice D m d] 29))) := Lib.hid (Only.of_below hb0)
  have HK : Hid (Blk (w.alloc (.cells #[.slice A n c, .slice D m d] 29)) w.heap.size 29 #[.slice A n c, .slice D m d]) := Lib.hid (Blk.new _ _ _)
  have HLV : Hid (∃ vs, Row w lo hi 74 1 (.slice D m d) m vs) := Lib.hid (by obtain ⟨vs, h, _⟩ := hown.leaves; exact ⟨vs, h⟩)
  have HDR := Lib.hid hown.dirs
  clear h1 hb0 hown hdl
  go_enter Try.func13, Try.ntmps13
  go_wp2_with fail
  refine (mark_step A n c lo k0 k0 rfl _ _ hn hk1 H1.out.dirs.own).mono ?_
  rintro e w1 ⟨rfl, hrow, hg⟩
  obtain ⟨vs, hr, hi_⟩ := H1.out.leaves
  have HL2 := Lib.hid (hr.away hg (apart_types H1.out.dirs.own hr.own (by decide)))
  have HI2 := Lib.hid (hi_.away H1.out.dirs.own (by decide) hg)
  have HO2 := Lib.hid (HO1.out.trans (Only.of_Row H1.out.dirs hg))
  have HD2 : Hid (Row w1 lo hi 3 1 (.slice A n c) n (I (upFrom k0 n))) := Lib.hid ⟨hrow, HDR.out.lt⟩
  have hk1w : Blk w1 w.heap.size 29 #[.slice A n c, .slice D m d] := by
    have hne : (Value.slice A n c).ownBlock ≠ some w.heap.size := fun h => by
      have := (HDR.out.own.lt w.heap.size h).2
      omega
    exact (hg.block w.heap.size (by rw [size1]; omega) (fun h => hne h.symm)).trans HK.out
  have k1 := hk1w.cell 1 _ rfl
  clear hrow hg hr hi_ HO1 H1 HK hk1w
  go_wp2_with fail
  refine (markEntrySS_step D m d lo hi (k0 + n) _ (by push_cast; rfl) t.leaves _ hm ht (by omega) vs HL2.out HI2.out).mono ?_
  rintro e w2 ⟨rfl, hL, hI, hO, hKP⟩
  have HD3 : Hid (Row w2 lo hi 3 1 (.slice A n c) n (I (upFrom k0 n))) := Lib.hid ⟨own_same HD2.out.own fun g hg => hKP.2 g (HD2.out.own.lt g hg).2 fun i v hv hb => by
    have hlen := HI2.out.len
    have hi2 : i < t.leaves.length := by rw [← hlen]; exact (List.getElem?_eq_some_iff.1 hv).1
    exact apart_types (HI2.out.row i v _ hv (List.getElem?_eq_getElem hi2)).own HD2.out.own (by decide) g hb hg, HD2.out.lt⟩
  have HE : Hid (OwnT w2 lo hi A n c D m d (upT k0 t)) := Lib.hid ⟨by unfold upT; rw [HDL.out]; exact HD3.out, by unfold upT; rw [HDL.out]; exact ⟨vs, hL, hI⟩⟩
  have HO3 := Lib.hid (HO2.out.trans hO)
  clear hL hI hO hKP HD3 HL2 HI2 HO2 HD2
  go_wp2_with fail
  go_ret
  exact ⟨by push_cast; rw [Int.add_assoc]; rfl, HE.out, HO3.out⟩
end Go.Proofs.Ytaamjnpknmimmab.L4
