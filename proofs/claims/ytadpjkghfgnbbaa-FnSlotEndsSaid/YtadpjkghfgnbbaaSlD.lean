/- The sort of impl.pendingSlots: what it leaves. -/
import Derived.Test.YtadpjkghfgnbbaaSlC
import Derived.Test.YtadpjkghfgnbbaaSrt
import Derived.Test.YtadpjkghfgnbbaaLayS
import Derived.Test.YtadpjkghfgnbbaaDst
namespace Go.Proofs.Ytadpjkghfgnbbaa.L8
open Go Go.RowKit Go.Proofs.Ytadpjkghfgnbbaa.Mem Go.Proofs.Ytadpjkghfgnbbaa.Own Go.Sort Go.Lib Go.Proofs.Ytadpjkghfgnbbaa.L6
/-- a place of a pending slot -/
structure PF (xs : List Slt) where
  k : Nat
  lt : k < 4
  one : (xs.getD k default).st = 1
def encP {xs : List Slt} (i : PF xs) : Value := .int .i64 ((i.k : Nat) : Int)
def cmpF (xs : List Slt) (x y : PF xs) : Int := cmpS (xs.getD x.k default) (xs.getD y.k default)
theorem ltP (xs : List Slt) (x y : PF xs) : ltOf (cmpF xs) x y = more (xs.getD x.k default) (xs.getD y.k default) := by
  unfold ltOf cmpF
  rw [Bool.eq_iff_iff, decide_eq_true_eq]
  exact cmpS_lt _ _
theorem swoP (xs : List Slt) : SWO (ltOf (cmpF xs)) where
  irrefl x := by rw [ltP]; simp [more]
  trans x y z h1 h2 := by rw [ltP] at *; simp only [more, decide_eq_true_eq] at *; omega
  ntrans x y z h1 h2 := by rw [ltP] at *; simp only [more, decide_eq_false_iff_not] at *; omega
theorem totP {xs : List Slt} (ho : okB xs = true) (x y : PF xs) (h1 : ltOf (cmpF xs) x y = false) (h2 : ltOf (cmpF xs) y x = false) : x = y := by
  rw [ltP] at h1 h2
  have h4 := okB_len ho
  have he := okB_one ho (at_getD (by rw [h4]; exact x.lt)) (at_getD (by rw [h4]; exact y.lt)) (by rw [x.one]; decide) (by rw [y.one]; decide) (by
    simp only [more, decide_eq_false_iff_not] at h1 h2
    omega)
  obtain ⟨a, _, _⟩ := x
  obtain ⟨b, _, _⟩ := y
  simp only at he
  subst he
  rfl
/-- places of pending slots as such -/
theorem pfs (xs : List Slt) (l : List Nat) (h : ∀ j ∈ l, j < 4 ∧ (xs.getD j default).st = 1) : ∃ fs : List (PF xs), fs.map (fun i => i.k) = l := by
  induction l with
  | nil => exact ⟨[], rfl⟩
  | cons j l ih =>
    obtain ⟨fs, hf⟩ := ih (fun a ha => h a (List.mem_cons_of_mem _ ha))
    have hj := h j List.mem_cons_self
    exact ⟨⟨j, hj.1, hj.2⟩ :: fs, by simp [hf]⟩
theorem encP_map {xs : List Slt} (fs : List (PF xs)) : fs.map encP = I (ints (fs.map fun i => i.k)) := by simp [I, ints, encP, Function.comp_def]
/-- what the sort leaves: the pending ones in their order -/
theorem sorted_pnd (xs : List Slt) (ho : okB xs = true) (fs : List (PF xs)) (h : fs.map (fun i => i.k) = pend xs 4) : (fs.mergeSort fun x y => !(ltOf (cmpF xs)) y x).map (fun i => i.k) = pnd xs := by
  have hle : ∀ x y : PF xs, (!(ltOf (cmpF xs)) y x) = leS xs x.k y.k := by
    intro x y
    rw [ltP]
    rfl
  have hp : ((fs.mergeSort fun x y => !(ltOf (cmpF xs)) y x).map (fun i => i.k)).Perm (pend xs 4) := by
    rw [← h]
    exact (List.mergeSort_perm fs _).map _
  have h2 := List.pairwise_mergeSort (le := fun x y => !(ltOf (cmpF xs)) y x) (fun a b c h1 h2 => by
      rw [hle] at *; exact leS_trans _ _ _ h1 h2) (fun a b => by rw [hle, hle]; exact leS_total _ _) fs
  refine List.Perm.eq_of_pairwise (le := fun a b => leS xs a b = true) (fun a b ha hb h1 h2 => ?_) ?_ (pnd_sorted xs) (hp.trans (pnd_perm xs).symm)
  · have ha' := mem_pend.1 (hp.mem_iff.1 ha)
    have hb' := mem_pnd.1 hb
    have h4 := okB_len ho
    simp only [leS, more, Bool.not_eq_true', decide_eq_false_iff_not] at h1 h2
    exact okB_one ho (at_getD (by rw [h4]; exact ha'.1)) (at_getD (by rw [h4]; exact hb'.1)) (by rw [ha'.2]; decide) (by rw [hb'.2]; decide) (by omega)
  · rw [List.pairwise_map]
    refine h2.imp fun {a b} hab => ?_
    rw [hle] at hab
    exact hab
set_option maxHeartbeats 1000000 in
/-- the sort of the pending ones, where there are some -/
theorem sortS_some (g gl : Nat) (A : Option Addr) (c n cc base : Nat) (xs : List Slt) (ho : okB xs = true) (w : World) (hb : w.cell? ⟨gl, 0, none⟩ = some (.slice A 4 c)) (hgl : gl < base) (hr : Reads w base 3 A 4 (FL xs)) (hn0 : 0 < n)
    (hown : w.ownsRow base 3 1 (.slice (some ⟨g, 0, none⟩) n cc) n (I (ints (pend xs 4)))) :
    Calls Try.prog 76 #[.slice (some ⟨g, 0, none⟩) n cc, .func (.func 77) #[] #[.pointer (some ⟨gl, 0, none⟩)]] w fun e w' => e = .returned (.tuple #[]) ∧
      w'.ownsRow base 3 1 (.slice (some ⟨g, 0, none⟩) n cc) n (I (ints (pnd xs))) ∧ w.grownBy w' (some g) := by
  obtain ⟨fs, hf⟩ := pfs xs (pend xs 4) (fun j hj => mem_pend.1 hj)
  have hen : I (ints (pend xs 4)) = fs.map encP := by rw [encP_map, hf]
  rw [hen] at hown
  have hlen : fs.length = n := by have := hown.1; rw [List.length_map] at this; omega
  haveI : Inhabited (PF xs) := by
    match fs, hlen with
    | f :: _, _ => exact ⟨f⟩
    | [], h => exact absurd h (by simp; omega)
  have hH := holds_of_own hown
  have hg := hown.lt g rfl
  have hsz : fs.toArray.size = n := by simpa using hlen
  have hcmp : CmpLays1 Try.prog 77 #[.pointer (some ⟨gl, 0, none⟩)] encP (cmpF xs) g 0 fs.toArray.size w := by
    intro m os dk hd x y
    have hsz2 : (putRow encP (Go.Sort.ahead w m) g 0 dk).heap.size = w.heap.size := by simp [putRow, mapBlock, Go.Sort.ahead]
    have hle : w.heap.size ≤ (sortWorld encP w g 0 m dk os).heap.size := by unfold sortWorld; rw [size_grow, hsz2]; omega
    have hcell : ∀ p : Addr, p.block < base → (sortWorld encP w g 0 m dk os).cell? p = w.cell? p := by
      intro p hp
      unfold sortWorld
      have hpw : p.block < w.heap.size := by omega
      rw [cell?_grow _ _ _ (by rw [hsz2]; exact hpw), show p = ⟨p.block, p.off, p.spot⟩ from rfl]
      exact World.cell?_of_block (by
        have hne : g ≠ p.block := by omega
        simp [putRow, mapBlock, Go.Sort.ahead, Array.getElem?_modify, hne])
    refine (pnCmp_any gl A c x.k y.k xs _ ((hcell ⟨gl, 0, none⟩ hgl).trans hb) ((hr.keep hcell).more (by omega)) x.lt y.lt).mono ?_
    rintro e w' ⟨h1, h2⟩
    exact ⟨h1, h2⟩
  have eg : ∀ args w, (callFunc 77 args).run Try.prog w = .ok (.enter 77 args) w := enters_of Try.func77 (by kernel_rfl) rfl
  have hcon := Any.slices_SortFunc_total sortLays encP (fun _ => rfl) (cmpF xs) (swoP xs) 77 #[.pointer (some ⟨gl, 0, none⟩)] g 0 cc fs.toArray w eg hcmp hH hg.2 (by rw [hsz]; have h1 := pend_len xs 4; rw [← hf, List.length_map, hlen] at h1; omega) (totP ho)
  rw [hsz] at hcon
  refine hcon.mono ?_
  rintro e w' ⟨rfl, q, os, rfl⟩
  have h1 := own_sorted hown fs.toArray hH hsz (fs.mergeSort fun x y => !(ltOf (cmpF xs)) y x) (by rw [List.length_mergeSort, hlen]) q os
  rw [encP_map, sorted_pnd xs ho fs hf] at h1
  exact ⟨rfl, h1⟩
theorem sortS_none (p : Option Addr) (cap : Nat) (fv : Value) (w : World) : Calls Try.prog 76 #[.slice p 0 cap, fv] w fun e w' => e = .returned (.tuple #[]) ∧ w' = w :=
  Go.Proofs.AnyF.slices_SortFunc_none (P := Try.prog) (ρ := sortLays_ren) { sortLays with } p cap fv w
end Go.Proofs.Ytadpjkghfgnbbaa.L8
