/- The sort of impl.ReadyIrqs: what it leaves. -/
import Derived.Test.YtclnhdjnmfkeaaaRdC
namespace Go.Proofs.Ytclnhdjnmfkeaaa.L6
open Go Go.RowKit Go.Proofs.Ytclnhdjnmfkeaaa.Mem Go.Proofs.Ytclnhdjnmfkeaaa.Own Go.Sort Go.Lib
def encF (i : Fin 8) : Value := .int .i64 ((i.val : Nat) : Int)
theorem ltF (xs : List Irq) (x y : Fin 8) : ltOf (fun x y : Fin 8 => cmpI xs x.val y.val) x y = decide (prio xs x.val < prio xs y.val ∨ (prio xs x.val = prio xs y.val ∧ x.val < y.val)) := by
  unfold ltOf
  exact decide_eq_decide.2 (cmpI_lt xs x.val y.val)
theorem swoF (xs : List Irq) : SWO (ltOf fun x y : Fin 8 => cmpI xs x.val y.val) where
  irrefl x := by rw [ltF]; simp
  trans x y z h1 h2 := by rw [ltF] at *; simp only [decide_eq_true_eq] at *; omega
  ntrans x y z h1 h2 := by rw [ltF] at *; simp only [decide_eq_false_iff_not] at *; omega
theorem totF (xs : List Irq) (x y : Fin 8) (h1 : ltOf (fun x y : Fin 8 => cmpI xs x.val y.val) x y = false) (h2 : ltOf (fun x y : Fin 8 => cmpI xs x.val y.val) y x = false) : x = y := by
  rw [ltF] at *
  simp only [decide_eq_false_iff_not] at *
  exact Fin.ext (by omega)
/-- places below eight as such -/
theorem fins (l : List Nat) (h : ∀ j ∈ l, j < 8) : ∃ fs : List (Fin 8), fs.map Fin.val = l := by
  induction l with
  | nil => exact ⟨[], rfl⟩
  | cons j l ih =>
    obtain ⟨fs, hf⟩ := ih (fun a ha => h a (List.mem_cons_of_mem _ ha))
    exact ⟨⟨j, h j List.mem_cons_self⟩ :: fs, by simp [hf]⟩
theorem encF_map (fs : List (Fin 8)) : fs.map encF = I (ints (fs.map Fin.val)) := by simp [I, ints, encF, Function.comp_def]
/-- what the sort leaves: the ready ones in their order -/
theorem sorted_rdy (xs : List Irq) (cpu : Int) (fs : List (Fin 8)) (h : fs.map Fin.val = cand xs cpu 8) : (fs.mergeSort fun x y => !(ltOf fun x y : Fin 8 => cmpI xs x.val y.val) y x).map Fin.val = rdy xs cpu 8 := by
  have hle : ∀ x y : Fin 8, (!(ltOf fun x y : Fin 8 => cmpI xs x.val y.val) y x) = le xs x.val y.val := by
    intro x y
    rw [ltF]
    unfold le
    rw [← decide_not]
    exact decide_eq_decide.2 (by omega)
  refine IsRd.eq ⟨?_, ?_⟩
  · rw [← h]
    exact (List.mergeSort_perm fs _).map _
  · rw [List.pairwise_map]
    have h2 := List.pairwise_mergeSort (le := fun x y => !(ltOf fun x y : Fin 8 => cmpI xs x.val y.val) y x) (fun a b c h1 h2 => by
      rw [hle] at *; exact le_trans _ _ _ h1 h2) (fun a b => by rw [hle, hle]; exact le_total _ _) fs
    refine h2.imp fun {a b} hab => ?_
    rw [hle] at hab
    exact hab
set_option maxHeartbeats 1000000 in
/-- the sort of the ready ones, where there are some -/
theorem sort_some (g gl : Nat) (A : Option Addr) (c n cc base : Nat) (xs : List Irq) (cpu : Int) (w : World) (hb : w.cell? ⟨gl, 0, none⟩ = some (.slice A 8 c)) (hgl : gl < base) (hr : Reads w base 5 A 8 (FL xs)) 
    (hown : w.ownsRow base 3 1 (.slice (some ⟨g, 0, none⟩) n cc) n (I (ints (cand xs cpu 8)))) :
    Calls Try.prog 67 #[.slice (some ⟨g, 0, none⟩) n cc, .func (.func 68) #[] #[.pointer (some ⟨gl, 0, none⟩)]] w fun e w' => e = .returned (.tuple #[]) ∧
      w'.ownsRow base 3 1 (.slice (some ⟨g, 0, none⟩) n cc) n (I (ints (rdy xs cpu 8))) ∧ w.grownBy w' (some g) := by
  obtain ⟨fs, hf⟩ := fins (cand xs cpu 8) (fun j hj => (mem_cand.1 hj).1)
  have hen : I (ints (cand xs cpu 8)) = fs.map encF := by rw [encF_map, hf]
  rw [hen] at hown
  have hlen : fs.length = n := by have := hown.1; rw [List.length_map] at this; omega
  have hH := holds_of_own hown
  have hg := hown.lt g rfl
  have hsz : fs.toArray.size = n := by simpa using hlen
  have hcmp : CmpLays1 Try.prog 68 #[.pointer (some ⟨gl, 0, none⟩)] encF (fun x y => cmpI xs x.val y.val) g 0 fs.toArray.size w := by
    intro m os dk hd x y
    have hsz2 : (putRow encF (Go.Sort.ahead w m) g 0 dk).heap.size = w.heap.size := by simp [putRow, mapBlock, Go.Sort.ahead]
    have hle : w.heap.size ≤ (sortWorld encF w g 0 m dk os).heap.size := by unfold sortWorld; rw [size_grow, hsz2]; omega
    have hcell : ∀ p : Addr, p.block < base → (sortWorld encF w g 0 m dk os).cell? p = w.cell? p := by
      intro p hp
      unfold sortWorld
      have hpw : p.block < w.heap.size := by omega
      rw [cell?_grow _ _ _ (by rw [hsz2]; exact hpw), show p = ⟨p.block, p.off, p.spot⟩ from rfl]
      exact World.cell?_of_block (by
        have hne : g ≠ p.block := by omega
        simp [putRow, mapBlock, Go.Sort.ahead, Array.getElem?_modify, hne])
    refine (rdCmp_any gl A c x.val y.val xs _ ((hcell ⟨gl, 0, none⟩ hgl).trans hb) ((hr.keep hcell).more (by omega)) x.isLt y.isLt).mono ?_
    rintro e w' ⟨h1, h2⟩
    exact ⟨h1, h2⟩
  have eg : ∀ args w, (callFunc 68 args).run Try.prog w = .ok (.enter 68 args) w := enters_of Try.func68 (by kernel_rfl) rfl
  have hcon := Any.slices_SortFunc_total sortLays encF (fun _ => rfl) (fun x y => cmpI xs x.val y.val) (swoF xs) 68 #[.pointer (some ⟨gl, 0, none⟩)] g 0 cc fs.toArray w eg hcmp hH hg.2 (by rw [hsz]; have h1 := cand_len xs cpu 8; rw [← hf, List.length_map, hlen] at h1; omega) (totF xs)
  rw [hsz] at hcon
  refine hcon.mono ?_
  rintro e w' ⟨rfl, q, os, rfl⟩
  have h1 := own_sorted hown fs.toArray hH hsz (fs.mergeSort fun x y => !(ltOf fun x y : Fin 8 => cmpI xs x.val y.val) y x) (by rw [List.length_mergeSort, hlen]) q os
  rw [encF_map, sorted_rdy xs cpu fs hf] at h1
  exact ⟨rfl, h1⟩
theorem sort_none (p : Option Addr) (cap : Nat) (fv : Value) (w : World) : Calls Try.prog 67 #[.slice p 0 cap, fv] w fun e w' => e = .returned (.tuple #[]) ∧ w' = w :=
  Go.Proofs.AnyF.slices_SortFunc_none (P := Try.prog) (ρ := sortLays_ren) { sortLays with } p cap fv w
end Go.Proofs.Ytclnhdjnmfkeaaa.L6
