/- What impl.freeRuns answers: the runs of free frames, each in a slice of its own. -/
import Derived.Test.YtlpngmcnelmpmaaRun1
namespace Go.Proofs.Ytlpngmcnelmpmaa.Fra
open Go.RowKit Go.Proofs.Ytlpngmcnelmpmaa.Mem Go.Proofs.Ytlpngmcnelmpmaa.Own Go.Proofs.Ytlpngmcnelmpmaa.L1
section
variable {w w' : World} {b b2 N n s2 : Nat} {R : List (Nat × Nat)} {L xs : List Value} {v : Value}
theorem block_of_own {e : TypeId} {g : Nat} (h : w.ownsRow b e s2 v n xs) (hg : v.ownBlock = some g) : ∃ cur, w.heap[g]? = some (.cells cur e (0, 0)) := by
  rcases h.2 with ⟨rfl, _⟩ | ⟨g', cap, cur, rfl, _, hh, _⟩
  · cases hg
  · simp only [Value.ownBlock, Option.some.injEq] at hg
    subst hg
    exact ⟨cur, hh⟩
/-- rows of different elements lie apart -/
theorem apart_types {e e2 : TypeId} {u : Value} {n2 : Nat} {ys : List Value} {b3 s3 : Nat} (h : w.ownsRow b e s2 v n xs) (h' : w.ownsRow b3 e2 s3 u n2 ys) (he : e ≠ e2) : Apart v u := by
  intro k h1 h2
  obtain ⟨c1, e1⟩ := block_of_own h h1
  obtain ⟨c2, e2⟩ := block_of_own h' h2
  rw [e1] at e2
  simp only [Option.some.injEq, Obj.cells.injEq] at e2
  exact he e2.2.1
/-- the runs R lie in the slices L, each below block N -/
def Inner (w : World) (b N : Nat) (R : List (Nat × Nat)) (L : List Value) : Prop :=
  L.length = R.length ∧ ∀ (j : Nat) (p : Nat × Nat), R[j]? = some p → ∃ A c, L[j]? = some (Value.slice A p.2 c) ∧ w.ownsRow b 3 1 (.slice A p.2 c) p.2 (I (upFrom p.1 p.2)) ∧ ∀ k, (Value.slice A p.2 c).ownBlock = some k → k < N
/-- .., the last one apart -/
def Mem2 (w : World) (b : Nat) (R : List (Nat × Nat)) (L : List Value) : Prop :=
  (R = [] ∧ L = []) ∨ ∃ R0 L0 s l A c N, R = R0 ++ [(s, l)] ∧ L = L0 ++ [.slice A l c] ∧ Inner w b N R0 L0 ∧ w.ownsRow N 3 1 (.slice A l c) l (I (upFrom s l)) ∧ b ≤ N ∧ N ≤ w.heap.size
theorem inner_grown {row : Option Nat} (h : Inner w b N R L) (hg : w.grownBy w' row) (hr : ∀ (j : Nat) (p : Nat × Nat) (A : Option Addr) (c : Nat), R[j]? = some p → L[j]? = some (Value.slice A p.2 c) → w.ownsRow b 3 1 (.slice A p.2 c) p.2 (I (upFrom p.1 p.2)) → (∀ k, (Value.slice A p.2 c).ownBlock = some k → k < N) → (Value.slice A p.2 c).ownBlock = none ∨ (Value.slice A p.2 c).ownBlock ≠ row) : Inner w' b N R L :=
  ⟨h.1, fun j p hp => by
    obtain ⟨A, c, h1, h2, h3⟩ := h.2 j p hp
    exact ⟨A, c, h1, h2.kept hg (hr j p A c hp h1 h2 h3), h3⟩⟩
theorem inner_far {row : Option Nat} (h : Inner w b N R L) (hg : w.grownBy w' row) (hr : ∀ g, row = some g → N ≤ g) : Inner w' b N R L :=
  inner_grown h hg fun j p A c _ _ _ h4 => by
    cases hb : (Value.slice A p.2 c).ownBlock with
    | none => exact .inl rfl
    | some k =>
      right
      intro e
      have := h4 k hb
      have := hr k e.symm
      omega
theorem inner_outer {u : Value} {n2 : Nat} {ys : List Value} {b3 : Nat} (h : Inner w b N R L) (ho : w.ownsRow b3 24 1 u n2 ys) (hg : w.grownBy w' u.ownBlock) : Inner w' b N R L :=
  inner_grown h hg fun j p A c _ _ h3 _ => by
    cases hb : (Value.slice A p.2 c).ownBlock with
    | none => exact .inl rfl
    | some k =>
      right
      intro e
      exact apart_types h3 ho (by decide) k hb e.symm
theorem mem2_outer {u : Value} {n2 : Nat} {ys : List Value} {b3 : Nat} (h : Mem2 w b R L) (ho : w.ownsRow b3 24 1 u n2 ys) (hg : w.grownBy w' u.ownBlock) : Mem2 w' b R L := by
  rcases h with h | ⟨R0, L0, s, l, A, c, N, h1, h2, h3, h4, h5, h6⟩
  · exact .inl h
  · exact .inr ⟨R0, L0, s, l, A, c, N, h1, h2, inner_outer h3 ho hg, own_apart h4 hg (apart_types h4 ho (by decide)).symm, h5, Nat.le_trans h6 hg.size⟩
theorem mem2_below (h : Mem2 w b R L) (hb : Below w.heap.size w w') : Mem2 w' b R L := by
  rcases h with h | ⟨R0, L0, s, l, A, c, N, h1, h2, h3, h4, h5, h6⟩
  · exact .inl h
  · exact .inr ⟨R0, L0, s, l, A, c, N, h1, h2, inner_far h3 (grown_of_below hb none) (fun g e => by cases e), own_below h4 hb, h5, Nat.le_trans h6 hb.size⟩
theorem mem2_len (h : Mem2 w b R L) : L.length = R.length := by
  rcases h with ⟨rfl, rfl⟩ | ⟨R0, L0, s, l, A, c, N, rfl, rfl, h3, _⟩
  · rfl
  · rw [List.length_append, List.length_append, h3.1]; rfl
theorem mem2_at (h : Mem2 w b R L) {j : Nat} {p : Nat × Nat} (hp : R[j]? = some p) : ∃ A c, L[j]? = some (.slice A p.2 c) ∧ w.ownsRow b 3 1 (.slice A p.2 c) p.2 (I (upFrom p.1 p.2)) := by
  rcases h with ⟨rfl, rfl⟩ | ⟨R0, L0, s, l, A, c, N, rfl, rfl, h3, h4, h5, h6⟩
  · cases hp
  · rcases Nat.lt_or_ge j R0.length with hj | hj
    · rw [List.getElem?_append_left hj] at hp
      obtain ⟨A', c', h7, h8, _⟩ := h3.2 j p hp
      exact ⟨A', c', by rw [List.getElem?_append_left (by rw [h3.1]; exact hj)]; exact h7, h8⟩
    · rw [List.getElem?_append_right hj] at hp
      have hjj : j - R0.length = 0 := by
        have := (List.getElem?_eq_some_iff.1 hp).1
        simp at this
        omega
      rw [hjj] at hp
      simp only [List.getElem?_cons_zero, Option.some.injEq] at hp
      subst hp
      exact ⟨A, c, by rw [List.getElem?_append_right (by rw [h3.1]; exact hj), h3.1, hjj]; rfl, own_mono h4 h5⟩
/-- a run is begun: its slice is the newest block -/
theorem mem2_new (h : Mem2 w b R L) (hb : b ≤ w.heap.size) (f : Nat) : Mem2 (w.alloc (.cells #[.int .i64 f] 3)) b (R ++ [(f, 1)]) (L ++ [.slice (some ⟨w.heap.size, 0, none⟩) 1 1]) := by
  have ho := own_one w f
  have hI : I [(f : Int)] = I (upFrom f 1) := by simp [upFrom]
  rw [hI] at ho
  have hba : Below w.heap.size w (w.alloc (.cells #[.int .i64 f] 3)) := (Below.refl w.heap.size w).alloc (Nat.le_refl _) _
  refine .inr ⟨R, L, f, 1, _, _, w.heap.size, rfl, rfl, ?_, ho, hb, hba.size⟩
  rcases h with ⟨rfl, rfl⟩ | ⟨R0, L0, s, l, A, c, N, rfl, rfl, h3, h4, h5, h6⟩
  · exact ⟨rfl, fun j p hp => by cases hp⟩
  · have h3' := inner_far h3 (grown_of_below hba none) (fun g e => by cases e)
    have h4' := own_below h4 hba
    refine ⟨by simp [h3.1], fun j p hp => ?_⟩
    rcases Nat.lt_or_ge j R0.length with hj | hj
    · rw [List.getElem?_append_left hj] at hp
      obtain ⟨A', c', h7, h8, h9⟩ := h3'.2 j p hp
      exact ⟨A', c', by rw [List.getElem?_append_left (by rw [h3.1]; exact hj)]; exact h7, h8, fun k hk => by have := h9 k hk; omega⟩
    · rw [List.getElem?_append_right hj] at hp
      have hjj : j - R0.length = 0 := by
        have := (List.getElem?_eq_some_iff.1 hp).1
        simp at this
        omega
      rw [hjj] at hp
      simp only [List.getElem?_cons_zero, Option.some.injEq] at hp
      subst hp
      exact ⟨A, c, by rw [List.getElem?_append_right (by rw [h3.1]; exact hj), h3.1, hjj]; rfl, own_mono h4' h5, fun k hk => (h4.lt k hk).2⟩
end
theorem fr_prefix {zs : List Int} {a m : Nat} (h : a ≤ m) : fr zs 0 a <+: fr zs 0 m := by
  obtain ⟨d, rfl⟩ : ∃ d, m = a + d := ⟨m - a, by omega⟩
  clear h
  induction d with
  | zero => exact List.prefix_refl _
  | succ d ih =>
    refine ih.trans ?_
    rw [show a + (d + 1) = (a + d) + 1 from by omega, fr]
    split
    · exact List.prefix_append _ _
    · exact List.prefix_refl _
/-- the frame that is next in the list of zeros' places -/
theorem next_frame {zs : List Int} {n : Nat} : ∀ (d k i : Nat), k + d = n → (fr zs 0 k).length = i → i < (fr zs 0 n).length → ∃ f : Nat, (fr zs 0 n)[i]? = some (f : Int) ∧ k ≤ f ∧ f < n ∧ zs[f]? = some 0 ∧ (∀ j, k ≤ j → j < f → zs[j]? ≠ some 0) ∧ (fr zs 0 (f + 1)).length = i + 1
  | 0, k, i, hk, hi, hlt => by
    obtain rfl : k = n := by omega
    omega
  | d + 1, k, i, hk, hi, hlt => by
    by_cases hz : zs[k]? = some 0
    · refine ⟨k, ?_, Nat.le_refl _, by omega, hz, fun j h1 h2 => by omega, by rw [fr_hit hz, List.length_append, hi]; rfl⟩
      have hp : fr zs 0 (k + 1) <+: fr zs 0 n := fr_prefix (by omega)
      obtain ⟨t, ht⟩ := hp
      rw [← ht, fr_hit hz, List.append_assoc, List.getElem?_append_right (by omega), hi, Nat.sub_self]
      rfl
    · have e : fr zs 0 (k + 1) = fr zs 0 k := by rw [fr, if_neg hz]
      obtain ⟨f, h1, h2, h3, h4, h5, h6⟩ := next_frame d (k + 1) i (by omega) (by rw [e]; exact hi) hlt
      refine ⟨f, h1, by omega, h3, h4, fun j hj1 hj2 => ?_, h6⟩
      rcases Nat.lt_or_ge k j with h7 | h7
      · exact h5 j h7 hj2
      · rw [show j = k from by omega]; exact hz
theorem no_frame {zs : List Int} {n : Nat} : ∀ (d k : Nat), k + d = n → (fr zs 0 k).length = (fr zs 0 n).length → ∀ j, k ≤ j → j < n → zs[j]? ≠ some 0
  | 0, k, hk, _, j, h1, h2 => by omega
  | d + 1, k, hk, hi, j, h1, h2 => by
    by_cases hz : zs[k]? = some 0
    · have hp : fr zs 0 (k + 1) <+: fr zs 0 n := fr_prefix (by omega)
      have := hp.length_le
      rw [fr_hit hz, List.length_append] at this
      simp at this
      omega
    · have e : fr zs 0 (k + 1) = fr zs 0 k := by rw [fr, if_neg hz]
      rcases Nat.lt_or_ge k j with h7 | h7
      · exact no_frame d (k + 1) (by omega) (by rw [e]; exact hi) j h7 h2
      · rw [show j = k from by omega]; exact hz
theorem sliInfo : (Try.prog.info? 24).map (fun i => (i.zero, i.size, i.bytes)) = some (some (.slice none 0 0), 1, 24) := by kernel_rfl
theorem runs_len {k : Nat} : ∀ (R : List (Nat × Nat)) (a : Nat), (∀ p ∈ R, a ≤ p.1 ∧ 1 ≤ p.2 ∧ p.1 + p.2 ≤ k) → R.Pairwise (fun a b => a.1 + a.2 < b.1) → a ≤ k → a + R.length ≤ k
  | [], a, _, _, h => by simpa using h
  | p :: t, a, h, hs, _ => by
    have hp := h p (by simp)
    rw [List.pairwise_cons] at hs
    have := runs_len (k := k) t (a + 1) (fun q hq => by have h1 := hs.1 q hq; have h2 := h q (by simp [hq]); omega) hs.2 (by omega)
    simp only [List.length_cons]
    omega
theorem RI_len {zs : List Int} {k : Nat} {R : List (Nat × Nat)} (h : RI zs k R) : R.length ≤ k := by
  have := runs_len (k := k) R 0 (fun p hp => by obtain ⟨e1, e2, _⟩ := h.each p hp; omega) h.sorted (by omega)
  omega
theorem mem2_mono {w : World} {b b' : Nat} {R : List (Nat × Nat)} {L : List Value} (h : Mem2 w b R L) (hb : b' ≤ b) : Mem2 w b' R L := by
  rcases h with h | ⟨R0, L0, s, l, A, c, N, h1, h2, h3, h4, h5, h6⟩
  · exact .inl h
  · exact .inr ⟨R0, L0, s, l, A, c, N, h1, h2, ⟨h3.1, fun j p hp => by
      obtain ⟨A', c', h7, h8, h9⟩ := h3.2 j p hp
      exact ⟨A', c', h7, own_mono h8 hb, h9⟩⟩, h4, Nat.le_trans hb h5, h6⟩
/-- what appending a frame to the last run's slice and storing that slice leaves -/
theorem bump_rel {w1 wr w2 : World} {b N s l f go co c2 : Nat} {A2 : Option Addr} {R0 : List (Nat × Nat)} {L0 : List Value} {v' : Value} {o : Obj} (hO : wr.ownsRow b 24 1 (.slice (some ⟨go, 0, none⟩) (R0.length + 1) co) (R0.length + 1) (L0 ++ [.slice A2 l c2]))
    (h3 : Inner wr b N R0 L0) (h4 : wr.ownsRow N 3 1 (.slice A2 l c2) l (I (upFrom s l))) (h5 : b ≤ N) (h6 : N ≤ wr.heap.size) (hbel : Below b w1 wr) (hown' : w2.ownsRow N 3 1 v' (l + 1) (I (upFrom s l) ++ [.int .i64 f])) (hg : (wr.alloc o).grownBy w2 (Value.slice A2 l c2).ownBlock) (hf : s + l = f) :
    (∃ z, w2.cell? ⟨go, R0.length, none⟩ = some z) ∧ w2.frozen? ⟨go, R0.length, none⟩ = false ∧ (w2.setCell ⟨go, R0.length, none⟩ v').ownsRow b 24 1 (.slice (some ⟨go, 0, none⟩) (R0.length + 1) co) (R0.length + 1) (L0 ++ [v']) ∧ Mem2 (w2.setCell ⟨go, R0.length, none⟩ v') b (R0 ++ [(s, l + 1)]) (L0 ++ [v']) ∧ Below b w1 (w2.setCell ⟨go, R0.length, none⟩ v') := by
  have hbN : b ≤ wr.heap.size := Nat.le_trans h5 h6
  have hO1 := hO.alloc o
  have h41 := h4.alloc o
  have hO2 : w2.ownsRow b 24 1 (.slice (some ⟨go, 0, none⟩) (R0.length + 1) co) (R0.length + 1) (L0 ++ [.slice A2 l c2]) := own_apart hO1 hg (apart_types h41 hO1 (by decide))
  have hll := h3.1
  have hst := hO2.stored R0.length v'
  have hset : (L0 ++ [Value.slice A2 l c2]).set R0.length v' = L0 ++ [v'] := by
    rw [List.set_append_right _ _ (by omega), hll, Nat.sub_self]
    rfl
  rw [hset] at hst
  have h31 : Inner w2 b N R0 L0 := inner_far (inner_far h3 (World.grownBy_alloc wr o none) (fun g e => by cases e)) hg (fun g e => (h4.lt g e).1)
  obtain ⟨A', c', rfl, _, _⟩ := own_form hown'
  have hI : I (upFrom s l) ++ [Value.int .i64 f] = I (upFrom s (l + 1)) := by rw [upFrom_succ, ← hf]; simp [I]
  rw [hI] at hown'
  have hba : Below b w1 (wr.alloc o) := hbel.alloc hbN _
  have hb2 : Below b w1 w2 := hba.grown hg (Nat.le_trans hbN (World.grownBy_alloc wr o none).size) (fun g e => Nat.le_trans h5 (h4.lt g e).1)
  have hM : Mem2 w2 b (R0 ++ [(s, l + 1)]) (L0 ++ [.slice A' (l + 1) c']) :=
    .inr ⟨R0, L0, s, l + 1, A', c', N, rfl, rfl, h31, hown', h5, Nat.le_trans h6 (Nat.le_trans (World.grownBy_alloc wr o none).size hg.size)⟩
  exact ⟨⟨_, (hO2.cellAt R0.length (by omega)).trans (List.getElem?_eq_getElem (by rw [List.length_append, hll]; simp))⟩, hO2.frozenAt _, hst.1, mem2_outer hM hO2 hst.2, hb2.setCell (p := ⟨go, R0.length, none⟩) (hO2.lt go rfl).1 _⟩
/-- what a new run leaves -/
theorem new_rel {w1 wr w2 : World} {b f m : Nat} {R : List (Nat × Nat)} {L : List Value} {v : Value} {o2 : Obj} (hO : wr.ownsRow b 24 1 v m L) (hM : Mem2 wr b R L) (hb : b ≤ wr.heap.size) (hbel : Below b w1 wr)
    (hg : ((wr.alloc (.cells #[.int .i64 f] 3)).alloc o2).grownBy w2 v.ownBlock) :
    Mem2 w2 b (R ++ [(f, 1)]) (L ++ [.slice (some ⟨wr.heap.size, 0, none⟩) 1 1]) ∧ Below b w1 w2 := by
  have h1 := mem2_new hM hb f
  have hz1 := (World.grownBy_alloc wr (.cells #[.int .i64 f] 3) none).size
  have hz2 := (World.grownBy_alloc (wr.alloc (.cells #[.int .i64 f] 3)) o2 none).size
  have h2 := mem2_below h1 ((Below.refl _ _).alloc (Nat.le_refl _) o2)
  have hO2 := (hO.alloc (.cells #[.int .i64 f] 3)).alloc o2
  exact ⟨mem2_outer h2 hO2 hg, ((hbel.alloc hb _).alloc (Nat.le_trans hb hz1) _).grown hg (by omega) (fun g e => (hO.lt g e).1)⟩
set_option maxHeartbeats 4000000 in
theorem freeRuns_any (A : Option Addr) (n c : Nat) (zs : List Int) (w : World) (hr : Reads w w.heap.size 1 A n (I zs)) (hn : n ≤ 1048576) :
    Calls Try.prog 49 #[.slice A n c] w fun e w' => ∃ R v L, e = .returned v ∧ RI zs n R ∧ w'.ownsRow w.heap.size 24 1 v R.length L ∧ Mem2 w' w.heap.size R L ∧ Below w.heap.size w w' := by
  obtain ⟨i0, hi, hz0, hz1, hz2⟩ := info_parts intInfo
  obtain ⟨i1, hi', hz0', hz1', hz2'⟩ := info_parts sliInfo
  have HL : Hid (zs.length = n) := Lib.hid (by have := hr.len; simpa [I] using this)
  have HF := Lib.hid (framesWith_any A n c _ zs 0 w hr (Nat.le_refl _) hn)
  have HR0 := Lib.hid hr
  have hfl := fr_len zs 0 n
  have HNX := Lib.hid fun (k i : Nat) (hk : k ≤ n) => next_frame (zs := zs) (n := n) (n - k) k i (by omega)
  have HNO := Lib.hid fun (k : Nat) (hk : k ≤ n) => no_frame (zs := zs) (n := n) (n - k) k (by omega)
  obtain ⟨F, hF⟩ : ∃ F, F = fr zs 0 n := ⟨_, rfl⟩
  rw [← hF] at HF hfl HNX HNO
  clear hF hr
  go_enter Try.func49, Try.ntmps49
  go_wp2_with fail
  refine HF.out.mono ?_
  rintro e w1 ⟨v, rfl, hown, hb⟩
  obtain ⟨A1, c1, rfl, _, _⟩ := own_form hown
  have HFR := Lib.hid (Reads.of_own hown)
  have HB1 := Lib.hid hb
  have hz1s := hb.size
  clear HF hown hb
  have hown0 : w1.ownsRow w1.heap.size 24 1 (.slice none 0 0) 0 [] := World.ownsRow_nil _ _ _ _
  go_wp2_with fail
  go_loopw [3, 10] (fun v i wr => ∃ (q k : Nat) (R : List (Nat × Nat)) (L : List Value), i = .int .i64 q ∧ q ≤ F.length ∧ k ≤ n ∧ Hid ((fr zs 0 k).length = q) ∧ Hid (RI zs k R) ∧ R.length ≤ q ∧ wr.ownsRow w1.heap.size 24 1 v R.length L ∧ Hid (Mem2 wr w1.heap.size R L) ∧ Below w1.heap.size w1 wr) (fun _ i _ => F.length - (intOf i).toNat)
  case atStart => exact ⟨0, 0, [], [], rfl, Nat.zero_le _, Nat.zero_le _, Lib.hid rfl, Lib.hid (RI_zero zs), Nat.le_refl _, hown0, Lib.hid (.inl ⟨rfl, rfl⟩), Below.refl _ _⟩
  case round =>
    clear hown0
    obtain ⟨q, k, R, L, rfl, hq, hk, HQ, HRI, hRq, hown, HM, hbel⟩ := hrel
    by_cases hlt : q < F.length
    · obtain ⟨f, hf1, hf2, hf3, hf4, hf5, hf6⟩ := HNX.out k q hk HQ.out hlt
      have HRF := Lib.hid (RI_gap HRI.out hf2 hf5)
      have hfr : Reads wr w1.heap.size 1 A1 F.length (I F) := HFR.out.below hbel
      obtain ⟨b1, o1, z, rfl, _, hu, hc⟩ := hfr.int_at hlt
      obtain rfl : z = (f : Int) := by rw [hf1] at hu; exact (Option.some.inj hu).symm
      have HQ2 := Lib.hid hf6
      have hRf := HRF.out
      have hlr : R.length ≤ 1048576 := by omega
      have hsz := hbel.size
      clear hfr hu hf1 hf5 hf6 HRI HQ
      by_cases hprev : 0 < f ∧ zs[f - 1]? = some 0
      · obtain ⟨R0, s, l, hRe, hsl, hl1⟩ := RI_last hRf hprev.1 hprev.2
        subst hRe
        have HRI2 := Lib.hid (RI_bump hRf hsl hf4)
        rcases HM.out with ⟨h1, _⟩ | ⟨R0', L0, s', l', A2, c2, N, h1, rfl, h3, h4, h5, h6⟩
        · simp at h1
        obtain ⟨rfl, h1'⟩ := List.append_inj' h1 rfl
        simp only [List.cons.injEq, Prod.mk.injEq, and_true] at h1'
        obtain ⟨rfl, rfl⟩ := h1'
        have hlen : (R0 ++ [(s, l)]).length = R0.length + 1 := by simp
        rw [hlen] at hown hRq hlr
        obtain ⟨Ao, co, rfl, _, _⟩ := own_form hown
        obtain ⟨go, rfl⟩ := own_head hown (by omega)
        have BR := Lib.hid fun (w2 : World) (v' : Value) => bump_rel (w2 := w2) (v' := v') (f := f) (o := .cells #[.int .i64 f] 3) hown h3 h4 h5 h6 hbel
        have hfp := hprev.1
        have hcl : wr.cell? ⟨go, R0.length, none⟩ = some (.slice A2 l c2) := (hown.cellAt R0.length (by omega)).trans (by rw [List.getElem?_append_right (by rw [h3.1]; exact Nat.le_refl _), h3.1, Nat.sub_self]; rfl)
        have hrr : Reads wr w.heap.size 1 A n (I zs) := HR0.out.keep fun p hp => by rw [hbel.cell (by omega), HB1.out.cell hp]
        obtain ⟨b2, o2, z2, rfl, _, hu2, hc2⟩ := hrr.int_at (k := f - 1) (by omega)
        obtain rfl : z2 = 0 := by rw [hprev.2] at hu2; exact (Option.some.inj hu2).symm
        have hfe : ((f - 1 : Nat) : Int) = (f : Int) - 1 := by omega
        have hl48 : l + 1 ≤ 1048577 := by omega
        have h4' := h4
        have hfc : (f : Int) - 1 < n := by omega
        have hfc0 : 0 ≤ (f : Int) - 1 := by omega
        have hft : ((f : Int) - 1).toNat = f - 1 := by omega
        clear hRf hrr hu2 hprev h1 HM hown h3 h5 hbel HNX HNO hlen hf4
        go_wp2_with (at_builtin; refine wpList_append_own _ rfl _ _ 24 rfl N 3 i0 (.int .i64 0) 1 8 Try.underlying24 hi hz0 hz1 hz2 rfl (by decide) _ _ _ rfl (h4'.alloc _) ⟨wr.heap.size, 0, none⟩ 1 1 [.int .i64 f] rfl rfl (cell_one_new _ _ _) (fun x hx => by simp at hx; subst hx; rfl) (by unfold maxLen; omega) (by omega) (by simp; omega) ?_; intro v' w2 hown1 hgrow1 _; obtain ⟨A', c', rfl, _, _⟩ := own_form hown1; obtain ⟨⟨zz, hzz⟩, hfz, hO3, hM3, hB3⟩ := BR.out w2 _ hown1 hgrow1 hsl; have HO3 := Lib.hid hO3; have HM3 := Lib.hid hM3; have HB3 := Lib.hid hB3; clear hO3 hM3 hB3 hown1 hgrow1 BR)
        go_roundw
        case rel => exact ⟨q + 1, f + 1, R0 ++ [(s, l + 1)], _, by go_num, by omega, by omega, HQ2, HRI2, by simp; omega, by simpa using HO3.out, HM3, HB3.out⟩
        case measure => simp [intOf]; omega
      · have hpv : f = 0 ∨ zs[f - 1]? ≠ some 0 := by
          rcases Nat.eq_zero_or_pos f with h | h
          · exact .inl h
          · exact .inr fun e => hprev ⟨h, e⟩
        have HRI2 := Lib.hid (RI_new hRf hf4 hpv)
        have NR := Lib.hid fun (w2 : World) (hg : ((wr.alloc (.cells #[.int .i64 f] 3)).alloc (.cells #[.slice (some ⟨wr.heap.size, 0, none⟩) 1 1] 24)).grownBy w2 _) => new_rel (w2 := w2) (f := f) hown HM.out hsz hbel hg
        have hO2 := (hown.alloc (.cells #[.int .i64 f] 3)).alloc (.cells #[.slice (some ⟨wr.heap.size, 0, none⟩) 1 1] 24)
        have hzz : (wr.alloc (.cells #[.int .i64 f] 3)).heap.size = wr.heap.size + 1 := Array.size_push _
        have hnews : Hid (∀ (j : Nat) (u : Value), ([.slice (some ⟨wr.heap.size, 0, none⟩) 1 1] : List Value)[j]? = some u → ((wr.alloc (.cells #[.int .i64 f] 3)).alloc (.cells #[.slice (some ⟨wr.heap.size, 0, none⟩) 1 1] 24)).cell? ((⟨wr.heap.size + 1, 0, none⟩ : Addr).add j) = some u) := Lib.hid (by
          have := cell_one_new (wr.alloc (.cells #[.int .i64 f] 3)) (.slice (some ⟨wr.heap.size, 0, none⟩) 1 1) 24
          rwa [hzz] at this)
        have hzs2 : w1.heap.size ≤ ((wr.alloc (.cells #[.int .i64 f] 3)).alloc (.cells #[.slice (some ⟨wr.heap.size, 0, none⟩) 1 1] 24)).heap.size := by
          have : ((wr.alloc (.cells #[.int .i64 f] 3)).alloc (.cells #[.slice (some ⟨wr.heap.size, 0, none⟩) 1 1] 24)).heap.size = wr.heap.size + 1 + 1 := by rw [← hzz]; exact Array.size_push _
          omega
        have HO2 := Lib.hid hO2
        have HZS2 := Lib.hid hzs2
        clear hO2 hzs2 hzz
        rcases Nat.eq_zero_or_pos f with h0 | h0
        · subst h0
          clear hRf hprev HM hown hbel HNX HNO hf4 hpv
          go_wp2_with (at_builtin; refine wpList_append_own _ rfl _ _ 56 rfl w1.heap.size 24 i1 (.slice none 0 0) 1 24 Try.underlying56 hi' hz0' hz1' hz2' rfl (by decide) _ _ _ rfl HO2.out ⟨wr.heap.size + 1, 0, none⟩ 1 1 [.slice (some ⟨wr.heap.size, 0, none⟩) 1 1] rfl rfl hnews.out (fun x hx => by simp at hx; subst hx; rfl) (by unfold maxLen; omega) (by omega) HZS2.out ?_; intro v' w2 hown1 hgrow1 _; have HNR := Lib.hid (NR.out w2 hgrow1); have HO3 := Lib.hid hown1; clear hown1 hgrow1 NR)
          go_roundw
          case rel => exact ⟨q + 1, 0 + 1, _, _, by go_num, by omega, by omega, HQ2, HRI2, by simp; omega, by simpa using HO3.out, Lib.hid HNR.out.1, HNR.out.2⟩
          case measure => simp [intOf]; omega
        · have hrr : Reads wr w.heap.size 1 A n (I zs) := HR0.out.keep fun p hp => by rw [hbel.cell (by omega), HB1.out.cell hp]
          obtain ⟨b2, o2, z2, rfl, _, hu2, hc2⟩ := hrr.int_at (k := f - 1) (by omega)
          have hz2 : z2 ≠ 0 := by
            rintro rfl
            exact hprev ⟨h0, hu2⟩
          have t1 : (z2 == 0) = false := by simpa using hz2
          have hfe : ((f - 1 : Nat) : Int) = (f : Int) - 1 := by omega
          have hfc : (f : Int) - 1 < n := by omega
          have hfc0 : 0 ≤ (f : Int) - 1 := by omega
          have hft : ((f : Int) - 1).toNat = f - 1 := by omega
          clear hRf hprev HM hown hbel HNX HNO hf4 hpv hrr hu2 hz2
          go_wp2_with (at_builtin; refine wpList_append_own _ rfl _ _ 56 rfl w1.heap.size 24 i1 (.slice none 0 0) 1 24 Try.underlying56 hi' hz0' hz1' hz2' rfl (by decide) _ _ _ rfl HO2.out ⟨wr.heap.size + 1, 0, none⟩ 1 1 [.slice (some ⟨wr.heap.size, 0, none⟩) 1 1] rfl rfl hnews.out (fun x hx => by simp at hx; subst hx; rfl) (by unfold maxLen; omega) (by omega) HZS2.out ?_; intro v' w2 hown1 hgrow1 _; have HNR := Lib.hid (NR.out w2 hgrow1); have HO3 := Lib.hid hown1; clear hown1 hgrow1 NR)
          go_roundw
          case rel => exact ⟨q + 1, f + 1, _, _, by go_num, by omega, by omega, HQ2, HRI2, by simp; omega, by simpa using HO3.out, Lib.hid HNR.out.1, HNR.out.2⟩
          case measure => simp [intOf]; omega
    · have hqF : q = F.length := by omega
      have HRF := Lib.hid (RI_gap HRI.out hk (HNO.out k hk (by rw [HQ.out, hqF])))
      have HBB := Lib.hid (HB1.out.trans (hbel.mono hz1s))
      clear HRI HQ hqF hbel
      go_wp2
      go_ret
      exact ⟨R, _, L, rfl, HRF.out, own_mono hown hz1s, mem2_mono HM.out hz1s, HBB.out⟩
end Go.Proofs.Ytlpngmcnelmpmaa.Fra
