/- What TrapName answers, of spec and impl. -/
import Derived.Test.YtaamjnpknmimmaaDoorTrpS
import Derived.Test.YtaamjnpknmimmaaDoorNam
namespace Go.Proofs.YtaamjnpknmimmaaDoor.L5
open Go Go.RowKit Go.Proofs.YtaamjnpknmimmaaDoor.Mem Go.Proofs.YtaamjnpknmimmaaDoor.Own Go.Proofs.YtaamjnpknmimmaaDoor.L1
def stoB : ByteArray := ⟨#[32, 115, 116, 111, 114, 101]⟩
def nameOf (t : Trp) : ByteArray := if t.store = true then nmB t.cause.toNat ++ stoB else nmB t.cause.toNat
def nameAns (t : Trp) : ByteArray × Bool := if Ok t then (nameOf t, true) else (ByteArray.empty, false)
theorem nm_size (k : Nat) : (nmB k).size ≤ 6 := by unfold nmB; split <;> decide
theorem nameAns_yes {x : Trp} {n : ByteArray} {b : Bool} (h : nameAns x = (n, b)) (hx : Ok x) : nameOf x = n ∧ b = true := by
  unfold nameAns at h
  rw [if_pos hx] at h
  exact ⟨congrArg Prod.fst h, (congrArg Prod.snd h).symm⟩
theorem nameAns_no {x : Trp} {n : ByteArray} {b : Bool} (h : nameAns x = (n, b)) (hx : ¬ Ok x) : n = ByteArray.empty ∧ b = false := by
  unfold nameAns at h
  rw [if_neg hx] at h
  exact ⟨(congrArg Prod.fst h).symm, (congrArg Prod.snd h).symm⟩
set_option maxRecDepth 100000 in
set_option maxHeartbeats 1000000 in
theorem specName_1 (wd r i : Int) (n : ByteArray) (w : World) (hok : Ok ⟨1, wd, false, r, i⟩) (h : nameOf ⟨1, wd, false, r, i⟩ = n) :
    Calls Tryd.prog 5 #[.agg #[.int .i64 1, .int .i64 wd, .bool false, .int .i64 r, .int .i64 i]] w fun e w' => e = .returned (.tuple #[.string n, .bool true]) ∧ Below w.heap.size w w' := by
  have HB := Lib.hid (decide_eq_true hok)
  have H2 : Hid ((⟨#[102, 97, 117, 108, 116]⟩ : ByteArray) = n) := Lib.hid h
  clear hok h
  go_enter Tryd.func5, Tryd.ntmps5
  go_wp2_with fail
  refine (l5Good_c 1 wd false r i _ true HB.out).mono ?_
  rintro e w1 ⟨rfl, hb⟩
  have hW := Lib.hid (below_then (below_more (Below.refl w.heap.size w) _) hb)
  have hP := Blk.kept hb (Blk.new w #[.int .i64 1, .int .i64 wd, .bool false, .int .i64 r, .int .i64 i] 26)
  have hlt := hP.lt
  have p0 := hP.cell 0 _ rfl
  have p2 := hP.cell 2 _ rfl
  clear hb hP
  go_wp2_with fail
  go_ret2
  exact ⟨by rw [← H2.out]; rfl, below_more hW.out _⟩
set_option maxRecDepth 100000 in
set_option maxHeartbeats 1000000 in
theorem specName_2 (wd r i : Int) (n : ByteArray) (w : World) (hok : Ok ⟨2, wd, false, r, i⟩) (h : nameOf ⟨2, wd, false, r, i⟩ = n) :
    Calls Tryd.prog 5 #[.agg #[.int .i64 2, .int .i64 wd, .bool false, .int .i64 r, .int .i64 i]] w fun e w' => e = .returned (.tuple #[.string n, .bool true]) ∧ Below w.heap.size w w' := by
  have HB := Lib.hid (decide_eq_true hok)
  have H2 : Hid ((⟨#[99, 97, 108, 108]⟩ : ByteArray) = n) := Lib.hid h
  clear hok h
  go_enter Tryd.func5, Tryd.ntmps5
  go_wp2_with fail
  refine (l5Good_c 2 wd false r i _ true HB.out).mono ?_
  rintro e w1 ⟨rfl, hb⟩
  have hW := Lib.hid (below_then (below_more (Below.refl w.heap.size w) _) hb)
  have hP := Blk.kept hb (Blk.new w #[.int .i64 2, .int .i64 wd, .bool false, .int .i64 r, .int .i64 i] 26)
  have hlt := hP.lt
  have p0 := hP.cell 0 _ rfl
  have p2 := hP.cell 2 _ rfl
  clear hb hP
  go_wp2_with fail
  go_ret2
  exact ⟨by rw [← H2.out]; rfl, below_more hW.out _⟩
set_option maxRecDepth 100000 in
set_option maxHeartbeats 1000000 in
theorem specName_3 (wd r i : Int) (n : ByteArray) (w : World) (hok : Ok ⟨3, wd, false, r, i⟩) (h : nameOf ⟨3, wd, false, r, i⟩ = n) :
    Calls Tryd.prog 5 #[.agg #[.int .i64 3, .int .i64 wd, .bool false, .int .i64 r, .int .i64 i]] w fun e w' => e = .returned (.tuple #[.string n, .bool true]) ∧ Below w.heap.size w w' := by
  have HB := Lib.hid (decide_eq_true hok)
  have H2 : Hid ((⟨#[100, 101, 118, 105, 99, 101]⟩ : ByteArray) = n) := Lib.hid h
  clear hok h
  go_enter Tryd.func5, Tryd.ntmps5
  go_wp2_with fail
  refine (l5Good_c 3 wd false r i _ true HB.out).mono ?_
  rintro e w1 ⟨rfl, hb⟩
  have hW := Lib.hid (below_then (below_more (Below.refl w.heap.size w) _) hb)
  have hP := Blk.kept hb (Blk.new w #[.int .i64 3, .int .i64 wd, .bool false, .int .i64 r, .int .i64 i] 26)
  have hlt := hP.lt
  have p0 := hP.cell 0 _ rfl
  have p2 := hP.cell 2 _ rfl
  clear hb hP
  go_wp2_with fail
  go_ret2
  exact ⟨by rw [← H2.out]; rfl, below_more hW.out _⟩
set_option maxRecDepth 100000 in
set_option maxHeartbeats 1000000 in
theorem specName_4 (wd r i : Int) (n : ByteArray) (w : World) (hok : Ok ⟨4, wd, false, r, i⟩) (h : nameOf ⟨4, wd, false, r, i⟩ = n) :
    Calls Tryd.prog 5 #[.agg #[.int .i64 4, .int .i64 wd, .bool false, .int .i64 r, .int .i64 i]] w fun e w' => e = .returned (.tuple #[.string n, .bool true]) ∧ Below w.heap.size w w' := by
  have HB := Lib.hid (decide_eq_true hok)
  have H2 : Hid ((⟨#[119, 97, 105, 116]⟩ : ByteArray) = n) := Lib.hid h
  clear hok h
  go_enter Tryd.func5, Tryd.ntmps5
  go_wp2_with fail
  refine (l5Good_c 4 wd false r i _ true HB.out).mono ?_
  rintro e w1 ⟨rfl, hb⟩
  have hW := Lib.hid (below_then (below_more (Below.refl w.heap.size w) _) hb)
  have hP := Blk.kept hb (Blk.new w #[.int .i64 4, .int .i64 wd, .bool false, .int .i64 r, .int .i64 i] 26)
  have hlt := hP.lt
  have p0 := hP.cell 0 _ rfl
  have p2 := hP.cell 2 _ rfl
  clear hb hP
  go_wp2_with fail
  go_ret2
  exact ⟨by rw [← H2.out]; rfl, below_more hW.out _⟩
set_option maxRecDepth 100000 in
set_option maxHeartbeats 1000000 in
theorem specName_5 (wd r i : Int) (n : ByteArray) (w : World) (hok : Ok ⟨5, wd, false, r, i⟩) (h : nameOf ⟨5, wd, false, r, i⟩ = n) :
    Calls Tryd.prog 5 #[.agg #[.int .i64 5, .int .i64 wd, .bool false, .int .i64 r, .int .i64 i]] w fun e w' => e = .returned (.tuple #[.string n, .bool true]) ∧ Below w.heap.size w w' := by
  have HB := Lib.hid (decide_eq_true hok)
  have H2 : Hid ((⟨#[98, 97, 100]⟩ : ByteArray) = n) := Lib.hid h
  clear hok h
  go_enter Tryd.func5, Tryd.ntmps5
  go_wp2_with fail
  refine (l5Good_c 5 wd false r i _ true HB.out).mono ?_
  rintro e w1 ⟨rfl, hb⟩
  have hW := Lib.hid (below_then (below_more (Below.refl w.heap.size w) _) hb)
  have hP := Blk.kept hb (Blk.new w #[.int .i64 5, .int .i64 wd, .bool false, .int .i64 r, .int .i64 i] 26)
  have hlt := hP.lt
  have p0 := hP.cell 0 _ rfl
  have p2 := hP.cell 2 _ rfl
  clear hb hP
  go_wp2_with fail
  go_ret2
  exact ⟨by rw [← H2.out]; rfl, below_more hW.out _⟩
set_option maxRecDepth 100000 in
set_option maxHeartbeats 1000000 in
theorem specName_1S (wd r i : Int) (n : ByteArray) (w : World) (hok : Ok ⟨1, wd, true, r, i⟩) (h : nameOf ⟨1, wd, true, r, i⟩ = n) :
    Calls Tryd.prog 5 #[.agg #[.int .i64 1, .int .i64 wd, .bool true, .int .i64 r, .int .i64 i]] w fun e w' => e = .returned (.tuple #[.string n, .bool true]) ∧ Below w.heap.size w w' := by
  have HB := Lib.hid (decide_eq_true hok)
  have h2 : (⟨#[102, 97, 117, 108, 116]⟩ : ByteArray) ++ (⟨#[32, 115, 116, 111, 114, 101]⟩ : ByteArray) = n := h
  clear hok h
  have add := fun wx => run_string_add_sum (P := Tryd.prog) (w := wx) (⟨#[102, 97, 117, 108, 116]⟩ : ByteArray) (⟨#[32, 115, 116, 111, 114, 101]⟩ : ByteArray) (by have h1 : (⟨#[102, 97, 117, 108, 116]⟩ : ByteArray).size ≤ 6 := (by decide); have : (⟨#[32, 115, 116, 111, 114, 101]⟩ : ByteArray).size ≤ 6 := (by decide); omega)
  rw [h2] at add
  clear h2
  go_enter Tryd.func5, Tryd.ntmps5
  go_wp2_with fail
  refine (l5Good_c 1 wd true r i _ true HB.out).mono ?_
  rintro e w1 ⟨rfl, hb⟩
  have hW := Lib.hid (below_then (below_more (Below.refl w.heap.size w) _) hb)
  have hP := Blk.kept hb (Blk.new w #[.int .i64 1, .int .i64 wd, .bool true, .int .i64 r, .int .i64 i] 26)
  have hlt := hP.lt
  have p0 := hP.cell 0 _ rfl
  have p2 := hP.cell 2 _ rfl
  clear hb hP
  go_wp2_with fail
  go_ret2
  exact ⟨rfl, below_more hW.out _⟩
set_option maxRecDepth 100000 in
set_option maxHeartbeats 1000000 in
theorem specName_2S (wd r i : Int) (n : ByteArray) (w : World) (hok : Ok ⟨2, wd, true, r, i⟩) (h : nameOf ⟨2, wd, true, r, i⟩ = n) :
    Calls Tryd.prog 5 #[.agg #[.int .i64 2, .int .i64 wd, .bool true, .int .i64 r, .int .i64 i]] w fun e w' => e = .returned (.tuple #[.string n, .bool true]) ∧ Below w.heap.size w w' := by
  have HB := Lib.hid (decide_eq_true hok)
  have h2 : (⟨#[99, 97, 108, 108]⟩ : ByteArray) ++ (⟨#[32, 115, 116, 111, 114, 101]⟩ : ByteArray) = n := h
  clear hok h
  have add := fun wx => run_string_add_sum (P := Tryd.prog) (w := wx) (⟨#[99, 97, 108, 108]⟩ : ByteArray) (⟨#[32, 115, 116, 111, 114, 101]⟩ : ByteArray) (by have h1 : (⟨#[99, 97, 108, 108]⟩ : ByteArray).size ≤ 6 := (by decide); have : (⟨#[32, 115, 116, 111, 114, 101]⟩ : ByteArray).size ≤ 6 := (by decide); omega)
  rw [h2] at add
  clear h2
  go_enter Tryd.func5, Tryd.ntmps5
  go_wp2_with fail
  refine (l5Good_c 2 wd true r i _ true HB.out).mono ?_
  rintro e w1 ⟨rfl, hb⟩
  have hW := Lib.hid (below_then (below_more (Below.refl w.heap.size w) _) hb)
  have hP := Blk.kept hb (Blk.new w #[.int .i64 2, .int .i64 wd, .bool true, .int .i64 r, .int .i64 i] 26)
  have hlt := hP.lt
  have p0 := hP.cell 0 _ rfl
  have p2 := hP.cell 2 _ rfl
  clear hb hP
  go_wp2_with fail
  go_ret2
  exact ⟨rfl, below_more hW.out _⟩
set_option maxRecDepth 100000 in
set_option maxHeartbeats 1000000 in
theorem specName_3S (wd r i : Int) (n : ByteArray) (w : World) (hok : Ok ⟨3, wd, true, r, i⟩) (h : nameOf ⟨3, wd, true, r, i⟩ = n) :
    Calls Tryd.prog 5 #[.agg #[.int .i64 3, .int .i64 wd, .bool true, .int .i64 r, .int .i64 i]] w fun e w' => e = .returned (.tuple #[.string n, .bool true]) ∧ Below w.heap.size w w' := by
  have HB := Lib.hid (decide_eq_true hok)
  have h2 : (⟨#[100, 101, 118, 105, 99, 101]⟩ : ByteArray) ++ (⟨#[32, 115, 116, 111, 114, 101]⟩ : ByteArray) = n := h
  clear hok h
  have add := fun wx => run_string_add_sum (P := Tryd.prog) (w := wx) (⟨#[100, 101, 118, 105, 99, 101]⟩ : ByteArray) (⟨#[32, 115, 116, 111, 114, 101]⟩ : ByteArray) (by have h1 : (⟨#[100, 101, 118, 105, 99, 101]⟩ : ByteArray).size ≤ 6 := (by decide); have : (⟨#[32, 115, 116, 111, 114, 101]⟩ : ByteArray).size ≤ 6 := (by decide); omega)
  rw [h2] at add
  clear h2
  go_enter Tryd.func5, Tryd.ntmps5
  go_wp2_with fail
  refine (l5Good_c 3 wd true r i _ true HB.out).mono ?_
  rintro e w1 ⟨rfl, hb⟩
  have hW := Lib.hid (below_then (below_more (Below.refl w.heap.size w) _) hb)
  have hP := Blk.kept hb (Blk.new w #[.int .i64 3, .int .i64 wd, .bool true, .int .i64 r, .int .i64 i] 26)
  have hlt := hP.lt
  have p0 := hP.cell 0 _ rfl
  have p2 := hP.cell 2 _ rfl
  clear hb hP
  go_wp2_with fail
  go_ret2
  exact ⟨rfl, below_more hW.out _⟩
set_option maxRecDepth 100000 in
set_option maxHeartbeats 1000000 in
theorem specName_4S (wd r i : Int) (n : ByteArray) (w : World) (hok : Ok ⟨4, wd, true, r, i⟩) (h : nameOf ⟨4, wd, true, r, i⟩ = n) :
    Calls Tryd.prog 5 #[.agg #[.int .i64 4, .int .i64 wd, .bool true, .int .i64 r, .int .i64 i]] w fun e w' => e = .returned (.tuple #[.string n, .bool true]) ∧ Below w.heap.size w w' := by
  have HB := Lib.hid (decide_eq_true hok)
  have h2 : (⟨#[119, 97, 105, 116]⟩ : ByteArray) ++ (⟨#[32, 115, 116, 111, 114, 101]⟩ : ByteArray) = n := h
  clear hok h
  have add := fun wx => run_string_add_sum (P := Tryd.prog) (w := wx) (⟨#[119, 97, 105, 116]⟩ : ByteArray) (⟨#[32, 115, 116, 111, 114, 101]⟩ : ByteArray) (by have h1 : (⟨#[119, 97, 105, 116]⟩ : ByteArray).size ≤ 6 := (by decide); have : (⟨#[32, 115, 116, 111, 114, 101]⟩ : ByteArray).size ≤ 6 := (by decide); omega)
  rw [h2] at add
  clear h2
  go_enter Tryd.func5, Tryd.ntmps5
  go_wp2_with fail
  refine (l5Good_c 4 wd true r i _ true HB.out).mono ?_
  rintro e w1 ⟨rfl, hb⟩
  have hW := Lib.hid (below_then (below_more (Below.refl w.heap.size w) _) hb)
  have hP := Blk.kept hb (Blk.new w #[.int .i64 4, .int .i64 wd, .bool true, .int .i64 r, .int .i64 i] 26)
  have hlt := hP.lt
  have p0 := hP.cell 0 _ rfl
  have p2 := hP.cell 2 _ rfl
  clear hb hP
  go_wp2_with fail
  go_ret2
  exact ⟨rfl, below_more hW.out _⟩
set_option maxRecDepth 100000 in
set_option maxHeartbeats 1000000 in
theorem specName_5S (wd r i : Int) (n : ByteArray) (w : World) (hok : Ok ⟨5, wd, true, r, i⟩) (h : nameOf ⟨5, wd, true, r, i⟩ = n) :
    Calls Tryd.prog 5 #[.agg #[.int .i64 5, .int .i64 wd, .bool true, .int .i64 r, .int .i64 i]] w fun e w' => e = .returned (.tuple #[.string n, .bool true]) ∧ Below w.heap.size w w' := by
  have HB := Lib.hid (decide_eq_true hok)
  have h2 : (⟨#[98, 97, 100]⟩ : ByteArray) ++ (⟨#[32, 115, 116, 111, 114, 101]⟩ : ByteArray) = n := h
  clear hok h
  have add := fun wx => run_string_add_sum (P := Tryd.prog) (w := wx) (⟨#[98, 97, 100]⟩ : ByteArray) (⟨#[32, 115, 116, 111, 114, 101]⟩ : ByteArray) (by have h1 : (⟨#[98, 97, 100]⟩ : ByteArray).size ≤ 6 := (by decide); have : (⟨#[32, 115, 116, 111, 114, 101]⟩ : ByteArray).size ≤ 6 := (by decide); omega)
  rw [h2] at add
  clear h2
  go_enter Tryd.func5, Tryd.ntmps5
  go_wp2_with fail
  refine (l5Good_c 5 wd true r i _ true HB.out).mono ?_
  rintro e w1 ⟨rfl, hb⟩
  have hW := Lib.hid (below_then (below_more (Below.refl w.heap.size w) _) hb)
  have hP := Blk.kept hb (Blk.new w #[.int .i64 5, .int .i64 wd, .bool true, .int .i64 r, .int .i64 i] 26)
  have hlt := hP.lt
  have p0 := hP.cell 0 _ rfl
  have p2 := hP.cell 2 _ rfl
  clear hb hP
  go_wp2_with fail
  go_ret2
  exact ⟨rfl, below_more hW.out _⟩
set_option maxHeartbeats 1000000 in
theorem specName_any (c wd : Int) (s : Bool) (r i : Int) (n : ByteArray) (b : Bool) (w : World) (h : nameAns ⟨c, wd, s, r, i⟩ = (n, b)) :
    Calls Tryd.prog 5 #[.agg #[.int .i64 c, .int .i64 wd, .bool s, .int .i64 r, .int .i64 i]] w fun e w' => e = .returned (.tuple #[.string n, .bool b]) ∧ Below w.heap.size w w' := by
  by_cases hx : Ok ⟨c, wd, s, r, i⟩
  · obtain ⟨h1, rfl⟩ := nameAns_yes h hx
    have hc := ok_cause hx
    simp only at hc
    cases s
    · rcases hc with rfl | rfl | rfl | rfl | rfl
      · exact specName_1 wd r i n w hx h1
      · exact specName_2 wd r i n w hx h1
      · exact specName_3 wd r i n w hx h1
      · exact specName_4 wd r i n w hx h1
      · exact specName_5 wd r i n w hx h1
    · rcases hc with rfl | rfl | rfl | rfl | rfl
      · exact specName_1S wd r i n w hx h1
      · exact specName_2S wd r i n w hx h1
      · exact specName_3S wd r i n w hx h1
      · exact specName_4S wd r i n w hx h1
      · exact specName_5S wd r i n w hx h1
  · obtain ⟨rfl, rfl⟩ := nameAns_no h hx
    have HB := Lib.hid (decide_eq_false hx)
    clear hx h
    go_enter Tryd.func5, Tryd.ntmps5
    go_wp2_with fail
    refine (l5Good_c c wd s r i _ false HB.out).mono ?_
    rintro e w1 ⟨rfl, hb⟩
    have hW := Lib.hid (below_then (below_more (Below.refl w.heap.size w) _) hb)
    clear hb
    go_wp2_with fail
    go_ret2
    exact ⟨rfl, hW.out⟩
set_option maxRecDepth 100000 in
set_option maxHeartbeats 1000000 in
theorem implName_1 (wd r i : Int) (n : ByteArray) (w : World) (hok : Ok ⟨1, wd, false, r, i⟩) (hN : NamesIs w) (h : nameOf ⟨1, wd, false, r, i⟩ = n) :
    Calls Tryd.prog 7 #[.agg #[.int .i64 1, .int .i64 wd, .bool false, .int .i64 r, .int .i64 i]] w fun e w' => e = .returned (.tuple #[.string n, .bool true]) ∧ Below w.heap.size w w' := by
  have HB := Lib.hid (decide_eq_true hok)
  have hG := hN.lt
  have c0 := hN 1 (by decide)
  obtain ⟨s0, hs0⟩ : ∃ s, nmB 1 = s := ⟨_, rfl⟩
  have hs6 : s0.size ≤ 6 := by rw [← hs0]; exact nm_size _
  rw [hs0] at c0
  have h2 : s0 = n := by rw [← hs0]; exact h
  clear hok h hs0 hN
  subst h2
  go_enter Tryd.func7, Tryd.ntmps7
  go_wp2_with fail
  refine (implIs_c 1 wd false r i _ true HB.out).mono ?_
  rintro e w1 ⟨rfl, hb⟩
  have hW := Lib.hid (below_then (below_more (Below.refl w.heap.size w) _) hb)
  replace c0 := (hW.out.cell (p := ⟨0, 1, none⟩) hG).trans c0
  have hP := Blk.kept hb (Blk.new w #[.int .i64 1, .int .i64 wd, .bool false, .int .i64 r, .int .i64 i] 26)
  have p0 := hP.cell 0 _ rfl
  have p2 := hP.cell 2 _ rfl
  clear hb hP
  go_wp2_with fail
  go_ret2
  exact ⟨rfl, hW.out⟩
set_option maxRecDepth 100000 in
set_option maxHeartbeats 1000000 in
theorem implName_2 (wd r i : Int) (n : ByteArray) (w : World) (hok : Ok ⟨2, wd, false, r, i⟩) (hN : NamesIs w) (h : nameOf ⟨2, wd, false, r, i⟩ = n) :
    Calls Tryd.prog 7 #[.agg #[.int .i64 2, .int .i64 wd, .bool false, .int .i64 r, .int .i64 i]] w fun e w' => e = .returned (.tuple #[.string n, .bool true]) ∧ Below w.heap.size w w' := by
  have HB := Lib.hid (decide_eq_true hok)
  have hG := hN.lt
  have c0 := hN 2 (by decide)
  obtain ⟨s0, hs0⟩ : ∃ s, nmB 2 = s := ⟨_, rfl⟩
  have hs6 : s0.size ≤ 6 := by rw [← hs0]; exact nm_size _
  rw [hs0] at c0
  have h2 : s0 = n := by rw [← hs0]; exact h
  clear hok h hs0 hN
  subst h2
  go_enter Tryd.func7, Tryd.ntmps7
  go_wp2_with fail
  refine (implIs_c 2 wd false r i _ true HB.out).mono ?_
  rintro e w1 ⟨rfl, hb⟩
  have hW := Lib.hid (below_then (below_more (Below.refl w.heap.size w) _) hb)
  replace c0 := (hW.out.cell (p := ⟨0, 2, none⟩) hG).trans c0
  have hP := Blk.kept hb (Blk.new w #[.int .i64 2, .int .i64 wd, .bool false, .int .i64 r, .int .i64 i] 26)
  have p0 := hP.cell 0 _ rfl
  have p2 := hP.cell 2 _ rfl
  clear hb hP
  go_wp2_with fail
  go_ret2
  exact ⟨rfl, hW.out⟩
set_option maxRecDepth 100000 in
set_option maxHeartbeats 1000000 in
theorem implName_3 (wd r i : Int) (n : ByteArray) (w : World) (hok : Ok ⟨3, wd, false, r, i⟩) (hN : NamesIs w) (h : nameOf ⟨3, wd, false, r, i⟩ = n) :
    Calls Tryd.prog 7 #[.agg #[.int .i64 3, .int .i64 wd, .bool false, .int .i64 r, .int .i64 i]] w fun e w' => e = .returned (.tuple #[.string n, .bool true]) ∧ Below w.heap.size w w' := by
  have HB := Lib.hid (decide_eq_true hok)
  have hG := hN.lt
  have c0 := hN 3 (by decide)
  obtain ⟨s0, hs0⟩ : ∃ s, nmB 3 = s := ⟨_, rfl⟩
  have hs6 : s0.size ≤ 6 := by rw [← hs0]; exact nm_size _
  rw [hs0] at c0
  have h2 : s0 = n := by rw [← hs0]; exact h
  clear hok h hs0 hN
  subst h2
  go_enter Tryd.func7, Tryd.ntmps7
  go_wp2_with fail
  refine (implIs_c 3 wd false r i _ true HB.out).mono ?_
  rintro e w1 ⟨rfl, hb⟩
  have hW := Lib.hid (below_then (below_more (Below.refl w.heap.size w) _) hb)
  replace c0 := (hW.out.cell (p := ⟨0, 3, none⟩) hG).trans c0
  have hP := Blk.kept hb (Blk.new w #[.int .i64 3, .int .i64 wd, .bool false, .int .i64 r, .int .i64 i] 26)
  have p0 := hP.cell 0 _ rfl
  have p2 := hP.cell 2 _ rfl
  clear hb hP
  go_wp2_with fail
  go_ret2
  exact ⟨rfl, hW.out⟩
set_option maxRecDepth 100000 in
set_option maxHeartbeats 1000000 in
theorem implName_4 (wd r i : Int) (n : ByteArray) (w : World) (hok : Ok ⟨4, wd, false, r, i⟩) (hN : NamesIs w) (h : nameOf ⟨4, wd, false, r, i⟩ = n) :
    Calls Tryd.prog 7 #[.agg #[.int .i64 4, .int .i64 wd, .bool false, .int .i64 r, .int .i64 i]] w fun e w' => e = .returned (.tuple #[.string n, .bool true]) ∧ Below w.heap.size w w' := by
  have HB := Lib.hid (decide_eq_true hok)
  have hG := hN.lt
  have c0 := hN 4 (by decide)
  obtain ⟨s0, hs0⟩ : ∃ s, nmB 4 = s := ⟨_, rfl⟩
  have hs6 : s0.size ≤ 6 := by rw [← hs0]; exact nm_size _
  rw [hs0] at c0
  have h2 : s0 = n := by rw [← hs0]; exact h
  clear hok h hs0 hN
  subst h2
  go_enter Tryd.func7, Tryd.ntmps7
  go_wp2_with fail
  refine (implIs_c 4 wd false r i _ true HB.out).mono ?_
  rintro e w1 ⟨rfl, hb⟩
  have hW := Lib.hid (below_then (below_more (Below.refl w.heap.size w) _) hb)
  replace c0 := (hW.out.cell (p := ⟨0, 4, none⟩) hG).trans c0
  have hP := Blk.kept hb (Blk.new w #[.int .i64 4, .int .i64 wd, .bool false, .int .i64 r, .int .i64 i] 26)
  have p0 := hP.cell 0 _ rfl
  have p2 := hP.cell 2 _ rfl
  clear hb hP
  go_wp2_with fail
  go_ret2
  exact ⟨rfl, hW.out⟩
set_option maxRecDepth 100000 in
set_option maxHeartbeats 1000000 in
theorem implName_5 (wd r i : Int) (n : ByteArray) (w : World) (hok : Ok ⟨5, wd, false, r, i⟩) (hN : NamesIs w) (h : nameOf ⟨5, wd, false, r, i⟩ = n) :
    Calls Tryd.prog 7 #[.agg #[.int .i64 5, .int .i64 wd, .bool false, .int .i64 r, .int .i64 i]] w fun e w' => e = .returned (.tuple #[.string n, .bool true]) ∧ Below w.heap.size w w' := by
  have HB := Lib.hid (decide_eq_true hok)
  have hG := hN.lt
  have c0 := hN 5 (by decide)
  obtain ⟨s0, hs0⟩ : ∃ s, nmB 5 = s := ⟨_, rfl⟩
  have hs6 : s0.size ≤ 6 := by rw [← hs0]; exact nm_size _
  rw [hs0] at c0
  have h2 : s0 = n := by rw [← hs0]; exact h
  clear hok h hs0 hN
  subst h2
  go_enter Tryd.func7, Tryd.ntmps7
  go_wp2_with fail
  refine (implIs_c 5 wd false r i _ true HB.out).mono ?_
  rintro e w1 ⟨rfl, hb⟩
  have hW := Lib.hid (below_then (below_more (Below.refl w.heap.size w) _) hb)
  replace c0 := (hW.out.cell (p := ⟨0, 5, none⟩) hG).trans c0
  have hP := Blk.kept hb (Blk.new w #[.int .i64 5, .int .i64 wd, .bool false, .int .i64 r, .int .i64 i] 26)
  have p0 := hP.cell 0 _ rfl
  have p2 := hP.cell 2 _ rfl
  clear hb hP
  go_wp2_with fail
  go_ret2
  exact ⟨rfl, hW.out⟩
set_option maxRecDepth 100000 in
set_option maxHeartbeats 1000000 in
theorem implName_1S (wd r i : Int) (n : ByteArray) (w : World) (hok : Ok ⟨1, wd, true, r, i⟩) (hN : NamesIs w) (h : nameOf ⟨1, wd, true, r, i⟩ = n) :
    Calls Tryd.prog 7 #[.agg #[.int .i64 1, .int .i64 wd, .bool true, .int .i64 r, .int .i64 i]] w fun e w' => e = .returned (.tuple #[.string n, .bool true]) ∧ Below w.heap.size w w' := by
  have HB := Lib.hid (decide_eq_true hok)
  have hG := hN.lt
  have c0 := hN 1 (by decide)
  obtain ⟨s0, hs0⟩ : ∃ s, nmB 1 = s := ⟨_, rfl⟩
  have hs6 : s0.size ≤ 6 := by rw [← hs0]; exact nm_size _
  rw [hs0] at c0
  have h2 : s0 ++ stoB = n := by rw [← hs0]; exact h
  clear hok h hs0 hN
  have add := fun wx => run_string_add_sum (P := Tryd.prog) (w := wx) s0 (⟨#[32, 115, 116, 111, 114, 101]⟩ : ByteArray) (by have : (⟨#[32, 115, 116, 111, 114, 101]⟩ : ByteArray).size ≤ 6 := (by decide); omega)
  rw [show s0 ++ (⟨#[32, 115, 116, 111, 114, 101]⟩ : ByteArray) = n from h2] at add
  clear h2
  go_enter Tryd.func7, Tryd.ntmps7
  go_wp2_with fail
  refine (implIs_c 1 wd true r i _ true HB.out).mono ?_
  rintro e w1 ⟨rfl, hb⟩
  have hW := Lib.hid (below_then (below_more (Below.refl w.heap.size w) _) hb)
  replace c0 := (hW.out.cell (p := ⟨0, 1, none⟩) hG).trans c0
  have hP := Blk.kept hb (Blk.new w #[.int .i64 1, .int .i64 wd, .bool true, .int .i64 r, .int .i64 i] 26)
  have p0 := hP.cell 0 _ rfl
  have p2 := hP.cell 2 _ rfl
  clear hb hP
  go_wp2_with fail
  go_ret2
  exact ⟨rfl, hW.out⟩
set_option maxRecDepth 100000 in
set_option maxHeartbeats 1000000 in
theorem implName_2S (wd r i : Int) (n : ByteArray) (w : World) (hok : Ok ⟨2, wd, true, r, i⟩) (hN : NamesIs w) (h : nameOf ⟨2, wd, true, r, i⟩ = n) :
    Calls Tryd.prog 7 #[.agg #[.int .i64 2, .int .i64 wd, .bool true, .int .i64 r, .int .i64 i]] w fun e w' => e = .returned (.tuple #[.string n, .bool true]) ∧ Below w.heap.size w w' := by
  have HB := Lib.hid (decide_eq_true hok)
  have hG := hN.lt
  have c0 := hN 2 (by decide)
  obtain ⟨s0, hs0⟩ : ∃ s, nmB 2 = s := ⟨_, rfl⟩
  have hs6 : s0.size ≤ 6 := by rw [← hs0]; exact nm_size _
  rw [hs0] at c0
  have h2 : s0 ++ stoB = n := by rw [← hs0]; exact h
  clear hok h hs0 hN
  have add := fun wx => run_string_add_sum (P := Tryd.prog) (w := wx) s0 (⟨#[32, 115, 116, 111, 114, 101]⟩ : ByteArray) (by have : (⟨#[32, 115, 116, 111, 114, 101]⟩ : ByteArray).size ≤ 6 := (by decide); omega)
  rw [show s0 ++ (⟨#[32, 115, 116, 111, 114, 101]⟩ : ByteArray) = n from h2] at add
  clear h2
  go_enter Tryd.func7, Tryd.ntmps7
  go_wp2_with fail
  refine (implIs_c 2 wd true r i _ true HB.out).mono ?_
  rintro e w1 ⟨rfl, hb⟩
  have hW := Lib.hid (below_then (below_more (Below.refl w.heap.size w) _) hb)
  replace c0 := (hW.out.cell (p := ⟨0, 2, none⟩) hG).trans c0
  have hP := Blk.kept hb (Blk.new w #[.int .i64 2, .int .i64 wd, .bool true, .int .i64 r, .int .i64 i] 26)
  have p0 := hP.cell 0 _ rfl
  have p2 := hP.cell 2 _ rfl
  clear hb hP
  go_wp2_with fail
  go_ret2
  exact ⟨rfl, hW.out⟩
set_option maxRecDepth 100000 in
set_option maxHeartbeats 1000000 in
theorem implName_3S (wd r i : Int) (n : ByteArray) (w : World) (hok : Ok ⟨3, wd, true, r, i⟩) (hN : NamesIs w) (h : nameOf ⟨3, wd, true, r, i⟩ = n) :
    Calls Tryd.prog 7 #[.agg #[.int .i64 3, .int .i64 wd, .bool true, .int .i64 r, .int .i64 i]] w fun e w' => e = .returned (.tuple #[.string n, .bool true]) ∧ Below w.heap.size w w' := by
  have HB := Lib.hid (decide_eq_true hok)
  have hG := hN.lt
  have c0 := hN 3 (by decide)
  obtain ⟨s0, hs0⟩ : ∃ s, nmB 3 = s := ⟨_, rfl⟩
  have hs6 : s0.size ≤ 6 := by rw [← hs0]; exact nm_size _
  rw [hs0] at c0
  have h2 : s0 ++ stoB = n := by rw [← hs0]; exact h
  clear hok h hs0 hN
  have add := fun wx => run_string_add_sum (P := Tryd.prog) (w := wx) s0 (⟨#[32, 115, 116, 111, 114, 101]⟩ : ByteArray) (by have : (⟨#[32, 115, 116, 111, 114, 101]⟩ : ByteArray).size ≤ 6 := (by decide); omega)
  rw [show s0 ++ (⟨#[32, 115, 116, 111, 114, 101]⟩ : ByteArray) = n from h2] at add
  clear h2
  go_enter Tryd.func7, Tryd.ntmps7
  go_wp2_with fail
  refine (implIs_c 3 wd true r i _ true HB.out).mono ?_
  rintro e w1 ⟨rfl, hb⟩
  have hW := Lib.hid (below_then (below_more (Below.refl w.heap.size w) _) hb)
  replace c0 := (hW.out.cell (p := ⟨0, 3, none⟩) hG).trans c0
  have hP := Blk.kept hb (Blk.new w #[.int .i64 3, .int .i64 wd, .bool true, .int .i64 r, .int .i64 i] 26)
  have p0 := hP.cell 0 _ rfl
  have p2 := hP.cell 2 _ rfl
  clear hb hP
  go_wp2_with fail
  go_ret2
  exact ⟨rfl, hW.out⟩
set_option maxRecDepth 100000 in
set_option maxHeartbeats 1000000 in
theorem implName_4S (wd r i : Int) (n : ByteArray) (w : World) (hok : Ok ⟨4, wd, true, r, i⟩) (hN : NamesIs w) (h : nameOf ⟨4, wd, true, r, i⟩ = n) :
    Calls Tryd.prog 7 #[.agg #[.int .i64 4, .int .i64 wd, .bool true, .int .i64 r, .int .i64 i]] w fun e w' => e = .returned (.tuple #[.string n, .bool true]) ∧ Below w.heap.size w w' := by
  have HB := Lib.hid (decide_eq_true hok)
  have hG := hN.lt
  have c0 := hN 4 (by decide)
  obtain ⟨s0, hs0⟩ : ∃ s, nmB 4 = s := ⟨_, rfl⟩
  have hs6 : s0.size ≤ 6 := by rw [← hs0]; exact nm_size _
  rw [hs0] at c0
  have h2 : s0 ++ stoB = n := by rw [← hs0]; exact h
  clear hok h hs0 hN
  have add := fun wx => run_string_add_sum (P := Tryd.prog) (w := wx) s0 (⟨#[32, 115, 116, 111, 114, 101]⟩ : ByteArray) (by have : (⟨#[32, 115, 116, 111, 114, 101]⟩ : ByteArray).size ≤ 6 := (by decide); omega)
  rw [show s0 ++ (⟨#[32, 115, 116, 111, 114, 101]⟩ : ByteArray) = n from h2] at add
  clear h2
  go_enter Tryd.func7, Tryd.ntmps7
  go_wp2_with fail
  refine (implIs_c 4 wd true r i _ true HB.out).mono ?_
  rintro e w1 ⟨rfl, hb⟩
  have hW := Lib.hid (below_then (below_more (Below.refl w.heap.size w) _) hb)
  replace c0 := (hW.out.cell (p := ⟨0, 4, none⟩) hG).trans c0
  have hP := Blk.kept hb (Blk.new w #[.int .i64 4, .int .i64 wd, .bool true, .int .i64 r, .int .i64 i] 26)
  have p0 := hP.cell 0 _ rfl
  have p2 := hP.cell 2 _ rfl
  clear hb hP
  go_wp2_with fail
  go_ret2
  exact ⟨rfl, hW.out⟩
set_option maxRecDepth 100000 in
set_option maxHeartbeats 1000000 in
theorem implName_5S (wd r i : Int) (n : ByteArray) (w : World) (hok : Ok ⟨5, wd, true, r, i⟩) (hN : NamesIs w) (h : nameOf ⟨5, wd, true, r, i⟩ = n) :
    Calls Tryd.prog 7 #[.agg #[.int .i64 5, .int .i64 wd, .bool true, .int .i64 r, .int .i64 i]] w fun e w' => e = .returned (.tuple #[.string n, .bool true]) ∧ Below w.heap.size w w' := by
  have HB := Lib.hid (decide_eq_true hok)
  have hG := hN.lt
  have c0 := hN 5 (by decide)
  obtain ⟨s0, hs0⟩ : ∃ s, nmB 5 = s := ⟨_, rfl⟩
  have hs6 : s0.size ≤ 6 := by rw [← hs0]; exact nm_size _
  rw [hs0] at c0
  have h2 : s0 ++ stoB = n := by rw [← hs0]; exact h
  clear hok h hs0 hN
  have add := fun wx => run_string_add_sum (P := Tryd.prog) (w := wx) s0 (⟨#[32, 115, 116, 111, 114, 101]⟩ : ByteArray) (by have : (⟨#[32, 115, 116, 111, 114, 101]⟩ : ByteArray).size ≤ 6 := (by decide); omega)
  rw [show s0 ++ (⟨#[32, 115, 116, 111, 114, 101]⟩ : ByteArray) = n from h2] at add
  clear h2
  go_enter Tryd.func7, Tryd.ntmps7
  go_wp2_with fail
  refine (implIs_c 5 wd true r i _ true HB.out).mono ?_
  rintro e w1 ⟨rfl, hb⟩
  have hW := Lib.hid (below_then (below_more (Below.refl w.heap.size w) _) hb)
  replace c0 := (hW.out.cell (p := ⟨0, 5, none⟩) hG).trans c0
  have hP := Blk.kept hb (Blk.new w #[.int .i64 5, .int .i64 wd, .bool true, .int .i64 r, .int .i64 i] 26)
  have p0 := hP.cell 0 _ rfl
  have p2 := hP.cell 2 _ rfl
  clear hb hP
  go_wp2_with fail
  go_ret2
  exact ⟨rfl, hW.out⟩
set_option maxHeartbeats 1000000 in
theorem implName_any (c wd : Int) (s : Bool) (r i : Int) (n : ByteArray) (b : Bool) (w : World) (hN : NamesIs w) (h : nameAns ⟨c, wd, s, r, i⟩ = (n, b)) :
    Calls Tryd.prog 7 #[.agg #[.int .i64 c, .int .i64 wd, .bool s, .int .i64 r, .int .i64 i]] w fun e w' => e = .returned (.tuple #[.string n, .bool b]) ∧ Below w.heap.size w w' := by
  by_cases hx : Ok ⟨c, wd, s, r, i⟩
  · obtain ⟨h1, rfl⟩ := nameAns_yes h hx
    have hc := ok_cause hx
    simp only at hc
    cases s
    · rcases hc with rfl | rfl | rfl | rfl | rfl
      · exact implName_1 wd r i n w hx hN h1
      · exact implName_2 wd r i n w hx hN h1
      · exact implName_3 wd r i n w hx hN h1
      · exact implName_4 wd r i n w hx hN h1
      · exact implName_5 wd r i n w hx hN h1
    · rcases hc with rfl | rfl | rfl | rfl | rfl
      · exact implName_1S wd r i n w hx hN h1
      · exact implName_2S wd r i n w hx hN h1
      · exact implName_3S wd r i n w hx hN h1
      · exact implName_4S wd r i n w hx hN h1
      · exact implName_5S wd r i n w hx hN h1
  · obtain ⟨rfl, rfl⟩ := nameAns_no h hx
    have HB := Lib.hid (decide_eq_false hx)
    clear hx h
    go_enter Tryd.func7, Tryd.ntmps7
    go_wp2_with fail
    refine (implIs_c c wd s r i _ false HB.out).mono ?_
    rintro e w1 ⟨rfl, hb⟩
    have hW := Lib.hid (below_then (below_more (Below.refl w.heap.size w) _) hb)
    clear hb
    go_wp2_with fail
    go_ret2
    exact ⟨rfl, hW.out⟩
end Go.Proofs.YtaamjnpknmimmaaDoor.L5
