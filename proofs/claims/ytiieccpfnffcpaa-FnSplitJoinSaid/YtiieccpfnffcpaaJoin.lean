/- What spec.JoinStrings answers. -/
import Derived.Test.YtiieccpfnffcpaaStrs
import Derived.Test.YtiieccpfnffcpaaStands
import Derived.Lib.Join
namespace Go.Proofs.Ytiieccpfnffcpaa.L1
open Go.RowKit Go.Proofs.Ytiieccpfnffcpaa.Mem
/-- texts joined -/
def JB (ss : List ByteArray) (sep : ByteArray) : ByteArray := ⟨(Lib.join (ss.map (·.data.toList)) sep.data.toList).toArray⟩
theorem jb_one (ss : List ByteArray) (sep x : ByteArray) (h : ss[0]? = some x) : JB (ss.take 1) sep = x := by
  cases ss with
  | nil => simp at h
  | cons y r =>
    obtain rfl : y = x := by simpa using h
    apply ByteArray.ext
    simp [JB, Lib.join_one]
theorem jb_succ (ss : List ByteArray) (sep x : ByteArray) (k : Nat) (hk : 1 ≤ k) (h : ss[k]? = some x) : JB (ss.take (k + 1)) sep = JB (ss.take k) sep ++ sep ++ x := by
  cases ss with
  | nil => simp at h
  | cons y r =>
    obtain ⟨m, rfl⟩ : ∃ m, k = m + 1 := ⟨k - 1, by omega⟩
    have h' : (r.map (·.data.toList))[m]? = some x.data.toList := by
      rw [List.getElem?_map]; simp only [List.getElem?_cons_succ] at h; rw [h]; rfl
    have hj := Lib.joinTail_take_succ sep.data.toList (r.map (·.data.toList)) m _ h'
    apply ByteArray.ext
    simp only [JB, List.take_succ_cons, List.map_cons, List.map_take, Lib.join_cons, ByteArray.data_append]
    rw [hj]
    simp
theorem jb_size (ss : List ByteArray) (sep : ByteArray) (h : ss ≠ []) : (JB ss sep).size = tot ss + sep.size * (ss.length - 1) := by
  cases ss with
  | nil => exact absurd rfl h
  | cons x r =>
    show (Lib.join ((x :: r).map (·.data.toList)) sep.data.toList).toArray.size = _
    rw [List.size_toArray, List.map_cons, Lib.join_length]
    have h1 : ∀ l : List ByteArray, Lib.lens (l.map (·.data.toList)) = tot l := by
      intro l
      induction l with
      | nil => rfl
      | cons a l ih => simp only [List.map_cons, Lib.lens, tot, List.sum_cons] at ih ⊢; rw [ih]; rfl
    have h2 := h1 (x :: r)
    rw [List.map_cons] at h2
    rw [h2]
    simp
    show sep.size * r.length + tot (x :: r) = tot (x :: r) + sep.size * r.length
    omega
/-- what JoinStrings takes -/
def JoinOk (ss : List ByteArray) (c : UInt8) : Prop := ss ≠ [] ∧ (∀ s ∈ ss, s.data.toList.contains c = false) ∧ tot ss + (ss.length - 1) ≤ 4000
/-- JoinStrings' two answers -/
def JoinIs (ss : List ByteArray) (c : UInt8) (r : ByteArray) (b : Bool) : Prop := (b = true ∧ JoinOk ss c ∧ r = JB ss ⟨#[c]⟩) ∨ (b = false ∧ ¬ JoinOk ss c ∧ r = ByteArray.empty)
theorem joinIs_ex (ss : List ByteArray) (c : UInt8) : ∃ r b, JoinIs ss c r b := by
  by_cases h : JoinOk ss c
  · exact ⟨_, true, .inl ⟨rfl, h, rfl⟩⟩
  · exact ⟨_, false, .inr ⟨rfl, h, rfl⟩⟩
theorem join_no {ss : List ByteArray} {c : UInt8} {r : ByteArray} {b : Bool} (h : JoinIs ss c r b) (hn : ¬ JoinOk ss c) : r = ByteArray.empty ∧ b = false := by
  rcases h with ⟨_, h, _⟩ | ⟨h1, _, h2⟩
  · exact absurd h hn
  · exact ⟨h2, h1⟩
theorem join_yes {ss : List ByteArray} {c : UInt8} {r : ByteArray} {b : Bool} (h : JoinIs ss c r b) (hn : JoinOk ss c) : r = JB ss ⟨#[c]⟩ ∧ b = true := by
  rcases h with ⟨h1, _, h2⟩ | ⟨_, h, _⟩
  · exact ⟨h2, h1⟩
  · exact absurd hn h
theorem bad_elem {ss : List ByteArray} {c : UInt8} {k : Nat} {x : ByteArray} (h : ss[k]? = some x) (hc : x.data.toList.contains c = true) : ¬ JoinOk ss c := by
  rintro ⟨_, h1, _⟩
  have := h1 x (List.mem_of_getElem? h)
  rw [hc] at this; cases this
theorem bad_size {ss : List ByteArray} {c : UInt8} {k : Nat} (h : k ≤ ss.length) (hk : 4000 < tot (ss.take k) + (k - 1)) : ¬ JoinOk ss c := by
  rintro ⟨_, _, h2⟩
  have := tot_take ss k
  omega
theorem stands_q (s : ByteArray) (c : UInt8) (n : Int) (hn : n = c.toNat) (b : Bool) (hb : s.data.toList.contains c = b) (hs : s.size ≤ maxLen) (w : World) :
    Calls Try.prog 32 #[.string s, .int .u8 n] w fun e w' => e = .returned (.bool b) ∧ w' = w :=
  (stands_any s c n hn b hb w hs).mono fun _ _ h => ⟨h.1, h.2.symm⟩
theorem sep_n (c : UInt8) (h : 0 < ({ data := #[c] } : ByteArray).size) : (((({ data := #[c] } : ByteArray)[0]'h).toNat : Nat) : Int) = (c.toNat : Int) := rfl
/-- what has been joined of the first k -/
def JK (ss : List ByteArray) (c : UInt8) (k : Nat) : ByteArray := if k = 0 then ByteArray.empty else JB (ss.take k) ⟨#[c]⟩
theorem jk_first (ss : List ByteArray) (c : UInt8) (k : Nat) (x : ByteArray) (h : ss[k]? = some x) (hk : ¬ 0 < k) : JK ss c (k + 1) = JK ss c k ++ x := by
  obtain rfl : k = 0 := by omega
  rw [JK, if_neg (by omega), JK, if_pos rfl, jb_one ss _ x h]
  simp
theorem jk_next (ss : List ByteArray) (c : UInt8) (k : Nat) (x : ByteArray) (h : ss[k]? = some x) (hk : 0 < k) : JK ss c (k + 1) = JK ss c k ++ ⟨#[c]⟩ ++ x := by
  rw [JK, if_neg (by omega), JK, if_neg (by omega), jb_succ ss _ x k hk h]
theorem jk_size (ss : List ByteArray) (c : UInt8) (k : Nat) (h : k ≤ ss.length) : (JK ss c k).size = tot (ss.take k) + (k - 1) := by
  unfold JK
  split
  · rename_i h0; subst h0; simp [tot]
  · rw [jb_size _ _ (by intro e; have := congrArg List.length e; rw [List.length_take, List.length_nil] at this; omega)]
    have : ({ data := #[c] } : ByteArray).size = 1 := rfl
    rw [this, List.length_take, Nat.min_eq_left h]
    omega
theorem jk_all (ss : List ByteArray) (c : UInt8) (h : 0 < ss.length) : JK ss c ss.length = JB ss ⟨#[c]⟩ := by
  rw [JK, if_neg (by omega), List.take_length]
theorem clean_succ {ss : List ByteArray} {c : UInt8} {k : Nat} {x : ByteArray} (h : ss[k]? = some x) (hc : x.data.toList.contains c = false) (h0 : ∀ s ∈ ss.take k, s.data.toList.contains c = false) : ∀ s ∈ ss.take (k + 1), s.data.toList.contains c = false := by
  intro s hs
  have hk : k < ss.length := (List.getElem?_eq_some_iff.1 h).1
  have hx : ss[k] = x := by rw [List.getElem?_eq_getElem hk] at h; exact Option.some.inj h
  rw [List.take_succ_eq_append_getElem hk, List.mem_append] at hs
  rcases hs with hs | hs
  · exact h0 s hs
  · simp only [List.mem_singleton] at hs; rw [hs, hx]; exact hc
set_option maxHeartbeats 1000000 in
theorem specJoin_any (A : Option Addr) (n cp B : Nat) (ss : List ByteArray) (c : UInt8) (w : World) (hr : Reads w B 1 A n (ss.map Value.string)) (hn : n ≤ 1048576) (hss : ∀ s ∈ ss, s.size ≤ 1048576) (r : ByteArray) (b : Bool) (hj : JoinIs ss c r b) :
    Calls Try.prog 13 #[.slice A n cp, .string ⟨#[c]⟩] w fun e w' => e = .returned (.tuple #[.string r, .bool b]) ∧ ∃ j, w' = w.drewN j := by
  have hl : ss.length = n := by have := hr.len; simpa using this
  have HL := Lib.hid hl
  have HJ := Lib.hid hj
  clear hj hl
  by_cases h0 : n = 0
  · subst h0
    have hx := join_no HJ.out (fun h => h.1 (List.length_eq_zero_iff.1 HL.out))
    have HX := Lib.hid hx
    clear hx
    go_enter Try.func13, Try.ntmps13
    go_wp2_with fail
    go_ret2
    rw [HX.out.1, HX.out.2]
    exact ⟨rfl, 0, rfl⟩
  · have hn0 : ((n : Int) == 0) = false := by simp; omega
    have hp : 0 < n := by omega
    clear h0
    go_enter Try.func13, Try.ntmps13
    go_wp2_with fail
    have hsep : ({ data := #[c] } : ByteArray).size = 1 := rfl
    go_loopw [6, 7] (fun o i wr => ∃ (k j : Nat) (ob : ByteArray), i = .int .i64 k ∧ k ≤ n ∧ o = .string ob ∧ Hid (JK ss c k = ob) ∧ ob.size ≤ 4000 ∧ Hid (∀ s ∈ ss.take k, s.data.toList.contains c = false) ∧ Hid (wr = w.drewN j)) (fun _ i _ => n - (intOf i).toNat)
    case atStart => exact ⟨0, 0, _, rfl, Nat.zero_le _, rfl, Lib.hid rfl, by decide, Lib.hid (by simp), Lib.hid rfl⟩
    case round =>
      obtain ⟨k, j, ob, rfl, hk, rfl, HO, hob, HK, HW⟩ := hrel
      have hrr : Reads wr B 1 A n (ss.map Value.string) := by rw [HW.out]; exact hr.drewN j
      by_cases hlt : k < n
      · obtain ⟨b1, o1, x, rfl, _, hu, hcell⟩ := hrr.str_at hlt
        have hxs := hss x (List.mem_of_getElem? hu)
        by_cases hc : x.data.toList.contains c = true
        · have hx := join_no HJ.out (bad_elem hu hc)
          have HX := Lib.hid hx
          have HC := Lib.hid hc
          clear hx hc hu
          go_wp2_with fail
          go_quiet ((go_at_call 32; (with_reducible refine Calls.quiet_of_same (stands_q x c _ (sep_n c _) _ HC.out (by unfold maxLen; omega) _))))
          go_wp2_with fail
          go_ret2
          rw [HX.out.1, HX.out.2]
          exact ⟨rfl, j + nq, by rw [HW.out, World.drewN_drewN]⟩
        have hc : x.data.toList.contains c = false := by simpa using hc
        have HC := Lib.hid hc
        go_wp2_with fail
        go_quiet ((go_at_call 32; (with_reducible refine Calls.quiet_of_same (stands_q x c _ (sep_n c _) _ HC.out (by unfold maxLen; omega) _))))
        by_cases hk0 : 0 < k
        · have hjk := jk_next ss c k x hu hk0
          rw [HO.out] at hjk
          have hsz := jk_size ss c (k + 1) (by rw [HL.out]; omega)
          have hsz2 : ob.size + 1 + x.size = (JK ss c (k + 1)).size := by rw [hjk]; simp [ByteArray.size_append]; try rfl
          have HN2 := Lib.hid hjk
          have HK2 := Lib.hid (clean_succ hu hc HK.out)
          by_cases hle : ob.size + 1 + x.size ≤ 4000
          · clear hsz hsz2 hjk hu hc HK HO
            go_wp2_with fail
            all_goals
              go_roundw
              case rel => exact ⟨k + 1, j + nq, _, by go_num, by omega, rfl, HN2, by simp; omega, HK2, Lib.hid (by rw [HW.out, World.drewN_drewN])⟩
              case measure => simp [intOf]; omega
          · have hx2 := join_no HJ.out (bad_size (k := k + 1) (by rw [HL.out]; omega) (by omega))
            have HX := Lib.hid hx2
            clear hsz hsz2 hjk hu hc HK HO hx2
            go_wp2_with fail
            go_ret2
            rw [HX.out.1, HX.out.2]
            exact ⟨rfl, j + nq, by rw [HW.out, World.drewN_drewN]⟩
        · have hjk := jk_first ss c k x hu hk0
          rw [HO.out] at hjk
          have hsz := jk_size ss c (k + 1) (by rw [HL.out]; omega)
          have hsz2 : ob.size + x.size = (JK ss c (k + 1)).size := by rw [hjk]; simp [ByteArray.size_append]; try rfl
          have HN2 := Lib.hid hjk
          have HK2 := Lib.hid (clean_succ hu hc HK.out)
          by_cases hle : ob.size + x.size ≤ 4000
          · clear hsz hsz2 hjk hu hc HK HO
            go_wp2_with fail
            all_goals
              go_roundw
              case rel => exact ⟨k + 1, j + nq, _, by go_num, by omega, rfl, HN2, by simp; omega, HK2, Lib.hid (by rw [HW.out, World.drewN_drewN])⟩
              case measure => simp [intOf]; omega
          · have hx2 := join_no HJ.out (bad_size (k := k + 1) (by rw [HL.out]; omega) (by omega))
            have HX := Lib.hid hx2
            clear hsz hsz2 hjk hu hc HK HO hx2
            go_wp2_with fail
            go_ret2
            rw [HX.out.1, HX.out.2]
            exact ⟨rfl, j + nq, by rw [HW.out, World.drewN_drewN]⟩
      · have hx := join_yes HJ.out ⟨fun e => by have := HL.out; rw [e] at this; simp at this; omega, by have h := HK.out; rw [List.take_of_length_le (by rw [HL.out]; omega)] at h; exact h, by
          have h1 := jk_size ss c k (by rw [HL.out]; omega)
          rw [HO.out, List.take_of_length_le (by rw [HL.out]; omega)] at h1
          have := HL.out
          omega⟩
        have he : ob = JB ss ⟨#[c]⟩ := by
          rw [← HO.out, ← jk_all ss c (by rw [HL.out]; exact hp), show k = ss.length from by rw [HL.out]; omega]
        have HX := Lib.hid hx
        have HE := Lib.hid he
        clear hx he
        go_wp2_with fail
        go_ret2
        rw [HX.out.1, HX.out.2, HE.out]
        exact ⟨rfl, j, HW.out⟩
end Go.Proofs.Ytiieccpfnffcpaa.L1
