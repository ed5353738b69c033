/- Texts joined. No program's text. -/
import Derived.Test.YtadpjkghfgnbbaaDoorMem
import Derived.Lib.Join
namespace Go.Proofs.YtadpjkghfgnbbaaDoor.L1
open Go.RowKit Go.Proofs.YtadpjkghfgnbbaaDoor.Mem
/-- texts joined -/
def JB (ss : List ByteArray) (sep : ByteArray) : ByteArray := ⟨(Lib.join (ss.map (·.data.toList)) sep.data.toList).toArray⟩
theorem jb_one (ss : List ByteArray) (sep x : ByteArray) (h : ss[0]? = some x) : JB (ss.take 1) sep = x := by
  cases ss with
  | nil => simp at h
  | cons y r =>
    obtain rfl : y = x := by simpa using h
    apply ByteArray.ext
    simp [JB, Lib.join_one]
theorem jb_succ (ss : List ByteArray) (sep x : ByteArray) (k : Nat) (hk : 1 ≤ k) (h : ss[k]? = some x) : JB (ss.take (k + 1)) sep = JB (ss.take k) sep ++ sep ++ x := by
  cases ss with
  | nil => simp at h
  | cons y r =>
    obtain ⟨m, rfl⟩ : ∃ m, k = m + 1 := ⟨k - 1, by omega⟩
    have h' : (r.map (·.data.toList))[m]? = some x.data.toList := by
      rw [List.getElem?_map]; simp only [List.getElem?_cons_succ] at h; rw [h]; rfl
    have hj := Lib.joinTail_take_succ sep.data.toList (r.map (·.data.toList)) m _ h'
    apply ByteArray.ext
    simp only [JB, List.take_succ_cons, List.map_cons, List.map_take, Lib.join_cons, ByteArray.data_append]
    rw [hj]
    simp
end Go.Proofs.YtadpjkghfgnbbaaDoor.L1
