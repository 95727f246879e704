/-
  Plain lemmas: of two texts put together, the first part, the second part, and where the second part is found (P1.5).
-/
import Derived.Test.YtejcmammdmpcoabDoorCall
import Derived.Lib.IndexMore
namespace Go.Proofs.YtejcmammdmpcoabDoor
open Go.RowKit

theorem data_app (S T : ByteArray) : (S ++ T).data.toList = S.data.toList ++ T.data.toList := by simp [ByteArray.data_append]
theorem len_data (S : ByteArray) : S.data.toList.length = S.size := by simp
theorem mk_data (S : ByteArray) : (⟨S.data.toList.toArray⟩ : ByteArray) = S := by cases S; rfl

theorem sub_first (S T : ByteArray) : subR (S ++ T) 1 (S.size : Int) = (true, 0, S, 0) := by
  unfold subR subL
  have e1 : (1 - 1 + (S.size : Int)).toNat = S.size := by omega
  have e2 : (max (1 : Int) 1 - 1).toNat = 0 := rfl
  rw [e1, e2, List.drop_zero, data_app, List.take_append_of_le_length (by rw [len_data]; omega), List.take_of_length_le (by rw [len_data]; omega), mk_data]
theorem sub_rest (S T : ByteArray) (h : T.size ≤ 1000) : subR (S ++ T) ((S.size : Int) + 1) 1000 = (true, 0, T, 0) := by
  unfold subR subL
  have e1 : ((S.size : Int) + 1 - 1 + 1000).toNat = S.size + 1000 := by omega
  have e2 : (max ((S.size : Int) + 1) 1 - 1).toNat = S.size := by omega
  have e3 : (S.data.toList ++ T.data.toList).length ≤ S.size + 1000 := by rw [List.length_append, len_data, len_data]; omega
  have e4 : List.drop S.size (S.data.toList ++ T.data.toList) = T.data.toList := by rw [← len_data S, List.drop_left]
  rw [e1, e2, data_app, List.take_of_length_le e3, e4, mk_data]
theorem piece_first (S T : ByteArray) (h : S.size ≤ 200) : pieceR (S ++ T) false 1 ⟨#[]⟩ false (S.size : Int) ⟨#[]⟩ = (true, 0, S, 0) := by
  unfold pieceR
  rw [numOf_f, numOf_f, if_pos (by omega), sub_first]
theorem piece_rest (S T : ByteArray) (h : S.size ≤ 200) (h2 : T.size ≤ 1000) : pieceR (S ++ T) false ((S.size : Int) + 1) ⟨#[]⟩ false 1000 ⟨#[]⟩ = (true, 0, T, 0) := by
  unfold pieceR
  rw [numOf_f, numOf_f, if_pos (by omega), sub_rest S T h2]

theorem index_join (S T : ByteArray) : 0 ≤ Lib.index (S ++ T).data.toList T.data.toList ∧ Lib.index (S ++ T).data.toList T.data.toList ≤ (S.size : Int) := by
  have ho : Lib.occAt (S ++ T).data.toList T.data.toList S.size = true := by
    unfold Lib.occAt
    have e4 : List.drop S.size (S.data.toList ++ T.data.toList) = T.data.toList := by rw [← len_data S, List.drop_left]
    rw [data_app, e4]
    exact List.isPrefixOf_iff_prefix.2 (List.prefix_refl _)
  have hl : S.size ≤ (S ++ T).data.toList.length := by rw [data_app, List.length_append, len_data]; omega
  rcases Lib.index_spec (S ++ T).data.toList T.data.toList with ⟨_, h⟩ | ⟨i, h1, h2, h3, h4⟩
  · have := h S.size hl
    rw [ho] at this; cases this
  · rw [h1]
    refine ⟨by omega, ?_⟩
    by_cases h : i ≤ S.size
    · omega
    · have := h4 S.size (by omega)
      rw [ho] at this; cases this
end Go.Proofs.YtejcmammdmpcoabDoor
