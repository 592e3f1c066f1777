/-
  Calls that are known: the table that their runs look into.
-/
import Derived.Test.YtmckghoaggopnacGreatMRyK1a
import Derived.Test.YtmckghoaggopnacGreatMRyK1b
import Derived.Test.YtmckghoaggopnacGreatMRyK1c
import Derived.Test.YtmckghoaggopnacGreatMRyK1d
import Derived.Test.YtmckghoaggopnacGreatMRyK1e
set_option linter.all false
namespace Go.Proofs.YtmckghoaggopnacGreat.Y
open Go Go.Ry Go.RowKit
def tab_2 : Tab := ⟨[r_1, r_2, r_3, r_4, r_5, r_6, r_7, r_8, r_9, r_10, r_11, r_12, r_13, r_14, r_15, r_16, r_17, r_18, r_19, r_20, r_21, r_22, r_23, r_24, r_25, r_26, r_27, r_28, r_29, r_30, r_31, r_32, r_33, r_34, r_35, r_36, r_37, r_38, r_39, r_40, r_41, r_42, r_43, r_44, r_45, r_46, r_47, r_48, r_49, r_50, r_51, r_52, r_53, r_54, r_55, r_56, r_57, r_58, r_59, r_60, r_61, r_62], fun _ _ => none, []⟩
theorem tabk_2 : TabKnown tab_2 := ⟨List.forall_mem_cons.2 ⟨k_1, List.forall_mem_cons.2 ⟨k_2, List.forall_mem_cons.2 ⟨k_3, List.forall_mem_cons.2 ⟨k_4, List.forall_mem_cons.2 ⟨k_5, List.forall_mem_cons.2 ⟨k_6, List.forall_mem_cons.2 ⟨k_7, List.forall_mem_cons.2 ⟨k_8, List.forall_mem_cons.2 ⟨k_9, List.forall_mem_cons.2 ⟨k_10, List.forall_mem_cons.2 ⟨k_11, List.forall_mem_cons.2 ⟨k_12, List.forall_mem_cons.2 ⟨k_13, List.forall_mem_cons.2 ⟨k_14, List.forall_mem_cons.2 ⟨k_15, List.forall_mem_cons.2 ⟨k_16, List.forall_mem_cons.2 ⟨k_17, List.forall_mem_cons.2 ⟨k_18, List.forall_mem_cons.2 ⟨k_19, List.forall_mem_cons.2 ⟨k_20, List.forall_mem_cons.2 ⟨k_21, List.forall_mem_cons.2 ⟨k_22, List.forall_mem_cons.2 ⟨k_23, List.forall_mem_cons.2 ⟨k_24, List.forall_mem_cons.2 ⟨k_25, List.forall_mem_cons.2 ⟨k_26, List.forall_mem_cons.2 ⟨k_27, List.forall_mem_cons.2 ⟨k_28, List.forall_mem_cons.2 ⟨k_29, List.forall_mem_cons.2 ⟨k_30, List.forall_mem_cons.2 ⟨k_31, List.forall_mem_cons.2 ⟨k_32, List.forall_mem_cons.2 ⟨k_33, List.forall_mem_cons.2 ⟨k_34, List.forall_mem_cons.2 ⟨k_35, List.forall_mem_cons.2 ⟨k_36, List.forall_mem_cons.2 ⟨k_37, List.forall_mem_cons.2 ⟨k_38, List.forall_mem_cons.2 ⟨k_39, List.forall_mem_cons.2 ⟨k_40, List.forall_mem_cons.2 ⟨k_41, List.forall_mem_cons.2 ⟨k_42, List.forall_mem_cons.2 ⟨k_43, List.forall_mem_cons.2 ⟨k_44, List.forall_mem_cons.2 ⟨k_45, List.forall_mem_cons.2 ⟨k_46, List.forall_mem_cons.2 ⟨k_47, List.forall_mem_cons.2 ⟨k_48, List.forall_mem_cons.2 ⟨k_49, List.forall_mem_cons.2 ⟨k_50, List.forall_mem_cons.2 ⟨k_51, List.forall_mem_cons.2 ⟨k_52, List.forall_mem_cons.2 ⟨k_53, List.forall_mem_cons.2 ⟨k_54, List.forall_mem_cons.2 ⟨k_55, List.forall_mem_cons.2 ⟨k_56, List.forall_mem_cons.2 ⟨k_57, List.forall_mem_cons.2 ⟨k_58, List.forall_mem_cons.2 ⟨k_59, List.forall_mem_cons.2 ⟨k_60, List.forall_mem_cons.2 ⟨k_61, List.forall_mem_cons.2 ⟨k_62, (fun _ h => by cases h)⟩⟩⟩⟩⟩⟩⟩⟩⟩⟩⟩⟩⟩⟩⟩⟩⟩⟩⟩⟩⟩⟩⟩⟩⟩⟩⟩⟩⟩⟩⟩⟩⟩⟩⟩⟩⟩⟩⟩⟩⟩⟩⟩⟩⟩⟩⟩⟩⟩⟩⟩⟩⟩⟩⟩⟩⟩⟩⟩⟩⟩⟩, fun _ _ _ h => (by cases h), (fun _ h => by cases h)⟩

end Go.Proofs.YtmckghoaggopnacGreat.Y
