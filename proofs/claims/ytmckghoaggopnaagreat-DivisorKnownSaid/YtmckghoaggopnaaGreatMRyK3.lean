/-
  Calls that are known: the table that their runs look into.
-/
import Derived.Test.YtmckghoaggopnaaGreatMRyK2a
import Derived.Test.YtmckghoaggopnaaGreatMRyK2b
import Derived.Test.YtmckghoaggopnaaGreatMRyK2c
import Derived.Test.YtmckghoaggopnaaGreatMRyK2d
import Derived.Test.YtmckghoaggopnaaGreatMRyK2e
set_option linter.all false
namespace Go.Proofs.YtmckghoaggopnaaGreat.Y
open Go Go.Ry Go.RowKit
def tab_3 : Tab := ⟨[r_1, r_2, r_3, r_4, r_5, r_6, r_7, r_8, r_9, r_10, r_11, r_12, r_13, r_14, r_15, r_16, r_17, r_18, r_19, r_20, r_21, r_22, r_23, r_24, r_25, r_26, r_27, r_28, r_29, r_30, r_31, r_32, r_33, r_34, r_35, r_36, r_37, r_54], famR, [d_38, d_39, d_40, d_41, d_42, d_43, d_44, d_45, d_46, d_47, d_48, d_49, d_50, d_51, d_52, d_53]⟩
theorem tabk_3 : TabKnown tab_3 := ⟨List.forall_mem_cons.2 ⟨k_1, List.forall_mem_cons.2 ⟨k_2, List.forall_mem_cons.2 ⟨k_3, List.forall_mem_cons.2 ⟨k_4, List.forall_mem_cons.2 ⟨k_5, List.forall_mem_cons.2 ⟨k_6, List.forall_mem_cons.2 ⟨k_7, List.forall_mem_cons.2 ⟨k_8, List.forall_mem_cons.2 ⟨k_9, List.forall_mem_cons.2 ⟨k_10, List.forall_mem_cons.2 ⟨k_11, List.forall_mem_cons.2 ⟨k_12, List.forall_mem_cons.2 ⟨k_13, List.forall_mem_cons.2 ⟨k_14, List.forall_mem_cons.2 ⟨k_15, List.forall_mem_cons.2 ⟨k_16, List.forall_mem_cons.2 ⟨k_17, List.forall_mem_cons.2 ⟨k_18, List.forall_mem_cons.2 ⟨k_19, List.forall_mem_cons.2 ⟨k_20, List.forall_mem_cons.2 ⟨k_21, List.forall_mem_cons.2 ⟨k_22, List.forall_mem_cons.2 ⟨k_23, List.forall_mem_cons.2 ⟨k_24, List.forall_mem_cons.2 ⟨k_25, List.forall_mem_cons.2 ⟨k_26, List.forall_mem_cons.2 ⟨k_27, List.forall_mem_cons.2 ⟨k_28, List.forall_mem_cons.2 ⟨k_29, List.forall_mem_cons.2 ⟨k_30, List.forall_mem_cons.2 ⟨k_31, List.forall_mem_cons.2 ⟨k_32, List.forall_mem_cons.2 ⟨k_33, List.forall_mem_cons.2 ⟨k_34, List.forall_mem_cons.2 ⟨k_35, List.forall_mem_cons.2 ⟨k_36, List.forall_mem_cons.2 ⟨k_37, List.forall_mem_cons.2 ⟨k_54, (fun _ h => by cases h)⟩⟩⟩⟩⟩⟩⟩⟩⟩⟩⟩⟩⟩⟩⟩⟩⟩⟩⟩⟩⟩⟩⟩⟩⟩⟩⟩⟩⟩⟩⟩⟩⟩⟩⟩⟩⟩⟩, famR_known, List.forall_mem_cons.2 ⟨dk_38, List.forall_mem_cons.2 ⟨dk_39, List.forall_mem_cons.2 ⟨dk_40, List.forall_mem_cons.2 ⟨dk_41, List.forall_mem_cons.2 ⟨dk_42, List.forall_mem_cons.2 ⟨dk_43, List.forall_mem_cons.2 ⟨dk_44, List.forall_mem_cons.2 ⟨dk_45, List.forall_mem_cons.2 ⟨dk_46, List.forall_mem_cons.2 ⟨dk_47, List.forall_mem_cons.2 ⟨dk_48, List.forall_mem_cons.2 ⟨dk_49, List.forall_mem_cons.2 ⟨dk_50, List.forall_mem_cons.2 ⟨dk_51, List.forall_mem_cons.2 ⟨dk_52, List.forall_mem_cons.2 ⟨dk_53, (fun _ h => by cases h)⟩⟩⟩⟩⟩⟩⟩⟩⟩⟩⟩⟩⟩⟩⟩⟩⟩

end Go.Proofs.YtmckghoaggopnaaGreat.Y
