/-
  Calls that are known, each by one run.
-/
import Derived.Test.YtmckghoaggopnaeGreatMRyK2
set_option linter.all false
namespace Go.Proofs.YtmckghoaggopnaeGreat.Y
open Go Go.Ry Go.RowKit
def r_12 : Row := ⟨16, [.agg [.v (.int .u64 0)], .one (.v (.int .i64 0))], .s (.agg [.v (.int .u64 12035550249420947055)])⟩
set_option maxRecDepth 1000000 in
theorem k_12 : Known Tryz.prog r_12.f r_12.l r_12.v := row_nowT tabk_2 (by kernel_rfl)
def r_13 : Row := ⟨5, [.agg [.v (.int .u64 0)], .agg [.v (.int .u64 1), .v (.int .u64 0), .v (.int .u64 0), .v (.int .u64 0), .v (.int .u64 0), .v (.int .u64 0), .v (.int .u64 0), .v (.int .u64 0)]], .tup [.agg [.v (.int .u64 0), .v (.int .u64 0), .v (.int .u64 0), .v (.int .u64 0), .v (.int .u64 0), .v (.int .u64 0), .v (.int .u64 0), .v (.int .u64 0)], .agg [.v (.int .u64 0)], .one (.v (.int .i64 0))]⟩
set_option maxRecDepth 1000000 in
theorem k_13 : Known Tryz.prog r_13.f r_13.l r_13.v := row_nowT tabk_2 (by kernel_rfl)
def r_14 : Row := ⟨5, [.agg [.v (.int .u64 0)], .agg [.v (.int .u64 16), .v (.int .u64 0), .v (.int .u64 0), .v (.int .u64 0), .v (.int .u64 0), .v (.int .u64 0), .v (.int .u64 0), .v (.int .u64 0)]], .tup [.agg [.v (.int .u64 15), .v (.int .u64 0), .v (.int .u64 0), .v (.int .u64 0), .v (.int .u64 0), .v (.int .u64 0), .v (.int .u64 0), .v (.int .u64 0)], .agg [.v (.int .u64 11400714819323198485)], .one (.v (.int .i64 0))]⟩
set_option maxRecDepth 1000000 in
theorem k_14 : Known Tryz.prog r_14.f r_14.l r_14.v := row_nowT tabk_2 (by kernel_rfl)
def r_15 : Row := ⟨5, [.agg [.v (.int .u64 0)], .agg [.v (.int .u64 2), .v (.int .u64 0), .v (.int .u64 0), .v (.int .u64 0), .v (.int .u64 0), .v (.int .u64 0), .v (.int .u64 0), .v (.int .u64 0)]], .tup [.agg [.v (.int .u64 1), .v (.int .u64 0), .v (.int .u64 0), .v (.int .u64 0), .v (.int .u64 0), .v (.int .u64 0), .v (.int .u64 0), .v (.int .u64 0)], .agg [.v (.int .u64 11400714819323198485)], .one (.v (.int .i64 0))]⟩
set_option maxRecDepth 1000000 in
theorem k_15 : Known Tryz.prog r_15.f r_15.l r_15.v := row_nowT tabk_2 (by kernel_rfl)
def r_16 : Row := ⟨5, [.agg [.v (.int .u64 0)], .agg [.v (.int .u64 5), .v (.int .u64 0), .v (.int .u64 0), .v (.int .u64 0), .v (.int .u64 0), .v (.int .u64 0), .v (.int .u64 0), .v (.int .u64 0)]], .tup [.agg [.v (.int .u64 4), .v (.int .u64 0), .v (.int .u64 0), .v (.int .u64 0), .v (.int .u64 0), .v (.int .u64 0), .v (.int .u64 0), .v (.int .u64 0)], .agg [.v (.int .u64 4354685564936845354)], .one (.v (.int .i64 0))]⟩
set_option maxRecDepth 1000000 in
theorem k_16 : Known Tryz.prog r_16.f r_16.l r_16.v := row_nowT tabk_2 (by kernel_rfl)
def r_17 : Row := ⟨5, [.agg [.v (.int .u64 0)], .agg [.v (.int .u64 0), .v (.int .u64 0), .v (.int .u64 0), .v (.int .u64 0), .v (.int .u64 0), .v (.int .u64 0), .v (.int .u64 0), .v (.int .u64 0)]], .tup [.agg [.v (.int .u64 0), .v (.int .u64 0), .v (.int .u64 0), .v (.int .u64 0), .v (.int .u64 0), .v (.int .u64 0), .v (.int .u64 0), .v (.int .u64 0)], .agg [.v (.int .u64 0)], .one (.v (.int .i64 2))]⟩
set_option maxRecDepth 1000000 in
theorem k_17 : Known Tryz.prog r_17.f r_17.l r_17.v := row_nowT tabk_2 (by kernel_rfl)
def r_18 : Row := ⟨5, [.agg [.v (.int .u64 0)], .agg [.v (.int .u64 0), .v (.int .u64 0), .v (.int .u64 0), .v (.int .u64 0), .v (.int .u64 0), .v (.int .u64 0), .v (.int .u64 0), .v (.int .u64 9223372036854775808)]], .tup [.agg [.v (.int .u64 0), .v (.int .u64 0), .v (.int .u64 0), .v (.int .u64 0), .v (.int .u64 0), .v (.int .u64 0), .v (.int .u64 0), .v (.int .u64 0)], .agg [.v (.int .u64 0)], .one (.v (.int .i64 2))]⟩
set_option maxRecDepth 1000000 in
theorem k_18 : Known Tryz.prog r_18.f r_18.l r_18.v := row_nowT tabk_2 (by kernel_rfl)
def r_19 : Row := ⟨5, [.agg [.v (.int .u64 0)], .agg [.v (.int .u64 18446744073709551615), .v (.int .u64 18446744073709551615), .v (.int .u64 18446744073709551615), .v (.int .u64 18446744073709551615), .v (.int .u64 18446744073709551615), .v (.int .u64 18446744073709551615), .v (.int .u64 18446744073709551615), .v (.int .u64 9223372036854775807)]], .tup [.agg [.v (.int .u64 16294208416658607535), .v (.int .u64 7960286522194355700), .v (.int .u64 487617019471545679), .v (.int .u64 17909611376780542444), .v (.int .u64 1961750202426094747), .v (.int .u64 6038094601263162090), .v (.int .u64 3207296026000306913), .v (.int .u64 5009149828745571132)], .agg [.v (.int .u64 17418742259747381416)], .one (.v (.int .i64 0))]⟩
set_option maxRecDepth 1000000 in
theorem k_19 : Known Tryz.prog r_19.f r_19.l r_19.v := row_nowT tabk_2 (by kernel_rfl)
def rs_2b : List Row := [r_12, r_13, r_14, r_15, r_16, r_17, r_18, r_19]
theorem rs_2b_k : ∀ r ∈ rs_2b, Known Tryz.prog r.f r.l r.v := List.forall_mem_cons.2 ⟨k_12, List.forall_mem_cons.2 ⟨k_13, List.forall_mem_cons.2 ⟨k_14, List.forall_mem_cons.2 ⟨k_15, List.forall_mem_cons.2 ⟨k_16, List.forall_mem_cons.2 ⟨k_17, List.forall_mem_cons.2 ⟨k_18, List.forall_mem_cons.2 ⟨k_19, (fun _ h => by cases h)⟩⟩⟩⟩⟩⟩⟩⟩
end Go.Proofs.YtmckghoaggopnaeGreat.Y
