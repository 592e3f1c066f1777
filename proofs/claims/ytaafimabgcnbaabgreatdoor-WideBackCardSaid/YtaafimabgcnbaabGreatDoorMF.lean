/-
  The chapter's examples, as the statements check them: 'works' answers true.
-/
import Derived.Test.YtaafimabgcnbaabGreatDoorMC
import Derived.Test.YtaafimabgcnbaabGreatDoorMD
import Derived.Test.YtaafimabgcnbaabGreatDoorME
set_option linter.all false
namespace Go.Proofs.YtaafimabgcnbaabGreatDoor
open Go Go.Rx Go.RowKit
def rows1 : List Row := [r_addbig, r_negbig, r_mul1, r_mul2, r_div1, r_div2, r_div3, r_div4, r_div5, r_gcd1, r_gcd2, r_pow1, r_pow2, r_pow3, r_root1, r_root2, r_root3, r_parse1, r_parse2, r_parse3, r_parse4]
theorem rows1_known : ∀ r ∈ rows1, Known Tryz.prog r.f r.l r.v := by
  intro r hr
  simp only [rows1, List.mem_cons, List.not_mem_nil, or_false] at hr
  rcases hr with rfl | rfl | rfl | rfl | rfl | rfl | rfl | rfl | rfl | rfl | rfl | rfl | rfl | rfl | rfl | rfl | rfl | rfl | rfl | rfl | rfl
  · exact k_addbig
  · exact k_negbig
  · exact k_mul1
  · exact k_mul2
  · exact k_div1
  · exact k_div2
  · exact k_div3
  · exact k_div4
  · exact k_div5
  · exact k_gcd1
  · exact k_gcd2
  · exact k_pow1
  · exact k_pow2
  · exact k_pow3
  · exact k_root1
  · exact k_root2
  · exact k_root3
  · exact k_parse1
  · exact k_parse2
  · exact k_parse3
  · exact k_parse4
theorem env1 (W : World) : EnvOk (envOf rows1) W := env_ok rows1_known W
def r_works : Row := ⟨4, [], .s (.one (.v (.bool true)))⟩
theorem k_works : Known Tryz.prog r_works.f r_works.l r_works.v := row_known env1 (fuel := 5000) (by kernel_rfl)
end Go.Proofs.YtaafimabgcnbaabGreatDoor
