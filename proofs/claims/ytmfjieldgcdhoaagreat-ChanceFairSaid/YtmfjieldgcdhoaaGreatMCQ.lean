/-
  The law ChanceFair: its two last statements.
-/
import Derived.Test.YtmfjieldgcdhoaaGreatMCO
set_option linter.all false
namespace Go.Proofs.YtmfjieldgcdhoaaGreat
open Go Go.RowKit Go.Big Go.Shelf
attribute [local instance] noAv
noncomputable def fairR11 : Code := ((Tryz.f4.body.bind (findRs 11)).getD .skip)
noncomputable def fairR13 : Code := ((Tryz.f4.body.bind (findRs 13)).getD .skip)
set_option maxHeartbeats 3200000 in
set_option maxRecDepth 100000 in
theorem fair_r11 {W : World} {Q R : Nat} {x M t : Int} (hx0 : 0 ≤ x) (hN1 : 1 ≤ M) (hN2 : M < 9223372036854775808) (hQ : W.heap[Q]? = some (.cells #[.int .u64 t] 24)) (hR : W.heap[R]? = some (.cells #[.int .u64 t] 24))
    (c2 c3 c5 c6 c8 c12 c13 c14 c15 c16 c17 c18 c19 c20 c21 c22 c23 c24 c25 c26 c27 c28 c29 c30 c31 c32 c33 c34 c35 c36 c37 c38 c39 c40 c41 c42 c43 c44 c45 c46 c47 c48 c49 c66 c67 c68 c69 c70 c71 c72 c73 c74 c75 c76 c77 c78 c79 c80 c81 c82 c83 c84 c85 c86 c87 c88 c89 u4 u50 u51 u52 u53 u54 u55 u56 u57 u58 u59 u60 u61 u62 u63 u64 u65 : Value) (K' : Act → World → Prop) (Q' : Exit → Act → World → Prop)
    (hK : ∀ (u50 u51 u52 u53 u54 u55 u56 u57 u58 u59 u60 u61 u62 u63 u64 u65 : Value), K' ⟨(List.toArray ((.int .u64 x) :: (.int .i64 M) :: c2 :: c3 :: (.bool true) :: c5 :: c6 :: (.pointer (some ⟨Q, 0, none⟩)) :: c8 :: (.int .i64 (wrap64 (x % M))) :: (.pointer (some ⟨R, 0, none⟩)) :: (.int .i64 0) :: c12 :: c13 :: c14 :: c15 :: c16 :: c17 :: c18 :: c19 :: c20 :: c21 :: c22 :: c23 :: c24 :: c25 :: c26 :: c27 :: c28 :: c29 :: c30 :: c31 :: c32 :: c33 :: c34 :: c35 :: c36 :: c37 :: c38 :: c39 :: c40 :: c41 :: c42 :: c43 :: c44 :: c45 :: c46 :: c47 :: c48 :: c49 :: u50 :: u51 :: u52 :: u53 :: u54 :: u55 :: u56 :: u57 :: u58 :: u59 :: u60 :: u61 :: u62 :: u63 :: u64 :: u65 :: c66 :: c67 :: c68 :: c69 :: c70 :: c71 :: c72 :: c73 :: c74 :: c75 :: c76 :: c77 :: c78 :: c79 :: c80 :: c81 :: c82 :: c83 :: c84 :: c85 :: c86 :: c87 :: c88 :: c89 :: [])), []⟩ W) :
    Code.wp Tryz.prog fairR11 (Exit.then K' Q') ⟨(List.toArray ((.int .u64 x) :: (.int .i64 M) :: c2 :: c3 :: u4 :: c5 :: c6 :: (.pointer (some ⟨Q, 0, none⟩)) :: c8 :: (.int .i64 (wrap64 (x % M))) :: (.pointer (some ⟨R, 0, none⟩)) :: (.int .i64 0) :: c12 :: c13 :: c14 :: c15 :: c16 :: c17 :: c18 :: c19 :: c20 :: c21 :: c22 :: c23 :: c24 :: c25 :: c26 :: c27 :: c28 :: c29 :: c30 :: c31 :: c32 :: c33 :: c34 :: c35 :: c36 :: c37 :: c38 :: c39 :: c40 :: c41 :: c42 :: c43 :: c44 :: c45 :: c46 :: c47 :: c48 :: c49 :: u50 :: u51 :: u52 :: u53 :: u54 :: u55 :: u56 :: u57 :: u58 :: u59 :: u60 :: u61 :: u62 :: u63 :: u64 :: u65 :: c66 :: c67 :: c68 :: c69 :: c70 :: c71 :: c72 :: c73 :: c74 :: c75 :: c76 :: c77 :: c78 :: c79 :: c80 :: c81 :: c82 :: c83 :: c84 :: c85 :: c86 :: c87 :: c88 :: c89 :: [])), []⟩ W := by
  have HK := Lib.hid hK
  clear hK
  have c7 : W.cell? ⟨Q, 0, none⟩ = some (.int .u64 t) := (cellOf hQ).trans rfl
  have c10 : W.cell? ⟨R, 0, none⟩ = some (.int .u64 t) := (cellOf hR).trans rfl
  clear hQ hR
  conv => arg 2; whnf
  go_wp2
  show K' _ _
  with_reducible exact HK.out _ _ _ _ _ _ _ _ _ _ _ _ _ _ _ _
set_option maxHeartbeats 3200000 in
set_option maxRecDepth 100000 in
theorem fair_r13a {W : World} {R S : Nat} {e k z : Int} (hR : W.heap[R]? = some (.cells #[.int .u64 z] 24)) (hS : W.heap[S]? = some (.cells #[.int .u64 z] 24))
    (c0 c1 c2 c3 c5 c6 c7 c8 c15 c16 c17 c18 c19 c20 c21 c22 c23 c24 c25 c26 c27 c28 c29 c30 c31 c32 c33 c34 c35 c36 c37 c38 c39 c40 c41 c42 c43 c44 c45 c46 c47 c48 c49 c50 c51 c52 c53 c54 c55 c56 c57 c58 c59 c60 c61 c62 c63 c64 c65 c66 c67 c68 c69 c70 c71 c72 u4 u73 u74 u75 u76 u77 u78 u79 u80 u81 u82 u83 u84 u85 u86 u87 u88 u89 : Value) (K' : Act → World → Prop) (Q' : Exit → Act → World → Prop)
    (hK : ∀ (u73 u74 u75 u76 u77 u78 u79 u80 u81 u82 u83 u84 u85 u86 u87 u88 u89 : Value), K' ⟨(List.toArray (c0 :: c1 :: c2 :: c3 :: (.bool true) :: c5 :: c6 :: c7 :: c8 :: (.int .i64 k) :: (.pointer (some ⟨R, 0, none⟩)) :: (.int .i64 e) :: (.int .i64 k) :: (.pointer (some ⟨S, 0, none⟩)) :: (.int .i64 e) :: c15 :: c16 :: c17 :: c18 :: c19 :: c20 :: c21 :: c22 :: c23 :: c24 :: c25 :: c26 :: c27 :: c28 :: c29 :: c30 :: c31 :: c32 :: c33 :: c34 :: c35 :: c36 :: c37 :: c38 :: c39 :: c40 :: c41 :: c42 :: c43 :: c44 :: c45 :: c46 :: c47 :: c48 :: c49 :: c50 :: c51 :: c52 :: c53 :: c54 :: c55 :: c56 :: c57 :: c58 :: c59 :: c60 :: c61 :: c62 :: c63 :: c64 :: c65 :: c66 :: c67 :: c68 :: c69 :: c70 :: c71 :: c72 :: u73 :: u74 :: u75 :: u76 :: u77 :: u78 :: u79 :: u80 :: u81 :: u82 :: u83 :: u84 :: u85 :: u86 :: u87 :: u88 :: u89 :: [])), []⟩ W) :
    Code.wp Tryz.prog fairR13 (Exit.then K' Q') ⟨(List.toArray (c0 :: c1 :: c2 :: c3 :: u4 :: c5 :: c6 :: c7 :: c8 :: (.int .i64 k) :: (.pointer (some ⟨R, 0, none⟩)) :: (.int .i64 e) :: (.int .i64 k) :: (.pointer (some ⟨S, 0, none⟩)) :: (.int .i64 e) :: c15 :: c16 :: c17 :: c18 :: c19 :: c20 :: c21 :: c22 :: c23 :: c24 :: c25 :: c26 :: c27 :: c28 :: c29 :: c30 :: c31 :: c32 :: c33 :: c34 :: c35 :: c36 :: c37 :: c38 :: c39 :: c40 :: c41 :: c42 :: c43 :: c44 :: c45 :: c46 :: c47 :: c48 :: c49 :: c50 :: c51 :: c52 :: c53 :: c54 :: c55 :: c56 :: c57 :: c58 :: c59 :: c60 :: c61 :: c62 :: c63 :: c64 :: c65 :: c66 :: c67 :: c68 :: c69 :: c70 :: c71 :: c72 :: u73 :: u74 :: u75 :: u76 :: u77 :: u78 :: u79 :: u80 :: u81 :: u82 :: u83 :: u84 :: u85 :: u86 :: u87 :: u88 :: u89 :: [])), []⟩ W := by
  have HK := Lib.hid hK
  clear hK
  have c7 : W.cell? ⟨R, 0, none⟩ = some (.int .u64 z) := (cellOf hR).trans rfl
  have c10 : W.cell? ⟨S, 0, none⟩ = some (.int .u64 z) := (cellOf hS).trans rfl
  clear hR hS
  conv => arg 2; whnf
  go_wp2
  show K' _ _
  with_reducible exact HK.out _ _ _ _ _ _ _ _ _ _ _ _ _ _ _ _ _
set_option maxHeartbeats 3200000 in
set_option maxRecDepth 100000 in
theorem fair_r13b {W : World}  
    (c0 c1 c2 c3 c5 c6 c7 c8 c9 c10 c12 c13 c15 c16 c17 c18 c19 c20 c21 c22 c23 c24 c25 c26 c27 c28 c29 c30 c31 c32 c33 c34 c35 c36 c37 c38 c39 c40 c41 c42 c43 c44 c45 c46 c47 c48 c49 c50 c51 c52 c53 c54 c55 c56 c57 c58 c59 c60 c61 c62 c63 c64 c65 c66 c67 c68 c69 c70 c71 c72 u4 u73 u74 u75 u76 u77 u78 u79 u80 u81 u82 u83 u84 u85 u86 u87 u88 u89 : Value) (K' : Act → World → Prop) (Q' : Exit → Act → World → Prop)
    (hK : ∀ (u73 u74 u75 u76 u77 u78 u79 u80 u81 u82 u83 u84 u85 u86 u87 u88 u89 : Value), K' ⟨(List.toArray (c0 :: c1 :: c2 :: c3 :: (.bool true) :: c5 :: c6 :: c7 :: c8 :: c9 :: c10 :: (.int .i64 9) :: c12 :: c13 :: (.int .i64 0) :: c15 :: c16 :: c17 :: c18 :: c19 :: c20 :: c21 :: c22 :: c23 :: c24 :: c25 :: c26 :: c27 :: c28 :: c29 :: c30 :: c31 :: c32 :: c33 :: c34 :: c35 :: c36 :: c37 :: c38 :: c39 :: c40 :: c41 :: c42 :: c43 :: c44 :: c45 :: c46 :: c47 :: c48 :: c49 :: c50 :: c51 :: c52 :: c53 :: c54 :: c55 :: c56 :: c57 :: c58 :: c59 :: c60 :: c61 :: c62 :: c63 :: c64 :: c65 :: c66 :: c67 :: c68 :: c69 :: c70 :: c71 :: c72 :: u73 :: u74 :: u75 :: u76 :: u77 :: u78 :: u79 :: u80 :: u81 :: u82 :: u83 :: u84 :: u85 :: u86 :: u87 :: u88 :: u89 :: [])), []⟩ W) :
    Code.wp Tryz.prog fairR13 (Exit.then K' Q') ⟨(List.toArray (c0 :: c1 :: c2 :: c3 :: u4 :: c5 :: c6 :: c7 :: c8 :: c9 :: c10 :: (.int .i64 9) :: c12 :: c13 :: (.int .i64 0) :: c15 :: c16 :: c17 :: c18 :: c19 :: c20 :: c21 :: c22 :: c23 :: c24 :: c25 :: c26 :: c27 :: c28 :: c29 :: c30 :: c31 :: c32 :: c33 :: c34 :: c35 :: c36 :: c37 :: c38 :: c39 :: c40 :: c41 :: c42 :: c43 :: c44 :: c45 :: c46 :: c47 :: c48 :: c49 :: c50 :: c51 :: c52 :: c53 :: c54 :: c55 :: c56 :: c57 :: c58 :: c59 :: c60 :: c61 :: c62 :: c63 :: c64 :: c65 :: c66 :: c67 :: c68 :: c69 :: c70 :: c71 :: c72 :: u73 :: u74 :: u75 :: u76 :: u77 :: u78 :: u79 :: u80 :: u81 :: u82 :: u83 :: u84 :: u85 :: u86 :: u87 :: u88 :: u89 :: [])), []⟩ W := by
  have HK := Lib.hid hK
  clear hK
  conv => arg 2; whnf
  go_wp2
  show K' _ _
  with_reducible exact HK.out _ _ _ _ _ _ _ _ _ _ _ _ _ _ _ _ _
end Go.Proofs.YtmfjieldgcdhoaaGreat
