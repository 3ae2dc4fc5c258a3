/- gavelref01's Sum: loop 4 as a declaration of its own. -/
import Derived.Test.YtlkhfhhaallhgaaShaT
namespace Go.Proofs.Ytlkhfhhaallhgaa
set_option maxRecDepth 100000
open Go.RowKit
set_option linter.unusedVariables false in
set_option maxRecDepth 100000 in
set_option maxHeartbeats 20000000 in
theorem loop4 (gw : Nat) (BB : List UInt8) (M0 : List Int) (ws : World) (hM0 : M0.length = 64) (hT0 : M0.take 16 = schedN BB 0) (hB0 : Blk ws gw 119 (M0.map i32).toArray) (hN0 : ∀ z ∈ M0, (0 : Int) ≤ z)
    {c0 c1 c2 c3 c4 c5 c6 c7 c8 c10 c11 c13 c14 c15 c16 c17 c18 c19 c20 c21 c22 c23 c24 c25 c26 c27 c28 c29 c30 c31 c32 c33 c34 c35 c36 c37 c38 c39 c40 c41 c42 c43 c44 c45 c46 c47 c48 c49 c50 c51 c52 c53 c54 c55 c56 c57 c58 c59 c60 c61 c62 c63 c64 c65 c66 c67 c68 c69 c70 c71 c72 c73 c74 c75 c76 c77 c78 c79 c80 c81 c82 c83 c84 c85 c86 c87 c88 c89 c90 c91 c92 c93 c94 c95 c96 c97 c98 c99 c100 c101 c102 c103 c104 c105 c106 c107 c108 c109 c110 c111 c112 c113 c114 c115 c116 c117 c118 c119 c120 c121 c122 c123 c124 c125 c126 c127 c128 c129 c130 c131 c132 c133 c134 c135 c136 c137 c138 c139 c140 c141 c142 c143 c144 c145 c146 c147 c148 c149 c150 c151 c152 c153 c154 c155 c156 c157 c158 c159 c160 c161 c162 c163 c164 c165 c166 c167 c168 c169 c170 c171 c172 c173 c174 c175 c176 c177 c178 c179 c180 c181 c182 c183 c184 c185 c186 c187 c188 c189 c190 c191 c192 c193 c194 c195 c196 c197 c198 c199 c200 c201 c202 c203 c204 c205 c206 c207 c208 c209 c210 c211 c212 c213 c214 c215 c216 c217 c218 c219 c220 c221 c222 c223 c224 c225 c226 c227 c228 c229 c230 c231 c232 c233 c234 c235 c236 c237 c238 c239 c240 c241 c242 c243 c244 c245 c246 c247 c248 c249 c250 c251 c252 c253 c254 c255 c256 c257 c258 c259 c260 c261 c262 c263 c264 c265 c266 c267 c268 : Value} {Q : Exit → Act → World → Prop}
    (hexit : ∀ (u12 u13 u14 u94 u95 u96 u97 u98 u99 u100 u101 u102 u103 u104 u105 u106 u107 u108 u109 u110 u111 u112 u113 u114 u115 u116 u117 u118 u119 u120 u121 u122 u123 u124 u125 u126 u127 u128 u129 u130 u131 u132 u133 u134 : Value) (w' : World), Blk w' gw 119 ((sched BB).map i32).toArray → Fr [gw] ws w' → (sched BB).length = 64 → Q (.exit 8) ⟨List.toArray (c0 :: c1 :: c2 :: c3 :: c4 :: c5 :: c6 :: c7 :: c8 :: (.pointer (some ⟨gw, 0, none⟩)) :: c10 :: c11 :: u12 :: u13 :: u14 :: c15 :: c16 :: c17 :: c18 :: c19 :: c20 :: c21 :: c22 :: c23 :: c24 :: c25 :: c26 :: c27 :: c28 :: c29 :: c30 :: c31 :: c32 :: c33 :: c34 :: c35 :: c36 :: c37 :: c38 :: c39 :: c40 :: c41 :: c42 :: c43 :: c44 :: c45 :: c46 :: c47 :: c48 :: c49 :: c50 :: c51 :: c52 :: c53 :: c54 :: c55 :: c56 :: c57 :: c58 :: c59 :: c60 :: c61 :: c62 :: c63 :: c64 :: c65 :: c66 :: c67 :: c68 :: c69 :: c70 :: c71 :: c72 :: c73 :: c74 :: c75 :: c76 :: c77 :: c78 :: c79 :: c80 :: c81 :: c82 :: c83 :: c84 :: c85 :: c86 :: c87 :: c88 :: c89 :: c90 :: c91 :: c92 :: c93 :: u94 :: u95 :: u96 :: u97 :: u98 :: u99 :: u100 :: u101 :: u102 :: u103 :: u104 :: u105 :: u106 :: u107 :: u108 :: u109 :: u110 :: u111 :: u112 :: u113 :: u114 :: u115 :: u116 :: u117 :: u118 :: u119 :: u120 :: u121 :: u122 :: u123 :: u124 :: u125 :: u126 :: u127 :: u128 :: u129 :: u130 :: u131 :: u132 :: u133 :: u134 :: c135 :: c136 :: c137 :: c138 :: c139 :: c140 :: c141 :: c142 :: c143 :: c144 :: c145 :: c146 :: c147 :: c148 :: c149 :: c150 :: c151 :: c152 :: c153 :: c154 :: c155 :: c156 :: c157 :: c158 :: c159 :: c160 :: c161 :: c162 :: c163 :: c164 :: c165 :: c166 :: c167 :: c168 :: c169 :: c170 :: c171 :: c172 :: c173 :: c174 :: c175 :: c176 :: c177 :: c178 :: c179 :: c180 :: c181 :: c182 :: c183 :: c184 :: c185 :: c186 :: c187 :: c188 :: c189 :: c190 :: c191 :: c192 :: c193 :: c194 :: c195 :: c196 :: c197 :: c198 :: c199 :: c200 :: c201 :: c202 :: c203 :: c204 :: c205 :: c206 :: c207 :: c208 :: c209 :: c210 :: c211 :: c212 :: c213 :: c214 :: c215 :: c216 :: c217 :: c218 :: c219 :: c220 :: c221 :: c222 :: c223 :: c224 :: c225 :: c226 :: c227 :: c228 :: c229 :: c230 :: c231 :: c232 :: c233 :: c234 :: c235 :: c236 :: c237 :: c238 :: c239 :: c240 :: c241 :: c242 :: c243 :: c244 :: c245 :: c246 :: c247 :: c248 :: c249 :: c250 :: c251 :: c252 :: c253 :: c254 :: c255 :: c256 :: c257 :: c258 :: c259 :: c260 :: c261 :: c262 :: c263 :: c264 :: c265 :: c266 :: c267 :: c268 :: []), []⟩ w') :
    Code.wp Try.prog (.loop (refBody 4)) Q ⟨List.toArray (c0 :: c1 :: c2 :: c3 :: c4 :: c5 :: c6 :: c7 :: c8 :: (.pointer (some ⟨gw, 0, none⟩)) :: c10 :: c11 :: (.int .i64 16) :: c13 :: c14 :: c15 :: c16 :: c17 :: c18 :: c19 :: c20 :: c21 :: c22 :: c23 :: c24 :: c25 :: c26 :: c27 :: c28 :: c29 :: c30 :: c31 :: c32 :: c33 :: c34 :: c35 :: c36 :: c37 :: c38 :: c39 :: c40 :: c41 :: c42 :: c43 :: c44 :: c45 :: c46 :: c47 :: c48 :: c49 :: c50 :: c51 :: c52 :: c53 :: c54 :: c55 :: c56 :: c57 :: c58 :: c59 :: c60 :: c61 :: c62 :: c63 :: c64 :: c65 :: c66 :: c67 :: c68 :: c69 :: c70 :: c71 :: c72 :: c73 :: c74 :: c75 :: c76 :: c77 :: c78 :: c79 :: c80 :: c81 :: c82 :: c83 :: c84 :: c85 :: c86 :: c87 :: c88 :: c89 :: c90 :: c91 :: c92 :: c93 :: c94 :: c95 :: c96 :: c97 :: c98 :: c99 :: c100 :: c101 :: c102 :: c103 :: c104 :: c105 :: c106 :: c107 :: c108 :: c109 :: c110 :: c111 :: c112 :: c113 :: c114 :: c115 :: c116 :: c117 :: c118 :: c119 :: c120 :: c121 :: c122 :: c123 :: c124 :: c125 :: c126 :: c127 :: c128 :: c129 :: c130 :: c131 :: c132 :: c133 :: c134 :: c135 :: c136 :: c137 :: c138 :: c139 :: c140 :: c141 :: c142 :: c143 :: c144 :: c145 :: c146 :: c147 :: c148 :: c149 :: c150 :: c151 :: c152 :: c153 :: c154 :: c155 :: c156 :: c157 :: c158 :: c159 :: c160 :: c161 :: c162 :: c163 :: c164 :: c165 :: c166 :: c167 :: c168 :: c169 :: c170 :: c171 :: c172 :: c173 :: c174 :: c175 :: c176 :: c177 :: c178 :: c179 :: c180 :: c181 :: c182 :: c183 :: c184 :: c185 :: c186 :: c187 :: c188 :: c189 :: c190 :: c191 :: c192 :: c193 :: c194 :: c195 :: c196 :: c197 :: c198 :: c199 :: c200 :: c201 :: c202 :: c203 :: c204 :: c205 :: c206 :: c207 :: c208 :: c209 :: c210 :: c211 :: c212 :: c213 :: c214 :: c215 :: c216 :: c217 :: c218 :: c219 :: c220 :: c221 :: c222 :: c223 :: c224 :: c225 :: c226 :: c227 :: c228 :: c229 :: c230 :: c231 :: c232 :: c233 :: c234 :: c235 :: c236 :: c237 :: c238 :: c239 :: c240 :: c241 :: c242 :: c243 :: c244 :: c245 :: c246 :: c247 :: c248 :: c249 :: c250 :: c251 :: c252 :: c253 :: c254 :: c255 :: c256 :: c257 :: c258 :: c259 :: c260 :: c261 :: c262 :: c263 :: c264 :: c265 :: c266 :: c267 :: c268 :: []), []⟩ ws := by
  have HEX := Lib.hid hexit
  clear hexit
  conv => arg 2; arg 1; whnf
  go_loopw [12, 13, 14] (fun i _ _ wx => ∃ (k : Nat) (M : List Int), 16 ≤ k ∧ k ≤ 64 ∧ i = .int .i64 k ∧ M.length = 64 ∧ M.take k = schedN BB (k - 16) ∧ Blk wx gw 119 (M.map i32).toArray ∧ Fr [gw] ws wx ∧ ∀ z ∈ M, (0 : Int) ≤ z) (fun i _ _ _ => 64 - (intOf i).toNat)
  case atStart => exact ⟨16, M0, by omega, by omega, rfl, hM0, hT0, hB0, Fr.refl _ _, hN0⟩
  case round =>
    clear hM0 hT0 hB0 hN0
    obtain ⟨k, M, hk16, hk, rfl, hM, hTT, hbm, hfm, hnn⟩ := hrel
    have HBM := Lib.hid hbm
    have HFM := Lib.hid hfm
    have HM := Lib.hid hM
    have HTT := Lib.hid hTT
    have HMN := Lib.hid hnn
    clear hbm hfm hM hTT hnn
    by_cases hlt64 : k < 64
    · have hk0 : (0 : Int) ≤ k := by omega
      have hM64 := HM.out
      have c2 := HBM.out.word (i := k - 2) (by omega)
      have c15 := HBM.out.word (i := k - 15) (by omega)
      have n2 : 0 ≤ M.getD (k - 2) 0 := HMN.out _ (by rw [List.getD, List.getElem?_eq_getElem (by omega)]; simp)
      have n15 : 0 ≤ M.getD (k - 15) 0 := HMN.out _ (by rw [List.getD, List.getElem?_eq_getElem (by omega)]; simp)
      have e2 : ((k : Int) - 2).toNat = k - 2 := by omega
      have e15 : ((k : Int) - 15).toNat = k - 15 := by omega
      have HX : Hid (nextW (M.take k) = (sig1 (M.getD (k - 2) 0) + M.getD (k - 7) 0 + sig0 (M.getD (k - 15) 0) + M.getD (k - 16) 0) % 4294967296) := Lib.hid (by
        unfold nextW
        have hl : (M.take k).length = k := by rw [List.length_take]; omega
        have hg : ∀ j, j < k → (M.take k).getD j 0 = M.getD j 0 := fun j hj => by simp [List.getD, hj]
        simp only [hl]
        rw [hg _ (by omega), hg _ (by omega), hg _ (by omega), hg _ (by omega)])
      have c7 := HBM.out.word (i := k - 7) (by omega)
      have c16 := HBM.out.word (i := k - 16) (by omega)
      have hS : ∀ z : Int, (wr.setCell ⟨gw, k, none⟩ (.int .u32 z)).cell? ⟨gw, k - 16, none⟩ = some (.int .u32 (M.getD (k - 16) 0)) ∧ (wr.setCell ⟨gw, k, none⟩ (.int .u32 z)).cell? ⟨gw, k - 7, none⟩ = some (.int .u32 (M.getD (k - 7) 0)) := fun z => by
        have h16 := (HBM.out.setWord k z).word (i := k - 16) (by rw [List.length_set]; omega)
        have h7 := (HBM.out.setWord k z).word (i := k - 7) (by rw [List.length_set]; omega)
        rw [List.getD, List.getElem?_set_ne (by omega)] at h16 h7
        exact ⟨h16, h7⟩
      have HS := Lib.hid hS
      clear hS
      generalize M.getD (k - 2) 0 = x2 at *
      generalize M.getD (k - 15) 0 = x15 at *
      generalize M.getD (k - 7) 0 = x7 at *
      generalize M.getD (k - 16) 0 = x16 at *
      have C7 := Lib.hid c7
      have C16 := Lib.hid c16
      clear c7 c16 hM64
      go_wp2
      go_quiet (fail)
      clear c2 c15 e2 e15
      have hwy : ∃ wy, wy = wr.drewN nq := ⟨_, rfl⟩
      obtain ⟨wy, hwy⟩ := hwy
      have c7 : wy.cell? ⟨gw, k - 7, none⟩ = some (.int .u32 x7) := by rw [hwy]; exact C7.out
      have c16 : wy.cell? ⟨gw, k - 16, none⟩ = some (.int .u32 x16) := by rw [hwy]; exact C16.out
      have HBMy := Lib.hid (HBM.out.drewN nq)
      have HFMy := Lib.hid (HFM.out.drewN nq)
      have HSy : Hid (∀ z : Int, (wy.setCell ⟨gw, k, none⟩ (.int .u32 z)).cell? ⟨gw, k - 16, none⟩ = some (.int .u32 x16) ∧ (wy.setCell ⟨gw, k, none⟩ (.int .u32 z)).cell? ⟨gw, k - 7, none⟩ = some (.int .u32 x7)) := Lib.hid (by rw [hwy]; exact HS.out)
      rw [← hwy] at HBMy HFMy ⊢
      clear hwy HBM HFM C7 C16 HS
      have g16 : (16 : Int) ≤ k := by omega
      have g7 : (7 : Int) ≤ k := by omega
      have g80 : (k : Int) < 80 := by omega
      have g71 : (k : Int) < 71 := by omega
      have hcm := HBMy.out.word (i := k) (by have := HM.out; omega)
      have hzm := HBMy.out.frozen k
      have p7 : (0 : Int) ≤ (k : Int) - 7 := by omega
      have p16 : (0 : Int) ≤ (k : Int) - 16 := by omega
      have r7 : (k : Int) - 7 < 64 := by omega
      have r16 : (k : Int) - 16 < 64 := by omega
      have r0 : (k : Int) < 64 := by omega
      have e7 : ((k : Int) - 7).toNat = k - 7 := by omega
      have e16 : ((k : Int) - 16).toNat = k - 16 := by omega
      have q1 : (1 : Int) ≤ 7 ∧ (7 : Int) ≤ 31 := by omega
      have t1 := turn_w x15 7 n15 (by omega) (by omega)
      have t2 := turn_w x15 18 n15 (by omega) (by omega)
      have t3 := turn_w x2 17 n2 (by omega) (by omega)
      have t4 := turn_w x2 19 n2 (by omega) (by omega)
      have TT1 := Lib.hid t1
      have TT2 := Lib.hid t2
      have TT3 := Lib.hid t3
      have TT4 := Lib.hid t4
      clear t1 t2 t3 t4 q1
      have w7 : IntKind.i64.wrap ((k : Int) - 7) = (k : Int) - 7 := IntWalk.i64_in _ (by omega)
      have w16 : IntKind.i64.wrap ((k : Int) - 16) = (k : Int) - 16 := IntWalk.i64_in _ (by omega)
      go_wp2_with fail
      go_region_held3 (fun w' => w'.cell? ⟨gw, k - 16, none⟩ = some (.int .u32 x16) ∧ w'.cell? ⟨gw, k - 7, none⟩ = some (.int .u32 x7))
        (first | exact HSy.out _ | exact ⟨(HSy.out _).1, (HSy.out _).2⟩ | go_keep)
        ((first
          | (go_at_call 63; ((with_reducible refine (TT1.out _).mono ?_); rintro e w' ⟨rfl, rfl⟩))
          | (go_at_call 63; ((with_reducible refine (TT2.out _).mono ?_); rintro e w' ⟨rfl, rfl⟩))
          | (go_at_call 63; ((with_reducible refine (TT3.out _).mono ?_); rintro e w' ⟨rfl, rfl⟩))
          | (go_at_call 63; ((with_reducible refine (TT4.out _).mono ?_); rintro e w' ⟨rfl, rfl⟩))))
      clear c7 c16 e7 e16 w7 w16 p7 p16 r7 r16 hcm hzm g16 g7 g80 g71
      go_wp2
      go_roundw
      case rel =>
        have hxx : ∀ x, x = nextW (M.take k) → Blk ((wy.setCell ⟨gw, k, none⟩ (.int .u32 x)).drew) gw 119 ((M.set k (nextW (M.take k))).map i32).toArray := fun x hx => by rw [hx]; exact (HBMy.out.setWord k _).drew
        refine ⟨k + 1, M.set k (nextW (M.take k)), by omega, by omega, by go_num, by rw [List.length_set]; exact HM.out, ?_, hxx _ ?_, (HFMy.out.setCell _ (fun _ => by simp) _).drew, nn_set HMN.out k (by rw [HX.out]; omega)⟩
        · rw [show k + 1 - 16 = (k - 16) + 1 by omega]
          show _ = schedN BB (k - 16) ++ [nextW (schedN BB (k - 16))]
          rw [List.take_add_one, List.take_set_of_le (Nat.le_refl k), List.getElem?_set_self (by have := HM.out; omega), HTT.out]
          rfl
        · rw [HX.out]
          unfold sig0 sig1
          first
            | omega
            | (simp only [IntKind.wrap_u32']
               omega)
      case measure => simp [intOf]; omega
    · have hk3 : k = 64 := by omega
      have hMS : M = sched BB := by
        have e := HTT.out
        rw [hk3, List.take_of_length_le (by have := HM.out; omega)] at e
        exact e
      have hk64 : (64 : Int) ≤ k := by omega
      have hd64 : decide ((k : Int) < 64) = false := by simp; omega
      have HBW : Hid (Blk wr gw 119 ((sched BB).map i32).toArray ∧ (sched BB).length = 64) := Lib.hid (by rw [← hMS]; exact ⟨HBM.out, HM.out⟩)
      clear hMS hk3 hlt64
      go_wp2_with fail
      exact HEX.out _ _ _ _ _ _ _ _ _ _ _ _ _ _ _ _ _ _ _ _ _ _ _ _ _ _ _ _ _ _ _ _ _ _ _ _ _ _ _ _ _ _ _ _ _ HBW.out.1 HFM.out HBW.out.2
end Go.Proofs.Ytlkhfhhaallhgaa
