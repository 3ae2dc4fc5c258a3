/- gavelref01's Sum: loop 5 as a declaration of its own. -/
import Derived.Test.YtlkhfhhaallhgaaShaT
namespace Go.Proofs.Ytlkhfhhaallhgaa
set_option maxRecDepth 100000
open Go.RowKit
set_option linter.unusedVariables false in
set_option maxRecDepth 100000 in
set_option maxHeartbeats 20000000 in
theorem loop5 (g3 gw gv : Nat) (W : List Int) (st : St) (HNN : Hid (st.Nn)) (HWL : Hid (W.length = 64)) (ws : World) (HBV1 : Hid (Blk ws gv 121 (st.list.map i32).toArray)) (HB3d : Hid (Blk ws g3 119 (kay.map i32).toArray)) (HBWd : Hid (Blk ws gw 119 (W.map i32).toArray)) (hg3 : g3 < gv) (hgw : gw < gv)
    {c0 c1 c2 c4 c5 c6 c7 c8 c10 c11 c12 c13 c14 c17 c18 c19 c20 c21 c22 c23 c24 c25 c26 c27 c28 c29 c30 c31 c32 c33 c34 c35 c36 c37 c38 c39 c40 c41 c42 c43 c44 c45 c46 c47 c48 c49 c50 c51 c52 c53 c54 c55 c56 c57 c58 c59 c60 c61 c62 c63 c64 c65 c66 c67 c68 c69 c70 c71 c72 c73 c74 c75 c76 c77 c78 c79 c80 c81 c82 c83 c84 c85 c86 c87 c88 c89 c90 c91 c92 c93 c94 c95 c96 c97 c98 c99 c100 c101 c102 c103 c104 c105 c106 c107 c108 c109 c110 c111 c112 c113 c114 c115 c116 c117 c118 c119 c120 c121 c122 c123 c124 c125 c126 c127 c128 c129 c130 c131 c132 c133 c134 c135 c136 c137 c138 c139 c140 c141 c142 c143 c144 c145 c146 c147 c148 c149 c150 c151 c152 c153 c154 c155 c156 c157 c158 c159 c160 c161 c162 c163 c164 c165 c166 c167 c168 c169 c170 c171 c172 c173 c174 c175 c176 c177 c178 c179 c180 c181 c182 c183 c184 c185 c186 c187 c188 c189 c190 c191 c192 c193 c194 c195 c196 c197 c198 c199 c200 c201 c202 c203 c204 c205 c206 c207 c208 c209 c210 c211 c212 c213 c214 c215 c216 c217 c218 c219 c220 c221 c222 c223 c224 c225 c226 c227 c228 c229 c230 c231 c232 c233 c234 c235 c236 c237 c238 c239 c240 c241 c242 c243 c244 c245 c246 c247 c248 c249 c250 c251 c252 c253 c254 c255 c256 c257 c258 c259 c260 c261 c262 c263 c264 c265 c266 c267 c268 : Value} {Q : Exit → Act → World → Prop}
    (hexit : ∀ (u16 u17 u18 u19 u20 u136 u137 u138 u139 u140 u141 u142 u143 u144 u145 u146 u147 u148 u149 u150 u151 u152 u153 u154 u155 u156 u157 u158 u159 u160 u161 u162 u163 u164 u165 u166 u167 u168 u169 u170 u171 u172 u173 u174 u175 u176 u177 u178 u179 u180 u181 u182 u183 u184 u185 u186 u187 u188 u189 u190 u191 u192 u193 u194 u195 u196 u197 u198 u199 u200 u201 u202 u203 u204 u205 u206 u207 u208 u209 u210 u211 u212 u213 u214 u215 u216 u217 : Value) (w' : World), Blk w' gv 121 ((rnds W st 64).list.map i32).toArray → Fr [gv] ws w' → Q (.exit 10) ⟨List.toArray (c0 :: c1 :: c2 :: (.pointer (some ⟨g3, 0, none⟩)) :: c4 :: c5 :: c6 :: c7 :: c8 :: (.pointer (some ⟨gw, 0, none⟩)) :: c10 :: c11 :: c12 :: c13 :: c14 :: (.pointer (some ⟨gv, 0, none⟩)) :: u16 :: u17 :: u18 :: u19 :: u20 :: c21 :: c22 :: c23 :: c24 :: c25 :: c26 :: c27 :: c28 :: c29 :: c30 :: c31 :: c32 :: c33 :: c34 :: c35 :: c36 :: c37 :: c38 :: c39 :: c40 :: c41 :: c42 :: c43 :: c44 :: c45 :: c46 :: c47 :: c48 :: c49 :: c50 :: c51 :: c52 :: c53 :: c54 :: c55 :: c56 :: c57 :: c58 :: c59 :: c60 :: c61 :: c62 :: c63 :: c64 :: c65 :: c66 :: c67 :: c68 :: c69 :: c70 :: c71 :: c72 :: c73 :: c74 :: c75 :: c76 :: c77 :: c78 :: c79 :: c80 :: c81 :: c82 :: c83 :: c84 :: c85 :: c86 :: c87 :: c88 :: c89 :: c90 :: c91 :: c92 :: c93 :: c94 :: c95 :: c96 :: c97 :: c98 :: c99 :: c100 :: c101 :: c102 :: c103 :: c104 :: c105 :: c106 :: c107 :: c108 :: c109 :: c110 :: c111 :: c112 :: c113 :: c114 :: c115 :: c116 :: c117 :: c118 :: c119 :: c120 :: c121 :: c122 :: c123 :: c124 :: c125 :: c126 :: c127 :: c128 :: c129 :: c130 :: c131 :: c132 :: c133 :: c134 :: c135 :: u136 :: u137 :: u138 :: u139 :: u140 :: u141 :: u142 :: u143 :: u144 :: u145 :: u146 :: u147 :: u148 :: u149 :: u150 :: u151 :: u152 :: u153 :: u154 :: u155 :: u156 :: u157 :: u158 :: u159 :: u160 :: u161 :: u162 :: u163 :: u164 :: u165 :: u166 :: u167 :: u168 :: u169 :: u170 :: u171 :: u172 :: u173 :: u174 :: u175 :: u176 :: u177 :: u178 :: u179 :: u180 :: u181 :: u182 :: u183 :: u184 :: u185 :: u186 :: u187 :: u188 :: u189 :: u190 :: u191 :: u192 :: u193 :: u194 :: u195 :: u196 :: u197 :: u198 :: u199 :: u200 :: u201 :: u202 :: u203 :: u204 :: u205 :: u206 :: u207 :: u208 :: u209 :: u210 :: u211 :: u212 :: u213 :: u214 :: u215 :: u216 :: u217 :: c218 :: c219 :: c220 :: c221 :: c222 :: c223 :: c224 :: c225 :: c226 :: c227 :: c228 :: c229 :: c230 :: c231 :: c232 :: c233 :: c234 :: c235 :: c236 :: c237 :: c238 :: c239 :: c240 :: c241 :: c242 :: c243 :: c244 :: c245 :: c246 :: c247 :: c248 :: c249 :: c250 :: c251 :: c252 :: c253 :: c254 :: c255 :: c256 :: c257 :: c258 :: c259 :: c260 :: c261 :: c262 :: c263 :: c264 :: c265 :: c266 :: c267 :: c268 :: []), []⟩ w') :
    Code.wp Try.prog (.loop (refBody 5)) Q ⟨List.toArray (c0 :: c1 :: c2 :: (.pointer (some ⟨g3, 0, none⟩)) :: c4 :: c5 :: c6 :: c7 :: c8 :: (.pointer (some ⟨gw, 0, none⟩)) :: c10 :: c11 :: c12 :: c13 :: c14 :: (.pointer (some ⟨gv, 0, none⟩)) :: (.int .i64 0) :: c17 :: c18 :: c19 :: c20 :: c21 :: c22 :: c23 :: c24 :: c25 :: c26 :: c27 :: c28 :: c29 :: c30 :: c31 :: c32 :: c33 :: c34 :: c35 :: c36 :: c37 :: c38 :: c39 :: c40 :: c41 :: c42 :: c43 :: c44 :: c45 :: c46 :: c47 :: c48 :: c49 :: c50 :: c51 :: c52 :: c53 :: c54 :: c55 :: c56 :: c57 :: c58 :: c59 :: c60 :: c61 :: c62 :: c63 :: c64 :: c65 :: c66 :: c67 :: c68 :: c69 :: c70 :: c71 :: c72 :: c73 :: c74 :: c75 :: c76 :: c77 :: c78 :: c79 :: c80 :: c81 :: c82 :: c83 :: c84 :: c85 :: c86 :: c87 :: c88 :: c89 :: c90 :: c91 :: c92 :: c93 :: c94 :: c95 :: c96 :: c97 :: c98 :: c99 :: c100 :: c101 :: c102 :: c103 :: c104 :: c105 :: c106 :: c107 :: c108 :: c109 :: c110 :: c111 :: c112 :: c113 :: c114 :: c115 :: c116 :: c117 :: c118 :: c119 :: c120 :: c121 :: c122 :: c123 :: c124 :: c125 :: c126 :: c127 :: c128 :: c129 :: c130 :: c131 :: c132 :: c133 :: c134 :: c135 :: c136 :: c137 :: c138 :: c139 :: c140 :: c141 :: c142 :: c143 :: c144 :: c145 :: c146 :: c147 :: c148 :: c149 :: c150 :: c151 :: c152 :: c153 :: c154 :: c155 :: c156 :: c157 :: c158 :: c159 :: c160 :: c161 :: c162 :: c163 :: c164 :: c165 :: c166 :: c167 :: c168 :: c169 :: c170 :: c171 :: c172 :: c173 :: c174 :: c175 :: c176 :: c177 :: c178 :: c179 :: c180 :: c181 :: c182 :: c183 :: c184 :: c185 :: c186 :: c187 :: c188 :: c189 :: c190 :: c191 :: c192 :: c193 :: c194 :: c195 :: c196 :: c197 :: c198 :: c199 :: c200 :: c201 :: c202 :: c203 :: c204 :: c205 :: c206 :: c207 :: c208 :: c209 :: c210 :: c211 :: c212 :: c213 :: c214 :: c215 :: c216 :: c217 :: c218 :: c219 :: c220 :: c221 :: c222 :: c223 :: c224 :: c225 :: c226 :: c227 :: c228 :: c229 :: c230 :: c231 :: c232 :: c233 :: c234 :: c235 :: c236 :: c237 :: c238 :: c239 :: c240 :: c241 :: c242 :: c243 :: c244 :: c245 :: c246 :: c247 :: c248 :: c249 :: c250 :: c251 :: c252 :: c253 :: c254 :: c255 :: c256 :: c257 :: c258 :: c259 :: c260 :: c261 :: c262 :: c263 :: c264 :: c265 :: c266 :: c267 :: c268 :: []), []⟩ ws := by
  have HEX := Lib.hid hexit
  clear hexit
  conv => arg 2; arg 1; whnf
  go_loopw [16, 17, 18, 19, 20] (fun i _ _ _ _ wx => ∃ (k : Nat), k ≤ 64 ∧ i = .int .i64 k ∧ Blk wx gv 121 ((rnds W st k).list.map i32).toArray ∧ Fr [gv] ws wx) (fun i _ _ _ _ _ => 64 - (intOf i).toNat)
  case atStart => exact ⟨0, by omega, rfl, HBV1.out, Fr.refl _ _⟩
  case round =>
    obtain ⟨k, hk, rfl, hbx, hfx⟩ := hrel
    have HBX := Lib.hid hbx
    have HFX := Lib.hid hfx
    clear hbx hfx
    by_cases hlt : k < 64
    · have hR : rnds W st (k + 1) = rnd (rnds W st k) (kay.getD k 0) (W.getD k 0) := rfl
      have hN := rnds_nn HNN.out W k
      have HKc : Hid (wr.cell? ⟨g3, k, none⟩ = some (.int .u32 (kay.getD k 0)) ∧ wr.cell? ⟨gw, k, none⟩ = some (.int .u32 (W.getD k 0))) :=
        Lib.hid ⟨(HB3d.out.keep HFX.out (by simp; omega)).word (i := k) (by rw [kay_len]; exact hlt), (HBWd.out.keep HFX.out (by simp; omega)).word (i := k) (by rw [HWL.out]; exact hlt)⟩
      generalize rnds W st k = s at *
      generalize kay.getD k 0 = kk at *
      generalize W.getD k 0 = ww at *
      have HRR := Lib.hid hR
      have ha := hN.a
      have he := hN.e
      have d0 : wr.cell? ⟨gv, 0, none⟩ = some (.int .u32 s.a) := HBX.out.cell 0
      have d4 : wr.cell? ⟨gv, 4, none⟩ = some (.int .u32 s.e) := HBX.out.cell 4
      have hk0 : (0 : Int) ≤ k := by omega
      have hk64 : (k : Int) < 64 := by omega
      clear hR hN
      go_wp2
      go_quiet (fail)
      clear d0 d4
      obtain ⟨wa, hwa⟩ : ∃ wa, wa = wr.drewN nq := ⟨_, rfl⟩
      rw [← hwa]
      have HBa : Hid (Blk wa gv 121 (s.list.map i32).toArray ∧ Fr [gv] ws wa ∧ wa.cell? ⟨g3, k, none⟩ = some (.int .u32 kk) ∧ wa.cell? ⟨gw, k, none⟩ = some (.int .u32 ww)) := Lib.hid (by rw [hwa]; exact ⟨HBX.out.drewN nq, HFX.out.drewN nq, HKc.out.1, HKc.out.2⟩)
      clear hwa HBX HFX HKc
      go_wp2_with fail
      go_cut [19] from 144 to 173 (fun v wx => v = .int .u32 (tee1 s kk ww) ∧ Blk wx gv 121 (s.list.map i32).toArray ∧ Fr [gv] ws wx)
      case first =>
        have d5 : wa.cell? ⟨gv, 5, none⟩ = some (.int .u32 s.f) := HBa.out.1.cell 5
        have d6 : wa.cell? ⟨gv, 6, none⟩ = some (.int .u32 s.g) := HBa.out.1.cell 6
        have d7 : wa.cell? ⟨gv, 7, none⟩ = some (.int .u32 s.h) := HBa.out.1.cell 7
        have dk := HBa.out.2.2.1
        have dw := HBa.out.2.2.2
        go_quiet ((go_at_call 63; exact Calls.quiet_of_same (turn_any _ _ he (by omega) (by omega) _)))
        go_wp2_with fail
        go_meet
        exact ⟨rfl, HBa.out.1.drewN nq, HBa.out.2.1.drewN nq⟩
      case rest =>
        obtain ⟨rfl, hbc, hfc⟩ := hcut
        have HBc := Lib.hid hbc
        have HFc := Lib.hid hfc
        clear hbc hfc HBa
        generalize ht1 : tee1 s kk ww = t1
        have HT1 := Lib.hid ht1
        clear ht1
        go_wp2_with fail
        go_cut [20] from 174 to 197 (fun v wx => v = .int .u32 (tee2 s) ∧ Blk wx gv 121 (s.list.map i32).toArray ∧ Fr [gv] ws wx)
        case first =>
          have d1 := HBc.out.cell 1
          have d2 := HBc.out.cell 2
          change _ = some (Value.int IntKind.u32 s.b) at d1
          change _ = some (Value.int IntKind.u32 s.c) at d2
          go_quiet ((go_at_call 63; exact Calls.quiet_of_same (turn_any _ _ ha (by omega) (by omega) _)))
          go_wp2_with fail
          go_meet
          exact ⟨rfl, HBc.out.drewN nq, HFc.out.drewN nq⟩
        case rest =>
          obtain ⟨rfl, hbe, hfe⟩ := hcut
          have HBe := Lib.hid hbe
          have HFe := Lib.hid hfe
          clear hbe hfe HBc HFc
          generalize ht2 : tee2 s = t2
          have HT2 := Lib.hid ht2
          clear ht2 ha he
          have hrnd : rnd s kk ww = ⟨(t1 + t2) % 4294967296, s.a, s.b, s.c, (s.d + t1) % 4294967296, s.e, s.f, s.g⟩ := by unfold rnd add32; rw [HT1.out, HT2.out]
          have HRN := Lib.hid hrnd
          clear hrnd
          have d0 := HBe.out.cell 0
          have d1 := HBe.out.cell 1
          have d2 := HBe.out.cell 2
          have d3 := HBe.out.cell 3
          have d4 := HBe.out.cell 4
          have d5 := HBe.out.cell 5
          have d6 := HBe.out.cell 6
          change _ = some (Value.int IntKind.u32 s.a) at d0
          change _ = some (Value.int IntKind.u32 s.b) at d1
          change _ = some (Value.int IntKind.u32 s.c) at d2
          change _ = some (Value.int IntKind.u32 s.d) at d3
          change _ = some (Value.int IntKind.u32 s.e) at d4
          change _ = some (Value.int IntKind.u32 s.f) at d5
          change _ = some (Value.int IntKind.u32 s.g) at d6
          go_wp2_with (with_reducible refine stopAt 217 ?_)
          refine Stop.go ?_
          refine wpList_buildTo rfl 121 _ rfl (some 217) rfl (#[.int .u32 ((t1 + t2) % 4294967296), .int .u32 s.a, .int .u32 s.b, .int .u32 s.c, .int .u32 ((s.d + t1) % 4294967296), .int .u32 s.e, .int .u32 s.f, .int .u32 s.g]) (by kernel_rfl) ?_
          refine wpList_store_rowTo rfl 121 (.tmp 15) (.tmp 217) rfl rfl gv (#[.int .u32 ((t1 + t2) % 4294967296), .int .u32 s.a, .int .u32 s.b, .int .u32 s.c, .int .u32 ((s.d + t1) % 4294967296), .int .u32 s.e, .int .u32 s.f, .int .u32 s.g]) rfl rfl 121 (s.list.map i32).toArray HBe.out (by rw [words8_size]; rfl) rfl (by kernel_rfl) ?_
          clear d0 d1 d2 d3 d4 d5 d6
          have hbz : Blk (wc.setRow gv (#[.int .u32 ((t1 + t2) % 4294967296), .int .u32 s.a, .int .u32 s.b, .int .u32 s.c, .int .u32 ((s.d + t1) % 4294967296), .int .u32 s.e, .int .u32 s.f, .int .u32 s.g])) gv 121 ((rnd s kk ww).list.map i32).toArray := by rw [HRN.out]; exact setRow_blk HBe.out _
          have hfz : Fr [gv] ws (wc.setRow gv (#[.int .u32 ((t1 + t2) % 4294967296), .int .u32 s.a, .int .u32 s.b, .int .u32 s.c, .int .u32 ((s.d + t1) % 4294967296), .int .u32 s.e, .int .u32 s.f, .int .u32 s.g])) := HFe.out.trans (setRow_fr _ _ _) (fun _ h _ => h)
          generalize wc.setRow gv (#[.int .u32 ((t1 + t2) % 4294967296), .int .u32 s.a, .int .u32 s.b, .int .u32 s.c, .int .u32 ((s.d + t1) % 4294967296), .int .u32 s.e, .int .u32 s.f, .int .u32 s.g]) = wz at *
          have HBZ := Lib.hid hbz
          have HFZ := Lib.hid hfz
          clear hbz hfz
          go_wp2
          go_roundw
          case rel => exact ⟨k + 1, by omega, by go_num, by rw [HRR.out]; exact HBZ.out, HFZ.out⟩
          case measure => simp [intOf]; omega
    · have hk3 : k = 64 := by omega
      have HBE : Hid (Blk wr gv 121 ((rnds W st 64).list.map i32).toArray) := Lib.hid (by rw [← hk3]; exact HBX.out)
      have hdk : decide ((k : Int) < 64) = false := by simp; omega
      have hk64 : (64 : Int) ≤ k := by omega
      clear hk3 hlt
      go_wp2_with fail
      exact HEX.out _ _ _ _ _ _ _ _ _ _ _ _ _ _ _ _ _ _ _ _ _ _ _ _ _ _ _ _ _ _ _ _ _ _ _ _ _ _ _ _ _ _ _ _ _ _ _ _ _ _ _ _ _ _ _ _ _ _ _ _ _ _ _ _ _ _ _ _ _ _ _ _ _ _ _ _ _ _ _ _ _ _ _ _ _ _ _ _ HBE.out HFX.out
end Go.Proofs.Ytlkhfhhaallhgaa
