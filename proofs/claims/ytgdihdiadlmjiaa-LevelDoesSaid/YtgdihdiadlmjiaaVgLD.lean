import Derived.Test.YtgdihdiadlmjiaaVgLP
import Derived.Test.YtgdihdiadlmjiaaVgLME
set_option linter.all false
namespace Go.Proofs.Ytgdihdiadlmjiaa
open Go Go.Vg
set_option maxRecDepth 10000
def s14 : SC :=
 (.seq (.reg [⟨(some 6),none,.box 49 (.t 2)⟩,⟨(some 7),none,.box 69 (.t 3)⟩,.w5 8 false]) (.seq (.reg [.u0 29 0,.u0 30 1,.u4 31 6 2,(.w1 32 30 [(.t 29),(.t 30),(.t 31)]),.u0 28 32,.u5 33 28 0,.u5 34 28 1,.u0 9 33,.u0 10 34]) (.seq (.seq (.reg [.u0 35 10,.u7 36 .neq 35 (0),.u0 37 36,(.w0 38 37 true (.mov (.t 10))),(.w0 39 37 true (.bin .neq (.t 38) (.c (.int .i64 (4))))),.u8 40 37 39,.u0 41 40,(.w0 42 41 false (.mov (.t 0))),(.w0 43 41 false (.len (.t 42))),⟨(some 44),(some (41,false)),.call (.c (.fn 42 [])) [(.t 43),(.c (.int .i64 (1))),(.c (.int .i64 (10)))]⟩,(.w0 45 41 false (.not (.t 44))),.u9 46 41 45,.u0 47 46,(.w0 48 47 false (.mov (.t 1))),(.w0 49 47 false (.len (.t 48))),(.w0 50 47 false (.mov (.t 0))),(.w0 51 47 false (.len (.t 50))),(.w0 52 47 false (.bin .neq (.t 49) (.t 51))),.u9 53 47 52]) (.cond (.t 53) (.seq (.reg [.u0 54 9,.u7 55 .eql 54 (0),.u0 56 55,⟨(some 57),(some (56,true)),.call (.c (.fn 22 [])) []⟩,.u8 58 56 57,.u0 8 58]) .ret) .skip)) (.seq (.seq (.reg [.u0 59 10,.u7 60 .eql 59 (0)]) (.cond (.t 60) (.seq (.seq (.reg [.u0 61 9,.u0 62 0,.w2 63 62,.u7 64 .sub 63 (1),(.w1 65 42 [(.t 61),(.c (.int .i64 (0))),(.t 64)]),(.w6 66 (.not (.t 65))),.u0 67 66,(.w0 68 67 false (.mov (.t 0))),(.w0 69 67 false (.mov (.t 9))),(.w0 70 67 false (.ixa (.t 68) (.t 69) 8)),(.w0 71 67 false (.load (.t 70) (some 8))),⟨(some 72),(some (67,false)),.call (.c (.fn 33 [])) [(.t 71)]⟩,(.w0 73 67 false (.not (.t 72))),.u9 74 67 73]) (.cond (.t 74) (.seq (.reg [.w5 8 false]) .ret) .skip)) (.seq (.reg [.u0 75 0,.u0 76 9,(.w6 77 (.ixa (.t 75) (.t 76) 8)),.u4 78 77 8,⟨(some 11),none,.new 25 [(.int .i64 (0)),(.int .i64 (0)),(.int .i64 (0)),(.int .i64 (0)),(.int .i64 (0)),(.int .i64 (0)),(.int .i64 (0)),(.int .i64 (0))]⟩,.w3 8 11 78]) (.seq (.drw [(0,.u2 79 11 3,false),(1,.u2 80 79 0,false),(2,.u3 81 80,false),(3,.u2 82 11 3,false),(4,.u2 83 82 1,false),(5,.u3 84 83,false),(6,(.w6 85 (.ixarr (.t 7) (.c (.int .i64 (0))) 5 1)),false),(7,.u3 86 85,false),(8,(.w1 87 40 [(.t 81),(.t 84),(.t 86)]),false),(9,.u2 88 11 5,false),(10,.u2 89 88 0,false),(11,.u3 90 89,false),(12,.u2 91 11 5,false),(13,.u2 92 91 1,false),(14,.u3 93 92,false),(15,(.w6 94 (.ixarr (.t 7) (.c (.int .i64 (1))) 5 1)),false),(16,.u3 95 94,false),(17,(.w1 96 40 [(.t 90),(.t 93),(.t 95)]),false),(18,.u2 97 6 0,false),(19,.u3 98 97,false),(20,(.w6 99 (.neg (.t 98))),false),(21,.u2 100 6 0,false),(22,.u3 101 100,false),(23,(.w6 102 (.ixarr (.t 7) (.c (.int .i64 (2))) 5 1)),false),(24,.u3 103 102,false)] none [(.w1 104 40 [(.t 99),(.t 101),(.t 103)]),.u0 12 87,.u0 13 96,.u0 14 104]) (.seq (.drw [(0,.u0 105 12,false),(1,.u2 106 11 1,false),(2,.u2 107 106 1,false),(3,.u3 108 107,false),(4,.u6 109 .mul 105 108,false),(5,.u0 110 12,false),(6,.u2 111 11 0,false),(7,.u3 112 111,false),(8,(.w6 113 (.bin .mul (.c (.int .i64 (2))) (.t 112))),false),(9,.u2 114 11 1,false),(10,.u2 115 114 1,false),(11,.u3 116 115,false),(12,.u6 117 .sub 113 116,false),(13,.u6 118 .mul 110 117,false),(14,.u0 15 109,false)] none [.u0 16 118]) (.seq (.seq (.reg [.u0 119 13,.u0 120 12,.u6 121 .mul 119 120,.u0 122 14,.u6 123 .add 121 122,.u0 124 15,.u0 125 16,(.w1 126 42 [(.t 123),(.t 124),(.t 125)]),(.w6 127 (.not (.t 126))),.u0 128 127,(.w0 129 128 false (.mov (.t 13))),(.w0 130 128 false (.mov (.t 12))),(.w0 131 128 false (.bin .mul (.t 129) (.t 130))),(.w0 132 128 false (.mov (.t 14))),(.w0 133 128 false (.bin .sub (.t 131) (.t 132))),(.w0 134 128 false (.mov (.t 15))),(.w0 135 128 false (.mov (.t 16))),⟨(some 136),(some (128,false)),.call (.c (.fn 42 [])) [(.t 133),(.t 134),(.t 135)]⟩,(.w0 137 128 false (.not (.t 136))),.u9 138 128 137]) (.cond (.t 138) (.seq (.reg [.w5 8 false]) .ret) .skip)) (.seq (.reg [.u2 139 11 0,.u3 140 139,.u2 141 11 1,.u2 142 141 1,.u3 143 142,.u6 144 .sub 140 143,(.w6 145 (.ixarr (.t 7) (.c (.int .i64 (3))) 5 1)),.u3 146 145,(.w1 147 40 [(.c (.int .i64 (0))),(.t 144),(.t 146)]),.u0 17 147]) (.seq (.reg [.u4 149 11 8,.u0 150 17,.u0 151 17,.u2 152 11 1,.u2 153 152 1,.u3 154 153,.u6 155 .add 151 154,⟨(some 156),none,.bld [(.int .i64 (0)),(.int .i64 (0)),(.lit (.bool false))] [(0,1,(.t 150)),(1,1,(.t 155))]⟩,⟨(some 157),none,.bsl 57 1 [(.int .i64 (0)),(.int .i64 (0)),(.lit (.bool false))] [(0,3,(.t 156))]⟩,(.w1 158 20 [(.t 149),(.t 157)]),.u0 148 158,.u5 159 148 0,.u5 160 148 1,.u5 161 148 2,.w4 18,.w4 19,.w3 2 18 159,.w3 2 19 160,.u0 20 161]) (.seq (.reg [.u0 162 20,.u7 163 .neq 162 (0),.u0 164 163,(.w0 165 164 false (.off (.t 18) 1)),(.w0 166 164 false (.load (.t 165) none)),(.w0 167 164 false (.off (.t 18) 0)),(.w0 168 164 false (.load (.t 167) none)),(.w0 169 164 false (.bin .sub (.t 166) (.t 168))),(.w0 170 164 false (.off (.t 6) 1)),(.w0 171 164 false (.load (.t 170) none)),(.w0 172 164 false (.bin .gtr (.t 169) (.t 171))),.u9 173 164 172]) (.cond (.t 173) (.seq (.reg [.w5 8 false]) .ret) .skip))))))))) .skip)) (.seq (.reg [(.w6 174 (.ixarr (.t 7) (.c (.int .i64 (4))) 5 1)),.u3 175 174,.u0 176 0,.w2 177 176,(.w1 178 34 [(.t 175),(.t 177)]),.u0 21 178]) (.seq (.seq (.drw [(0,.u0 179 10,false),(1,.u7 180 .eql 179 (0),false),(2,.u0 181 180,true),(3,(.w0 182 181 true (.mov (.t 1))),false),(4,(.w0 183 181 true (.mov (.t 21))),false),(5,(.w0 184 181 true (.ixa (.t 182) (.t 183) 1)),false),(6,(.w0 185 181 true (.load (.t 184) none)),false),(7,(.w0 186 181 true (.mov (.t 1))),false),(8,(.w0 187 181 true (.mov (.t 9))),false),(9,(.w0 188 181 true (.ixa (.t 186) (.t 187) 1)),false),(10,(.w0 189 181 true (.load (.t 188) none)),false),(11,(.w0 190 181 true (.bin .gtr (.t 185) (.t 189))),false),(12,(.w0 191 181 true (.mov (.t 190))),true),(13,(.w0 192 191 false (.mov (.t 1))),false),(14,(.w0 193 191 false (.mov (.t 21))),false),(15,(.w0 194 191 false (.ixa (.t 192) (.t 193) 1)),false),(16,(.w0 195 191 false (.load (.t 194) none)),false),(17,(.w0 196 191 false (.mov (.t 1))),false),(18,(.w0 197 191 false (.mov (.t 9))),false),(19,(.w0 198 191 false (.ixa (.t 196) (.t 197) 1)),false),(20,(.w0 199 191 false (.load (.t 198) none)),false),(21,(.w0 200 191 false (.bin .eql (.t 195) (.t 199))),false),(22,(.w0 201 191 false (.mov (.t 200))),true),(23,(.w0 202 201 true (.mov (.t 21))),false),(24,(.w0 203 201 true (.mov (.t 9))),false)] none [(.w0 204 201 true (.bin .geq (.t 202) (.t 203))),(.w0 205 191 false (.pick (.t 201) (.t 204) (.c (.lit (.bool false))))),(.w0 206 181 true (.pick (.t 191) (.c (.lit (.bool true))) (.t 205))),.u8 207 181 206]) (.cond (.t 207) (.seq (.reg [(.w1 208 22 []),.u0 8 208]) .ret) .skip)) (.seq (.reg [.u0 209 0,.u0 210 21,(.w6 211 (.ixa (.t 209) (.t 210) 8)),.u4 212 211 8,⟨(some 22),none,.new 25 [(.int .i64 (0)),(.int .i64 (0)),(.int .i64 (0)),(.int .i64 (0)),(.int .i64 (0)),(.int .i64 (0)),(.int .i64 (0)),(.int .i64 (0))]⟩,.w3 8 22 212]) (.seq (.reg [.u2 213 22 3,.u2 214 213 0,.u3 215 214,.u2 216 22 0,.u3 217 216,(.w6 218 (.bin .mul (.c (.int .i64 (2))) (.t 217))),.u2 219 22 1,.u2 220 219 1,.u3 221 220,.u6 222 .sub 218 221,.u2 223 22 5,.u2 224 223 1,.u3 225 224,.u6 226 .sub 222 225,.u2 227 22 5,.u2 228 227 0,.u3 229 228,.u2 230 22 1,.u2 231 230 1,.u3 232 231,.u6 233 .sub 229 232,(.w6 234 (.min2 (.t 226) (.t 233))),.u6 235 .mul 215 234,.u0 23 235]) (.seq (.seq (.reg [.u0 236 23,.u2 237 6 0,.u3 238 237,.u6 239 .lss 236 238,.u0 240 239,(.w0 241 240 false (.load (.t 22) (some 8))),⟨(some 242),(some (240,false)),.call (.c (.fn 33 [])) [(.t 241)]⟩,(.w0 243 240 false (.not (.t 242))),.u9 244 240 243]) (.cond (.t 244) (.seq (.reg [.u0 245 23,.u2 246 6 0,.u3 247 246,.u6 248 .lss 245 247,.u0 249 248,⟨(some 250),(some (249,true)),.call (.c (.fn 22 [])) []⟩,.u8 251 249 250,.u0 8 251]) .ret) .skip)) (.seq (.reg [.u1 24 (0)]) (.seq (.seq (.reg [.u2 252 22 1,.u2 253 252 1,.u3 254 253,.u0 25 254]) (.block 0 (.loop (.seq (.seq (.reg [.u0 255 25,.u2 256 22 0,.u3 257 256,(.w6 258 (.bin .mul (.c (.int .i64 (2))) (.t 257))),.u2 259 22 1,.u2 260 259 1,.u3 261 260,.u6 262 .sub 258 261,.u6 263 .leq 255 262]) (.cond (.t 263) .skip (.exit 0))) (.seq (.block 1 (.seq (.drw [(0,.u0 266 25,false),(1,.u2 267 22 5,false),(2,.u2 268 267 1,false),(3,.u3 269 268,false),(4,.u6 270 .sub 266 269,false),(5,.u2 271 22 7,false),(6,.u3 272 271,false),(7,.u6 273 .sub 270 272,false),(8,.u0 274 25,false),(9,.u2 275 22 5,false),(10,.u2 276 275 0,false),(11,.u3 277 276,false),(12,.u6 278 .sub 274 277,false),(13,.u2 279 22 7,false),(14,.u3 280 279,false),(15,.u6 281 .add 278 280,false),(16,.u0 26 273,false)] none [.u0 27 281]) (.reg [.u0 282 24,.u0 283 27,.u2 284 22 3,.u2 285 284 0,.u3 286 285,.u6 287 .mul 283 286,.u0 288 27,.u2 289 22 3,.u2 290 289 1,.u3 291 290,.u6 292 .mul 288 291,(.w6 293 (.max2 (.t 287) (.t 292))),.u0 294 26,.u2 295 22 3,.u2 296 295 0,.u3 297 296,.u6 298 .mul 294 297,.u0 299 26,.u2 300 22 3,.u2 301 300 1,.u3 302 301,.u6 303 .mul 299 302,(.w6 304 (.min2 (.t 298) (.t 303))),.u6 305 .sub 293 304,(.w6 306 (.max2 (.t 282) (.t 305))),.u0 24 306]))) (.reg [.u0 264 25,.u7 265 .add 264 (1),.u0 25 265])))))) (.seq (.reg [.u0 307 24,.u2 308 6 1,.u3 309 308,.u6 310 .gtr 307 309,.u0 311 310,⟨(some 312),(some (311,true)),.call (.c (.fn 22 [])) []⟩,.u8 313 311 312,.u0 8 313]) .ret))))))))))))
def r14 : List RV := [.t 8]
theorem k14 : (Try.f14.body.bind (cC Try.prog), cR Try.prog Try.f14.results.toList, Try.f14.ntmps) = (some s14, some r14, 314) := by kernel_rfl
theorem chs_p {V : List Vl} {p : List Int} {r f : Int} : ∀ n : Nat, (chsN V p r f n < 0 → ∀ k, k < n → ¬ doesP (V.getD k v0) r f) ∧
  (0 ≤ chsN V p r f n → doesP (V.getD (chsN V p r f n).toNat v0) r f ∧ ∀ k : Nat, k < n → doesP (V.getD k v0) r f → p.getD (chsN V p r f n).toNat 0 < p.getD k 0 ∨ (p.getD (chsN V p r f n).toNat 0 = p.getD k 0 ∧ chsN V p r f n ≤ k))
 | 0 => ⟨fun _ k hk => absurd hk (Nat.not_lt_zero _), fun h => by simp [chsN] at h⟩
 | n + 1 => by
  obtain ⟨i1, i2⟩ := chs_p (V := V) (p := p) (r := r) (f := f) n
  have hb := chs_b V p r f n
  have key : ∀ {P : Nat → Prop}, (∀ k, k < n → P k) → P n → ∀ k, k < n + 1 → P k := fun h1 h2 k hk => by
   rcases Nat.lt_or_eq_of_le (Nat.le_of_lt_succ hk) with h | rfl
   ·exact h1 k h
   ·exact h2
  by_cases hd : doesP (V.getD n v0) r f ∧ (chsN V p r f n < 0 ∨ p.getD n 0 < p.getD (chsN V p r f n).toNat 0)
  ·have e : chsN V p r f (n + 1) = n := by rw [chsN, if_pos hd]
   rw [e]
   refine ⟨fun h => by omega, fun _ => ⟨by rw [Int.toNat_natCast]; exact hd.1, key (fun k hk hk2 => ?_) fun _ => .inr ⟨by rw [Int.toNat_natCast], Int.le_refl _⟩⟩⟩
   rw [Int.toNat_natCast]
   rcases hd.2 with h | h
   ·exact absurd hk2 (i1 h k hk)
   ·rcases (show chsN V p r f n < 0 ∨ 0 ≤ chsN V p r f n by omega) with h3 | h3
    ·exact absurd hk2 (i1 h3 k hk)
    ·rcases (i2 h3).2 k hk hk2 with h4 | h4
     ·exact .inl (by omega)
     ·exact .inl (by omega)
  ·have e : chsN V p r f (n + 1) = chsN V p r f n := by rw [chsN, if_neg hd]
   rw [e]
   refine ⟨fun h => key (i1 h) fun h2 => hd ⟨h2, .inl h⟩, fun h => ⟨(i2 h).1, key (i2 h).2 fun h2 => ?_⟩⟩
   have h3 : ¬ p.getD n 0 < p.getD (chsN V p r f n).toNat 0 := fun h3 => hd ⟨h2, .inr h3⟩
   rcases Int.lt_or_eq_of_le (Int.not_lt.1 h3) with h4 | h4
   ·exact .inl h4
   ·exact .inr ⟨h4, by omega⟩
theorem in_marks {v : Vl} (hv : v.ok) {r f a z t : Int} (hd : doesP v r f) (ha : v.v1 ≤ a ∧ a ≤ v.v2) (hz : v.z1 ≤ z ∧ z ≤ v.z2) (ht : -r ≤ t ∧ t ≤ r) :
  (a * v.l2 ≤ z * a + t ∧ z * a + t ≤ a * (2 * v.m - v.l2)) ∧ (a * v.l2 ≤ z * a - t ∧ z * a - t ≤ a * (2 * v.m - v.l2)) := by
 have hv2 := hv
 unfold Vl.ok at hv2
 obtain ⟨⟨h1, h2⟩, h3, _⟩ := hd
 have l1 : v.v1 * min (2 * v.m - v.l2 - v.z2) (v.z1 - v.l2) ≤ v.v1 * (v.z1 - v.l2) := Int.mul_le_mul_of_nonneg_left (by omega) (by omega)
 have l2 : v.v1 * min (2 * v.m - v.l2 - v.z2) (v.z1 - v.l2) ≤ v.v1 * (2 * v.m - v.l2 - v.z2) := Int.mul_le_mul_of_nonneg_left (by omega) (by omega)
 have m1 : v.v1 * (v.z1 - v.l2) ≤ a * (v.z1 - v.l2) := Int.mul_le_mul_of_nonneg_right ha.1 (by omega)
 have m2 : v.v1 * (2 * v.m - v.l2 - v.z2) ≤ a * (2 * v.m - v.l2 - v.z2) := Int.mul_le_mul_of_nonneg_right ha.1 (by omega)
 have n1 : a * (v.z1 - v.l2) ≤ a * (z - v.l2) := Int.mul_le_mul_of_nonneg_left (by omega) (by omega)
 have n2 : a * (2 * v.m - v.l2 - v.z2) ≤ a * (2 * v.m - v.l2 - z) := Int.mul_le_mul_of_nonneg_left (by omega) (by omega)
 have e1 : a * (z - v.l2) = z * a - a * v.l2 := by rw [Int.mul_sub, Int.mul_comm a z]
 have e2 : a * (2 * v.m - v.l2 - z) = a * (2 * v.m - v.l2) - z * a := by rw [Int.mul_sub a (2 * v.m - v.l2) z, Int.mul_comm a z]
 omega
theorem one_ok {v : Vl} (hv : v.ok) {l : Int} (hl : 0 ≤ l ∧ l ≤ v.m - v.l2) : okRs v [(l, l + v.l2, false)] := by
 unfold Vl.ok at hv
 refine ⟨by simp, fun e he => ?_⟩
 simp only [List.mem_singleton] at he
 subst he
 unfold okR
 simp only
 omega
theorem one_wid {v : Vl} (hv : v.ok) {l : Int} (hl : 0 ≤ l ∧ l ≤ v.m - v.l2) : trM v [(l, l + v.l2, false)] ≠ noT ∧ (trM v [(l, l + v.l2, false)]).1.2 - (trM v [(l, l + v.l2, false)]).1.1 ≤ flt v := by
 have hv2 := hv
 unfold Vl.ok at hv2
 have hR := one_ok hv hl
 have t1 := tz_1 hv (k := l + (l + v.l2)) (by omega)
 have hL : okL [(l + (l + v.l2), false)] := ⟨by simp, fun e he => by simp only [List.mem_singleton] at he; subst he; simp only; omega⟩
 have t2 := (tz_trL hv hL).1 t1.1
 have e : trM v [(l, l + v.l2, false)] = trA v (midL v.w [(l + (l + v.l2), false)]).ev := by unfold trM; rw [mid_eq]; rfl
 rw [e, t2.1]
 refine ⟨by rw [← t2.1]; exact t2.2.1, ?_⟩
 have hg := (flt_ge hv (2 * v.m + 1 - 2 * v.l2).toNat (by omega)).2 (2 * l).toNat (by omega)
 rw [show v.l2 + ((2 * l).toNat : Int) = l + (l + v.l2) by omega] at hg
 simp only [tzP]
 rw [t1.2.1, t1.2.2]
 exact hg
theorem loop_atc {N : Nat} {Γ : Gm} {Γq : Nat → Option FC} {K : Exit → St → Prop} {G : Type} {c : SC} {fr : List SV} {hp : List Blk} (ch : G → List (Nat × SV)) (p : G → Prop) (m : G → Nat) (g0 : G) (h0 : p g0)
  (hb : ∀ fr', forget fr (dstC c []) = fr' → Lw N ⟨fr, hp⟩ ⟨sts fr' (ch g0), hp⟩ ∧
   ∀ g, p g → exec N Γ Γq c (loopK K (Nx N (fun g => ⟨sts fr' (ch g), hp⟩) p m (m g))) ⟨sts fr' (ch g), hp⟩) : LoopP N (exec N Γ Γq c) K ⟨fr, hp⟩ := loop_at2 ch (fun _ => hp) p m g0 h0 hb
def frW : List SV → List SV → Prop
 | [], [] => True
 | x :: a, y :: b => (y = .any ∨ x = y) ∧ frW a b
 | _, _ => False
theorem frW_ok {E : Env} : ∀ {fr fr' : List SV} {vs : List Value}, frW fr fr' → Rvs E fr vs → Rvs E fr' vs
  | [], [], _, _, .nil => .nil
  | x :: a, y :: b, _, h, .cons _ v _ vs hx hs => .cons _ _ _ _ (by
      rcases h.1 with rfl | rfl
      · exact .any v
      · exact hx) (frW_ok h.2 hs)
  | [], _ :: _, _, h, _ => h.elim
  | _ :: _, [], _, h, _ => h.elim
theorem Lw_fr {N : Nat} {fr fr' : List SV} {hp : List Blk} (h : frW fr fr') : Lw N ⟨fr, hp⟩ ⟨fr', hp⟩ := fun E a hN hn hr => ⟨E, Env.Le.xt (.refl E) hn, rfl, ⟨frW_ok h hr.fr, hr.hp, hr.df⟩⟩
def C14 : PC := fun args K => ∃ (V : List Vl) (p : List Int) (r f a1 a2 a3 a4 a5 : Int), args = [.rd 8 V.length (rowV V), .ints .i64 p, .agg [.int .i64 r, .int .i64 f], .agg [.int .i64 a1, .int .i64 a2, .int .i64 a3, .int .i64 a4, .int .i64 a5]] ∧ K (.bool true)
set_option maxHeartbeats 16000000 in
theorem p14 (p22 : PureOk Try.prog 22 (fcC F22)) (q22 : Known Try.prog 22) : PureOk Try.prog 14 C14 := by
 refine pure_of (T := [(30, .pc C31), (33, .fc F33), (40, .fc F40), (42, .fc F42), (20, .pc C20.le), (34, .fc F34), (22, .fc F22)]) ⟨⟨p30 p100, q30⟩, ⟨p33, q33⟩, ⟨p40, q40⟩, ⟨p42, q42⟩, ⟨p20.le, q20⟩, ⟨p34, q34⟩, ⟨p22, q22⟩, trivial⟩ Try.func14 k14 ?_
 rintro args K ⟨V, p, r, f, a1, a2, a3, a4, a5, rfl, hK⟩
 have n34 : ((34 : Int) = 0) = False := eq_false (by decide)
 have n344 : ((34 : Int) = 4) = False := eq_false (by decide)
 have n40 : ((4 : Int) = 0) = False := eq_false (by decide)
 simp only [e_reg, e_seq, o_nil, o_cons, gd_none, putK_e, runK_e, vK_e, boxK_e, conK_e, callK_e, evh_v, evh_box, evh_call, seqK_n, gam_e, gamK_p, pc_e, pcK_e, evp, gt, st, putf, X.get, gets, ap, mkfr, rep, clV, clL, clS, clo, ld, lda, tk, dr, cs1, gb, pb, ln, lk, undef, Nat.reduceSub, Nat.reduceAdd, beq_self_eq_true, true_and, s14, r14]
 refine ⟨V, p, r, f, rfl, fun h h2 => ?_, fun h h2 => ?_, fun h => ?_⟩
 rotate_left 2
 ·simp only [gdK_btt, gdK_bft, decide_true, decide_false, e_reg, e_seq, e_cond, e_ret, o_nil, o_cons, gd_none, gd_some, gdK_tt, gdK_tf, putK_e, runK_e, skipK_e, vK_e, conK_e, callK_e, evh_v, evh_call, seqK_n, seqK_r, condK_t, ends_r, endK1_e, endK2_e, gam_e, gamK_f, pc_e, pcK_e, fcC_e, fcK_e, evp, bin, gt, gq, st, putf, X.get, gets, ap, rdR, tupled, clV, clL, clS, clo, lk, undef, Bool.not_false, Nat.reduceBEq, beq_self_eq_true, true_and, n34, n344, F22]
  exact res hK (by simp [leR])
 all_goals
  have hs := h
  unfold stkP at hs
  have hl : (1 ≤ (V.length : Int) ∧ (V.length : Int) ≤ 10) = True := eq_true (by omega)
  have hpl : ((p.length : Int) = (V.length : Int)) = True := eq_true (by omega)
 have hcb := chs_b V p r f V.length
 have hcp := (chs_p (V := V) (p := p) (r := r) (f := f) V.length).2 h2
 obtain ⟨i, hi⟩ : ∃ i : Nat, chsN V p r f V.length = i := ⟨(chsN V p r f V.length).toNat, by omega⟩
 rw [hi] at hcb hcp ⊢
 rw [Int.toNat_natCast] at hcp
 have hiv : i < V.length := by omega
 have hv := (hs.2 i hiv).1
 have hin : (0 ≤ (i : Int) ∧ (i : Int) ≤ (V.length : Int) - 1) = True := eq_true (by omega)
 obtain ⟨v, hvd⟩ : ∃ v, V.getD i v0 = v := ⟨_, rfl⟩
 have hrow : rowV V i = v.cells := by unfold rowV; rw [hvd]
 rw [hvd] at hcp hv
 have hv2 := hv
 unfold Vl.ok at hv2
 have hvT : Vl.ok ⟨v.m, v.l1, v.l2, v.v1, v.v2, v.z1, v.z2, v.w⟩ = True := eq_true hv
 simp only [gdK_btf, gdK_bff, condK_bt, condK_bf, decide_true, inr64, e_skip, e_reg, e_seq, e_cond, o_nil, o_cons, gd_none, gd_some, gdK_ft, gdK_ff, putK_e, runK_e, skipK_e, vK_e, conK_e, callK_e, evh_v, evh_call, seqK_n, gam_e, gamK_f, pc_e, pcK_e, fcC_e, fcK_e, evp, bin, gt, gq, st, putf, X.get, gets, ap, clV, clL, clS, clo, lens, lk, undef, Bool.not_true, Nat.reduceBEq, beq_self_eq_true, true_and, F42, hl, hpl]
 refine ⟨by omega, ?_⟩
 simp only [gdK_bff, condK_bf, decide_true, e_skip, e_reg, and_self, e_drw, e_seq, e_cond, o_nil, o_cons, gd_none, gd_some, gdK_ff, putK_e, runK_e, vK_e, storeK3_e, storeK2_e, storeK_e, conK_e, callK_e, evh_v, evh_new, evh_store, evh_call, dX_e, dG_t, d_cons, seqK_n, gam_e, gamK_f, pc_e, pcK_e, fcC_e, fcK_e, evp, gt, gq, st, putf, X.get, gets, ap, clV, clL, clS, clo, ld, lda, ixs, tk, dr, sp, sp.spl, ll, cs1, one, allOne, gb, sb, pb, ln, lk, evq, gdl, Bool.and_true, Bool.not_true, Nat.reduceAdd, Nat.reduceBEq, beq_self_eq_true, true_and, F33, hin, hvT, hrow, Vl.cells, Int.toNat_natCast]
 refine ⟨by omega, by omega, ?_⟩
 obtain ⟨A, hA⟩ : ∃ A, cho v.v1 v.v2 a1 = A := ⟨_, rfl⟩
 obtain ⟨Z, hZ⟩ : ∃ Z, cho v.z1 v.z2 a2 = Z := ⟨_, rfl⟩
 obtain ⟨T, hT⟩ : ∃ T, cho (-r) r a3 = T := ⟨_, rfl⟩
 obtain ⟨L, hL⟩ : ∃ L, cho 0 (v.m - v.l2) a4 = L := ⟨_, rfl⟩
 have bA := cho_in (lo := v.v1) (hi := v.v2) (by omega) a1
 have bZ := cho_in (lo := v.z1) (hi := v.z2) (by omega) a2
 have bT := cho_in (lo := -r) (hi := r) (by omega) a3
 have bL := cho_in (lo := 0) (hi := v.m - v.l2) (by omega) a4
 rw [hA] at bA
 rw [hZ] at bZ
 rw [hT] at bT
 rw [hL] at bL
 have hm := in_marks hv hcp.1 bA bZ bT
 have mk1 := eq_true hm.1
 have mk2 := eq_true hm.2
 have c1 := mul_b (a := A) (x := v.l2) (by omega) (by omega) (by omega) (by omega)
 have c2 := mul_b (a := A) (x := 2 * v.m - v.l2) (by omega) (by omega) (by omega) (by omega)
 have c3 := mul_b (a := A) (x := Z) (by omega) (by omega) (by omega) (by omega)
 rw [Int.mul_comm A Z] at c3
 have hR1 := one_ok hv bL
 have hw := one_wid hv bL
 have hask : askI v [(L, L + v.l2, false)] = 0 := by unfold askI; rw [if_pos hv, if_pos hR1]
 have hb := trM_bnd hv hR1
 have hff := hcp.1.2.2
 simp only [gdK_bff, condK_bf, decide_true, inr64, ↓reduceIte, e_skip, e_reg, e_drw, e_seq, e_cond, o_nil, o_cons, gd_none, gd_some, gdK_ff, putK_e, runK_e, vK_e, bslK_e, bldK_e, conK_e, callK_e, evh_v, evh_bsl, evh_bld, evh_call, dX_e, dG_t, d_nil, d_cons, tlK_n, seqK_n, gam_e, gamK_f, gamK_p, gamq_e, gamqK_f, pc_e, pcK_e, fcC_e, fcK_e, evp, bin, gt, gq, st, putf, X.get, gets, getp, ap, clV, clL, clS, clo, clo.clos, ld, lda, tk, dr, sp, sp.spl, lay, ll, cs1, one, gb, sb, pb, ln, lk, evq, gdl, Bool.and_true, Bool.not_true, Nat.reduceAdd, Nat.reduceMul, Nat.reduceDiv, Nat.reduceBEq, beq_self_eq_true, true_and, F40, hA, hZ, hT, hL, F42, mk1, mk2, Int.reduceToNat, Int.toNat_zero, Int.toNat_one, Nat.reduceMul, Nat.mul_one, Nat.zero_add]
 refine ⟨by decide, by omega, by decide, by omega, by omega, by decide, by omega, by omega, by omega, by omega, by omega, by omega, by omega, ?_⟩
 refine ⟨by omega, by omega, by omega, by decide, by omega, by omega, ?_⟩
 simp only [o_cons, gd_none, putK_e, runK_e, vK_e, evh_v, pcK_e, evp, gt, st, putf, X.get, true_and, toInts]
 refine ⟨[v.sv, .rd 3 1 (rowR [(L, L + v.l2, false)])], ⟨.inl (by simp [leR, leR.leRs, Vl.sv]), .inr ⟨3, 1, _, _, rfl, rfl, fun i hi => ?_⟩, trivial⟩, v, [(L, L + v.l2, false)], rfl, fun h3 => absurd hask h3, fun _ h3 => absurd h3 hw.1, fun _ _ => ?_⟩
 ·obtain rfl : i = 0 := by omega
  exact ⟨by simp [leR], by simp [leR], by simp [leR], trivial⟩
 generalize trM v [(L, L + v.l2, false)] = W at hw hb ⊢
 have hgt : (f < W.1.2 - W.1.1) = False := eq_false (by omega)
 have hgt2 : (W.1.2 - W.1.1 > f) = False := hgt
 simp only [gdK_bff, condK_bf, decide_true, decide_false, inr64, e_skip, e_reg, and_self, e_seq, e_cond, o_nil, o_cons, gd_none, gd_some, gdK_ff, putK_e, runK_e, vK_e, storeK3_e, storeK2_e, storeK_e, evh_v, evh_new, evh_store, seqK_n, evp, bin, gt, gq, st, putf, X.get, ld, lda, sp, sp.spl, ll, cs1, one, allOne, gb, sb, pb, ln, Bool.and_true, Bool.not_true, Nat.reduceAdd, true_and, hgt]
 refine ⟨by omega, ?_⟩
 obtain ⟨k, hk⟩ : ∃ k : Nat, a5 % (V.length : Int) = k := ⟨(a5 % (V.length : Int)).toNat, by have := Int.emod_nonneg a5 (b := (V.length : Int)) (by omega); omega⟩
 have hk2 : k < V.length := by have := Int.emod_lt_of_pos a5 (b := (V.length : Int)) (by omega); omega
 simp only [dX_bt, decide_true, e_drw, e_seq, o_nil, o_cons, gd_none, putK_e, runK_e, vK_e, conK_e, callK_e, evh_v, evh_call, dX_e, dG_t, d_cons, seqK_n, gam_e, gamK_f, pc_e, pcK_e, fcC_e, fcK_e, evp, bin, gt, gq, st, putf, X.get, gets, ap, clV, clL, clS, clo, ld, lda, lens, ixs, lk, evq, gdl, Nat.reduceBEq, beq_self_eq_true, true_and, F34, hk, Int.reduceToNat, Nat.mul_one, Nat.zero_add]
 refine ⟨by decide, by omega, ?_⟩
 have e1 : (p.getD k 0 > p.getD i 0) = (p.getD i 0 < p.getD k 0) := rfl
 have hki : (0 ≤ (k : Int) ∧ (k : Int) < p.length) ∧ 0 ≤ (i : Int) ∧ (i : Int) < p.length := by omega
 by_cases g : p.getD i 0 < p.getD k 0 ∨ (p.getD k 0 = p.getD i 0 ∧ (i : Int) ≤ k)
 ·rcases g with g1 | ⟨g2, g3⟩
  ·have g1T := eq_true g1
   simp only [dX_bt, decide_true, e_reg, e_seq, e_cond, e_ret, o_nil, o_cons, gd_none, gd_some, gdK_tt, gdK_tf, gdK_u, putK_e, runK_e, skipK_e, vK_e, conK_e, callK_e, evh_v, evh_call, dG_f, d_nil, d_cons, tlK_n, seqK_n, seqK_r, condK_t, ends_r, endK1_e, endK2_e, gam_e, gamK_f, pc_e, pcK_e, fcC_e, fcK_e, evp, gt, st, putf, X.get, gets, ap, rdR, tupled, clV, clL, clS, clo, lda, lk, evq, gdl, undef, Nat.reduceBEq, beq_self_eq_true, true_and, g1T, Int.toNat_natCast, F22]
   exact ⟨hki.1, hki.2, _, hK, rfl⟩
  ·have g1F := eq_false (show ¬ p.getD i 0 < p.getD k 0 by omega)
   have g2T := eq_true g2
   have g3T := eq_true g3
   simp only [dX_bt, dX_bf, condK_bt, decide_true, decide_false, e_reg, e_seq, e_cond, e_ret, o_nil, o_cons, gd_none, gd_some, gdK_tt, gdK_ff, putK_e, runK_e, vK_e, conK_e, callK_e, evh_v, evh_call, dX_e, dG_t, d_nil, d_cons, tlK_n, seqK_n, seqK_r, ends_r, endK1_e, endK2_e, gam_e, gamK_f, pc_e, pcK_e, fcC_e, fcK_e, evp, bin, gt, gq, st, putf, X.get, gets, ap, rdR, tupled, clV, clL, clS, clo, ld, lda, ixs, lk, evq, gdl, Bool.not_false, Nat.reduceBEq, beq_self_eq_true, true_and, g1F, g2T, g3T, Int.toNat_natCast, F22]
   exact ⟨hki.1, hki.2, hki.1, hki.2, _, hK, rfl⟩
 have g1F := eq_false (show ¬ p.getD i 0 < p.getD k 0 from fun h => g (.inl h))
 have hnd : ¬ doesP (V.getD k v0) r f := fun hd => by
  rcases hcp.2 k hk2 hd with h | h
  ·exact g (.inl h)
  ·exact g (.inr ⟨h.1.symm, h.2⟩)
 have g23 : (p.getD k 0 = p.getD i 0 ∧ ¬ (i : Int) ≤ k) ∨ ¬ p.getD k 0 = p.getD i 0 := by
  by_cases h : p.getD k 0 = p.getD i 0
  ·exact .inl ⟨h, fun h2 => g (.inr ⟨h, h2⟩)⟩
  ·exact .inr h
 rcases g23 with ⟨g2, g3⟩ | g2
 have g2T := eq_true g2
 have g3F := eq_false g3
 simp only [dX_bt, dX_bf, condK_bf, decide_true, decide_false, e_skip, e_reg, e_seq, e_cond, o_nil, o_cons, gd_none, gd_some, gdK_tt, gdK_ff, putK_e, runK_e, vK_e, evh_v, dX_e, dG_t, d_nil, d_cons, tlK_n, seqK_n, evp, bin, gt, gq, st, putf, X.get, ld, lda, ixs, dr, evq, gdl, Bool.not_false, true_and, g1F, g2T, g3F, Int.toNat_natCast]
 refine ⟨hki.1, hki.2, hki.1, hki.2, ?_⟩
 rotate_left
 have g2F := eq_false g2
 simp only [dX_bf, decide_false, e_skip, e_reg, e_seq, e_cond, o_nil, o_cons, gd_none, gd_some, gdK_tt, gdK_ft, gdK_ff, putK_e, runK_e, skipK_e, vK_e, evh_v, dX_e, dG_t, dG_f, d_nil, d_cons, tlK_n, seqK_n, condK_f, evp, bin, gt, gq, st, putf, X.get, ld, lda, ixs, dr, evq, gdl, undef, Bool.not_true, Bool.not_false, true_and, g1F, g2F, Int.toNat_natCast]
 refine ⟨hki.1, hki.2, hki.1, hki.2, ?_⟩
 rotate_left
 obtain ⟨k, hk⟩ : ∃ k : Nat, a5 % (V.length : Int) = k := ⟨(a5 % (V.length : Int)).toNat, by have := Int.emod_nonneg a5 (b := (V.length : Int)) (by omega); omega⟩
 have hk2 : k < V.length := by have := Int.emod_lt_of_pos a5 (b := (V.length : Int)) (by omega); omega
 have hnd : ¬ doesP (V.getD k v0) r f := (chs_p (V := V) (p := p) (r := r) (f := f) V.length).1 h2 k hk2
 simp only [gdK_btt, gdK_bff, condK_bf, decide_true, decide_false, e_skip, e_reg, e_seq, e_cond, o_nil, o_cons, gd_none, gd_some, gdK_tt, gdK_ff, putK_e, runK_e, vK_e, conK_e, callK_e, evh_v, evh_call, seqK_n, gam_e, gamK_f, pc_e, pcK_e, fcC_e, fcK_e, evp, bin, gt, gq, st, putf, X.get, gets, ap, clV, clL, clS, clo, ld, lda, lens, gb, lk, Bool.not_true, Bool.not_false, Nat.reduceBEq, beq_self_eq_true, true_and, n40, F42, hl, hpl]
 simp only [e_drw, e_seq, o_nil, o_cons, gd_none, putK_e, runK_e, vK_e, conK_e, callK_e, evh_v, evh_call, dX_e, dG_t, d_cons, seqK_n, gam_e, gamK_f, pc_e, pcK_e, fcC_e, fcK_e, evp, bin, gt, gq, st, putf, X.get, gets, ap, clV, clL, clS, clo, lens, lk, evq, gdl, Nat.reduceBEq, beq_self_eq_true, true_and, F34, hk, Int.reduceToNat, Nat.mul_one, Nat.zero_add]
 refine ⟨by decide, by omega, ?_⟩
 simp only [dX_bf, decide_false, e_skip, e_reg, e_seq, e_cond, o_nil, o_cons, gd_none, gd_some, gdK_ft, gdK_u, putK_e, runK_e, skipK_e, vK_e, evh_v, dG_f, d_nil, d_cons, tlK_n, seqK_n, condK_f, evp, gt, st, putf, X.get, ld, lda, ixs, dr, evq, gdl, undef, Bool.not_true, true_and, n40, decide_false]
 all_goals
  have hkv : 0 ≤ (k : Int) ∧ (k : Int) < V.length := by omega
  have hx := (hs.2 k hk2).1
  obtain ⟨x, hxd⟩ : ∃ x, V.getD k v0 = x := ⟨_, rfl⟩
  have hrowk : rowV V k = x.cells := by unfold rowV; rw [hxd]
  rw [hxd] at hnd hx
  have hx2 := hx
  unfold Vl.ok at hx2
  have hxT : Vl.ok ⟨x.m, x.l1, x.l2, x.v1, x.v2, x.z1, x.z2, x.w⟩ = True := eq_true hx
  have hmin : (if x.z1 - x.l2 < 2 * x.m - x.l2 - x.z2 then x.z1 - x.l2 else 2 * x.m - x.l2 - x.z2) = min (2 * x.m - x.l2 - x.z2) (x.z1 - x.l2) := by split <;> omega
  have hrb := mul_b (a := x.v1) (x := min (2 * x.m - x.l2 - x.z2) (x.z1 - x.l2)) (by omega) (by omega) (by omega) (by omega)
  by_cases hr : x.v1 * min (2 * x.m - x.l2 - x.z2) (x.z1 - x.l2) < r
  ·have hrT := eq_true hr
   simp only [gdK_btt, gdK_bft, decide_true, inr64, e_reg, and_self, e_seq, e_cond, e_ret, o_nil, o_cons, gd_none, gd_some, gdK_tf, putK_e, runK_e, skipK_e, vK_e, storeK3_e, storeK2_e, storeK_e, conK_e, callK_e, evh_v, evh_new, evh_store, evh_call, seqK_n, seqK_r, condK_t, ends_r, endK1_e, endK2_e, gam_e, gamK_f, pc_e, pcK_e, fcC_e, fcK_e, evp, bin, gt, gq, st, putf, X.get, gets, ap, rdR, tupled, clV, clL, clS, clo, ld, lda, tk, sp, sp.spl, ll, cs1, one, allOne, gb, sb, pb, ln, lk, undef, Bool.and_true, Nat.reduceAdd, Nat.reduceBEq, beq_self_eq_true, true_and, hrowk, Vl.cells, Int.toNat_natCast, hmin, hrT, F22]
   exact ⟨by omega, by omega, by omega, by omega, by omega, by omega, _, hK, rfl⟩
  ·have hrF := eq_false hr
   simp only [gdK_bff, condK_bf, decide_true, decide_false, inr64, e_skip, e_reg, and_self, e_seq, e_cond, e_block, e_loop, o_nil, o_cons, gd_none, gd_some, gdK_ff, putK_e, runK_e, vK_e, storeK3_e, storeK2_e, storeK_e, conK_e, callK_e, evh_v, evh_new, evh_store, evh_call, seqK_n, gam_e, gamK_f, pc_e, pcK_e, fcC_e, fcK_e, evp, bin, gt, gq, st, putf, X.get, gets, ap, clV, clL, clS, clo, ld, lda, tk, dr, sp, sp.spl, ll, cs1, one, allOne, gb, sb, pb, ln, lk, Bool.and_true, Bool.not_true, Nat.reduceAdd, Nat.reduceBEq, beq_self_eq_true, true_and, hrowk, Vl.cells, Int.toNat_natCast, hmin, hrF, F33, hxT]
   refine ⟨by omega, by omega, by omega, by omega, by omega, by omega, ?_⟩
   refine loop_atc (G := Nat) (fun i => [(25, .int .i64 (x.l2 + i)), (24, .int .i64 (fltN x i))]) (fun i => x.l2 + i ≤ 2 * x.m - x.l2 + 1) (fun i => (2 * x.m - x.l2 + 1 - x.l2 - i).toNat) 0 (by omega) ?_
   (intro fr1 hf1; simp only [forget, dstC, dstO, dstD, dst1, st] at hf1; subst hf1)
   refine ⟨?_, ?_⟩
   ·refine Lw_fr ?_
    simp only [sts, st, frW, true_or, or_true, and_self, Int.natCast_zero, Int.add_zero, fltN]
   ·intro t ht
    have hfb := fltN_b hx t (by omega)
    by_cases hz : x.l2 + (t : Int) ≤ 2 * x.m - x.l2
    ·have hzT := eq_true hz
     have hf := fltN_s hx (n := t) (by omega)
     have b1 := ls_b hx (x := x.l2 + t - x.z1 + x.w) (by omega)
     have b2 := ls_b hx (x := x.l2 + t - x.z2 - x.w) (by omega)
     have c1 := mul_b (a := x.v1) (x := x.l2 + t - x.z1 + x.w) (by omega) (by omega) (by omega) (by omega)
     have c2 := mul_b (a := x.v2) (x := x.l2 + t - x.z1 + x.w) (by omega) (by omega) (by omega) (by omega)
     have c3 := mul_b (a := x.v1) (x := x.l2 + t - x.z2 - x.w) (by omega) (by omega) (by omega) (by omega)
     have c4 := mul_b (a := x.v2) (x := x.l2 + t - x.z2 - x.w) (by omega) (by omega) (by omega) (by omega)
     rw [Int.mul_comm] at c1 c2 c3 c4
     have m1 : (if (x.l2 + t - x.z1 + x.w) * x.v1 < (x.l2 + t - x.z1 + x.w) * x.v2 then (x.l2 + t - x.z1 + x.w) * x.v2 else (x.l2 + t - x.z1 + x.w) * x.v1) = x.mst (x.l2 + t - x.z1 + x.w) := rfl
     have m2 : (if (x.l2 + t - x.z2 - x.w) * x.v2 < (x.l2 + t - x.z2 - x.w) * x.v1 then (x.l2 + t - x.z2 - x.w) * x.v2 else (x.l2 + t - x.z2 - x.w) * x.v1) = x.lst (x.l2 + t - x.z2 - x.w) := rfl
     have m3 : (if fltN x t < x.mst (x.l2 + t - x.z1 + x.w) - x.lst (x.l2 + t - x.z2 - x.w) then x.mst (x.l2 + t - x.z1 + x.w) - x.lst (x.l2 + t - x.z2 - x.w) else fltN x t) = fltN x (t + 1) := by
      rw [hf]; unfold wid1; split <;> omega
     simp only [condK_bt, decide_true, inr64, e_skip, e_reg, e_drw, e_seq, e_cond, e_block, o_nil, o_cons, gd_none, putK_e, runK_e, vK_e, evh_v, dX_e, dG_t, d_nil, d_cons, tlK_n, loopK_n, seqK_n, blockK_n, evp, bin, gt, gq, st, putf, X.get, ld, lda, gb, evq, gdl, Nat.reduceAdd, true_and, sts, hzT, m1, m2, m3]
     refine ⟨by omega, by omega, by omega, by omega, by omega, by omega, by omega, by omega, by omega, by omega, by omega, by omega, Nx.mk (t + 1) (by omega) (by omega) (Lw_fr ?_)⟩
     simp only [frW, true_or, or_true, and_self, Int.natCast_add, Int.natCast_one, Int.add_assoc]
    ·have hzF := eq_false hz
     have ht2 : t = (2 * x.m + 1 - 2 * x.l2).toNat := by omega
     have hfl : fltN x t = flt x := by rw [ht2]; rfl
     have hbig : f < flt x := by
      apply Classical.byContradiction
      intro hc
      have h3 : 0 ≤ min (2 * x.m - x.l2 - x.z2) (x.z1 - x.l2) := by
       apply Classical.byContradiction
       intro h4
       have := Int.mul_le_mul_of_nonneg_left (show min (2 * x.m - x.l2 - x.z2) (x.z1 - x.l2) ≤ -1 by omega) (show 0 ≤ x.v1 by omega)
       omega
      exact hnd ⟨⟨by omega, by omega⟩, by omega, by omega⟩
     have hbT := eq_true hbig
     have hbT2 : (flt x > f) = True := hbT
     simp only [gdK_btt, condK_bf, decide_true, decide_false, inr64, e_reg, e_seq, e_cond, e_exit, e_ret, o_nil, o_cons, gd_none, gd_some, putK_e, runK_e, vK_e, conK_e, callK_e, evh_v, evh_call, loopK_x, seqK_n, seqK_x, exitK_t, blockK_x, ends_r, endK1_e, endK2_e, gam_e, gamK_f, pc_e, pcK_e, fcC_e, fcK_e, evp, bin, gt, gq, st, putf, X.get, gets, ap, rdR, tupled, clV, clL, clS, clo, ld, lda, gb, lk, Nat.reduceAdd, Nat.reduceBEq, beq_self_eq_true, true_and, sts, hzF, hfl, hbT, F22]
     exact ⟨by omega, by omega, _, hK, rfl⟩
end Go.Proofs.Ytgdihdiadlmjiaa
