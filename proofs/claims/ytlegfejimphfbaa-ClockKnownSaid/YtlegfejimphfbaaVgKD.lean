/- The code of the program's functions, as code that is run, and that it is theirs. -/
import Derived.Test.YtlegfejimphfbaaVgR18
import Derived.Test.YtlegfejimphfbaaChecked
import Derived.KernelRfl
namespace Go.Proofs.Ytlegfejimphfbaa
open Go Go.Vg
set_option maxRecDepth 100000
set_option maxHeartbeats 4000000
def ki (n : Int) : SV := .int .i64 n
def kz : SV := .int .i64 0
def km (d n : Nat) : Opq := ⟨some d, none, .o (.v (.mov (.t n)))⟩
def kl (d n : Nat) : Opq := ⟨some d, none, .o (.v (.load (.t n) none))⟩
def kf (d n k : Nat) : Opq := ⟨some d, none, .o (.v (.off (.t n) k))⟩
def kn (d n : Nat) : Opq := ⟨some d, none, .nck (.t n)⟩
def kv (d : Nat) (v : VOp) : Opq := ⟨some d, none, .o (.v v)⟩
def kc (d : Nat) (f : X) (l : List X) : Opq := ⟨some d, none, .o (.call f l)⟩
def ko (d : Nat) (o : Op1) : Opq := ⟨some d, none, .o o⟩
def ku : Kd := .val 0 []
def kb0 : SV := .lit (.bool false)
def kb1 : SV := .lit (.bool true)
def kG (d g : Nat) (b : Bool) (v : VOp) : Opq := ⟨some d, some (g, b), .o (.v v)⟩
def kF (n : Nat) : X := .c (.fn n [])
def ks (n a b : Nat) : Opq := ⟨none, none, .o (.store n (.t a) (.t b))⟩
def sr (l : List Opq) (b : RC) : RC := .seq (.reg l) b
def g3 : RC :=
 (sr [kv 0 (.mov (.c (.lit (.bool false))))]
 (sr [ko 40 (.bld [(.lit (.slice none 0 0)), (.lit (.slice none 0 0)), kz, kz, kz, kz] []),
 kc 41 (kF 4) [],
 kc 42 (kF 4) [],
 kc 43 (kF 4) [],
 kc 44 (kF 4) [],
 kc 45 (kF 4) [],
 kc 46 (kF 4) [],
 ko 47 (.bsl 27 7 [(.lit (.slice none 0 0)), (.lit (.slice none 0 0)), kz, kz, kz, kz, (.lit (.slice none 0 0)), (.lit (.slice none 0 0)), kz, kz, kz, kz, (.lit (.slice none 0 0)), (.lit (.slice none 0 0)), kz, kz, kz, kz, (.lit (.slice none 0 0)), (.lit (.slice none 0 0)), kz, kz, kz, kz, (.lit (.slice none 0 0)), (.lit (.slice none 0 0)), kz, kz, kz, kz, (.lit (.slice none 0 0)), (.lit (.slice none 0 0)), kz, kz, kz, kz, (.lit (.slice none 0 0)), (.lit (.slice none 0 0)), kz, kz, kz, kz] [(0, 6, (.t 40)), (6, 6, (.t 41)), (12, 6, (.t 42)), (18, 6, (.t 43)), (24, 6, (.t 44)), (30, 6, (.t 45)), (36, 6, (.t 46))]),
 km 1 47]
 (sr [km 48 1,
 ko 49 (.bsl 3 3 [kz, kz, kz] [(0, 1, (.c (ki 10))), (1, 1, (.c (ki 10))), (2, 1, (.c (ki 30)))]),
 kv 50 (.ixa (.t 48) (.c (ki 1)) 6),
 kf 51 50 0,
 ks 1 51 49]
 (sr [km 52 1,
 kv 53 (.ixa (.t 52) (.c (ki 2)) 6),
 kf 54 53 0,
 kl 55 54,
 kv 56 (.ixa (.t 55) (.c (ki 2)) 1),
 ⟨none, none, .o (.store 1 (.t 56) (.c (ki 61)))⟩]
 (.seq (.drw [⟨[], 0, 1, [(km 57 1, ku),
 (kv 58 (.ixa (.t 57) (.c (ki 3)) 6), ku),
 (kf 59 58 1, ku),
 (kl 60 59, ku),
 (kc 61 (kF 5) [(.c (ki 300)), (.c (ki 200))], .eff 0 [])],
 [],
 [kv 62 (.ixa (.t 60) (.c (ki 1)) 2),
 ks 2 62 61], none⟩])
 (sr [km 63 1,
 kc 64 (kF 5) [(.c kz), (.c (ki 1001))],
 kv 65 (.ixa (.t 63) (.c (ki 4)) 6),
 kf 66 65 2,
 ks 2 66 64]
 (sr [km 67 1,
 kc 68 (kF 5) [(.c (ki (-10000001))), (.c kz)],
 kv 69 (.ixa (.t 67) (.c (ki 5)) 6),
 kf 70 69 4,
 ks 2 70 68]
 (sr [km 71 1,
 km 72 1,
 kv 73 (.ixa (.t 72) (.c (ki 6)) 6),
 kf 74 73 1,
 kl 75 74,
 ko 76 (.slc (.t 75) none (some (.c (ki 2))) none 2),
 kv 77 (.ixa (.t 71) (.c (ki 6)) 6),
 kf 78 77 1,
 ks 1 78 76]
 (.seq (sr [kv 2 (.mov (.c kz))]
 (.block 0 (.loop
 (.seq (sr [km 79 2,
 km 80 1,
 kv 81 (.len (.t 80)),
 kv 82 (.bin .lss (.t 79) (.t 81))]
 (.cond (.t 82)
 .skip
 (.exit 0)))
 (.seq (.block 1 (sr [km 86 1,
 km 87 2,
 kv 88 (.ixa (.t 86) (.t 87) 6),
 kv 89 (.load (.t 88) (some 6)),
 kc 90 (kF 6) [(.t 89), (.c (ki (-1))), (.c (ki (-1)))],
 km 85 90,
 kv 91 (.ext (.t 85) 0),
 kv 92 (.ext (.t 85) 1),
 ko 3 (.new 25 [kz, kz]),
 ks 2 3 91,
 km 4 92]
 (sr [km 94 1,
 km 95 2,
 kv 96 (.ixa (.t 94) (.t 95) 6),
 kv 97 (.load (.t 96) (some 6)),
 ko 98 (.bld [(.lit (.slice none 0 0)), kz, kz, (.lit (.slice none 0 0))] []),
 kc 99 (kF 7) [(.t 97), (.c (.lit (.slice none 0 0))), (.t 98)],
 km 93 99,
 kv 100 (.ext (.t 93) 0),
 kv 101 (.ext (.t 93) 1),
 km 5 100,
 km 6 101]
 (sr [km 103 1,
 km 104 2,
 kv 105 (.ixa (.t 103) (.t 104) 6),
 kv 106 (.load (.t 105) (some 6)),
 kc 107 (kF 8) [(.t 106), (.c (.lit (.slice none 0 0)))],
 km 102 107,
 kv 108 (.ext (.t 102) 0),
 kv 109 (.ext (.t 102) 1),
 km 7 108,
 km 8 109]
 (sr [km 110 1,
 km 111 2,
 kv 112 (.ixa (.t 110) (.t 111) 6),
 kv 113 (.load (.t 112) (some 6)),
 kc 114 (kF 9) [(.t 113)],
 kv 115 (.bin .neq (.t 114) (.c (ki 70))),
 km 116 115,
 kG 117 116 false (.mov (.t 4)),
 kG 118 116 false (.bin .neq (.t 117) (.c (ki 70))),
 kv 119 (.pick (.t 116) (.c (.lit (.bool true))) (.t 118)),
 km 120 119,
 kG 121 120 false (.mov (.t 6)),
 kG 122 120 false (.bin .neq (.t 121) (.c (ki 70))),
 kv 123 (.pick (.t 120) (.c (.lit (.bool true))) (.t 122)),
 km 124 123,
 kG 125 124 false (.mov (.t 8)),
 kG 126 124 false (.bin .neq (.t 125) (.c (ki 70))),
 kv 127 (.pick (.t 124) (.c (.lit (.bool true))) (.t 126))]
 (.cond (.t 127)
 (sr [kv 0 (.mov (.c (.lit (.bool false))))]
 .ret)
 .skip))))))
 (.reg [km 83 2,
 kv 84 (.bin .add (.t 83) (.c (ki 1))),
 km 2 84]))))))
 (sr [kc 129 (kF 4) [],
 kc 130 (kF 6) [(.t 129), (.c (ki 9)), (.c kz)],
 km 128 130,
 kv 131 (.ext (.t 128) 0),
 kv 132 (.ext (.t 128) 1),
 ko 9 (.new 25 [kz, kz]),
 ks 2 9 131,
 km 10 132]
 (sr [kc 134 (kF 4) [],
 kc 135 (kF 6) [(.t 134), (.c (ki 31)), (.c kz)],
 km 133 135,
 kv 136 (.ext (.t 133) 0),
 kv 137 (.ext (.t 133) 1),
 ko 11 (.new 25 [kz, kz]),
 ks 2 11 136,
 km 12 137]
 (sr [kc 139 (kF 4) [],
 kc 140 (kF 6) [(.t 139), (.c (ki 20)), (.c (ki 60))],
 km 138 140,
 kv 141 (.ext (.t 138) 0),
 kv 142 (.ext (.t 138) 1),
 ko 13 (.new 25 [kz, kz]),
 ks 2 13 141,
 km 14 142]
 (sr [kc 144 (kF 4) [],
 kc 145 (kF 8) [(.t 144), (.c (.lit (.slice none 0 0)))],
 km 143 145,
 kv 146 (.ext (.t 143) 0),
 kv 147 (.ext (.t 143) 1),
 km 15 146,
 km 16 147]
 (sr [kc 149 (kF 4) [],
 kc 150 (kF 5) [(.c (ki 20)), (.c (ki 10))],
 ko 151 (.bsl 25 1 [kz, kz] [(0, 2, (.t 150))]),
 kc 152 (kF 8) [(.t 149), (.t 151)],
 km 148 152,
 kv 153 (.ext (.t 148) 0),
 kv 154 (.ext (.t 148) 1),
 km 17 153,
 km 18 154]
 (sr [kc 156 (kF 4) [],
 kc 157 (kF 5) [(.c (ki 9)), (.c (ki 10))],
 ko 158 (.bsl 25 1 [kz, kz] [(0, 2, (.t 157))]),
 kc 159 (kF 8) [(.t 156), (.t 158)],
 km 155 159,
 kv 160 (.ext (.t 155) 0),
 kv 161 (.ext (.t 155) 1),
 km 19 160,
 km 20 161]
 (sr [kc 163 (kF 4) [],
 kc 164 (kF 10) [],
 ko 165 (.bsl 3 3 [kz, kz, kz] [(0, 1, (.c (ki 550))), (1, 1, (.c (ki 250))), (2, 1, (.c (ki 850)))]),
 ko 166 (.bsl 3 2 [kz, kz] [(0, 1, (.c (ki 20))), (1, 1, (.c (ki 25)))]),
 ko 167 (.bld [(.lit (.slice none 0 0)), kz, kz, (.lit (.slice none 0 0))] [(0, 1, (.t 165)), (1, 1, (.c (ki 11))), (3, 1, (.t 166))]),
 kc 168 (kF 7) [(.t 163), (.t 164), (.t 167)],
 km 162 168,
 kv 169 (.ext (.t 162) 0),
 kv 170 (.ext (.t 162) 1),
 km 21 169,
 km 22 170]
 (sr [kc 172 (kF 4) [],
 kc 173 (kF 10) [],
 ko 174 (.bsl 3 3 [kz, kz, kz] [(0, 1, (.c (ki 550))), (1, 1, (.c (ki 250))), (2, 1, (.c (ki 850)))]),
 ko 175 (.bsl 3 2 [kz, kz] [(0, 1, (.c (ki 20))), (1, 1, (.c (ki 26)))]),
 ko 176 (.bld [(.lit (.slice none 0 0)), kz, kz, (.lit (.slice none 0 0))] [(0, 1, (.t 174)), (3, 1, (.t 175))]),
 kc 177 (kF 7) [(.t 172), (.t 173), (.t 176)],
 km 171 177,
 kv 178 (.ext (.t 171) 0),
 kv 179 (.ext (.t 171) 1),
 km 23 178,
 km 24 179]
 (sr [kc 181 (kF 4) [],
 kc 182 (kF 10) [],
 ko 183 (.bsl 3 3 [kz, kz, kz] [(0, 1, (.c (ki 550))), (1, 1, (.c (ki 250))), (2, 1, (.c (ki 901)))]),
 ko 184 (.bsl 3 2 [kz, kz] [(0, 1, (.c (ki 20))), (1, 1, (.c (ki 25)))]),
 ko 185 (.bld [(.lit (.slice none 0 0)), kz, kz, (.lit (.slice none 0 0))] [(0, 1, (.t 183)), (3, 1, (.t 184))]),
 kc 186 (kF 7) [(.t 181), (.t 182), (.t 185)],
 km 180 186,
 kv 187 (.ext (.t 180) 0),
 kv 188 (.ext (.t 180) 1),
 km 25 187,
 km 26 188]
 (.seq (sr [km 189 10,
 kv 190 (.bin .neq (.t 189) (.c (ki 7))),
 km 191 190,
 kG 192 191 false (.mov (.t 12)),
 kG 193 191 false (.bin .neq (.t 192) (.c (ki 7))),
 kv 194 (.pick (.t 191) (.c (.lit (.bool true))) (.t 193)),
 km 195 194,
 kG 196 195 false (.mov (.t 14)),
 kG 197 195 false (.bin .neq (.t 196) (.c (ki 7))),
 kv 198 (.pick (.t 195) (.c (.lit (.bool true))) (.t 197)),
 km 199 198,
 kG 200 199 false (.mov (.t 16)),
 kG 201 199 false (.bin .neq (.t 200) (.c (ki 71))),
 kv 202 (.pick (.t 199) (.c (.lit (.bool true))) (.t 201)),
 km 203 202,
 kG 204 203 false (.mov (.t 18)),
 kG 205 203 false (.bin .neq (.t 204) (.c (ki 71))),
 kv 206 (.pick (.t 203) (.c (.lit (.bool true))) (.t 205)),
 km 207 206,
 kG 208 207 false (.mov (.t 20)),
 kG 209 207 false (.bin .neq (.t 208) (.c (ki 71))),
 kv 210 (.pick (.t 207) (.c (.lit (.bool true))) (.t 209)),
 km 211 210,
 kG 212 211 false (.mov (.t 22)),
 kG 213 211 false (.bin .neq (.t 212) (.c (ki 74))),
 kv 214 (.pick (.t 211) (.c (.lit (.bool true))) (.t 213)),
 km 215 214,
 kG 216 215 false (.mov (.t 24)),
 kG 217 215 false (.bin .neq (.t 216) (.c (ki 74))),
 kv 218 (.pick (.t 215) (.c (.lit (.bool true))) (.t 217)),
 km 219 218,
 kG 220 219 false (.mov (.t 26)),
 kG 221 219 false (.bin .neq (.t 220) (.c (ki 74))),
 kv 222 (.pick (.t 219) (.c (.lit (.bool true))) (.t 221))]
 (.cond (.t 222)
 (sr [kv 0 (.mov (.c (.lit (.bool false))))]
 .ret)
 .skip))
 (sr [kc 223 (kF 11) [],
 kc 224 (kF 11) [],
 kc 225 (kF 11) [],
 km 27 223,
 km 28 224,
 km 29 225]
 (sr [km 226 27,
 kv 227 (.ixa (.t 226) (.c (ki 2)) 2),
 kf 228 227 0,
 ⟨none, none, .o (.store 1 (.t 228) (.c (.lit (.string ⟨#[97, 114, 110, 111, 108, 100]⟩))))⟩]
 (sr [km 229 28,
 ko 230 (.bsl 3 3 [kz, kz, kz] [(0, 1, (.c (ki 20))), (1, 1, (.c (ki 21))), (2, 1, (.c (ki 23)))]),
 kv 231 (.ixa (.t 229) (.c (ki 1)) 2),
 kf 232 231 1,
 ks 1 232 230]
 (sr [km 233 29,
 kv 234 (.ixa (.t 233) (.c kz) 2),
 kf 235 234 1,
 kl 236 235,
 kv 237 (.ixa (.t 236) (.c kz) 1),
 ⟨none, none, .o (.store 1 (.t 237) (.c (ki 100001)))⟩]
 (sr [kc 239 (kF 12) [(.c (.lit (.slice none 0 0)))],
 km 238 239,
 kv 240 (.ext (.t 238) 0),
 kv 241 (.ext (.t 238) 1),
 kv 242 (.ext (.t 238) 2),
 km 10 242]
 (sr [km 244 27,
 kc 245 (kF 12) [(.t 244)],
 km 243 245,
 kv 246 (.ext (.t 243) 0),
 kv 247 (.ext (.t 243) 1),
 kv 248 (.ext (.t 243) 2),
 km 12 248]
 (sr [km 250 28,
 kc 251 (kF 12) [(.t 250)],
 km 249 251,
 kv 252 (.ext (.t 249) 0),
 kv 253 (.ext (.t 249) 1),
 kv 254 (.ext (.t 249) 2),
 km 14 254]
 (sr [km 256 29,
 kc 257 (kF 12) [(.t 256)],
 km 255 257,
 kv 258 (.ext (.t 255) 0),
 kv 259 (.ext (.t 255) 1),
 kv 260 (.ext (.t 255) 2),
 km 16 260]
 (sr [ko 262 (.bsl 3 1 [kz] [(0, 1, (.c (ki 1)))]),
 ⟨(some 263), none, .o (.bld [(.lit (.string ⟨#[]⟩)), (.lit (.slice none 0 0))] [(0, 1, (.c (.lit (.string ⟨#[97, 114, 110, 111, 108, 100]⟩)))), (1, 1, (.t 262))])⟩,
 ⟨(some 264), none, .o (.bsl 45 1 [(.lit (.string ⟨#[]⟩)), (.lit (.slice none 0 0))] [(0, 2, (.t 263))])⟩,
 kc 265 (kF 12) [(.t 264)],
 km 261 265,
 kv 266 (.ext (.t 261) 0),
 kv 267 (.ext (.t 261) 1),
 kv 268 (.ext (.t 261) 2),
 km 18 268]
 (sr [kc 269 (kF 13) [(.c (ki 30)), (.c (ki 1))],
 kc 270 (kF 13) [(.c (ki 30)), (.c (ki 1))],
 kc 271 (kF 13) [(.c (ki 30)), (.c (ki 1))],
 ko 30 (.new 50 [(.lit (.slice none 0 0)), (.lit (.slice none 0 0)), kz, kz, kz, kz, kz, kz, kz]),
 ko 31 (.new 50 [(.lit (.slice none 0 0)), (.lit (.slice none 0 0)), kz, kz, kz, kz, kz, kz, kz]),
 ko 32 (.new 50 [(.lit (.slice none 0 0)), (.lit (.slice none 0 0)), kz, kz, kz, kz, kz, kz, kz]),
 ks 9 30 269,
 ks 9 31 270,
 ks 9 32 271]
 (sr [kf 272 30 0,
 kl 273 272,
 ko 274 (.slc (.t 273) none (some (.c (ki 3))) none 1),
 kf 275 30 0,
 ks 1 275 274]
 (sr [kf 276 31 2,
 ⟨none, none, .o (.store 1 (.t 276) (.c (ki 1001)))⟩]
 (sr [kc 277 (kF 5) [(.c (ki 5)), (.c (ki (-5)))],
 kf 278 32 3,
 kv 279 (.ixarr (.t 278) (.c (ki 2)) 3 2),
 ks 2 279 277]
 (sr [kv 281 (.load (.t 30) (some 9)),
 kc 282 (kF 14) [(.t 281)],
 km 280 282,
 kv 283 (.ext (.t 280) 0),
 kv 284 (.ext (.t 280) 1),
 km 20 284]
 (sr [kv 286 (.load (.t 31) (some 9)),
 kc 287 (kF 15) [(.t 286)],
 km 285 287,
 kv 288 (.ext (.t 285) 0),
 kv 289 (.ext (.t 285) 1),
 km 22 289]
 (sr [kv 291 (.load (.t 32) (some 9)),
 kc 292 (kF 14) [(.t 291)],
 km 290 292,
 kv 293 (.ext (.t 290) 0),
 kv 294 (.ext (.t 290) 1),
 km 24 294]
 (sr [kc 296 (kF 13) [(.c (ki 6)), (.c (ki 1))],
 kc 297 (kF 15) [(.t 296)],
 km 295 297,
 kv 298 (.ext (.t 295) 0),
 kv 299 (.ext (.t 295) 1),
 km 26 299]
 (.seq (sr [km 300 10,
 kv 301 (.bin .neq (.t 300) (.c (ki 72))),
 km 302 301,
 kG 303 302 false (.mov (.t 12)),
 kG 304 302 false (.bin .neq (.t 303) (.c (ki 72))),
 kv 305 (.pick (.t 302) (.c (.lit (.bool true))) (.t 304)),
 km 306 305,
 kG 307 306 false (.mov (.t 14)),
 kG 308 306 false (.bin .neq (.t 307) (.c (ki 72))),
 kv 309 (.pick (.t 306) (.c (.lit (.bool true))) (.t 308)),
 km 310 309,
 kG 311 310 false (.mov (.t 16)),
 kG 312 310 false (.bin .neq (.t 311) (.c (ki 72))),
 kv 313 (.pick (.t 310) (.c (.lit (.bool true))) (.t 312)),
 km 314 313,
 kG 315 314 false (.mov (.t 18)),
 kG 316 314 false (.bin .neq (.t 315) (.c (ki 72))),
 kv 317 (.pick (.t 314) (.c (.lit (.bool true))) (.t 316)),
 km 318 317,
 kG 319 318 false (.mov (.t 20)),
 kG 320 318 false (.bin .neq (.t 319) (.c (ki 73))),
 kv 321 (.pick (.t 318) (.c (.lit (.bool true))) (.t 320)),
 km 322 321,
 kG 323 322 false (.mov (.t 22)),
 kG 324 322 false (.bin .neq (.t 323) (.c (ki 73))),
 kv 325 (.pick (.t 322) (.c (.lit (.bool true))) (.t 324)),
 km 326 325,
 kG 327 326 false (.mov (.t 24)),
 kG 328 326 false (.bin .neq (.t 327) (.c (ki 73))),
 kv 329 (.pick (.t 326) (.c (.lit (.bool true))) (.t 328)),
 km 330 329,
 kG 331 330 false (.mov (.t 26)),
 kG 332 330 false (.bin .neq (.t 331) (.c (ki 4))),
 kv 333 (.pick (.t 330) (.c (.lit (.bool true))) (.t 332))]
 (.cond (.t 333)
 (sr [kv 0 (.mov (.c (.lit (.bool false))))]
 .ret)
 .skip))
 (sr [kc 335 (kF 4) [],
 kc 336 (kF 6) [(.t 335), (.c (ki 15)), (.c kz)],
 km 334 336,
 kv 337 (.ext (.t 334) 0),
 kv 338 (.ext (.t 334) 1),
 ko 33 (.new 25 [kz, kz]),
 ks 2 33 337,
 km 10 338]
 (sr [kc 340 (kF 4) [],
 kc 341 (kF 6) [(.t 340), (.c (ki 24)), (.c kz)],
 km 339 341,
 kv 342 (.ext (.t 339) 0),
 kv 343 (.ext (.t 339) 1),
 ko 34 (.new 25 [kz, kz]),
 ks 2 34 342,
 km 12 343]
 (sr [kc 345 (kF 4) [],
 kc 346 (kF 6) [(.t 345), (.c (ki 30)), (.c kz)],
 km 344 346,
 kv 347 (.ext (.t 344) 0),
 kv 348 (.ext (.t 344) 1),
 ko 35 (.new 25 [kz, kz]),
 ks 2 35 347,
 km 14 348]
 (sr [kc 350 (kF 13) [(.c (ki 6)), (.c (ki 1))],
 kc 351 (kF 14) [(.t 350)],
 km 349 351,
 kv 352 (.ext (.t 349) 0),
 kv 353 (.ext (.t 349) 1),
 km 36 352,
 km 16 353]
 (sr [kc 355 (kF 13) [(.c (ki 30)), (.c (ki 60))],
 kc 356 (kF 14) [(.t 355)],
 km 354 356,
 kv 357 (.ext (.t 354) 0),
 kv 358 (.ext (.t 354) 1),
 km 37 357,
 km 18 358]
 (sr [ko 360 (.bsl 3 2 [kz, kz] [(0, 1, (.c (ki 5))), (1, 1, (.c (ki 5)))]),
 ⟨(some 361), none, .o (.bld [(.lit (.string ⟨#[]⟩)), (.lit (.slice none 0 0))] [(0, 1, (.c (.lit (.string ⟨#[98]⟩)))), (1, 1, (.t 360))])⟩,
 ko 362 (.bsl 3 2 [kz, kz] [(0, 1, (.c (ki 7))), (1, 1, (.c (ki 7)))]),
 ⟨(some 363), none, .o (.bld [(.lit (.string ⟨#[]⟩)), (.lit (.slice none 0 0))] [(0, 1, (.c (.lit (.string ⟨#[97]⟩)))), (1, 1, (.t 362))])⟩,
 ⟨(some 364), none, .o (.bsl 45 2 [(.lit (.string ⟨#[]⟩)), (.lit (.slice none 0 0)), (.lit (.string ⟨#[]⟩)), (.lit (.slice none 0 0))] [(0, 2, (.t 361)), (2, 2, (.t 363))])⟩,
 kc 365 (kF 12) [(.t 364)],
 km 359 365,
 kv 366 (.ext (.t 359) 0),
 kv 367 (.ext (.t 359) 1),
 kv 368 (.ext (.t 359) 2),
 km 38 366,
 km 39 367,
 km 20 368]
 (.seq (.drw [⟨[10, 33, 12, 34, 14, 35, 16, 36, 18, 37, 20, 38], 0, 0, [(km 369 10, ku),
 (kv 370 (.bin .eql (.t 369) (.c kz)), ku),
 (km 371 370, ku),
 (kG 372 371 true (.load (.t 33) (some 2)), ku),
 (⟨(some 373), (some (371, true)), .o (.call (kF 5) [(.c (ki 350)), (.c (ki 450))])⟩, ku),
 (kG 374 371 true (.eqs [(some .i64), (some .i64)] false (.t 372) (.t 373)), ku),
 (kv 375 (.pick (.t 371) (.t 374) (.c (.lit (.bool false)))), ku),
 (km 376 375, ku),
 (kG 377 376 true (.mov (.t 12)), ku),
 (kG 378 376 true (.bin .eql (.t 377) (.c kz)), ku),
 (kv 379 (.pick (.t 376) (.t 378) (.c (.lit (.bool false)))), ku),
 (km 380 379, ku),
 (kG 381 380 true (.load (.t 34) (some 2)), ku),
 (⟨(some 382), (some (380, true)), .o (.call (kF 5) [(.c (ki 440)), (.c (ki 540))])⟩, ku),
 (kG 383 380 true (.eqs [(some .i64), (some .i64)] false (.t 381) (.t 382)), ku),
 (kv 384 (.pick (.t 380) (.t 383) (.c (.lit (.bool false)))), ku),
 (km 385 384, ku),
 (kG 386 385 true (.mov (.t 14)), ku),
 (kG 387 385 true (.bin .eql (.t 386) (.c kz)), ku),
 (kv 388 (.pick (.t 385) (.t 387) (.c (.lit (.bool false)))), ku),
 (km 389 388, ku),
 (kG 390 389 true (.load (.t 35) (some 2)), ku),
 (⟨(some 391), (some (389, true)), .o (.call (kF 5) [(.c (ki 800)), (.c (ki 900))])⟩, ku),
 (kG 392 389 true (.eqs [(some .i64), (some .i64)] false (.t 390) (.t 391)), ku),
 (kv 393 (.pick (.t 389) (.t 392) (.c (.lit (.bool false)))), ku),
 (km 394 393, ku),
 (kG 395 394 true (.mov (.t 16)), ku),
 (kG 396 394 true (.bin .eql (.t 395) (.c kz)), ku),
 (kv 397 (.pick (.t 394) (.t 396) (.c (.lit (.bool false)))), ku),
 (km 398 397, ku),
 (kG 399 398 true (.mov (.t 36)), ku),
 (⟨(some 400), (some (398, true)), .o (.bsl 3 1 [kz] [(0, 1, (.c kz))])⟩, ku),
 (⟨(some 401), (some (398, true)), .o (.call (kF 16) [(.t 399), (.t 400)])⟩, ku),
 (kv 402 (.pick (.t 398) (.t 401) (.c (.lit (.bool false)))), ku),
 (km 403 402, ku),
 (kG 404 403 true (.mov (.t 18)), ku),
 (kG 405 403 true (.bin .eql (.t 404) (.c kz)), ku),
 (kv 406 (.pick (.t 403) (.t 405) (.c (.lit (.bool false)))), ku),
 (km 407 406, ku),
 (kG 408 407 true (.mov (.t 37)), ku),
 (⟨(some 409), (some (407, true)), .o (.bsl 3 3 [kz, kz, kz] [(0, 1, (.c (ki 3))), (1, 1, (.c (ki 5))), (2, 1, (.c (ki 6)))])⟩, ku),
 (⟨(some 410), (some (407, true)), .o (.call (kF 16) [(.t 408), (.t 409)])⟩, ku),
 (kv 411 (.pick (.t 407) (.t 410) (.c (.lit (.bool false)))), ku),
 (km 412 411, ku),
 (kG 413 412 true (.mov (.t 20)), ku),
 (kG 414 412 true (.bin .eql (.t 413) (.c kz)), ku),
 (kv 415 (.pick (.t 412) (.t 414) (.c (.lit (.bool false)))), ku),
 (km 416 415, ku),
 (kG 417 416 true (.mov (.t 38)), ku),
 (⟨(some 418), (some (416, true)), .o (.bsl 3 2 [kz, kz] [(0, 1, (.c (ki 1))), (1, 1, (.c kz))])⟩, ku)],
 [],
 [⟨(some 419), (some (416, true)), .o (.call (kF 16) [(.t 417), (.t 418)])⟩,
 kv 420 (.pick (.t 416) (.t 419) (.c (.lit (.bool false)))),
 km 421 420,
 kv 422 (.pick (.t 421) (.c (.lit (.bool true))) (.c (.lit (.bool false)))),
 km 423 422,
 ⟨(some 424), (some (423, true)), .o (.call (kF 17) [])⟩,
 kv 425 (.pick (.t 423) (.t 424) (.c (.lit (.bool false)))),
 km 0 425], none⟩])
 .ret))))))))))))))))))))))))))))))))))))))))))))
theorem h3 : FdOk Try.prog 3 ⟨g3, [.t 0], 426, [], false⟩ := .of Try.func3 (by simp [Try.f3]) (by kernel_rfl)
def g4 : RC :=
 (sr [ko 0 (.new 27 [(.lit (.slice none 0 0)), (.lit (.slice none 0 0)), kz, kz, kz, kz])]
 (sr [ko 1 (.bsl 3 3 [kz, kz, kz] [(0, 1, (.c (ki 10))), (1, 1, (.c (ki 20))), (2, 1, (.c (ki 30)))]),
 kc 2 (kF 5) [(.c (ki 500)), (.c (ki 600))],
 kc 3 (kF 5) [(.c (ki 200)), (.c (ki 300))],
 kc 4 (kF 5) [(.c (ki 800)), (.c (ki 900))],
 ko 5 (.bsl 25 3 [kz, kz, kz, kz, kz, kz] [(0, 2, (.t 2)), (2, 2, (.t 3)), (4, 2, (.t 4))]),
 kc 6 (kF 5) [(.c kz), (.c (ki 10))],
 kc 7 (kF 5) [(.c (ki (-1000))), (.c (ki 1000))],
 ko 8 (.bld [(.lit (.slice none 0 0)), (.lit (.slice none 0 0)), kz, kz, kz, kz] [(0, 1, (.t 1)), (1, 1, (.t 5)), (2, 2, (.t 6)), (4, 2, (.t 7))]),
 ks 6 0 8]
 .ret))
theorem h4 : FdOk Try.prog 4 ⟨g4, [.c 0 (some 6)], 9, [], true⟩ := .of Try.func4 (by simp [Try.f4]) (by kernel_rfl)
def g5 : RC :=
 (sr [ko 4 (.new 25 [kz, kz])]
 (sr [km 5 0,
 km 6 1,
 ko 7 (.bld [kz, kz] [(0, 1, (.t 5)), (1, 1, (.t 6))]),
 ks 2 4 7]
 .ret))
theorem h5 : FdOk Try.prog 5 ⟨g5, [.c 4 (some 2)], 8, [], false⟩ := .of Try.func5 (by simp [Try.f5]) (by kernel_rfl)
def g6 : RC :=
 (sr [ko 3 (.box 27 (.t 0)),
 ko 6 (.new 25 [kz, kz]),
 kv 7 (.mov (.c kz))]
 (.seq (sr [kv 10 (.load (.t 3) (some 6)),
 kc 11 (kF 9) [(.t 10)],
 km 8 11]
 (sr [km 12 8,
 kv 13 (.bin .neq (.t 12) (.c kz))]
 (.cond (.t 13)
 (sr [ko 14 (.bld [kz, kz] []),
 km 15 8,
 ks 2 6 14,
 km 7 15]
 .ret)
 .skip)))
 (sr [kv 16 (.load (.t 3) (some 6)),
 ko 17 (.bld [(.lit (.slice none 0 0)), (.lit (.slice none 0 0)), kz, kz, kz, kz] [(0, 6, (.t 16))]),
 ko 9 (.new 58 [(.lit (.slice none 0 0)), (.lit (.slice none 0 0)), kz, kz, kz, kz]),
 ks 6 9 17]
 (.seq (.seq (.drw [⟨[], 0, 2, [(km 18 1, ku),
 (kv 19 (.load (.t 9) (some 6)), ku),
 (kc 20 (kF 19) [(.t 19)], .eff 0 []),
 (kv 21 (.load (.t 9) (some 6)), ku),
 (kc 22 (kF 20) [(.t 21)], .eff 1 [])],
 [],
 [kc 23 (kF 18) [(.t 18), (.t 20), (.t 22)],
 kv 24 (.not (.t 23)),
 km 25 24,
 kG 26 25 false (.mov (.t 2)),
 ⟨(some 27), (some (25, false)), .o (.call (kF 18) [(.t 26), (.c kz), (.c (ki 59))])⟩,
 kG 28 25 false (.not (.t 27)),
 kv 29 (.pick (.t 25) (.c (.lit (.bool true))) (.t 28))], none⟩])
 (.cond (.t 29)
 (sr [ko 30 (.bld [kz, kz] []),
 ks 2 6 30,
 kv 7 (.mov (.c (ki 7)))]
 .ret)
 .skip))
 (sr [kv 31 (.load (.t 9) (some 6)),
 km 32 1,
 km 33 2,
 kc 34 (kF 21) [(.t 31), (.t 32), (.t 33)],
 ks 2 6 34,
 kv 7 (.mov (.c kz))]
 .ret)))))
theorem h6 : FdOk Try.prog 6 ⟨g6, [.c 6 (some 2), .t 7], 35, [], false⟩ := .of Try.func6 (by simp [Try.f6]) (by kernel_rfl)
def g7 : RC :=
 (sr [ko 3 (.box 27 (.t 0)),
 ko 5 (.box 37 (.t 2)),
 kv 6 (.mov (.c (.lit (.slice none 0 0)))),
 kv 7 (.mov (.c kz))]
 (.seq (sr [kv 10 (.load (.t 3) (some 6)),
 km 11 1,
 kc 12 (kF 22) [(.t 10), (.t 11)],
 km 8 12]
 (sr [km 13 8,
 kv 14 (.bin .neq (.t 13) (.c kz))]
 (.cond (.t 14)
 (sr [km 15 8,
 kv 6 (.mov (.c (.lit (.slice none 0 0)))),
 km 7 15]
 .ret)
 .skip)))
 (sr [kv 16 (.load (.t 3) (some 6)),
 ko 17 (.bld [(.lit (.slice none 0 0)), (.lit (.slice none 0 0)), kz, kz, kz, kz] [(0, 6, (.t 16))]),
 ko 9 (.new 58 [(.lit (.slice none 0 0)), (.lit (.slice none 0 0)), kz, kz, kz, kz]),
 ks 6 9 17]
 (.seq (sr [kv 18 (.load (.t 9) (some 6)),
 km 19 1,
 kv 20 (.load (.t 5) (some 4)),
 kc 21 (kF 23) [(.t 18), (.t 19), (.t 20)],
 kv 22 (.not (.t 21))]
 (.cond (.t 22)
 (sr [kv 6 (.mov (.c (.lit (.slice none 0 0)))),
 kv 7 (.mov (.c (ki 74)))]
 .ret)
 .skip))
 (sr [kv 23 (.load (.t 9) (some 6)),
 kv 24 (.load (.t 5) (some 4)),
 kc 25 (kF 24) [(.t 23), (.t 24)],
 km 6 25,
 kv 7 (.mov (.c kz))]
 .ret)))))
theorem h7 : FdOk Try.prog 7 ⟨g7, [.t 6, .t 7], 26, [], false⟩ := .of Try.func7 (by simp [Try.f7]) (by kernel_rfl)
def g8 : RC :=
 (sr [ko 2 (.box 27 (.t 0)),
 kv 4 (.mov (.c (.lit (.slice none 0 0)))),
 kv 5 (.mov (.c kz))]
 (.seq (sr [kv 7 (.load (.t 2) (some 6)),
 km 8 1,
 kc 9 (kF 22) [(.t 7), (.t 8)],
 km 6 9]
 (sr [km 10 6,
 kv 11 (.bin .neq (.t 10) (.c kz))]
 (.cond (.t 11)
 (sr [km 12 6,
 kv 4 (.mov (.c (.lit (.slice none 0 0)))),
 km 5 12]
 .ret)
 .skip)))
 (sr [kv 13 (.load (.t 2) (some 6)),
 ko 14 (.bld [(.lit (.slice none 0 0)), (.lit (.slice none 0 0)), kz, kz, kz, kz] [(0, 6, (.t 13))]),
 km 15 1,
 kc 16 (kF 25) [(.t 14), (.t 15)],
 km 4 16,
 kv 5 (.mov (.c kz))]
 .ret)))
theorem h8 : FdOk Try.prog 8 ⟨g8, [.t 4, .t 5], 17, [], false⟩ := .of Try.func8 (by simp [Try.f8]) (by kernel_rfl)
def g9 : RC :=
 (sr [ko 1 (.box 27 (.t 0)),
 kv 2 (.mov (.c kz))]
 (.seq (sr [kv 3 (.load (.t 1) (some 6)),
 ko 4 (.bld [(.lit (.slice none 0 0)), (.lit (.slice none 0 0)), kz, kz, kz, kz] [(0, 6, (.t 3))]),
 kc 5 (kF 26) [(.t 4)],
 kv 6 (.not (.t 5))]
 (.cond (.t 6)
 (sr [kv 2 (.mov (.c (ki 70)))]
 .ret)
 .skip))
 (sr [kv 2 (.mov (.c kz))]
 .ret)))
theorem h9 : FdOk Try.prog 9 ⟨g9, [.t 2], 7, [], false⟩ := .of Try.func9 (by simp [Try.f9]) (by kernel_rfl)
def g10 : RC :=
 (sr [kv 0 (.mov (.c (.lit (.slice none 0 0))))]
 (sr [kc 1 (kF 5) [(.c (ki 10)), (.c (ki 20))],
 kc 2 (kF 5) [(.c (ki 15)), (.c (ki 25))],
 ko 3 (.bsl 25 2 [kz, kz, kz, kz] [(0, 2, (.t 1)), (2, 2, (.t 2))]),
 km 0 3]
 .ret))
theorem h10 : FdOk Try.prog 10 ⟨g10, [.t 0], 4, [], false⟩ := .of Try.func10 (by simp [Try.f10]) (by kernel_rfl)
def g11 : RC :=
 (sr [kv 0 (.mov (.c (.lit (.slice none 0 0))))]
 (sr [ko 1 (.bsl 3 4 [kz, kz, kz, kz] [(0, 1, (.c (ki 10))), (1, 1, (.c (ki 12))), (2, 1, (.c (ki 11))), (3, 1, (.c (ki 15)))]),
 ⟨(some 2), none, .o (.bld [(.lit (.string ⟨#[]⟩)), (.lit (.slice none 0 0))] [(0, 1, (.c (.lit (.string ⟨#[97, 114, 110, 111, 108, 100]⟩)))), (1, 1, (.t 1))])⟩,
 ko 3 (.bsl 3 4 [kz, kz, kz, kz] [(0, 1, (.c (ki 20))), (1, 1, (.c (ki 21))), (2, 1, (.c (ki 23))), (3, 1, (.c (ki 22)))]),
 ⟨(some 4), none, .o (.bld [(.lit (.string ⟨#[]⟩)), (.lit (.slice none 0 0))] [(0, 1, (.c (.lit (.string ⟨#[101, 97, 114, 110, 115, 104, 97, 119]⟩)))), (1, 1, (.t 3))])⟩,
 ko 5 (.bsl 3 4 [kz, kz, kz, kz] [(0, 1, (.c kz)), (1, 1, (.c kz)), (2, 1, (.c (ki 3))), (3, 1, (.c (ki 1)))]),
 ⟨(some 6), none, .o (.bld [(.lit (.string ⟨#[]⟩)), (.lit (.slice none 0 0))] [(0, 1, (.c (.lit (.string ⟨#[107, 101, 110, 100, 97, 108, 108]⟩)))), (1, 1, (.t 5))])⟩,
 ⟨(some 7), none, .o (.bsl 45 3 [(.lit (.string ⟨#[]⟩)), (.lit (.slice none 0 0)), (.lit (.string ⟨#[]⟩)), (.lit (.slice none 0 0)), (.lit (.string ⟨#[]⟩)), (.lit (.slice none 0 0))] [(0, 2, (.t 2)), (2, 2, (.t 4)), (4, 2, (.t 6))])⟩,
 km 0 7]
 .ret))
theorem h11 : FdOk Try.prog 11 ⟨g11, [.t 0], 8, [], true⟩ := .of Try.func11 (by simp [Try.f11]) (by kernel_rfl)
def g12 : RC :=
 (sr [kv 2 (.mov (.c (.lit (.slice none 0 0)))),
 kv 3 (.mov (.c (.lit (.slice none 0 0)))),
 kv 4 (.mov (.c kz))]
 (.seq (sr [km 5 0,
 kc 6 (kF 27) [(.t 5)],
 kv 7 (.not (.t 6))]
 (.cond (.t 7)
 (sr [kv 2 (.mov (.c (.lit (.slice none 0 0)))),
 kv 3 (.mov (.c (.lit (.slice none 0 0)))),
 kv 4 (.mov (.c (ki 72)))]
 .ret)
 .skip))
 (sr [km 9 0,
 kc 10 (kF 28) [(.t 9)],
 km 8 10,
 kv 11 (.ext (.t 8) 0),
 kv 12 (.ext (.t 8) 1),
 km 2 11,
 km 3 12]
 (sr [km 13 2,
 km 14 3,
 km 2 13,
 km 3 14,
 kv 4 (.mov (.c kz))]
 .ret))))
theorem h12 : FdOk Try.prog 12 ⟨g12, [.t 2, .t 3, .t 4], 15, [], false⟩ := .of Try.func12 (by simp [Try.f12]) (by kernel_rfl)
def g13 : RC :=
 (sr [ko 4 (.new 50 [(.lit (.slice none 0 0)), (.lit (.slice none 0 0)), kz, kz, kz, kz, kz, kz, kz])]
 (sr [km 5 0,
 ko 6 (.bsl 3 4 [kz, kz, kz, kz] [(0, 1, (.c kz)), (1, 1, (.c (ki 2))), (2, 1, (.c (ki 4))), (3, 1, (.t 5))]),
 km 7 1,
 ko 8 (.bsl 3 4 [kz, kz, kz, kz] [(0, 1, (.c kz)), (1, 1, (.c (ki 1))), (2, 1, (.c kz)), (3, 1, (.t 7))]),
 kc 9 (kF 5) [(.c (ki (-5))), (.c (ki 5))],
 kc 10 (kF 5) [(.c (ki (-5))), (.c (ki 5))],
 kc 11 (kF 5) [(.c (ki (-5))), (.c (ki 5))],
 ko 12 (.bld [kz, kz, kz, kz, kz, kz] [(0, 2, (.t 9)), (2, 2, (.t 10)), (4, 2, (.t 11))]),
 ko 13 (.bld [(.lit (.slice none 0 0)), (.lit (.slice none 0 0)), kz, kz, kz, kz, kz, kz, kz] [(0, 1, (.t 6)), (1, 1, (.t 8)), (2, 1, (.c (ki 1))), (3, 6, (.t 12))]),
 ks 9 4 13]
 .ret))
theorem h13 : FdOk Try.prog 13 ⟨g13, [.c 4 (some 9)], 14, [], true⟩ := .of Try.func13 (by simp [Try.f13]) (by kernel_rfl)
def g14 : RC :=
 (sr [ko 1 (.box 50 (.t 0)),
 kv 2 (.mov (.c (.lit (.slice none 0 0)))),
 kv 3 (.mov (.c kz))]
 (sr [kv 5 (.load (.t 1) (some 9)),
 ko 6 (.bld [(.lit (.slice none 0 0)), (.lit (.slice none 0 0)), kz, kz, kz, kz, kz, kz, kz] [(0, 9, (.t 5))]),
 ko 4 (.new 69 [(.lit (.slice none 0 0)), (.lit (.slice none 0 0)), kz, kz, kz, kz, kz, kz, kz]),
 ks 9 4 6]
 (.seq (sr [kv 7 (.load (.t 4) (some 9)),
 kc 8 (kF 29) [(.t 7)],
 kv 9 (.not (.t 8))]
 (.cond (.t 9)
 (sr [kv 2 (.mov (.c (.lit (.slice none 0 0)))),
 kv 3 (.mov (.c (ki 73)))]
 .ret)
 .skip))
 (sr [kv 10 (.load (.t 4) (some 9)),
 kc 11 (kF 30) [(.t 10)],
 km 2 11,
 kv 3 (.mov (.c kz))]
 .ret))))
theorem h14 : FdOk Try.prog 14 ⟨g14, [.t 2, .t 3], 12, [], false⟩ := .of Try.func14 (by simp [Try.f14]) (by kernel_rfl)
def g15 : RC :=
 (sr [ko 1 (.box 50 (.t 0)),
 kv 2 (.mov (.c kz)),
 kv 3 (.mov (.c kz))]
 (sr [kv 7 (.load (.t 1) (some 9)),
 ko 8 (.bld [(.lit (.slice none 0 0)), (.lit (.slice none 0 0)), kz, kz, kz, kz, kz, kz, kz] [(0, 9, (.t 7))]),
 ko 4 (.new 69 [(.lit (.slice none 0 0)), (.lit (.slice none 0 0)), kz, kz, kz, kz, kz, kz, kz]),
 ks 9 4 8]
 (.seq (sr [kv 9 (.load (.t 4) (some 9)),
 kc 10 (kF 29) [(.t 9)],
 kv 11 (.not (.t 10))]
 (.cond (.t 11)
 (sr [kv 2 (.mov (.c kz)),
 kv 3 (.mov (.c (ki 73)))]
 .ret)
 .skip))
 (sr [kv 13 (.load (.t 4) (some 9)),
 kc 14 (kF 31) [(.t 13)],
 km 12 14,
 kv 15 (.ext (.t 12) 0),
 kv 16 (.ext (.t 12) 1),
 km 5 15,
 km 6 16]
 (.seq (sr [km 17 6,
 kv 18 (.not (.t 17))]
 (.cond (.t 18)
 (sr [kv 2 (.mov (.c kz)),
 kv 3 (.mov (.c (ki 4)))]
 .ret)
 .skip))
 (sr [km 19 5,
 km 2 19,
 kv 3 (.mov (.c kz))]
 .ret))))))
theorem h15 : FdOk Try.prog 15 ⟨g15, [.t 2, .t 3], 20, [], false⟩ := .of Try.func15 (by simp [Try.f15]) (by kernel_rfl)
def g16 : RC :=
 (sr [kv 4 (.mov (.c (.lit (.bool false))))]
 (.seq (sr [km 6 0,
 kv 7 (.len (.t 6)),
 km 8 1,
 kv 9 (.len (.t 8)),
 kv 10 (.bin .neq (.t 7) (.t 9))]
 (.cond (.t 10)
 (sr [kv 4 (.mov (.c (.lit (.bool false))))]
 .ret)
 .skip))
 (.seq (sr [kv 5 (.mov (.c kz))]
 (.block 0 (.loop
 (.seq (sr [km 11 5,
 km 12 0,
 kv 13 (.len (.t 12)),
 kv 14 (.bin .lss (.t 11) (.t 13))]
 (.cond (.t 14)
 .skip
 (.exit 0)))
 (.seq (.block 1 (.seq (.drw [⟨[], 0, 0, [(km 17 0, ku),
 (km 18 5, ku),
 (kv 19 (.ixa (.t 17) (.t 18) 1), ku),
 (kl 20 19, ku),
 (km 21 1, ku),
 (km 22 5, ku),
 (kv 23 (.ixa (.t 21) (.t 22) 1), ku),
 (kl 24 23, ku)],
 [],
 [kv 25 (.bin .neq (.t 20) (.t 24))], none⟩])
 (.cond (.t 25)
 (sr [kv 4 (.mov (.c (.lit (.bool false))))]
 .ret)
 .skip)))
 (.reg [km 15 5,
 kv 16 (.bin .add (.t 15) (.c (ki 1))),
 km 5 16]))))))
 (sr [kv 4 (.mov (.c (.lit (.bool true))))]
 .ret))))
theorem h16 : FdOk Try.prog 16 ⟨g16, [.t 4], 26, [], false⟩ := .of Try.func16 (by simp [Try.f16]) (by kernel_rfl)
def g17 : RC :=
 (sr [kv 0 (.mov (.c (.lit (.bool false))))]
 (sr [kc 14 (kF 4) [],
 kc 15 (kF 6) [(.t 14), (.c (ki 15)), (.c (ki 10))],
 km 13 15,
 kv 16 (.ext (.t 13) 0),
 kv 17 (.ext (.t 13) 1),
 ko 1 (.new 25 [kz, kz]),
 ks 2 1 16,
 km 2 17]
 (sr [kc 19 (kF 4) [],
 kc 20 (kF 10) [],
 kc 21 (kF 8) [(.t 19), (.t 20)],
 km 18 21,
 kv 22 (.ext (.t 18) 0),
 kv 23 (.ext (.t 18) 1),
 km 3 22,
 km 4 23]
 (sr [kc 25 (kF 4) [],
 kc 26 (kF 10) [],
 ko 27 (.bsl 3 3 [kz, kz, kz] [(0, 1, (.c (ki 550))), (1, 1, (.c (ki 250))), (2, 1, (.c (ki 850)))]),
 ko 28 (.bsl 3 2 [kz, kz] [(0, 1, (.c (ki 20))), (1, 1, (.c (ki 25)))]),
 ko 29 (.bld [(.lit (.slice none 0 0)), kz, kz, (.lit (.slice none 0 0))] [(0, 1, (.t 27)), (1, 1, (.c (ki 5))), (2, 1, (.c (ki 100))), (3, 1, (.t 28))]),
 kc 30 (kF 7) [(.t 25), (.t 26), (.t 29)],
 km 24 30,
 kv 31 (.ext (.t 24) 0),
 kv 32 (.ext (.t 24) 1),
 km 5 31,
 km 6 32]
 (sr [kc 34 (kF 11) [],
 kc 35 (kF 12) [(.t 34)],
 km 33 35,
 kv 36 (.ext (.t 33) 0),
 kv 37 (.ext (.t 33) 1),
 kv 38 (.ext (.t 33) 2),
 km 7 36,
 km 8 37,
 km 9 38]
 (.seq (.seq (.drw [⟨[2, 4, 6, 9, 1, 3, 5, 7, 8], 0, 0, [(km 39 2, ku),
 (kv 40 (.bin .neq (.t 39) (.c kz)), ku),
 (km 41 40, ku),
 (kG 42 41 false (.mov (.t 4)), ku),
 (kG 43 41 false (.bin .neq (.t 42) (.c kz)), ku),
 (kv 44 (.pick (.t 41) (.c (.lit (.bool true))) (.t 43)), ku),
 (km 45 44, ku),
 (kG 46 45 false (.mov (.t 6)), ku),
 (kG 47 45 false (.bin .neq (.t 46) (.c kz)), ku),
 (kv 48 (.pick (.t 45) (.c (.lit (.bool true))) (.t 47)), ku),
 (km 49 48, ku),
 (kG 50 49 false (.mov (.t 9)), ku),
 (kG 51 49 false (.bin .neq (.t 50) (.c kz)), ku),
 (kv 52 (.pick (.t 49) (.c (.lit (.bool true))) (.t 51)), ku),
 (km 53 52, ku),
 (kG 54 53 false (.load (.t 1) (some 2)), ku),
 (⟨(some 55), (some (53, false)), .o (.call (kF 5) [(.c (ki 350)), (.c (ki 550))])⟩, ku),
 (kG 56 53 false (.eqs [(some .i64), (some .i64)] true (.t 54) (.t 55)), ku),
 (kv 57 (.pick (.t 53) (.c (.lit (.bool true))) (.t 56)), ku),
 (km 58 57, ku),
 (kG 59 58 false (.mov (.t 3)), ku),
 (⟨(some 60), (some (58, false)), .o (.call (kF 5) [(.c (ki (-800))), (.c (ki 1600))])⟩, ku),
 (⟨(some 61), (some (58, false)), .o (.call (kF 5) [(.c (ki (-600))), (.c (ki 2210))])⟩, ku),
 (⟨(some 62), (some (58, false)), .o (.bsl 25 2 [kz, kz, kz, kz] [(0, 2, (.t 60)), (2, 2, (.t 61))])⟩, ku),
 (⟨(some 63), (some (58, false)), .o (.call (kF 32) [(.t 59), (.t 62)])⟩, ku),
 (kG 64 58 false (.not (.t 63)), ku),
 (kv 65 (.pick (.t 58) (.c (.lit (.bool true))) (.t 64)), ku),
 (km 66 65, ku),
 (kG 67 66 false (.mov (.t 5)), ku),
 (⟨(some 68), (some (66, false)), .o (.bsl 3 2 [kz, kz] [(0, 1, (.c (ki 350))), (1, 1, (.c (ki 905)))])⟩, ku),
 (⟨(some 69), (some (66, false)), .o (.call (kF 16) [(.t 67), (.t 68)])⟩, ku),
 (kG 70 66 false (.not (.t 69)), ku),
 (kv 71 (.pick (.t 66) (.c (.lit (.bool true))) (.t 70)), ku),
 (km 72 71, ku),
 (kG 73 72 false (.mov (.t 7)), ku),
 (⟨(some 74), (some (72, false)), .o (.bsl 3 3 [kz, kz, kz] [(0, 1, (.c (ki 1))), (1, 1, (.c (ki 2))), (2, 1, (.c kz))])⟩, ku),
 (⟨(some 75), (some (72, false)), .o (.call (kF 16) [(.t 73), (.t 74)])⟩, ku),
 (kG 76 72 false (.not (.t 75)), ku),
 (kv 77 (.pick (.t 72) (.c (.lit (.bool true))) (.t 76)), ku),
 (km 78 77, ku),
 (kG 79 78 false (.mov (.t 8)), ku),
 (⟨(some 80), (some (78, false)), .o (.bsl 3 3 [kz, kz, kz] [(0, 1, (.c (ki 13))), (1, 1, (.c (ki 7))), (2, 1, (.c (ki 9)))])⟩, ku)],
 [],
 [⟨(some 81), (some (78, false)), .o (.call (kF 16) [(.t 79), (.t 80)])⟩,
 kG 82 78 false (.not (.t 81)),
 kv 83 (.pick (.t 78) (.c (.lit (.bool true))) (.t 82))], none⟩])
 (.cond (.t 83)
 (sr [kv 0 (.mov (.c (.lit (.bool false))))]
 .ret)
 .skip))
 (sr [kc 85 (kF 13) [(.c (ki 30)), (.c (ki 1))],
 kc 86 (kF 14) [(.t 85)],
 km 84 86,
 kv 87 (.ext (.t 84) 0),
 kv 88 (.ext (.t 84) 1),
 km 10 87,
 km 2 88]
 (sr [kc 90 (kF 13) [(.c (ki 30)), (.c (ki (-26)))],
 kc 91 (kF 14) [(.t 90)],
 km 89 91,
 kv 92 (.ext (.t 89) 0),
 kv 93 (.ext (.t 89) 1),
 km 11 92,
 km 4 93]
 (sr [kc 95 (kF 13) [(.c (ki 30)), (.c (ki 1))],
 kc 96 (kF 15) [(.t 95)],
 km 94 96,
 kv 97 (.ext (.t 94) 0),
 kv 98 (.ext (.t 94) 1),
 km 12 97,
 km 6 98]
 (sr [km 99 2,
 kv 100 (.bin .eql (.t 99) (.c kz)),
 km 101 100,
 kG 102 101 true (.mov (.t 4)),
 kG 103 101 true (.bin .eql (.t 102) (.c kz)),
 kv 104 (.pick (.t 101) (.t 103) (.c (.lit (.bool false)))),
 km 105 104,
 kG 106 105 true (.mov (.t 6)),
 kG 107 105 true (.bin .eql (.t 106) (.c kz)),
 kv 108 (.pick (.t 105) (.t 107) (.c (.lit (.bool false)))),
 km 109 108,
 kG 110 109 true (.mov (.t 10)),
 ⟨(some 111), (some (109, true)), .o (.bsl 3 1 [kz] [(0, 1, (.c (ki 1)))])⟩,
 ⟨(some 112), (some (109, true)), .o (.call (kF 16) [(.t 110), (.t 111)])⟩,
 kv 113 (.pick (.t 109) (.t 112) (.c (.lit (.bool false)))),
 km 114 113,
 kG 115 114 true (.mov (.t 11)),
 ⟨(some 116), (some (114, true)), .o (.bsl 3 1 [kz] [(0, 1, (.c (ki 2)))])⟩,
 ⟨(some 117), (some (114, true)), .o (.call (kF 16) [(.t 115), (.t 116)])⟩,
 kv 118 (.pick (.t 114) (.t 117) (.c (.lit (.bool false)))),
 km 119 118,
 kG 120 119 true (.mov (.t 12)),
 kG 121 119 true (.bin .eql (.t 120) (.c (ki 3))),
 kv 122 (.pick (.t 119) (.t 121) (.c (.lit (.bool false)))),
 km 0 122]
 .ret))))))))))
theorem h17 : FdOk Try.prog 17 ⟨g17, [.t 0], 123, [], false⟩ := .of Try.func17 (by simp [Try.f17]) (by kernel_rfl)
def g18 : RC :=
 (sr [kv 6 (.mov (.c (.lit (.bool false))))]
 (sr [km 7 1,
 km 8 0,
 kv 9 (.bin .leq (.t 7) (.t 8)),
 km 10 9,
 kG 11 10 true (.mov (.t 0)),
 kG 12 10 true (.mov (.t 2)),
 kG 13 10 true (.bin .leq (.t 11) (.t 12)),
 kv 14 (.pick (.t 10) (.t 13) (.c (.lit (.bool false)))),
 km 6 14]
 .ret))
theorem h18 : FdOk Try.prog 18 ⟨g18, [.t 6], 15, [], false⟩ := .of Try.func18 (by simp [Try.f18]) (by kernel_rfl)
def g19 : RC :=
 (sr [ko 1 (.box 58 (.t 0)),
 kv 2 (.mov (.c kz))]
 (sr [kf 3 1 0,
 kf 4 3 0,
 kl 5 4,
 kv 6 (.ixa (.t 5) (.c kz) 1),
 kl 7 6,
 km 2 7]
 .ret))
theorem h19 : FdOk Try.prog 19 ⟨g19, [.t 2], 8, [], false⟩ := .of Try.func19 (by simp [Try.f19]) (by kernel_rfl)
def g20 : RC :=
 (sr [ko 1 (.box 58 (.t 0)),
 kv 2 (.mov (.c kz))]
 (sr [kf 3 1 0,
 kf 4 3 0,
 kl 5 4,
 kf 6 1 0,
 kf 7 6 0,
 kl 8 7,
 kv 9 (.len (.t 8)),
 kv 10 (.bin .sub (.t 9) (.c (ki 1))),
 kv 11 (.ixa (.t 5) (.t 10) 1),
 kl 12 11,
 km 2 12]
 .ret))
theorem h20 : FdOk Try.prog 20 ⟨g20, [.t 2], 13, [], false⟩ := .of Try.func20 (by simp [Try.f20]) (by kernel_rfl)
def g22 : RC :=
 (sr [ko 2 (.box 27 (.t 0)),
 kv 4 (.mov (.c kz))]
 (.seq (sr [kv 6 (.load (.t 2) (some 6)),
 kc 7 (kF 9) [(.t 6)],
 km 5 7]
 (sr [km 8 5,
 kv 9 (.bin .neq (.t 8) (.c kz))]
 (.cond (.t 9)
 (sr [km 10 5,
 km 4 10]
 .ret)
 .skip)))
 (.seq (sr [kv 11 (.load (.t 2) (some 6)),
 ko 12 (.bld [(.lit (.slice none 0 0)), (.lit (.slice none 0 0)), kz, kz, kz, kz] [(0, 6, (.t 11))]),
 km 13 1,
 kc 14 (kF 38) [(.t 12), (.t 13)],
 kv 15 (.not (.t 14))]
 (.cond (.t 15)
 (sr [kv 4 (.mov (.c (ki 71)))]
 .ret)
 .skip))
 (sr [kv 4 (.mov (.c kz))]
 .ret))))
theorem h22 : FdOk Try.prog 22 ⟨g22, [.t 4], 16, [], false⟩ := .of Try.func22 (by simp [Try.f22]) (by kernel_rfl)
def g23 : RC :=
 (sr [ko 3 (.box 58 (.t 0)),
 ko 5 (.box 37 (.t 2)),
 kv 6 (.mov (.c (.lit (.bool false))))]
 (sr [kf 7 5 0,
 kl 8 7,
 kf 9 3 0,
 kf 10 9 1,
 kl 11 10,
 kc 12 (kF 39) [(.t 8), (.t 11)],
 km 13 12,
 kG 14 13 true (.off (.t 5) 1),
 kG 15 13 true (.load (.t 14) none),
 kG 16 13 true (.off (.t 3) 0),
 kG 17 13 true (.off (.t 16) 2),
 kG 18 13 true (.load (.t 17) (some 2)),
 ⟨(some 19), (some (13, true)), .o (.call (kF 40) [(.t 15), (.t 18)])⟩,
 kv 20 (.pick (.t 13) (.t 19) (.c (.lit (.bool false)))),
 km 21 20,
 kG 22 21 true (.off (.t 5) 2),
 kG 23 21 true (.load (.t 22) none),
 kG 24 21 true (.off (.t 3) 0),
 kG 25 21 true (.off (.t 24) 4),
 kG 26 21 true (.load (.t 25) (some 2)),
 ⟨(some 27), (some (21, true)), .o (.call (kF 40) [(.t 23), (.t 26)])⟩,
 kv 28 (.pick (.t 21) (.t 27) (.c (.lit (.bool false)))),
 km 29 28,
 kG 30 29 true (.off (.t 5) 3),
 kG 31 29 true (.load (.t 30) none),
 kG 32 29 true (.mov (.t 1)),
 ⟨(some 33), (some (29, true)), .o (.call (kF 39) [(.t 31), (.t 32)])⟩,
 kv 34 (.pick (.t 29) (.t 33) (.c (.lit (.bool false)))),
 km 6 34]
 .ret))
theorem h23 : FdOk Try.prog 23 ⟨g23, [.t 6], 35, [], false⟩ := .of Try.func23 (by simp [Try.f23]) (by kernel_rfl)
def g26 : RC :=
 (sr [ko 1 (.box 58 (.t 0)),
 kv 2 (.mov (.c (.lit (.bool false))))]
 (sr [kf 3 1 0,
 kf 4 3 0,
 kl 5 4,
 kv 6 (.len (.t 5)),
 kc 7 (kF 18) [(.t 6), (.c (ki 2)), (.c (ki 8))],
 km 8 7,
 kG 9 8 true (.load (.t 1) (some 6)),
 ⟨(some 10), (some (8, true)), .o (.call (kF 43) [(.t 9)])⟩,
 kv 11 (.pick (.t 8) (.t 10) (.c (.lit (.bool false)))),
 km 12 11,
 kG 13 12 true (.off (.t 1) 0),
 kG 14 12 true (.off (.t 13) 1),
 kG 15 12 true (.load (.t 14) none),
 kG 16 12 true (.len (.t 15)),
 kG 17 12 true (.off (.t 1) 0),
 kG 18 12 true (.off (.t 17) 0),
 kG 19 12 true (.load (.t 18) none),
 kG 20 12 true (.len (.t 19)),
 kG 21 12 true (.bin .eql (.t 16) (.t 20)),
 kv 22 (.pick (.t 12) (.t 21) (.c (.lit (.bool false)))),
 km 23 22,
 kG 24 23 true (.off (.t 1) 0),
 kG 25 23 true (.off (.t 24) 1),
 kG 26 23 true (.load (.t 25) none),
 ⟨(some 27), (some (23, true)), .o (.call (kF 44) [(.t 26), (.c (ki (-100000))), (.c (ki 100000))])⟩,
 kv 28 (.pick (.t 23) (.t 27) (.c (.lit (.bool false)))),
 km 29 28,
 kG 30 29 true (.off (.t 1) 0),
 kG 31 29 true (.off (.t 30) 2),
 kG 32 29 true (.load (.t 31) (some 2)),
 ⟨(some 33), (some (29, true)), .o (.call (kF 45) [(.t 32), (.c (ki (-1000))), (.c (ki 1000))])⟩,
 kv 34 (.pick (.t 29) (.t 33) (.c (.lit (.bool false)))),
 km 35 34,
 kG 36 35 true (.off (.t 1) 0),
 kG 37 35 true (.off (.t 36) 4),
 kG 38 35 true (.load (.t 37) (some 2)),
 ⟨(some 39), (some (35, true)), .o (.call (kF 45) [(.t 38), (.c (ki (-10000000))), (.c (ki 10000000))])⟩,
 kv 40 (.pick (.t 35) (.t 39) (.c (.lit (.bool false)))),
 km 2 40]
 .ret))
theorem h26 : FdOk Try.prog 26 ⟨g26, [.t 2], 41, [], false⟩ := .of Try.func26 (by simp [Try.f26]) (by kernel_rfl)
def g27 : RC :=
 (sr [kv 2 (.mov (.c (.lit (.bool false))))]
 (.seq (sr [km 6 0,
 kv 7 (.len (.t 6)),
 kc 8 (kF 18) [(.t 7), (.c (ki 1)), (.c (ki 12))],
 kv 9 (.not (.t 8))]
 (.cond (.t 9)
 (sr [kv 2 (.mov (.c (.lit (.bool false))))]
 .ret)
 .skip))
 (sr [⟨(some 10), none, .mkm⟩,
 km 3 10]
 (.seq (sr [km 11 0,
 kv 12 (.len (.t 11)),
 kv 13 (.mov (.c kz))]
 (.block 0 (.loop
 (sr [kv 14 (.bin .lss (.t 13) (.t 12))]
 (.seq (.cond (.t 14)
 .skip
 (.exit 0))
 (.seq (.block 1 (sr [kv 15 (.ixa (.t 11) (.t 13) 2),
 kv 16 (.load (.t 15) (some 2)),
 ⟨(some 5), none, .o (.new 45 [(.lit (.string ⟨#[]⟩)), (.lit (.slice none 0 0))])⟩,
 ks 2 5 16]
 (.seq (sr [kf 17 5 0,
 kl 18 17,
 kc 19 (kF 46) [(.t 18)],
 kv 20 (.not (.t 19)),
 km 21 20,
 kG 22 21 false (.mov (.t 3)),
 kG 23 21 false (.off (.t 5) 0),
 kG 24 21 false (.load (.t 23) none),
 ⟨(some 25), (some (21, false)), .lku .s (.lit (.bool false)) false (.t 22) (.t 24)⟩,
 kv 26 (.pick (.t 21) (.c (.lit (.bool true))) (.t 25))]
 (.cond (.t 26)
 (sr [kv 2 (.mov (.c (.lit (.bool false))))]
 .ret)
 .skip))
 (sr [km 27 3,
 kf 28 5 0,
 kl 29 28,
 ⟨none, none, .upd .s (.t 27) (.t 29) (.c (.lit (.bool true)))⟩]
 (.seq (.drw [⟨[], 0, 0, [(kf 30 5 1, ku),
 (kl 31 30, ku),
 (kv 32 (.len (.t 31)), ku),
 (km 33 0, ku),
 (kv 34 (.ixa (.t 33) (.c kz) 2), ku),
 (kf 35 34 1, ku),
 (kl 36 35, ku),
 (kv 37 (.len (.t 36)), ku)],
 [],
 [kv 38 (.bin .neq (.t 32) (.t 37)),
 km 39 38,
 kG 40 39 false (.off (.t 5) 1),
 kG 41 39 false (.load (.t 40) none),
 ⟨(some 42), (some (39, false)), .o (.call (kF 47) [(.t 41)])⟩,
 kG 43 39 false (.not (.t 42)),
 kv 44 (.pick (.t 39) (.c (.lit (.bool true))) (.t 43))], none⟩])
 (.cond (.t 44)
 (sr [kv 2 (.mov (.c (.lit (.bool false))))]
 .ret)
 .skip))))))
 (.reg [kv 45 (.bin .add (.t 13) (.c (ki 1))),
 km 13 45])))))))
 (sr [kv 2 (.mov (.c (.lit (.bool true))))]
 .ret)))))
theorem h27 : FdOk Try.prog 27 ⟨g27, [.t 2], 46, [], false⟩ := .of Try.func27 (by simp [Try.f27]) (by kernel_rfl)
def g28 : RC :=
 (sr [kv 2 (.mov (.c (.lit (.slice none 0 0)))),
 kv 3 (.mov (.c (.lit (.slice none 0 0))))]
 (sr [kv 4 (.mov (.c (.lit (.slice none 0 0))))]
 (.seq (sr [km 9 0,
 kv 10 (.len (.t 9)),
 kv 11 (.mov (.c kz))]
 (.block 0 (.loop
 (sr [kv 12 (.bin .lss (.t 11) (.t 10))]
 (.seq (.cond (.t 12)
 .skip
 (.exit 0))
 (.seq (.block 1 (sr [km 13 11,
 kv 14 (.ixa (.t 9) (.t 11) 2),
 kv 15 (.load (.t 14) (some 2)),
 ⟨(some 6), none, .o (.new 45 [(.lit (.string ⟨#[]⟩)), (.lit (.slice none 0 0))])⟩,
 km 5 13,
 ks 2 6 15]
 (sr [km 16 4,
 kv 17 (.load (.t 6) (some 2)),
 km 18 5,
 kc 19 (kF 48) [(.t 17), (.t 18)],
 ⟨(some 20), none, .o (.bsl 98 1 [(.lit (.string ⟨#[]⟩)), (.lit (.slice none 0 0)), kz, kz] [(0, 4, (.t 19))])⟩,
 ko 21 (.app 98 4 56 (.t 16) (.t 20)),
 km 4 21]
 (.reg [km 22 3,
 km 23 4,
 km 24 5,
 kv 25 (.ixa (.t 23) (.t 24) 4),
 kf 26 25 3,
 kl 27 26,
 ko 28 (.bsl 3 1 [kz] [(0, 1, (.t 27))]),
 ko 29 (.app 3 1 8 (.t 22) (.t 28)),
 km 3 29]))))
 (.reg [kv 30 (.bin .add (.t 11) (.c (ki 1))),
 km 11 30])))))))
 (sr [km 31 4,
 kc 32 (kF 49) [(.t 31), (kF 50)]]
 (.seq (sr [km 33 4,
 kv 34 (.len (.t 33)),
 kv 35 (.mov (.c kz))]
 (.block 2 (.loop
 (sr [kv 36 (.bin .lss (.t 35) (.t 34))]
 (.seq (.cond (.t 36)
 .skip
 (.exit 2))
 (.seq (.block 3 (sr [kv 37 (.ixa (.t 33) (.t 35) 4),
 kv 38 (.load (.t 37) (some 4)),
 ⟨(some 8), none, .o (.new 98 [(.lit (.string ⟨#[]⟩)), (.lit (.slice none 0 0)), kz, kz])⟩,
 ks 4 8 38]
 (.reg [km 39 2,
 kf 40 8 2,
 kl 41 40,
 ko 42 (.bsl 3 1 [kz] [(0, 1, (.t 41))]),
 ko 43 (.app 3 1 8 (.t 39) (.t 42)),
 km 2 43])))
 (.reg [kv 44 (.bin .add (.t 35) (.c (ki 1))),
 km 35 44])))))))
 (sr [km 45 2,
 km 46 3,
 km 2 45,
 km 3 46]
 .ret))))))
theorem h28 : FdOk Try.prog 28 ⟨g28, [.t 2, .t 3], 47, [], false⟩ := .of Try.func28 (by simp [Try.f28]) (by kernel_rfl)
def g29 : RC :=
 (sr [ko 1 (.box 69 (.t 0)),
 kv 2 (.mov (.c (.lit (.bool false))))]
 (sr [kf 3 1 0,
 kf 4 3 0,
 kl 5 4,
 kv 6 (.len (.t 5)),
 kc 7 (kF 18) [(.t 6), (.c (ki 2)), (.c (ki 20))],
 km 8 7,
 kG 9 8 true (.off (.t 1) 0),
 kG 10 8 true (.off (.t 9) 1),
 kG 11 8 true (.load (.t 10) none),
 kG 12 8 true (.len (.t 11)),
 kG 13 8 true (.off (.t 1) 0),
 kG 14 8 true (.off (.t 13) 0),
 kG 15 8 true (.load (.t 14) none),
 kG 16 8 true (.len (.t 15)),
 kG 17 8 true (.bin .eql (.t 12) (.t 16)),
 kv 18 (.pick (.t 8) (.t 17) (.c (.lit (.bool false)))),
 km 19 18,
 kG 20 19 true (.off (.t 1) 0),
 kG 21 19 true (.off (.t 20) 0),
 kG 22 19 true (.load (.t 21) none),
 ⟨(some 23), (some (19, true)), .o (.call (kF 51) [(.t 22), (.c (ki (-1000000000))), (.c (ki 1000000000))])⟩,
 kv 24 (.pick (.t 19) (.t 23) (.c (.lit (.bool false)))),
 km 25 24,
 kG 26 25 true (.off (.t 1) 0),
 kG 27 25 true (.off (.t 26) 1),
 kG 28 25 true (.load (.t 27) none),
 ⟨(some 29), (some (25, true)), .o (.call (kF 51) [(.t 28), (.c (ki (-1000000000))), (.c (ki 1000000000))])⟩,
 kv 30 (.pick (.t 25) (.t 29) (.c (.lit (.bool false)))),
 km 31 30,
 kG 32 31 true (.off (.t 1) 0),
 kG 33 31 true (.off (.t 32) 2),
 kG 34 31 true (.load (.t 33) none),
 ⟨(some 35), (some (31, true)), .o (.call (kF 18) [(.t 34), (.c kz), (.c (ki 1000))])⟩,
 kv 36 (.pick (.t 31) (.t 35) (.c (.lit (.bool false)))),
 km 37 36,
 kG 38 37 true (.off (.t 1) 0),
 kG 39 37 true (.off (.t 38) 3),
 ⟨(some 40), (some (37, true)), .e1 (.sla 3 2) (.t 39)⟩,
 ⟨(some 41), (some (37, true)), .o (.call (kF 44) [(.t 40), (.c (ki (-100000))), (.c (ki 100000))])⟩,
 kv 42 (.pick (.t 37) (.t 41) (.c (.lit (.bool false)))),
 km 2 42]
 .ret))
theorem h29 : FdOk Try.prog 29 ⟨g29, [.t 2], 43, [], false⟩ := .of Try.func29 (by simp [Try.f29]) (by kernel_rfl)
def g30 : RC :=
 (sr [ko 1 (.box 69 (.t 0)),
 kv 2 (.mov (.c (.lit (.slice none 0 0))))]
 (sr [kv 6 (.mkfn 52 [(.t 1)]),
 km 3 6]
 (sr [kv 4 (.mov (.c (.lit (.slice none 0 0))))]
 (.seq (sr [kv 7 (.mov (.c kz))]
 (.block 0 (.loop
 (sr [kv 8 (.bin .lss (.t 7) (.c (ki 3)))]
 (.seq (.cond (.t 8)
 .skip
 (.exit 0))
 (.seq (.block 1 (sr [km 9 7,
 km 5 9]
 (sr [km 10 3,
 km 11 5,
 kc 12 (.t 10) [(.t 11)],
 km 4 12]
 (sr [km 13 4,
 kv 14 (.len (.t 13)),
 kv 15 (.bin .gtr (.t 14) (.c kz))]
 (.cond (.t 15)
 (.exit 0)
 .skip)))))
 (.reg [kv 16 (.bin .add (.t 7) (.c (ki 1))),
 km 7 16])))))))
 (sr [km 17 4,
 km 2 17]
 .ret)))))
theorem h30 : FdOk Try.prog 30 ⟨g30, [.t 2], 18, [], false⟩ := .of Try.func30 (by simp [Try.f30]) (by kernel_rfl)
def g31 : RC :=
 (sr [ko 1 (.box 69 (.t 0)),
 kv 2 (.mov (.c kz)),
 kv 3 (.mov (.c (.lit (.bool false))))]
 (.seq (sr [kf 5 1 0,
 kf 6 5 0,
 kl 7 6,
 kv 8 (.len (.t 7)),
 kv 9 (.mov (.c kz))]
 (.block 0 (.loop
 (sr [kv 10 (.bin .lss (.t 9) (.t 8))]
 (.seq (.cond (.t 10)
 .skip
 (.exit 0))
 (.seq (.block 1 (sr [km 11 9,
 km 4 11]
 (sr [kv 12 (.load (.t 1) (some 9)),
 km 13 4,
 kc 14 (kF 55) [(.t 12), (.t 13)],
 kc 15 (kF 54) [(.t 14), (.c kz)],
 kv 16 (.not (.t 15))]
 (.cond (.t 16)
 (sr [km 17 4,
 km 2 17,
 kv 3 (.mov (.c (.lit (.bool true))))]
 .ret)
 .skip))))
 (.reg [kv 18 (.bin .add (.t 9) (.c (ki 1))),
 km 9 18])))))))
 (sr [kv 2 (.mov (.c kz)),
 kv 3 (.mov (.c (.lit (.bool false))))]
 .ret)))
theorem h31 : FdOk Try.prog 31 ⟨g31, [.t 2, .t 3], 19, [], false⟩ := .of Try.func31 (by simp [Try.f31]) (by kernel_rfl)
def g32 : RC :=
 (sr [kv 4 (.mov (.c (.lit (.bool false))))]
 (.seq (sr [km 6 0,
 kv 7 (.len (.t 6)),
 km 8 1,
 kv 9 (.len (.t 8)),
 kv 10 (.bin .neq (.t 7) (.t 9))]
 (.cond (.t 10)
 (sr [kv 4 (.mov (.c (.lit (.bool false))))]
 .ret)
 .skip))
 (.seq (sr [kv 5 (.mov (.c kz))]
 (.block 0 (.loop
 (.seq (sr [km 11 5,
 km 12 0,
 kv 13 (.len (.t 12)),
 kv 14 (.bin .lss (.t 11) (.t 13))]
 (.cond (.t 14)
 .skip
 (.exit 0)))
 (.seq (.block 1 (.seq (.drw [⟨[], 0, 0, [(km 17 0, ku),
 (km 18 5, ku),
 (kv 19 (.ixa (.t 17) (.t 18) 2), ku),
 (kv 20 (.load (.t 19) (some 2)), ku),
 (km 21 1, ku),
 (km 22 5, ku),
 (kv 23 (.ixa (.t 21) (.t 22) 2), ku),
 (kv 24 (.load (.t 23) (some 2)), ku)],
 [],
 [kv 25 (.eqs [(some .i64), (some .i64)] true (.t 20) (.t 24))], none⟩])
 (.cond (.t 25)
 (sr [kv 4 (.mov (.c (.lit (.bool false))))]
 .ret)
 .skip)))
 (.reg [km 15 5,
 kv 16 (.bin .add (.t 15) (.c (ki 1))),
 km 5 16]))))))
 (sr [kv 4 (.mov (.c (.lit (.bool true))))]
 .ret))))
theorem h32 : FdOk Try.prog 32 ⟨g32, [.t 4], 26, [], false⟩ := .of Try.func32 (by simp [Try.f32]) (by kernel_rfl)
def g38 : RC :=
 (sr [ko 2 (.box 58 (.t 0)),
 kv 4 (.mov (.c (.lit (.bool false))))]
 (.seq (.drw [⟨[], 0, 3, [(km 5 1, ku),
 (kv 6 (.len (.t 5)), ku),
 (kc 7 (kF 18) [(.t 6), (.c (ki 1)), (.c (ki 60))], .eff 0 []),
 (km 8 7, .val 1 []),
 (kG 9 8 true (.mov (.t 1)), .val 1 []),
 (kG 10 8 true (.load (.t 2) (some 6)), .val 1 []),
 (⟨(some 11), (some (8, true)), .o (.call (kF 19) [(.t 10)])⟩, .eff 1 []),
 (kG 12 8 true (.load (.t 2) (some 6)), .val 1 []),
 (⟨(some 13), (some (8, true)), .o (.call (kF 20) [(.t 12)])⟩, .eff 2 [])],
 [],
 [⟨(some 14), (some (8, true)), .o (.call (kF 44) [(.t 9), (.t 11), (.t 13)])⟩,
 kv 15 (.pick (.t 8) (.t 14) (.c (.lit (.bool false)))),
 km 4 15], none⟩])
 .ret))
theorem h38 : FdOk Try.prog 38 ⟨g38, [.t 4], 16, [], false⟩ := .of Try.func38 (by simp [Try.f38]) (by kernel_rfl)
def g39 : RC :=
 (sr [kv 4 (.mov (.c (.lit (.bool false))))]
 (.seq (sr [km 7 0,
 kv 8 (.len (.t 7)),
 km 9 1,
 kv 10 (.len (.t 9)),
 kv 11 (.bin .neq (.t 8) (.t 10))]
 (.cond (.t 11)
 (sr [kv 4 (.mov (.c (.lit (.bool false))))]
 .ret)
 .skip))
 (.seq (sr [km 12 1,
 kv 13 (.len (.t 12)),
 kv 14 (.mov (.c kz))]
 (.block 0 (.loop
 (sr [kv 15 (.bin .lss (.t 14) (.t 13))]
 (.seq (.cond (.t 15)
 .skip
 (.exit 0))
 (.seq (.block 1 (sr [km 16 14,
 kv 17 (.ixa (.t 12) (.t 14) 2),
 kv 18 (.load (.t 17) (some 2)),
 ko 6 (.new 25 [kz, kz]),
 km 5 16,
 ks 2 6 18]
 (.seq (.drw [⟨[], 0, 0, [(km 19 0, ku),
 (km 20 5, ku),
 (kv 21 (.ixa (.t 19) (.t 20) 1), ku),
 (kl 22 21, ku),
 (kv 23 (.load (.t 6) (some 2)), ku)],
 [],
 [kc 24 (kF 40) [(.t 22), (.t 23)],
 kv 25 (.not (.t 24))], none⟩])
 (.cond (.t 25)
 (sr [kv 4 (.mov (.c (.lit (.bool false))))]
 .ret)
 .skip))))
 (.reg [kv 26 (.bin .add (.t 14) (.c (ki 1))),
 km 14 26])))))))
 (sr [kv 4 (.mov (.c (.lit (.bool true))))]
 .ret))))
theorem h39 : FdOk Try.prog 39 ⟨g39, [.t 4], 27, [], false⟩ := .of Try.func39 (by simp [Try.f39]) (by kernel_rfl)
def g40 : RC :=
 (sr [ko 3 (.box 25 (.t 1)),
 kv 4 (.mov (.c (.lit (.bool false))))]
 (sr [km 5 0,
 kf 6 3 0,
 kl 7 6,
 kf 8 3 1,
 kl 9 8,
 kc 10 (kF 18) [(.t 5), (.t 7), (.t 9)],
 km 4 10]
 .ret))
theorem h40 : FdOk Try.prog 40 ⟨g40, [.t 4], 11, [], false⟩ := .of Try.func40 (by simp [Try.f40]) (by kernel_rfl)
def g43 : RC :=
 (sr [ko 1 (.box 58 (.t 0)),
 kv 2 (.mov (.c (.lit (.bool false))))]
 (sr [kv 3 (.mov (.c kz))]
 (.seq (sr [kf 6 1 0,
 kf 7 6 0,
 kl 8 7,
 kv 9 (.len (.t 8)),
 kv 10 (.mov (.c kz))]
 (.block 0 (.loop
 (sr [kv 11 (.bin .lss (.t 10) (.t 9))]
 (.seq (.cond (.t 11)
 .skip
 (.exit 0))
 (.seq (.block 1 (sr [kv 12 (.ixa (.t 8) (.t 10) 1),
 kl 13 12,
 km 5 13]
 (.seq (sr [km 14 5,
 km 15 3,
 kc 16 (kF 18) [(.t 14), (.t 15), (.c (ki 60))],
 kv 17 (.not (.t 16))]
 (.cond (.t 17)
 (sr [kv 2 (.mov (.c (.lit (.bool false))))]
 .ret)
 .skip))
 (.reg [km 18 5,
 kv 19 (.bin .add (.t 18) (.c (ki 1))),
 km 3 19]))))
 (.reg [kv 20 (.bin .add (.t 10) (.c (ki 1))),
 km 10 20])))))))
 (sr [kv 2 (.mov (.c (.lit (.bool true))))]
 .ret))))
theorem h43 : FdOk Try.prog 43 ⟨g43, [.t 2], 21, [], false⟩ := .of Try.func43 (by simp [Try.f43]) (by kernel_rfl)
def g44 : RC :=
 (sr [kv 6 (.mov (.c (.lit (.bool false))))]
 (.seq (sr [km 9 0,
 kv 10 (.len (.t 9)),
 kv 11 (.mov (.c kz))]
 (.block 0 (.loop
 (sr [kv 12 (.bin .lss (.t 11) (.t 10))]
 (.seq (.cond (.t 12)
 .skip
 (.exit 0))
 (.seq (.block 1 (sr [kv 13 (.ixa (.t 9) (.t 11) 2),
 kv 14 (.load (.t 13) (some 2)),
 ko 8 (.new 25 [kz, kz]),
 ks 2 8 14]
 (sr [kv 15 (.load (.t 8) (some 2)),
 km 16 1,
 km 17 2,
 kc 18 (kF 45) [(.t 15), (.t 16), (.t 17)],
 kv 19 (.not (.t 18))]
 (.cond (.t 19)
 (sr [kv 6 (.mov (.c (.lit (.bool false))))]
 .ret)
 .skip))))
 (.reg [kv 20 (.bin .add (.t 11) (.c (ki 1))),
 km 11 20])))))))
 (sr [kv 6 (.mov (.c (.lit (.bool true))))]
 .ret)))
theorem h44 : FdOk Try.prog 44 ⟨g44, [.t 6], 21, [], false⟩ := .of Try.func44 (by simp [Try.f44]) (by kernel_rfl)
def g45 : RC :=
 (sr [ko 3 (.box 25 (.t 0)),
 kv 6 (.mov (.c (.lit (.bool false))))]
 (sr [km 7 1,
 kf 8 3 0,
 kl 9 8,
 kv 10 (.bin .leq (.t 7) (.t 9)),
 km 11 10,
 kG 12 11 true (.off (.t 3) 0),
 kG 13 11 true (.load (.t 12) none),
 kG 14 11 true (.off (.t 3) 1),
 kG 15 11 true (.load (.t 14) none),
 kG 16 11 true (.bin .leq (.t 13) (.t 15)),
 kv 17 (.pick (.t 11) (.t 16) (.c (.lit (.bool false)))),
 km 18 17,
 kG 19 18 true (.off (.t 3) 1),
 kG 20 18 true (.load (.t 19) none),
 kG 21 18 true (.mov (.t 2)),
 kG 22 18 true (.bin .leq (.t 20) (.t 21)),
 kv 23 (.pick (.t 18) (.t 22) (.c (.lit (.bool false)))),
 km 6 23]
 .ret))
theorem h45 : FdOk Try.prog 45 ⟨g45, [.t 6], 24, [], false⟩ := .of Try.func45 (by simp [Try.f45]) (by kernel_rfl)
def g46 : RC :=
 (sr [kv 2 (.mov (.c (.lit (.bool false))))]
 (.seq (sr [km 4 0,
 kv 5 (.strl (.t 4)),
 kc 6 (kF 18) [(.t 5), (.c (ki 1)), (.c (ki 16))],
 kv 7 (.not (.t 6)),
 km 8 7,
 kG 9 8 false (.mov (.t 0)),
 kG 10 8 false (.stri (.t 9) (.c kz)),
 ⟨(some 11), (some (8, false)), .o (.call (kF 59) [(.t 10)])⟩,
 kG 12 8 false (.not (.t 11)),
 kv 13 (.pick (.t 8) (.c (.lit (.bool true))) (.t 12))]
 (.cond (.t 13)
 (sr [kv 2 (.mov (.c (.lit (.bool false))))]
 .ret)
 .skip))
 (.seq (sr [km 14 0,
 kv 15 (.strl (.t 14)),
 kv 16 (.mov (.c kz))]
 (.block 0 (.loop
 (sr [kv 17 (.bin .lss (.t 16) (.t 15))]
 (.seq (.cond (.t 17)
 .skip
 (.exit 0))
 (.seq (.block 1 (sr [km 18 16,
 km 3 18]
 (sr [km 19 0,
 km 20 3,
 kv 21 (.stri (.t 19) (.t 20)),
 kc 22 (kF 59) [(.t 21)],
 kv 23 (.not (.t 22)),
 km 24 23,
 kG 25 24 true (.mov (.t 0)),
 kG 26 24 true (.mov (.t 3)),
 kG 27 24 true (.stri (.t 25) (.t 26)),
 ⟨(some 28), (some (24, true)), .o (.call (kF 60) [(.t 27)])⟩,
 kG 29 24 true (.not (.t 28)),
 kv 30 (.pick (.t 24) (.t 29) (.c (.lit (.bool false)))),
 km 31 30,
 kG 32 31 true (.mov (.t 0)),
 kG 33 31 true (.mov (.t 3)),
 kG 34 31 true (.stri (.t 32) (.t 33)),
 kG 35 31 true (.bin .neq (.t 34) (.c (.int .u8 (45)))),
 kv 36 (.pick (.t 31) (.t 35) (.c (.lit (.bool false))))]
 (.cond (.t 36)
 (sr [kv 2 (.mov (.c (.lit (.bool false))))]
 .ret)
 .skip))))
 (.reg [kv 37 (.bin .add (.t 16) (.c (ki 1))),
 km 16 37])))))))
 (sr [kv 2 (.mov (.c (.lit (.bool true))))]
 .ret))))
theorem h46 : FdOk Try.prog 46 ⟨g46, [.t 2], 38, [], false⟩ := .of Try.func46 (by simp [Try.f46]) (by kernel_rfl)
def g47 : RC :=
 (sr [kv 2 (.mov (.c (.lit (.bool false))))]
 (sr [km 3 0,
 kv 4 (.len (.t 3)),
 kc 5 (kF 18) [(.t 4), (.c (ki 2)), (.c (ki 30))],
 km 6 5,
 kG 7 6 true (.mov (.t 0)),
 ⟨(some 8), (some (6, true)), .o (.call (kF 51) [(.t 7), (.c (ki (-100000))), (.c (ki 100000))])⟩,
 kv 9 (.pick (.t 6) (.t 8) (.c (.lit (.bool false)))),
 km 2 9]
 .ret))
theorem h47 : FdOk Try.prog 47 ⟨g47, [.t 2], 10, [], false⟩ := .of Try.func47 (by simp [Try.f47]) (by kernel_rfl)
def g48 : RC :=
 (sr [ko 2 (.box 45 (.t 0)),
 ⟨(some 4), none, .o (.new 98 [(.lit (.string ⟨#[]⟩)), (.lit (.slice none 0 0)), kz, kz])⟩]
 (sr [kv 5 (.mov (.c (.lit (.slice none 0 0))))]
 (.seq (sr [kf 9 2 1,
 kl 10 9,
 kv 11 (.len (.t 10)),
 kv 12 (.bin .sub (.t 11) (.c (ki 1))),
 kv 13 (.mov (.c kz))]
 (.block 0 (.loop
 (sr [kv 14 (.bin .lss (.t 13) (.t 12))]
 (.seq (.cond (.t 14)
 .skip
 (.exit 0))
 (.seq (.block 1 (sr [km 15 13,
 km 6 15]
 (.drw [⟨[], 1, 0, [(km 16 5, ku),
 (kf 17 2 1, ku),
 (kl 18 17, ku),
 (km 19 6, ku),
 (kv 20 (.bin .add (.t 19) (.c (ki 1))), ku),
 (kv 21 (.ixa (.t 18) (.t 20) 1), ku),
 (kl 22 21, ku),
 (kf 23 2 1, ku),
 (kl 24 23, ku),
 (km 25 6, ku),
 (kv 26 (.ixa (.t 24) (.t 25) 1), ku),
 (kl 27 26, ku),
 (kv 28 (.bin .sub (.t 22) (.t 27)), ku),
 (ko 29 (.bsl 3 1 [kz] [(0, 1, (.t 28))]), .cre 0)],
 [0],
 [ko 30 (.app 3 1 8 (.t 16) (.t 29)),
 km 5 30], none⟩])))
 (.reg [kv 31 (.bin .add (.t 13) (.c (ki 1))),
 km 13 31])))))))
 (.seq (.drw [⟨[2], 0, 1, [(kf 32 2 1, ku),
 (kl 33 32, ku),
 (kv 34 (.ixa (.t 33) (.c kz) 1), ku),
 (kl 35 34, ku),
 (kf 36 2 1, ku),
 (kl 37 36, ku),
 (ko 38 (.slc (.t 37) (some (.c (ki 1))) none none 1), ku),
 (kc 39 (kF 61) [(kF 62), (.t 35), (.t 38)], .eff 0 [])],
 [],
 [ko 7 (.new 25 [kz, kz]),
 ks 2 7 39], (some 7)⟩,
 ⟨[2], 1, 0, [(kf 32 2 1, ku),
 (kl 33 32, ku),
 (kv 34 (.ixa (.t 33) (.c kz) 1), ku),
 (kl 35 34, ku),
 (kf 36 2 1, ku),
 (kl 37 36, ku),
 (ko 38 (.slc (.t 37) (some (.c (ki 1))) none none 1), ku),
 (kc 39 (kF 61) [(kF 62), (.t 35), (.t 38)], ku),
 (ko 7 (.new 25 [kz, kz]), .cre 0)],
 [0],
 [ks 2 7 39], none⟩])
 (.seq (.drw [⟨[5], 0, 0, [(km 40 5, ku),
 (kv 41 (.ixa (.t 40) (.c kz) 1), ku),
 (kl 42 41, ku),
 (km 43 5, ku),
 (ko 44 (.slc (.t 43) (some (.c (ki 1))) none none 1), ku)],
 [],
 [kc 45 (kF 61) [(kF 63), (.t 42), (.t 44)],
 kv 46 (.fld (.t 45) 1 none),
 km 8 46], none⟩])
 (sr [kv 47 (.load (.t 2) (some 2)),
 km 48 1,
 kf 49 7 1,
 kl 50 49,
 kf 51 7 0,
 kl 52 51,
 kv 53 (.bin .sub (.t 50) (.t 52)),
 km 54 8,
 kv 55 (.bin .mul (.c (ki 2)) (.t 54)),
 kv 56 (.bin .add (.t 53) (.t 55)),
 ⟨(some 57), none, .o (.bld [(.lit (.string ⟨#[]⟩)), (.lit (.slice none 0 0)), kz, kz] [(0, 2, (.t 47)), (2, 1, (.t 48)), (3, 1, (.t 56))])⟩,
 ks 4 4 57]
 .ret))))))
theorem h48 : FdOk Try.prog 48 ⟨g48, [.c 4 (some 4)], 58, [], false⟩ := .of Try.func48 (by simp [Try.f48]) (by kernel_rfl)
def g49 : RC :=
 (sr [km 5 0,
 kv 6 (.len (.t 5)),
 km 4 6]
 (.reg [km 7 0,
 km 8 4,
 km 9 4,
 kv 10 (.conv .u64 (.t 9)),
 kc 11 (kF 65) [(.t 10)],
 km 12 1,
 kc 13 (kF 64) [(.t 7), (.c kz), (.t 8), (.t 11), (.t 12)]]))
theorem h49 : FdOk Try.prog 49 ⟨g49, [], 14, [], false⟩ := .of Try.func49 (by simp [Try.f49]) (by kernel_rfl)
def g50 : RC :=
 (sr [ko 2 (.box 98 (.t 0)),
 ko 3 (.box 98 (.t 1)),
 kv 4 (.mov (.c kz))]
 (.seq (.drw [⟨[], 0, 1, [(kf 5 2 3, ku),
 (kl 6 5, ku),
 (kf 7 3 3, ku),
 (kl 8 7, ku),
 (kc 9 (kF 67) [(.t 6), (.t 8)], .eff 0 []),
 (kf 10 2 0, ku),
 (kf 11 10 0, ku),
 (kl 12 11, ku),
 (kf 13 3 0, ku),
 (kf 14 13 0, ku),
 (kl 15 14, ku)],
 [],
 [kc 16 (kF 68) [(.t 12), (.t 15)],
 ko 17 (.bsl 3 2 [kz, kz] [(0, 1, (.t 9)), (1, 1, (.t 16))]),
 kc 18 (kF 66) [(.t 17)],
 km 4 18], none⟩])
 .ret))
theorem h50 : FdOk Try.prog 50 ⟨g50, [.t 4], 19, [], false⟩ := .of Try.func50 (by simp [Try.f50]) (by kernel_rfl)
def g51 : RC :=
 (sr [kv 6 (.mov (.c (.lit (.bool false))))]
 (.seq (sr [km 9 0,
 kv 10 (.len (.t 9)),
 kv 11 (.mov (.c kz))]
 (.block 0 (.loop
 (sr [kv 12 (.bin .lss (.t 11) (.t 10))]
 (.seq (.cond (.t 12)
 .skip
 (.exit 0))
 (.seq (.block 1 (sr [kv 13 (.ixa (.t 9) (.t 11) 1),
 kl 14 13,
 km 8 14]
 (sr [km 15 8,
 km 16 1,
 km 17 2,
 kc 18 (kF 18) [(.t 15), (.t 16), (.t 17)],
 kv 19 (.not (.t 18))]
 (.cond (.t 19)
 (sr [kv 6 (.mov (.c (.lit (.bool false))))]
 .ret)
 .skip))))
 (.reg [kv 20 (.bin .add (.t 11) (.c (ki 1))),
 km 11 20])))))))
 (sr [kv 6 (.mov (.c (.lit (.bool true))))]
 .ret)))
theorem h51 : FdOk Try.prog 51 ⟨g51, [.t 6], 21, [], false⟩ := .of Try.func51 (by simp [Try.f51]) (by kernel_rfl)
def g52 : RC :=
 (sr [kv 3 (.mov (.c (.lit (.slice none 0 0))))]
 (sr [kv 4 (.mov (.c (.lit (.slice none 0 0))))]
 (.seq (sr [kv 6 (.mov (.c kz))]
 (.block 0 (.loop
 (sr [kv 7 (.bin .lss (.t 6) (.c (ki 8)))]
 (.seq (.cond (.t 7)
 .skip
 (.exit 0))
 (.seq (.block 1 (sr [km 8 6,
 km 5 8]
 (sr [km 9 5,
 kv 10 (.conv .u64 (.t 9)),
 kc 11 (kF 53) [(.t 10)],
 km 12 0,
 kv 13 (.bin .eql (.t 11) (.t 12)),
 km 14 13,
 kG 15 14 true (.load (.t 1) (some 9)),
 kG 16 14 true (.mov (.t 5)),
 ⟨(some 17), (some (14, true)), .o (.call (kF 54) [(.t 15), (.t 16)])⟩,
 kv 18 (.pick (.t 14) (.t 17) (.c (.lit (.bool false))))]
 (.cond (.t 18)
 (.reg [km 19 4,
 km 20 5,
 ko 21 (.bsl 3 1 [kz] [(0, 1, (.t 20))]),
 ko 22 (.app 3 1 8 (.t 19) (.t 21)),
 km 4 22])
 .skip))))
 (.reg [kv 23 (.bin .add (.t 6) (.c (ki 1))),
 km 6 23])))))))
 (sr [km 24 4,
 km 3 24]
 .ret))))
theorem h52 : FdOk Try.prog 52 ⟨g52, [.t 3], 25, [], false⟩ := .of Try.func52 (by simp [Try.f52]) (by kernel_rfl)
def g53 : RC :=
 (sr [kv 2 (.mov (.c kz))]
 (.seq (.cond (.c (.lit (.bool false)))
 (sr [km 3 0,
 kv 4 (.conv .u32 (.t 3)),
 kc 5 (kF 69) [(.t 4)],
 km 2 5]
 .ret)
 .skip)
 (sr [km 6 0,
 kc 7 (kF 70) [(.t 6)],
 km 2 7]
 .ret)))
theorem h53 : FdOk Try.prog 53 ⟨g53, [.t 2], 8, [], false⟩ := .of Try.func53 (by simp [Try.f53]) (by kernel_rfl)
def g54 : RC :=
 (sr [ko 2 (.box 69 (.t 0)),
 kv 4 (.mov (.c (.lit (.bool false))))]
 (.scp (sr [ko 5 (.new 128 (List.replicate 60 kz))]
 (sr [kv 11 (.load (.t 2) (some 9)),
 km 12 1,
 kc 13 (kF 71) [(.t 11), (.t 12)],
 km 6 13]
 (sr [kv 7 (.mov (.c (.lit (.bool false))))]
 (.seq .skip
 (.seq (sr [kv 14 (.mov (.c kz))]
 (.block 0 (.loop
 (sr [kv 15 (.bin .lss (.t 14) (.c (ki 60)))]
 (.seq (.cond (.t 15)
 .skip
 (.exit 0))
 (.seq (.block 1 (sr [kv 16 (.load (.t 5) (some 60)),
 ko 8 (.new 128 (List.replicate 60 kz)),
 ks 60 8 16]
 (.seq (sr [km 17 6,
 kv 18 (.len (.t 17)),
 kv 19 (.mov (.c kz))]
 (.block 2 (.loop
 (sr [kv 20 (.bin .lss (.t 19) (.t 18))]
 (.seq (.cond (.t 20)
 .skip
 (.exit 2))
 (.seq (.block 3 (sr [kv 21 (.ixa (.t 17) (.t 19) 4),
 kv 22 (.load (.t 21) (some 4)),
 ko 10 (.new 132 [kz, kz, kz, kz]),
 ks 4 10 22]
 (.reg [kv 23 (.load (.t 10) (some 4)),
 kc 24 (kF 72) [(.t 5), (.t 23)]])))
 (.reg [kv 25 (.bin .add (.t 19) (.c (ki 1))),
 km 19 25])))))))
 (sr [kv 26 (.load (.t 5) (some 60)),
 kv 27 (.load (.t 8) (some 60)),
 kv 28 (.eqs (List.replicate 60 (some .i64)) false (.t 26) (.t 27)),
 km 7 28]
 (sr [km 29 7]
 (.cond (.t 29)
 (.exit 0)
 .skip))))))
 (.reg [kv 30 (.bin .add (.t 14) (.c (ki 1))),
 km 14 30])))))))
 (sr [km 31 7,
 km 4 31]
 .ret))))))))
theorem h54 : FdOk Try.prog 54 ⟨g54, [.t 4], 32, [], false⟩ := .of Try.func54 (by simp [Try.f54]) (by kernel_rfl)
def g55 : RC :=
 (sr [ko 2 (.box 69 (.t 0)),
 ko 4 (.new 69 [(.lit (.slice none 0 0)), (.lit (.slice none 0 0)), kz, kz, kz, kz, kz, kz, kz])]
 (sr [km 6 1,
 kv 7 (.bin .add (.t 6) (.c (ki 1))),
 km 5 7]
 (.seq (.drw [⟨[2, 5], 0, 1, [(kf 8 2 0, ku),
 (kf 9 8 0, ku),
 (kl 10 9, ku),
 (km 11 5, ku),
 (km 12 5, ku),
 (ko 13 (.slc (.t 10) none (some (.t 11)) (some (.t 12)) 1), ku),
 (kf 14 2 0, ku),
 (kf 15 14 1, ku),
 (kl 16 15, ku),
 (km 17 5, .prd [2]),
 (km 18 5, .prd [2]),
 (ko 19 (.slc (.t 16) none (some (.t 17)) (some (.t 18)) 1), .prd [2]),
 (kf 20 2 0, ku),
 (kf 21 20 0, ku),
 (ks 1 21 13, .efs 0 [] [])],
 [],
 [kf 22 2 0,
 kf 23 22 1,
 ks 1 23 19], none⟩,
 ⟨[2, 5], 0, 1, [(kf 8 2 0, ku),
 (kf 9 8 0, ku),
 (kl 10 9, ku),
 (km 11 5, ku),
 (km 12 5, ku),
 (ko 13 (.slc (.t 10) none (some (.t 11)) (some (.t 12)) 1), ku),
 (kf 14 2 0, ku),
 (kf 15 14 1, ku),
 (kl 16 15, ku),
 (km 17 5, .prd [2]),
 (km 18 5, .prd [2]),
 (ko 19 (.slc (.t 16) none (some (.t 17)) (some (.t 18)) 1), .prd [2]),
 (kf 20 2 0, ku),
 (kf 21 20 0, ku),
 (ks 1 21 13, .efs 0 [] [])],
 [],
 [kf 22 2 0,
 kf 23 22 1,
 ks 1 23 19], none⟩])
 (sr [kv 24 (.load (.t 2) (some 9)),
 ks 9 4 24]
 .ret))))
theorem h55 : FdOk Try.prog 55 ⟨g55, [.c 4 (some 9)], 25, [], false⟩ := .of Try.func55 (by simp [Try.f55]) (by kernel_rfl)
def g59 : RC :=
 (sr [kv 2 (.mov (.c (.lit (.bool false))))]
 (sr [km 3 0,
 kv 4 (.bin .leq (.c (.int .u8 (97))) (.t 3)),
 km 5 4,
 kG 6 5 true (.mov (.t 0)),
 kG 7 5 true (.bin .leq (.t 6) (.c (.int .u8 (122)))),
 kv 8 (.pick (.t 5) (.t 7) (.c (.lit (.bool false)))),
 km 2 8]
 .ret))
theorem h59 : FdOk Try.prog 59 ⟨g59, [.t 2], 9, [], false⟩ := .of Try.func59 (by simp [Try.f59]) (by kernel_rfl)
def g60 : RC :=
 (sr [kv 2 (.mov (.c (.lit (.bool false))))]
 (sr [km 3 0,
 kv 4 (.bin .leq (.c (.int .u8 (48))) (.t 3)),
 km 5 4,
 kG 6 5 true (.mov (.t 0)),
 kG 7 5 true (.bin .leq (.t 6) (.c (.int .u8 (57)))),
 kv 8 (.pick (.t 5) (.t 7) (.c (.lit (.bool false)))),
 km 2 8]
 .ret))
theorem h60 : FdOk Try.prog 60 ⟨g60, [.t 2], 9, [], false⟩ := .of Try.func60 (by simp [Try.f60]) (by kernel_rfl)
def g61 : RC :=
 (sr [ko 6 (.new 25 [kz, kz])]
 (sr [km 10 0,
 km 11 1,
 kc 12 (.t 10) [(.t 11)],
 km 13 0,
 km 14 1,
 kc 15 (.t 13) [(.t 14)],
 ko 16 (.bld [kz, kz] [(0, 1, (.t 12)), (1, 1, (.t 15))]),
 ko 7 (.new 25 [kz, kz]),
 ks 2 7 16]
 (.seq (sr [km 17 2,
 kv 18 (.len (.t 17)),
 kv 19 (.mov (.c kz))]
 (.block 0 (.loop
 (sr [kv 20 (.bin .lss (.t 19) (.t 18))]
 (.seq (.cond (.t 20)
 .skip
 (.exit 0))
 (.seq (.block 1 (sr [kv 21 (.ixa (.t 17) (.t 19) 1),
 kl 22 21,
 km 9 22]
 (.drw [⟨[], 0, 3, [(kf 23 7 0, .pur),
 (kl 24 23, .pur),
 (km 25 0, ku),
 (km 26 9, ku),
 (kc 27 (.t 25) [(.t 26)], .efs 0 [] []),
 (kv 28 (.min2 (.t 24) (.t 27)), .pur),
 (kf 29 7 1, .pur),
 (kl 30 29, .pur),
 (km 31 0, .pur),
 (km 32 9, .pur),
 (kc 33 (.t 31) [(.t 32)], .efs 1 [] []),
 (kv 34 (.max2 (.t 30) (.t 33)), .pur),
 (kf 35 7 0, .pur),
 (ks 1 35 28, .efs 2 [] [])],
 [],
 [kf 36 7 1,
 ks 1 36 34], none⟩,
 ⟨[7, 0, 9], 0, 1, [(kf 23 7 0, ku),
 (kl 24 23, ku),
 (km 25 0, ku),
 (km 26 9, ku),
 (kc 27 (.t 25) [(.t 26)], ku),
 (kv 28 (.min2 (.t 24) (.t 27)), ku),
 (kf 29 7 1, ku),
 (kl 30 29, ku),
 (km 31 0, ku),
 (km 32 9, ku),
 (kc 33 (.t 31) [(.t 32)], ku),
 (kv 34 (.max2 (.t 30) (.t 33)), .prd [7]),
 (kf 35 7 0, ku),
 (ks 1 35 28, .efs 0 [] [])],
 [],
 [kf 36 7 1,
 ks 1 36 34], none⟩])))
 (.reg [kv 37 (.bin .add (.t 19) (.c (ki 1))),
 km 19 37])))))))
 (sr [kv 38 (.load (.t 7) (some 2)),
 ks 2 6 38]
 .ret))))
theorem h61 : FdOk Try.prog 61 ⟨g61, [.c 6 (some 2)], 39, [], false⟩ := .of Try.func61 (by simp [Try.f61]) (by kernel_rfl)
def g62 : RC :=
 (sr [kv 2 (.mov (.c kz))]
 (sr [km 3 0,
 km 2 3]
 .ret))
theorem h62 : FdOk Try.prog 62 ⟨g62, [.t 2], 4, [], false⟩ := .of Try.func62 (by simp [Try.f62]) (by kernel_rfl)
def g63 : RC :=
 (sr [kv 2 (.mov (.c kz))]
 (sr [km 3 0,
 km 4 0,
 kv 5 (.neg (.t 4)),
 kv 6 (.max2 (.t 3) (.t 5)),
 km 2 6]
 .ret))
theorem h63 : FdOk Try.prog 63 ⟨g63, [.t 2], 7, [], false⟩ := .of Try.func63 (by simp [Try.f63]) (by kernel_rfl)
def g64 : RC :=
 (sr [kv 10 (.mov (.c (.lit (.bool true))))]
 (sr [kv 11 (.mov (.c (.lit (.bool true))))]
 (.block 0 (.loop
 (.block 1 (sr [km 21 2,
 km 22 1,
 kv 23 (.bin .sub (.t 21) (.t 22)),
 km 12 23]
 (.seq (sr [km 24 12,
 kv 25 (.bin .leq (.t 24) (.c (ki 12)))]
 (.cond (.t 25)
 (sr [km 26 0,
 km 27 1,
 km 28 2,
 km 29 4,
 kc 30 (kF 75) [(.t 26), (.t 27), (.t 28), (.t 29)]]
 .ret)
 .skip))
 (.seq (sr [km 31 3,
 kv 32 (.bin .eql (.t 31) (.c kz))]
 (.cond (.t 32)
 (sr [km 33 0,
 km 34 1,
 km 35 2,
 km 36 4,
 kc 37 (kF 76) [(.t 33), (.t 34), (.t 35), (.t 36)]]
 .ret)
 .skip))
 (.seq (sr [km 38 10,
 kv 39 (.not (.t 38))]
 (.cond (.t 39)
 (sr [km 40 0,
 km 41 1,
 km 42 2,
 km 43 4,
 kc 44 (kF 77) [(.t 40), (.t 41), (.t 42), (.t 43)]]
 (.reg [km 45 3,
 kv 46 (.bin .sub (.t 45) (.c (ki 1))),
 km 3 46]))
 .skip))
 (sr [km 48 0,
 km 49 1,
 km 50 2,
 km 51 4,
 kc 52 (kF 78) [(.t 48), (.t 49), (.t 50), (.t 51)],
 km 47 52,
 kv 53 (.ext (.t 47) 0),
 kv 54 (.ext (.t 47) 1),
 km 13 53,
 km 14 54]
 (.seq (sr [km 55 14,
 kv 56 (.bin .eql (.t 55) (.c (ki 2)))]
 (.cond (.t 56)
 (sr [km 57 0,
 km 58 1,
 km 59 2,
 km 60 4,
 kc 61 (kF 79) [(.t 57), (.t 58), (.t 59), (.t 60)]]
 (sr [km 62 2,
 kv 63 (.bin .sub (.t 62) (.c (ki 1))),
 km 64 13,
 km 65 1,
 kv 66 (.bin .sub (.t 64) (.t 65)),
 kv 67 (.bin .sub (.t 63) (.t 66)),
 km 13 67]
 (.reg [kv 14 (.mov (.c (ki 1)))])))
 .skip))
 (.seq (sr [km 68 10,
 km 69 68,
 kG 70 69 true (.mov (.t 11)),
 kv 71 (.pick (.t 69) (.t 70) (.c (.lit (.bool false)))),
 km 72 71,
 kG 73 72 true (.mov (.t 14)),
 kG 74 72 true (.bin .eql (.t 73) (.c (ki 1))),
 kv 75 (.pick (.t 72) (.t 74) (.c (.lit (.bool false))))]
 (.cond (.t 75)
 (sr [km 76 0,
 km 77 1,
 km 78 2,
 km 79 4,
 kc 80 (kF 80) [(.t 76), (.t 77), (.t 78), (.t 79)]]
 (.cond (.t 80)
 .ret
 .skip))
 .skip))
 (.seq (.seq (.drw [⟨[], 0, 0, [(km 81 1, ku),
 (kv 82 (.bin .gtr (.t 81) (.c kz)), ku),
 (km 83 82, ku),
 (kG 84 83 true (.mov (.t 4)), ku),
 (kG 85 83 true (.mov (.t 0)), ku),
 (kG 86 83 true (.mov (.t 1)), ku),
 (kG 87 83 true (.bin .sub (.t 86) (.c (ki 1))), ku),
 (kG 88 83 true (.ixa (.t 85) (.t 87) 4), ku),
 (kG 89 83 true (.load (.t 88) (some 4)), ku),
 (kG 90 83 true (.mov (.t 0)), ku),
 (kG 91 83 true (.mov (.t 13)), ku),
 (kG 92 83 true (.ixa (.t 90) (.t 91) 4), ku),
 (kG 93 83 true (.load (.t 92) (some 4)), ku)],
 [],
 [⟨(some 94), (some (83, true)), .o (.call (.t 84) [(.t 89), (.t 93)])⟩,
 kG 95 83 true (.bin .lss (.t 94) (.c kz)),
 kG 96 83 true (.not (.t 95)),
 kv 97 (.pick (.t 83) (.t 96) (.c (.lit (.bool false))))], none⟩])
 (.cond (.t 97)
 (sr [km 98 0,
 km 99 1,
 km 100 2,
 km 101 13,
 km 102 4,
 kc 103 (kF 81) [(.t 98), (.t 99), (.t 100), (.t 101), (.t 102)],
 km 15 103]
 (sr [km 104 15,
 km 1 104]
 (.exit 1)))
 .skip))
 (sr [km 106 0,
 km 107 1,
 km 108 2,
 km 109 13,
 km 110 4,
 kc 111 (kF 82) [(.t 106), (.t 107), (.t 108), (.t 109), (.t 110)],
 km 105 111,
 kv 112 (.ext (.t 105) 0),
 kv 113 (.ext (.t 105) 1),
 km 16 112,
 km 17 113]
 (sr [km 114 17,
 km 11 114]
 (sr [km 115 16,
 km 116 1,
 kv 117 (.bin .sub (.t 115) (.t 116)),
 km 118 2,
 km 119 16,
 kv 120 (.bin .sub (.t 118) (.t 119)),
 km 18 117,
 km 19 120]
 (sr [km 121 12,
 kv 122 (.bin .quo (.t 121) (.c (ki 8))),
 km 20 122]
 (sr [km 123 18,
 km 124 19,
 kv 125 (.bin .lss (.t 123) (.t 124))]
 (.cond (.t 125)
 (sr [km 126 18,
 km 127 20,
 kv 128 (.bin .geq (.t 126) (.t 127)),
 km 10 128]
 (sr [km 129 0,
 km 130 1,
 km 131 16,
 km 132 3,
 km 133 4,
 kc 134 (kF 64) [(.t 129), (.t 130), (.t 131), (.t 132), (.t 133)]]
 (.reg [km 135 16,
 kv 136 (.bin .add (.t 135) (.c (ki 1))),
 km 1 136])))
 (sr [km 137 19,
 km 138 20,
 kv 139 (.bin .geq (.t 137) (.t 138)),
 km 10 139]
 (sr [km 140 0,
 km 141 16,
 kv 142 (.bin .add (.t 141) (.c (ki 1))),
 km 143 2,
 km 144 3,
 km 145 4,
 kc 146 (kF 64) [(.t 140), (.t 142), (.t 143), (.t 144), (.t 145)]]
 (.reg [km 147 16,
 km 2 147]))))))))))))))))))))))
theorem h64 : FdOk Try.prog 64 ⟨g64, [], 148, [], false⟩ := .of Try.func64 (by simp [Try.f64]) (by kernel_rfl)
def g65 : RC :=
 (sr [kv 2 (.mov (.c kz))]
 (.seq (.cond (.c (.lit (.bool false)))
 (sr [km 3 0,
 kv 4 (.conv .u32 (.t 3)),
 kc 5 (kF 83) [(.t 4)],
 km 2 5]
 .ret)
 .skip)
 (sr [km 6 0,
 kc 7 (kF 84) [(.t 6)],
 km 2 7]
 .ret)))
theorem h65 : FdOk Try.prog 65 ⟨g65, [.t 2], 8, [], false⟩ := .of Try.func65 (by simp [Try.f65]) (by kernel_rfl)
def g66 : RC :=
 (sr [kv 2 (.mov (.c kz))]
 (sr [kv 3 (.mov (.c kz))]
 (.seq (sr [km 6 0,
 kv 7 (.len (.t 6)),
 kv 8 (.mov (.c kz))]
 (.block 0 (.loop
 (sr [kv 9 (.bin .lss (.t 8) (.t 7))]
 (.seq (.cond (.t 9)
 .skip
 (.exit 0))
 (.seq (.block 1 (sr [kv 10 (.ixa (.t 6) (.t 8) 1),
 kl 11 10,
 km 5 11]
 (sr [km 12 5,
 km 13 3,
 kv 14 (.bin .neq (.t 12) (.t 13))]
 (.cond (.t 14)
 (sr [km 15 5,
 km 2 15]
 .ret)
 .skip))))
 (.reg [kv 16 (.bin .add (.t 8) (.c (ki 1))),
 km 8 16])))))))
 (sr [km 17 3,
 km 2 17]
 .ret))))
theorem h66 : FdOk Try.prog 66 ⟨g66, [.t 2], 18, [], false⟩ := .of Try.func66 (by simp [Try.f66]) (by kernel_rfl)
def g67 : RC :=
 (sr [kv 4 (.mov (.c kz))]
 (sr [km 7 0,
 kc 8 (kF 85) [(.t 7)],
 km 5 8]
 (sr [km 9 1,
 kc 10 (kF 85) [(.t 9)],
 km 6 10]
 (.seq (sr [km 11 5]
 (.cond (.t 11)
 (.seq (sr [km 12 6]
 (.cond (.t 12)
 (sr [kv 4 (.mov (.c kz))]
 .ret)
 .skip))
 (sr [kv 4 (.mov (.c (ki (-1))))]
 .ret))
 .skip))
 (.seq (sr [km 13 6]
 (.cond (.t 13)
 (sr [kv 4 (.mov (.c (ki 1)))]
 .ret)
 .skip))
 (.seq (sr [km 14 0,
 km 15 1,
 kv 16 (.bin .lss (.t 14) (.t 15))]
 (.cond (.t 16)
 (sr [kv 4 (.mov (.c (ki (-1))))]
 .ret)
 .skip))
 (.seq (sr [km 17 0,
 km 18 1,
 kv 19 (.bin .gtr (.t 17) (.t 18))]
 (.cond (.t 19)
 (sr [kv 4 (.mov (.c (ki 1)))]
 .ret)
 .skip))
 (sr [kv 4 (.mov (.c kz))]
 .ret))))))))
theorem h67 : FdOk Try.prog 67 ⟨g67, [.t 4], 20, [], false⟩ := .of Try.func67 (by simp [Try.f67]) (by kernel_rfl)
def g68 : RC :=
 (sr [kv 4 (.mov (.c kz))]
 (sr [km 7 0,
 kc 8 (kF 86) [(.t 7)],
 km 5 8]
 (sr [km 9 1,
 kc 10 (kF 86) [(.t 9)],
 km 6 10]
 (.seq (sr [km 11 5]
 (.cond (.t 11)
 (.seq (sr [km 12 6]
 (.cond (.t 12)
 (sr [kv 4 (.mov (.c kz))]
 .ret)
 .skip))
 (sr [kv 4 (.mov (.c (ki (-1))))]
 .ret))
 .skip))
 (.seq (sr [km 13 6]
 (.cond (.t 13)
 (sr [kv 4 (.mov (.c (ki 1)))]
 .ret)
 .skip))
 (.seq (sr [km 14 0,
 km 15 1,
 kv 16 (.strb .lss (.t 14) (.t 15))]
 (.cond (.t 16)
 (sr [kv 4 (.mov (.c (ki (-1))))]
 .ret)
 .skip))
 (.seq (sr [km 17 0,
 km 18 1,
 kv 19 (.strb .gtr (.t 17) (.t 18))]
 (.cond (.t 19)
 (sr [kv 4 (.mov (.c (ki 1)))]
 .ret)
 .skip))
 (sr [kv 4 (.mov (.c kz))]
 .ret))))))))
theorem h68 : FdOk Try.prog 68 ⟨g68, [.t 4], 20, [], false⟩ := .of Try.func68 (by simp [Try.f68]) (by kernel_rfl)
def g70 : RC :=
 (sr [kv 2 (.mov (.c kz))]
 (sr [km 3 0,
 kv 4 (.bin .shr (.t 3) (.c (.int .u64 (1)))),
 kv 5 (.bin .and (.t 4) (.c (.int .u64 (6148914691236517205)))),
 km 6 0,
 kv 7 (.bin .and (.t 6) (.c (.int .u64 (6148914691236517205)))),
 kv 8 (.bin .add (.t 5) (.t 7)),
 km 0 8]
 (sr [km 9 0,
 kv 10 (.bin .shr (.t 9) (.c (.int .u64 (2)))),
 kv 11 (.bin .and (.t 10) (.c (.int .u64 (3689348814741910323)))),
 km 12 0,
 kv 13 (.bin .and (.t 12) (.c (.int .u64 (3689348814741910323)))),
 kv 14 (.bin .add (.t 11) (.t 13)),
 km 0 14]
 (sr [km 15 0,
 kv 16 (.bin .shr (.t 15) (.c (.int .u64 (4)))),
 km 17 0,
 kv 18 (.bin .add (.t 16) (.t 17)),
 kv 19 (.bin .and (.t 18) (.c (.int .u64 (1085102592571150095)))),
 km 0 19]
 (sr [km 20 0,
 km 21 0,
 kv 22 (.bin .shr (.t 21) (.c (.int .u64 (8)))),
 kv 23 (.bin .add (.t 20) (.t 22)),
 km 0 23]
 (sr [km 24 0,
 km 25 0,
 kv 26 (.bin .shr (.t 25) (.c (.int .u64 (16)))),
 kv 27 (.bin .add (.t 24) (.t 26)),
 km 0 27]
 (sr [km 28 0,
 km 29 0,
 kv 30 (.bin .shr (.t 29) (.c (.int .u64 (32)))),
 kv 31 (.bin .add (.t 28) (.t 30)),
 km 0 31]
 (sr [km 32 0,
 kv 33 (.conv .i64 (.t 32)),
 kv 34 (.bin .and (.t 33) (.c (ki 127))),
 km 2 34]
 .ret))))))))
theorem h70 : FdOk Try.prog 70 ⟨g70, [.t 2], 35, [], false⟩ := .of Try.func70 (by simp [Try.f70]) (by kernel_rfl)
def g71 : RC :=
 (sr [ko 2 (.box 69 (.t 0)),
 kv 4 (.mov (.c (.lit (.slice none 0 0))))]
 (sr [kv 11 (.load (.t 2) (some 9)),
 kc 12 (kF 87) [(.t 11)],
 km 5 12]
 (sr [kv 6 (.mov (.c (.lit (.slice none 0 0))))]
 (.seq (sr [kf 13 2 0,
 kf 14 13 0,
 kl 15 14,
 kv 16 (.len (.t 15)),
 kv 17 (.mov (.c kz))]
 (.block 0 (.loop
 (sr [kv 18 (.bin .lss (.t 17) (.t 16))]
 (.seq (.cond (.t 18)
 .skip
 (.exit 0))
 (.seq (.block 1 (sr [km 19 17,
 km 7 19]
 (.drw [⟨[], 1, 2, [(km 20 6, ku),
 (km 21 5, ku),
 (km 22 7, ku),
 (ko 23 (.bld [kz, kz] [(0, 1, (.c kz)), (1, 1, (.t 22))]), ku),
 (⟨(some 24), none, .lku (.w [(some .i64), (some .i64)]) kz false (.t 21) (.t 23)⟩, ku),
 (km 25 5, ku),
 (km 26 7, ku),
 (ko 27 (.bld [kz, kz] [(0, 1, (.c (ki 1))), (1, 1, (.t 26))]), ku),
 (⟨(some 28), none, .lku (.w [(some .i64), (some .i64)]) kz false (.t 25) (.t 27)⟩, ku),
 (kv 29 (.load (.t 2) (some 9)), ku),
 (kf 30 2 0, ku),
 (kf 31 30 0, ku),
 (kl 32 31, ku),
 (km 33 7, ku),
 (kv 34 (.ixa (.t 32) (.t 33) 1), ku),
 (kl 35 34, ku),
 (kc 36 (kF 88) [(.t 29), (.t 35)], .eff 0 []),
 (ko 37 (.bld [kz, kz, kz, kz] [(0, 1, (.t 24)), (1, 1, (.t 28)), (2, 2, (.t 36))]), .val 1 []),
 (km 38 5, ku),
 (km 39 7, ku),
 (ko 40 (.bld [kz, kz] [(0, 1, (.c (ki 1))), (1, 1, (.t 39))]), ku),
 (⟨(some 41), none, .lku (.w [(some .i64), (some .i64)]) kz false (.t 38) (.t 40)⟩, ku),
 (km 42 5, ku),
 (km 43 7, ku),
 (ko 44 (.bld [kz, kz] [(0, 1, (.c (ki 2))), (1, 1, (.t 43))]), ku),
 (⟨(some 45), none, .lku (.w [(some .i64), (some .i64)]) kz false (.t 42) (.t 44)⟩, ku),
 (kv 46 (.load (.t 2) (some 9)), ku),
 (kf 47 2 0, ku),
 (kf 48 47 1, ku),
 (kl 49 48, ku),
 (km 50 7, ku),
 (kv 51 (.ixa (.t 49) (.t 50) 1), ku),
 (kl 52 51, ku),
 (kc 53 (kF 88) [(.t 46), (.t 52)], .eff 1 []),
 (ko 54 (.bld [kz, kz, kz, kz] [(0, 1, (.t 41)), (1, 1, (.t 45)), (2, 2, (.t 53))]), .val 2 []),
 (ko 55 (.bsl 132 2 [kz, kz, kz, kz, kz, kz, kz, kz] [(0, 4, (.t 37)), (4, 4, (.t 54))]), .cre 0)],
 [0],
 [ko 56 (.app 132 4 32 (.t 20) (.t 55)),
 km 6 56], none⟩])))
 (.reg [kv 57 (.bin .add (.t 17) (.c (ki 1))),
 km 17 57])))))))
 (.seq (sr [kf 58 2 0,
 kf 59 58 3,
 kv 60 (.load (.t 59) (some 6)),
 kv 61 (.mov (.c kz))]
 (.block 2 (.loop
 (sr [kv 62 (.bin .lss (.t 61) (.c (ki 3)))]
 (.seq (.cond (.t 62)
 .skip
 (.exit 2))
 (.seq (.block 3 (sr [km 63 61,
 kv 64 (.ixv (.t 60) (.t 61) 3 2 (some 2)),
 ko 9 (.new 25 [kz, kz]),
 km 8 63,
 ks 2 9 64]
 (.seq (sr [km 65 1,
 km 66 8,
 kv 67 (.bin .shr (.t 65) (.t 66)),
 kv 68 (.bin .and (.t 67) (.c (ki 1))),
 kv 69 (.bin .neq (.t 68) (.c kz))]
 (.cond (.t 69)
 (.exit 3)
 .skip))
 (sr [kf 70 2 0,
 kf 71 70 0,
 kl 72 71,
 kv 73 (.len (.t 72)),
 kv 74 (.bin .sub (.t 73) (.c (ki 1))),
 kv 75 (.mov (.c kz))]
 (.block 4 (.loop
 (sr [kv 76 (.bin .lss (.t 75) (.t 74))]
 (.seq (.cond (.t 76)
 .skip
 (.exit 4))
 (.seq (.block 5 (sr [km 77 75,
 km 10 77]
 (.drw [⟨[], 1, 0, [(km 78 6, ku),
 (km 79 5, ku),
 (km 80 8, ku),
 (km 81 10, ku),
 (kv 82 (.bin .add (.t 81) (.c (ki 1))), ku),
 (ko 83 (.bld [kz, kz] [(0, 1, (.t 80)), (1, 1, (.t 82))]), ku),
 (⟨(some 84), none, .lku (.w [(some .i64), (some .i64)]) kz false (.t 79) (.t 83)⟩, ku),
 (km 85 5, ku),
 (km 86 8, ku),
 (km 87 10, ku),
 (ko 88 (.bld [kz, kz] [(0, 1, (.t 86)), (1, 1, (.t 87))]), ku),
 (⟨(some 89), none, .lku (.w [(some .i64), (some .i64)]) kz false (.t 85) (.t 88)⟩, ku),
 (kv 90 (.load (.t 9) (some 2)), ku),
 (ko 91 (.bld [kz, kz, kz, kz] [(0, 1, (.t 84)), (1, 1, (.t 89)), (2, 2, (.t 90))]), ku),
 (ko 92 (.bsl 132 1 [kz, kz, kz, kz] [(0, 4, (.t 91))]), .cre 0)],
 [0],
 [ko 93 (.app 132 4 32 (.t 78) (.t 92)),
 km 6 93], none⟩])))
 (.reg [kv 94 (.bin .add (.t 75) (.c (ki 1))),
 km 75 94]))))))))))
 (.reg [kv 95 (.bin .add (.t 61) (.c (ki 1))),
 km 61 95])))))))
 (sr [km 96 6,
 km 4 96]
 .ret))))))
theorem h71 : FdOk Try.prog 71 ⟨g71, [.t 4], 97, [], false⟩ := .of Try.func71 (by simp [Try.f71]) (by kernel_rfl)
def g72 : RC :=
 (sr [ko 3 (.box 132 (.t 1))]
 (.seq (.drw [⟨[], 0, 0, [(km 4 0, ku),
 (kf 5 3 0, ku),
 (kl 6 5, ku),
 (km 7 0, ku),
 (kf 8 3 0, ku),
 (kl 9 8, ku),
 (kn 10 7, ku),
 (kv 11 (.ixarr (.t 10) (.t 9) 60 1), ku),
 (kl 12 11, ku),
 (km 13 0, ku),
 (kf 14 3 1, ku),
 (kl 15 14, ku),
 (kn 16 13, ku),
 (kv 17 (.ixarr (.t 16) (.t 15) 60 1), ku),
 (kl 18 17, ku),
 (kf 19 3 2, ku),
 (kf 20 19 1, ku),
 (kl 21 20, ku),
 (kv 22 (.bin .add (.t 18) (.t 21)), ku),
 (kv 23 (.min2 (.t 12) (.t 22)), ku),
 (kn 24 4, ku)],
 [],
 [kv 25 (.ixarr (.t 24) (.t 6) 60 1),
 ks 1 25 23], none⟩])
 (.drw [⟨[], 0, 0, [(km 26 0, ku),
 (kf 27 3 1, ku),
 (kl 28 27, ku),
 (km 29 0, ku),
 (kf 30 3 1, ku),
 (kl 31 30, ku),
 (kn 32 29, ku),
 (kv 33 (.ixarr (.t 32) (.t 31) 60 1), ku),
 (kl 34 33, ku),
 (km 35 0, ku),
 (kf 36 3 0, ku),
 (kl 37 36, ku),
 (kn 38 35, ku),
 (kv 39 (.ixarr (.t 38) (.t 37) 60 1), ku),
 (kl 40 39, ku),
 (kf 41 3 2, ku),
 (kf 42 41 0, ku),
 (kl 43 42, ku),
 (kv 44 (.bin .sub (.t 40) (.t 43)), ku),
 (kv 45 (.min2 (.t 34) (.t 44)), ku),
 (kn 46 26, ku)],
 [],
 [kv 47 (.ixarr (.t 46) (.t 28) 60 1),
 ks 1 47 45], none⟩])))
theorem h72 : FdOk Try.prog 72 ⟨g72, [], 48, [], false⟩ := .of Try.func72 (by simp [Try.f72]) (by kernel_rfl)
def g75 : RC :=
 (sr [km 10 1,
 kv 11 (.bin .add (.t 10) (.c (ki 1))),
 km 8 11]
 (.block 0 (.loop
 (.seq (sr [km 12 8,
 km 13 2,
 kv 14 (.bin .lss (.t 12) (.t 13))]
 (.cond (.t 14)
 .skip
 (.exit 0)))
 (.seq (.block 1 (sr [km 17 8,
 km 9 17]
 (.block 2 (.loop
 (.seq (.seq (.drw [⟨[], 0, 0, [(km 18 9, ku),
 (km 19 1, ku),
 (kv 20 (.bin .gtr (.t 18) (.t 19)), ku),
 (km 21 20, ku),
 (kG 22 21 true (.mov (.t 3)), ku),
 (kG 23 21 true (.mov (.t 0)), ku),
 (kG 24 21 true (.mov (.t 9)), ku),
 (kG 25 21 true (.ixa (.t 23) (.t 24) 4), ku),
 (kG 26 21 true (.load (.t 25) (some 4)), ku),
 (kG 27 21 true (.mov (.t 0)), ku),
 (kG 28 21 true (.mov (.t 9)), ku),
 (kG 29 21 true (.bin .sub (.t 28) (.c (ki 1))), ku),
 (kG 30 21 true (.ixa (.t 27) (.t 29) 4), ku),
 (kG 31 21 true (.load (.t 30) (some 4)), ku)],
 [],
 [⟨(some 32), (some (21, true)), .o (.call (.t 22) [(.t 26), (.t 31)])⟩,
 kG 33 21 true (.bin .lss (.t 32) (.c kz)),
 kv 34 (.pick (.t 21) (.t 33) (.c (.lit (.bool false))))], none⟩])
 (.cond (.t 34)
 .skip
 (.exit 2)))
 (.seq (.block 3 (.drw [⟨[], 0, 1, [(km 37 0, ku),
 (km 38 9, ku),
 (km 39 0, .pur),
 (km 40 9, .pur),
 (kv 41 (.bin .sub (.t 40) (.c (ki 1))), .pur),
 (km 42 0, ku),
 (km 43 9, ku),
 (kv 44 (.bin .sub (.t 43) (.c (ki 1))), ku),
 (kv 45 (.ixa (.t 42) (.t 44) 4), ku),
 (kv 46 (.load (.t 45) (some 4)), ku),
 (km 47 0, ku),
 (km 48 9, ku),
 (kv 49 (.ixa (.t 47) (.t 48) 4), ku),
 (kv 50 (.load (.t 49) (some 4)), ku),
 (kv 51 (.ixa (.t 37) (.t 38) 4), ku),
 (ks 4 51 46, .efs 0 [] [])],
 [],
 [kv 52 (.ixa (.t 39) (.t 41) 4),
 ks 4 52 50], none⟩,
 ⟨[], 0, 1, [(km 37 0, ku),
 (km 38 9, ku),
 (km 39 0, .pur),
 (km 40 9, .pur),
 (kv 41 (.bin .sub (.t 40) (.c (ki 1))), .pur),
 (km 42 0, ku),
 (km 43 9, ku),
 (kv 44 (.bin .sub (.t 43) (.c (ki 1))), ku),
 (kv 45 (.ixa (.t 42) (.t 44) 4), ku),
 (kv 46 (.load (.t 45) (some 4)), ku),
 (km 47 0, ku),
 (km 48 9, ku),
 (kv 49 (.ixa (.t 47) (.t 48) 4), ku),
 (kv 50 (.load (.t 49) (some 4)), ku),
 (kv 51 (.ixa (.t 37) (.t 38) 4), ku),
 (ks 4 51 46, .efs 0 [] [])],
 [],
 [kv 52 (.ixa (.t 39) (.t 41) 4),
 ks 4 52 50], none⟩]))
 (.reg [km 35 9,
 kv 36 (.bin .sub (.t 35) (.c (ki 1))),
 km 9 36])))))))
 (.reg [km 15 8,
 kv 16 (.bin .add (.t 15) (.c (ki 1))),
 km 8 16]))))))
theorem h75 : FdOk Try.prog 75 ⟨g75, [], 53, [], false⟩ := .of Try.func75 (by simp [Try.f75]) (by kernel_rfl)
def g84 : RC :=
 (sr [kv 2 (.mov (.c kz))]
 (.seq (sr [km 3 0,
 kv 4 (.bin .geq (.t 3) (.c (.int .u64 (4294967296))))]
 (.cond (.t 4)
 (sr [km 5 0,
 kv 6 (.bin .shr (.t 5) (.c (.int .u64 (32)))),
 km 0 6]
 (.reg [kv 2 (.mov (.c (ki 32)))]))
 .skip))
 (.seq (sr [km 7 0,
 kv 8 (.bin .geq (.t 7) (.c (.int .u64 (65536))))]
 (.cond (.t 8)
 (sr [km 9 0,
 kv 10 (.bin .shr (.t 9) (.c (.int .u64 (16)))),
 km 0 10]
 (.reg [km 11 2,
 kv 12 (.bin .add (.t 11) (.c (ki 16))),
 km 2 12]))
 .skip))
 (.seq (sr [km 13 0,
 kv 14 (.bin .geq (.t 13) (.c (.int .u64 (256))))]
 (.cond (.t 14)
 (sr [km 15 0,
 kv 16 (.bin .shr (.t 15) (.c (.int .u64 (8)))),
 km 0 16]
 (.reg [km 17 2,
 kv 18 (.bin .add (.t 17) (.c (ki 8))),
 km 2 18]))
 .skip))
 (sr [km 19 2,
 km 20 0,
 kv 21 (.conv .u8 (.t 20)),
 ⟨(some 22), none, .o (.v (.stri (.c (.lit (.string ⟨#[0, 1, 2, 2, 3, 3, 3, 3, 4, 4, 4, 4, 4, 4, 4, 4, 5, 5, 5, 5, 5, 5, 5, 5, 5, 5, 5, 5, 5, 5, 5, 5, 6, 6, 6, 6, 6, 6, 6, 6, 6, 6, 6, 6, 6, 6, 6, 6, 6, 6, 6, 6, 6, 6, 6, 6, 6, 6, 6, 6, 6, 6, 6, 6, 7, 7, 7, 7, 7, 7, 7, 7, 7, 7, 7, 7, 7, 7, 7, 7, 7, 7, 7, 7, 7, 7, 7, 7, 7, 7, 7, 7, 7, 7, 7, 7, 7, 7, 7, 7, 7, 7, 7, 7, 7, 7, 7, 7, 7, 7, 7, 7, 7, 7, 7, 7, 7, 7, 7, 7, 7, 7, 7, 7, 7, 7, 7, 7, 8, 8, 8, 8, 8, 8, 8, 8, 8, 8, 8, 8, 8, 8, 8, 8, 8, 8, 8, 8, 8, 8, 8, 8, 8, 8, 8, 8, 8, 8, 8, 8, 8, 8, 8, 8, 8, 8, 8, 8, 8, 8, 8, 8, 8, 8, 8, 8, 8, 8, 8, 8, 8, 8, 8, 8, 8, 8, 8, 8, 8, 8, 8, 8, 8, 8, 8, 8, 8, 8, 8, 8, 8, 8, 8, 8, 8, 8, 8, 8, 8, 8, 8, 8, 8, 8, 8, 8, 8, 8, 8, 8, 8, 8, 8, 8, 8, 8, 8, 8, 8, 8, 8, 8, 8, 8, 8, 8, 8, 8, 8, 8, 8, 8, 8, 8, 8, 8, 8, 8, 8, 8, 8, 8, 8, 8, 8, 8]⟩))) (.t 21)))⟩,
 kv 23 (.conv .i64 (.t 22)),
 kv 24 (.bin .add (.t 19) (.t 23)),
 km 2 24]
 .ret)))))
theorem h84 : FdOk Try.prog 84 ⟨g84, [.t 2], 25, [], false⟩ := .of Try.func84 (by simp [Try.f84]) (by kernel_rfl)
def g85 : RC :=
 (sr [kv 2 (.mov (.c (.lit (.bool false))))]
 (sr [km 3 0,
 km 4 0,
 kv 5 (.bin .neq (.t 3) (.t 4)),
 km 2 5]
 .ret))
theorem h85 : FdOk Try.prog 85 ⟨g85, [.t 2], 6, [], false⟩ := .of Try.func85 (by simp [Try.f85]) (by kernel_rfl)
def g86 : RC :=
 (sr [kv 2 (.mov (.c (.lit (.bool false))))]
 (sr [km 3 0,
 km 4 0,
 kv 5 (.strb .neq (.t 3) (.t 4)),
 km 2 5]
 .ret))
theorem h86 : FdOk Try.prog 86 ⟨g86, [.t 2], 6, [], false⟩ := .of Try.func86 (by simp [Try.f86]) (by kernel_rfl)
def g87 : RC :=
 (sr [ko 1 (.box 69 (.t 0)),
 kv 2 (.mov (.c (.lit (.map none))))]
 (sr [⟨(some 6), none, .mkm⟩,
 km 3 6]
 (.seq (sr [kf 7 1 0,
 kf 8 7 0,
 kl 9 8,
 kv 10 (.len (.t 9)),
 kv 11 (.mov (.c kz))]
 (.block 0 (.loop
 (sr [kv 12 (.bin .lss (.t 11) (.t 10))]
 (.seq (.cond (.t 12)
 .skip
 (.exit 0))
 (.seq (.block 1 (sr [km 13 11,
 km 4 13]
 (sr [kv 14 (.mov (.c kz))]
 (.block 2 (.loop
 (sr [kv 15 (.bin .lss (.t 14) (.c (ki 3)))]
 (.seq (.cond (.t 15)
 .skip
 (.exit 2))
 (.seq (.block 3 (sr [km 16 14,
 km 5 16]
 (.reg [km 17 3,
 km 18 5,
 km 19 4,
 ko 20 (.bld [kz, kz] [(0, 1, (.t 18)), (1, 1, (.t 19))]),
 km 21 4,
 kv 22 (.bin .mul (.c (ki 3)) (.t 21)),
 km 23 5,
 kv 24 (.bin .add (.t 22) (.t 23)),
 ⟨none, none, .upd (.w [(some .i64), (some .i64)]) (.t 17) (.t 20) (.t 24)⟩])))
 (.reg [kv 25 (.bin .add (.t 14) (.c (ki 1))),
 km 14 25])))))))))
 (.reg [kv 26 (.bin .add (.t 11) (.c (ki 1))),
 km 11 26])))))))
 (sr [km 27 3,
 km 2 27]
 .ret))))
theorem h87 : FdOk Try.prog 87 ⟨g87, [.t 2], 28, [], false⟩ := .of Try.func87 (by simp [Try.f87]) (by kernel_rfl)
def g88 : RC :=
 (sr [ko 2 (.box 69 (.t 0)),
 ko 4 (.new 25 [kz, kz])]
 (sr [km 5 1,
 kf 6 2 0,
 kf 7 6 2,
 kl 8 7,
 kv 9 (.bin .sub (.t 5) (.t 8)),
 km 10 1,
 kf 11 2 0,
 kf 12 11 2,
 kl 13 12,
 kv 14 (.bin .add (.t 10) (.t 13)),
 ko 15 (.bld [kz, kz] [(0, 1, (.t 9)), (1, 1, (.t 14))]),
 ks 2 4 15]
 .ret))
theorem h88 : FdOk Try.prog 88 ⟨g88, [.c 4 (some 2)], 16, [], false⟩ := .of Try.func88 (by simp [Try.f88]) (by kernel_rfl)

end Go.Proofs.Ytlegfejimphfbaa
