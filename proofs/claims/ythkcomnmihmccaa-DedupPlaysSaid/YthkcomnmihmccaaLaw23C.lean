/- DedupPlays: whatever comes, the cache answers as the law's own list of entries does. -/
import Derived.Test.YthkcomnmihmccaaLaw23H
namespace Go.Proofs.Ythkcomnmihmccaa
open Go.RowKit Go.Sort

set_option maxHeartbeats 8000000 in
set_option maxRecDepth 1000000 in
/-- The law. -/
theorem dedplays_any (R0 : Int) (sp : Option Addr) (len cap bk o : Nat) (X : Nat → Dd.Ac) (w : World) (hs : 0 < len → sp = some ⟨bk, o, none⟩) (hc : Acts23 w bk o len X) :
    Calls Try.prog 3 #[.int .i64 R0, .slice sp len cap] w fun e w' => e = .returned (.bool true) ∧ Below w.heap.size w w' := by
  have hn0 : 0 ≤ bits .and .i64 R0 7 ∧ bits .and .i64 R0 7 ≤ 7 := by rw [show bits .and .i64 R0 7 = R0 % 8 from i64_low R0 3 (by omega)]; omega
  generalize he0 : bits .and .i64 R0 7 = n0 at hn0
  obtain ⟨N, rfl⟩ : ∃ N : Nat, n0 = (N : Int) := ⟨n0.toNat, by omega⟩
  have hN : N ≤ 7 := by omega
  have HA := Lib.hid hc
  have HS := Lib.hid hs
  clear hc hs hn0
  go_enter Try.func3, Try.ntmps3
  go_wp2_with fail
  refine (dw_new (N : Int) w).mono ?_
  rintro e w1 ⟨rfl, h1⟩
  rw [show Dd.room (N : Int) = (N : Int) by unfold Dd.room; omega] at h1
  generalize w.heap.size = P at h1 ⊢
  have H1 := Lib.hid h1.none_
  clear h1
  go_upto_region 3 with fail
  generalize w1.alloc _ = w2 at H1 ⊢
  generalize w1.heap.size = mb at H1 ⊢
  go_wp2_with fail
  go_loopg [7, 8] (101 : Nat) (fun gh s7 s8 wx => ∃ (i mb mo mc : Nat) (q : List Dd.Cl) (m : List Dd.En), s7 = .slice (some ⟨mb, mo, none⟩) m.length mc ∧ s8 = .int .i64 (i : Int) ∧ i ≤ 100 ∧ 101 - i ≤ gh ∧ Hid (Dd.Rel Dd.sureOf N q m) ∧ Hid (Dw w wx P (N : Int) q [(mb, RowE mo mc m)]))
  case atStart => exact ⟨0, mb, 0, 0, [], [], rfl, rfl, by omega, by omega, Lib.hid (Dd.Rel.nil _ _), H1⟩
  case round =>
    obtain ⟨i, mb, mo, mc, q, m, rfl, rfl, hi, hg, HR, HD⟩ := hrel
    clear H1
    have hw1 : IntKind.i64.wrap ((i : Int) + 1) = (i : Int) + 1 := by rw [IntKind.wrap_i64]; omega
    by_cases hil : i < len
    · have hil' : (i : Int) < (len : Int) := by omega
      by_cases hi100 : i < 100
      · have hi100' : (i : Int) < 100 := by omega
        obtain rfl := HS.out (by omega)
        go_upto_block 1 with fail
        refine round_part hN hil HA HR HD _ _ _ _ _ _ _ _ _ _ _ _ _ _ _ _ _ _ _ _ _ _ _ _ _ _ _ _ _ _ _ _ _ _ _ _ _ _ _ _ _ _ _ _ _ _ _ _ _ _ _ _ _ _ _ _ _ _ _ _ _ _ _ _ _ _ _ _ _ _ _ _ _ _ _ _ _ _ _ _ _ _ _ _ _ _ _ _ _ _ _ _ _ _ _ _ _ _ _ _ _ _ _ _ _ _ _ _ _ _ _ _ _ _ _ _ _ _ _ _ _ _ _ _ _ _ _ _ _ _ _ _ _ _ _ _ _ _ _ _ _ _ _ _ _ _ _ _ _ _ _ _ _ _ _ _ _ _ _ _ _ _ _ _ _ _ _ _ _ _ _ _ _ _ _ _ _ _ _ _ _ _ _ _ _ _ _ _ _ _ _ _ _ _ _ _ _ _ _ _ _ _ _ _ _ _ _ _ _ _ _ _ _ _ _ _ _ _ _ _ _ _ _ _ _ _ _ _ _ _ _ _ _ _ _ _ _ _ _ _ _ _ _ _ _ _ _ _ _ _ _ _ _ _ _ _ _ _ _ _ _ _ _ _ _ _ _ _ _ _ _ _ _ _ _ _ _ _ _ _ _ _ _ _ _ _ _ _ _ _ _ _ _ _ _ _ _ _ _ _ _ _ _ _ _ _ _ _ _ _ _ _ _ _ _ _ _ _ _ _ (Lib.hid (fun x4 x9 x10 x11 x12 x13 x14 x15 x16 x17 x18 x19 x20 x36 x37 x38 x39 x40 x41 x42 x43 x44 x45 x46 x47 x48 x49 x50 x51 x52 x53 x54 x55 x56 x57 x58 x59 x60 x61 x62 x63 x64 x65 x66 x67 x68 x69 x70 x71 x72 x73 x74 x75 x76 x77 x78 x79 x80 x81 x82 x83 x84 x85 x86 x87 x88 x89 x90 x91 x92 x93 x94 x95 x96 x97 x98 x99 x100 x101 x102 x103 x104 x105 x106 x107 x108 x109 x110 x111 x112 x113 x114 x115 x116 x117 x118 x119 x120 x121 x122 x123 x124 x125 x126 x127 x128 x129 x130 x131 x132 x133 x134 x135 x136 x137 x138 x139 x140 x141 x142 x143 x144 x145 x146 x147 x148 x149 x150 x151 x152 x153 x154 x155 x156 x157 x158 x159 x160 x161 x162 x163 x164 x165 x166 x167 x168 x169 x170 x171 x172 x173 x174 x175 x176 x177 x178 x179 x180 x181 x182 x183 x184 x185 x186 x187 x188 x189 x190 x191 x192 x193 x194 x195 x196 x197 x198 x199 x200 x201 x202 x203 x204 x205 x206 x207 x208 x209 x210 x211 x212 x213 x214 x215 x216 x217 x218 x219 x220 x221 x222 x223 x224 x225 x226 x227 x228 x229 x230 x231 x232 x233 x234 x235 x236 x237 x238 x239 x240 x241 x242 x243 x244 x245 x246 x247 x248 x249 x250 x251 x252 x253 x254 x255 x256 x257 x258 x259 x260 x261 x262 x263 x264 x265 x266 x267 x268 x269 x270 x271 x272 x273 x274 x275 x276 x277 x278 x279 x280 x281 x282 x283 x284 x285 x286 x287 x288 x289 x290 x291 x292 x293 x294 x295 x296 x297 x298 x299 x300 x301 x302 x303 x304 x305 x306 x307 x308 x309 x310 x311 x312 x313 x314 x315 x316 x317 x318 x319 x320 x321 x322 mb' mo' mc' nl q' m' wn hl hr hd => ?_)) (fun v d c a w h => by cases d <;> exact h)
        subst hl
        have HR2 := Lib.hid hr
        have HD2 := Lib.hid hd
        clear hr hd HD HR
        go_wp2_with fail
        go_roundg (101 - (i + 1))
        case measure => omega
        case rel => exact ⟨i + 1, mb', mo', mc', q', m', rfl, by push_cast; rfl, by omega, by omega, HR2, HD2⟩
      · obtain rfl : i = 100 := by omega
        clear hi100
        go_wp2_with fail
        refine (awake23_any _).mono ?_
        rintro e wz ⟨rfl, hb⟩
        have H9 := Lib.hid (HD.out.below hb).rest
        clear hb HD
        go_wp2_with fail
        go_ret
        exact ⟨rfl, H9.out.below (Nat.le_refl _) (fun _ => False.elim)⟩
    · have hil' : ¬(i : Int) < (len : Int) := by omega
      clear hil
      go_wp2_with fail
      refine (awake23_any _).mono ?_
      rintro e wz ⟨rfl, hb⟩
      have H9 := Lib.hid (HD.out.below hb).rest
      clear hb HD
      go_wp2_with fail
      go_ret
      exact ⟨rfl, H9.out.below (Nat.le_refl _) (fun _ => False.elim)⟩
end Go.Proofs.Ythkcomnmihmccaa
