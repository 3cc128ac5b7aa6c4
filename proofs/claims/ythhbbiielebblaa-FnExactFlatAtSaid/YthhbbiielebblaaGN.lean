/-
  Plain functions, written by program for functions of the checked code. Conditions: none.
-/
import Derived.Test.YthhbbiielebblaaFB
set_option linter.unusedVariables false
namespace Go.Rv
/-! loop.example/headtrees/spec.l20Open -/

def spec_l20Open_n1 (x12 : List Int) : Option (((List Int))) :=
  cond (decide ((((List.length x12 : Nat) : Int)) > 2000)) ((inc 2000 (List.length x12)).bind fun (v28 : Nat) => some ((x12.take v28).drop 0)) (some x12)

@[irreducible] def spec_l20Open (x12 : List Int) : Option ((List Int)) :=
  spec_l20Open_n1 x12

/-! (*loop.example/headtrees/spec.l20Rd).pick -/

def spec_l20Rd_pick_n1 (x33 : Int) (x34 : List Int) (x35 : Int) : Option ((Int × Int)) :=
  cond (decide (x33 < 1)) (some (0, (IntKind.wrap .i64 (x35 + 1)))) (cond ((((List.length x34 : Nat) : Int)) == 0) (some (0, (IntKind.wrap .i64 (x35 + 1)))) (cond (decide ((IntKind.wrap .i64 ((IntKind.wrap .i64 (x35 + 1)) - 1)) < (((List.length x34 : Nat) : Int)))) ((idx x34 (IntKind.wrap .i64 ((IntKind.wrap .i64 (x35 + 1)) - 1))).bind fun (v163 : Int) => (rem (IntKind.wrap .i64 v163) x33).bind fun (v165 : Int) => some (v165, (IntKind.wrap .i64 (x35 + 1)))) ((rem (IntKind.wrap .i64 ((IntKind.wrap .i64 (x35 + 1)) - 1)) (((List.length x34 : Nat) : Int))).bind fun (v167 : Int) => (idx x34 v167).bind fun (v168 : Int) => (rem (IntKind.wrap .i64 ((IntKind.wrap .i64 ((IntKind.wrap .i64 ((IntKind.wrap .i64 (x35 + 1)) - 1)) * 7)) + 3)) (((List.length x34 : Nat) : Int))).bind fun (v174 : Int) => (idx x34 v174).bind fun (v175 : Int) => (quo .i64 (IntKind.wrap .i64 ((IntKind.wrap .i64 (x35 + 1)) - 1)) (((List.length x34 : Nat) : Int))).bind fun (v182 : Int) => (quo .i64 (IntKind.wrap .i64 ((IntKind.wrap .i64 ((IntKind.wrap .i64 ((IntKind.wrap .i64 ((IntKind.wrap .i64 v168) * 131)) + (IntKind.wrap .i64 ((IntKind.wrap .i64 v175) * 1117)))) + (IntKind.wrap .i64 ((IntKind.wrap .i64 ((IntKind.wrap .i64 (x35 + 1)) - 1)) * 29)))) + (IntKind.wrap .i64 (v182 * 53)))) 64).bind fun (v185 : Int) => (rem (ixor .i64 (IntKind.wrap .i64 ((IntKind.wrap .i64 ((IntKind.wrap .i64 ((IntKind.wrap .i64 ((IntKind.wrap .i64 v168) * 131)) + (IntKind.wrap .i64 ((IntKind.wrap .i64 v175) * 1117)))) + (IntKind.wrap .i64 ((IntKind.wrap .i64 ((IntKind.wrap .i64 (x35 + 1)) - 1)) * 29)))) + (IntKind.wrap .i64 (v182 * 53)))) v185) x33).bind fun (v187 : Int) => some (v187, (IntKind.wrap .i64 (x35 + 1))))))

@[irreducible] def spec_l20Rd_pick (x33 : Int) (x34 : List Int) (x35 : Int) : Option (Int × Int) :=
  spec_l20Rd_pick_n1 x33 x34 x35

/-! loop.example/headtrees/spec.DrawCountFlat -/

def spec_DrawCountFlat_n1 (x10 : List Int) : Option (Int) :=
  (spec_l20Open x10).bind fun (v193 : List Int) => (spec_l20Rd_pick 9 v193 0).bind fun (v194 : Int × Int) => some (IntKind.wrap .i64 ((v194.1) - 1))

@[irreducible] def spec_DrawCountFlat (x10 : List Int) : Option (Int) :=
  spec_DrawCountFlat_n1 x10

/-! (loop.example/headtrees/impl.flatCounts).aroundRoots -/

def impl_flatCounts_aroundRoots_n1 : Option (Unit) :=
  some ()

@[irreducible] def impl_flatCounts_aroundRoots (x220 : Int) (x221 : Int) (x222 : Int) (x223 : Int) (x224 : Int) (x225 : Int) (x226 : Int) (x227 : Int) (x228 : Int) (x229 : Int) (x230 : Int) (x231 : Int) (x232 : Int) (x233 : Int) : Option (Unit) :=
  impl_flatCounts_aroundRoots_n1

/-! (loop.example/headtrees/impl.joins).below -/

def impl_joins_below_n1 : Option (Unit) :=
  some ()

def impl_joins_below_n2 : Option (Unit) :=
  some ()

def impl_joins_below_n3 (x266 : Int) (x287 : Int) (x267 : Int) (x288 : Int) (x252 : Int) (x253 : Int) (x254 : Int) (x255 : Int) (x256 : Int) (x257 : Int) (x258 : Int) (x259 : Int) (x260 : Int) (x261 : Int) (x262 : Int) (x263 : Int) (x264 : Int) (x265 : Int) : Option ((Int × Int) ⊕ Int) :=
  cond (decide (x288 < x267)) ((inb x288 7).bind fun (v300 : Nat) => ([x252, x253, x254, x255, x256, x257, x258, x259, x260, x261, x262, x263, x264, x265][v300]?).bind fun (v301 : Int) => (inb (IntKind.wrap .i64 (x266 - x288)) 7).bind fun (v303 : Nat) => ([x259, x260, x261, x262, x263, x264, x265][v303]?).bind fun (v304 : Int) => some (Sum.inl ((IntKind.wrap .i64 (x287 + (IntKind.wrap .i64 (v301 * v304)))), (IntKind.wrap .i64 (x288 + 1))))) (some (Sum.inr x287))

def impl_joins_below_n4 (x266 : Int) (x267 : Int) (x252 : Int) (x253 : Int) (x254 : Int) (x255 : Int) (x256 : Int) (x257 : Int) (x258 : Int) (x259 : Int) (x260 : Int) (x261 : Int) (x262 : Int) (x263 : Int) (x264 : Int) (x265 : Int) : Option (Int) :=
  nloop (fun (s : Int × Int) => ((impl_joins_below_n3 x266 s.1 x267 s.2 x252 x253 x254 x255 x256 x257 x258 x259 x260 x261 x262 x263 x264 x265).map (Sum.elim (fun (t : Int × Int) => Sum.inl (t.1, t.2)) (fun (t : Int) => Sum.inr t)) : Option ((Int × Int) ⊕ (Int)))) LL (0, 0)

def impl_joins_below_n5 (x266 : Int) (x267 : Int) (x252 : Int) (x253 : Int) (x254 : Int) (x255 : Int) (x256 : Int) (x257 : Int) (x258 : Int) (x259 : Int) (x260 : Int) (x261 : Int) (x262 : Int) (x263 : Int) (x264 : Int) (x265 : Int) : Option (Int) :=
  (impl_joins_below_n4 x266 x267 x252 x253 x254 x255 x256 x257 x258 x259 x260 x261 x262 x263 x264 x265).map (fun (t : Int) => t)

def impl_joins_below_n6 (x266 : Int) (x267 : Int) (x252 : Int) (x253 : Int) (x254 : Int) (x255 : Int) (x256 : Int) (x257 : Int) (x258 : Int) (x259 : Int) (x260 : Int) (x261 : Int) (x262 : Int) (x263 : Int) (x264 : Int) (x265 : Int) : Option (Int) :=
  (impl_joins_below_n2).bind (fun (t : Unit) => impl_joins_below_n5 x266 x267 x252 x253 x254 x255 x256 x257 x258 x259 x260 x261 x262 x263 x264 x265)

def impl_joins_below_n7 (x287 : Int) : Option (Int) :=
  some x287

def impl_joins_below_n8 (x266 : Int) (x267 : Int) (x252 : Int) (x253 : Int) (x254 : Int) (x255 : Int) (x256 : Int) (x257 : Int) (x258 : Int) (x259 : Int) (x260 : Int) (x261 : Int) (x262 : Int) (x263 : Int) (x264 : Int) (x265 : Int) : Option (Int) :=
  (impl_joins_below_n6 x266 x267 x252 x253 x254 x255 x256 x257 x258 x259 x260 x261 x262 x263 x264 x265).bind (fun (t : Int) => impl_joins_below_n7 t)

def impl_joins_below_n9 (x252 : Int) (x253 : Int) (x254 : Int) (x255 : Int) (x256 : Int) (x257 : Int) (x258 : Int) (x259 : Int) (x260 : Int) (x261 : Int) (x262 : Int) (x263 : Int) (x264 : Int) (x265 : Int) (x266 : Int) (x267 : Int) : Option (Int) :=
  (impl_joins_below_n1).bind (fun (t : Unit) => impl_joins_below_n8 x266 x267 x252 x253 x254 x255 x256 x257 x258 x259 x260 x261 x262 x263 x264 x265)

@[irreducible] def impl_joins_below (x252 : Int) (x253 : Int) (x254 : Int) (x255 : Int) (x256 : Int) (x257 : Int) (x258 : Int) (x259 : Int) (x260 : Int) (x261 : Int) (x262 : Int) (x263 : Int) (x264 : Int) (x265 : Int) (x266 : Int) (x267 : Int) : Option (Int) :=
  impl_joins_below_n9 x252 x253 x254 x255 x256 x257 x258 x259 x260 x261 x262 x263 x264 x265 x266 x267

/-! (loop.example/headtrees/impl.joins).count -/

def impl_joins_count_n1 (x236 : Int) (x237 : Int) (x238 : Int) (x239 : Int) (x240 : Int) (x241 : Int) (x242 : Int) (x243 : Int) (x244 : Int) (x245 : Int) (x246 : Int) (x247 : Int) (x248 : Int) (x249 : Int) (x250 : Int) : Option (Int) :=
  (impl_joins_below x236 x237 x238 x239 x240 x241 x242 x243 x244 x245 x246 x247 x248 x249 x250 (IntKind.wrap .i64 (x250 + 1))).bind fun (v310 : Int) => some v310

@[irreducible] def impl_joins_count (x236 : Int) (x237 : Int) (x238 : Int) (x239 : Int) (x240 : Int) (x241 : Int) (x242 : Int) (x243 : Int) (x244 : Int) (x245 : Int) (x246 : Int) (x247 : Int) (x248 : Int) (x249 : Int) (x250 : Int) : Option (Int) :=
  impl_joins_count_n1 x236 x237 x238 x239 x240 x241 x242 x243 x244 x245 x246 x247 x248 x249 x250

/-! (loop.example/headtrees/impl.flatCounts).inRows -/

def impl_flatCounts_inRows_n1 : Option (Unit) :=
  some ()

@[irreducible] def impl_flatCounts_inRows (x328 : Int) (x329 : Int) (x330 : Int) (x331 : Int) (x332 : Int) (x333 : Int) (x334 : Int) (x335 : Int) (x336 : Int) (x337 : Int) (x338 : Int) (x339 : Int) (x340 : Int) (x341 : Int) : Option (Unit) :=
  impl_flatCounts_inRows_n1

/-! loop.example/headtrees/impl.countFlatParts -/

def impl_countFlatParts_n1 : Option ((Int × Int × Int × Int × Int × Int × Int)) :=
  (inb 0 7).bind fun (v209 : Nat) => (within v209 7).bind fun (v217 : Unit) => some ((cond (v209 == 0) 1 0), (cond (v209 == 1) 1 0), (cond (v209 == 2) 1 0), (cond (v209 == 3) 1 0), (cond (v209 == 4) 1 0), (cond (v209 == 5) 1 0), (cond (v209 == 6) 1 0))

def impl_countFlatParts_n2 : Option (Unit) :=
  some ()

def impl_countFlatParts_n3 (x385 : Int) (x386 : Int) (x387 : Int) (x388 : Int) (x389 : Int) (x390 : Int) (x391 : Int) (x392 : Int) (x393 : Int) (x394 : Int) (x395 : Int) (x396 : Int) (x397 : Int) (x398 : Int) (x399 : Int) : Option ((Int × Int × Int × Int × Int × Int × Int × Int × Int × Int × Int × Int × Int × Int × Int) ⊕ (Int × Int × Int × Int × Int × Int × Int × Int × Int × Int × Int × Int × Int × Int)) :=
  cond (decide (x385 ≤ 6)) ((impl_flatCounts_aroundRoots x386 x387 x388 x389 x390 x391 x392 x393 x394 x395 x396 x397 x398 x399).bind fun (v433 : Unit) => (impl_joins_count x393 x394 x395 x396 x397 x398 x399 x393 x394 x395 x396 x397 x398 x399 (IntKind.wrap .i64 (x385 - 1))).bind fun (v435 : Int) => (inb x385 7).bind fun (v436 : Nat) => (within v436 14).bind fun (v451 : Unit) => (impl_flatCounts_inRows (cond (v436 == 0) v435 x386) (cond (v436 == 1) v435 x387) (cond (v436 == 2) v435 x388) (cond (v436 == 3) v435 x389) (cond (v436 == 4) v435 x390) (cond (v436 == 5) v435 x391) (cond (v436 == 6) v435 x392) (cond (v436 == 7) v435 x393) (cond (v436 == 8) v435 x394) (cond (v436 == 9) v435 x395) (cond (v436 == 10) v435 x396) (cond (v436 == 11) v435 x397) (cond (v436 == 12) v435 x398) (cond (v436 == 13) v435 x399)).bind fun (v452 : Unit) => (impl_joins_count (cond (v436 == 0) v435 x386) (cond (v436 == 1) v435 x387) (cond (v436 == 2) v435 x388) (cond (v436 == 3) v435 x389) (cond (v436 == 4) v435 x390) (cond (v436 == 5) v435 x391) (cond (v436 == 6) v435 x392) (cond (v436 == 7) v435 x393) (cond (v436 == 8) v435 x394) (cond (v436 == 9) v435 x395) (cond (v436 == 10) v435 x396) (cond (v436 == 11) v435 x397) (cond (v436 == 12) v435 x398) (cond (v436 == 13) v435 x399) x385).bind fun (v453 : Int) => (inb x385 7).bind fun (v454 : Nat) => (within v454 7).bind fun (v462 : Unit) => some (Sum.inl ((IntKind.wrap .i64 (x385 + 1)), (cond (v436 == 0) v435 x386), (cond (v436 == 1) v435 x387), (cond (v436 == 2) v435 x388), (cond (v436 == 3) v435 x389), (cond (v436 == 4) v435 x390), (cond (v436 == 5) v435 x391), (cond (v436 == 6) v435 x392), (cond (v454 == 0) v453 (cond (v436 == 7) v435 x393)), (cond (v454 == 1) v453 (cond (v436 == 8) v435 x394)), (cond (v454 == 2) v453 (cond (v436 == 9) v435 x395)), (cond (v454 == 3) v453 (cond (v436 == 10) v435 x396)), (cond (v454 == 4) v453 (cond (v436 == 11) v435 x397)), (cond (v454 == 5) v453 (cond (v436 == 12) v435 x398)), (cond (v454 == 6) v453 (cond (v436 == 13) v435 x399))))) (some (Sum.inr (x386, x387, x388, x389, x390, x391, x392, x393, x394, x395, x396, x397, x398, x399)))

def impl_countFlatParts_n4 (x210 : Int) (x211 : Int) (x212 : Int) (x213 : Int) (x214 : Int) (x215 : Int) (x216 : Int) : Option ((Int × Int × Int × Int × Int × Int × Int × Int × Int × Int × Int × Int × Int × Int)) :=
  nloop (fun (s : Int × Int × Int × Int × Int × Int × Int × Int × Int × Int × Int × Int × Int × Int × Int) => ((impl_countFlatParts_n3 s.1 s.2.1 s.2.2.1 s.2.2.2.1 s.2.2.2.2.1 s.2.2.2.2.2.1 s.2.2.2.2.2.2.1 s.2.2.2.2.2.2.2.1 s.2.2.2.2.2.2.2.2.1 s.2.2.2.2.2.2.2.2.2.1 s.2.2.2.2.2.2.2.2.2.2.1 s.2.2.2.2.2.2.2.2.2.2.2.1 s.2.2.2.2.2.2.2.2.2.2.2.2.1 s.2.2.2.2.2.2.2.2.2.2.2.2.2.1 s.2.2.2.2.2.2.2.2.2.2.2.2.2.2).map (Sum.elim (fun (t : Int × Int × Int × Int × Int × Int × Int × Int × Int × Int × Int × Int × Int × Int × Int) => Sum.inl (t.1, t.2.1, t.2.2.1, t.2.2.2.1, t.2.2.2.2.1, t.2.2.2.2.2.1, t.2.2.2.2.2.2.1, t.2.2.2.2.2.2.2.1, t.2.2.2.2.2.2.2.2.1, t.2.2.2.2.2.2.2.2.2.1, t.2.2.2.2.2.2.2.2.2.2.1, t.2.2.2.2.2.2.2.2.2.2.2.1, t.2.2.2.2.2.2.2.2.2.2.2.2.1, t.2.2.2.2.2.2.2.2.2.2.2.2.2.1, t.2.2.2.2.2.2.2.2.2.2.2.2.2.2)) (fun (t : Int × Int × Int × Int × Int × Int × Int × Int × Int × Int × Int × Int × Int × Int) => Sum.inr t)) : Option ((Int × Int × Int × Int × Int × Int × Int × Int × Int × Int × Int × Int × Int × Int × Int) ⊕ ((Int × Int × Int × Int × Int × Int × Int × Int × Int × Int × Int × Int × Int × Int))))) LL (1, 0, 0, 0, 0, 0, 0, 0, x210, x211, x212, x213, x214, x215, x216)

def impl_countFlatParts_n5 (x210 : Int) (x211 : Int) (x212 : Int) (x213 : Int) (x214 : Int) (x215 : Int) (x216 : Int) : Option ((Int × Int × Int × Int × Int × Int × Int × Int × Int × Int × Int × Int × Int × Int)) :=
  (impl_countFlatParts_n4 x210 x211 x212 x213 x214 x215 x216).map (fun (t : Int × Int × Int × Int × Int × Int × Int × Int × Int × Int × Int × Int × Int × Int) => (t.1, t.2.1, t.2.2.1, t.2.2.2.1, t.2.2.2.2.1, t.2.2.2.2.2.1, t.2.2.2.2.2.2.1, t.2.2.2.2.2.2.2.1, t.2.2.2.2.2.2.2.2.1, t.2.2.2.2.2.2.2.2.2.1, t.2.2.2.2.2.2.2.2.2.2.1, t.2.2.2.2.2.2.2.2.2.2.2.1, t.2.2.2.2.2.2.2.2.2.2.2.2.1, t.2.2.2.2.2.2.2.2.2.2.2.2.2))

def impl_countFlatParts_n6 (x210 : Int) (x211 : Int) (x212 : Int) (x213 : Int) (x214 : Int) (x215 : Int) (x216 : Int) : Option ((Int × Int × Int × Int × Int × Int × Int × Int × Int × Int × Int × Int × Int × Int)) :=
  (impl_countFlatParts_n2).bind (fun (t : Unit) => impl_countFlatParts_n5 x210 x211 x212 x213 x214 x215 x216)

def impl_countFlatParts_n7 (x386 : Int) (x387 : Int) (x388 : Int) (x389 : Int) (x390 : Int) (x391 : Int) (x392 : Int) (x393 : Int) (x394 : Int) (x395 : Int) (x396 : Int) (x397 : Int) (x398 : Int) (x399 : Int) : Option ((Int × Int × Int × Int × Int × Int × Int × Int × Int × Int × Int × Int × Int × Int)) :=
  some (x386, x387, x388, x389, x390, x391, x392, x393, x394, x395, x396, x397, x398, x399)

def impl_countFlatParts_n8 (x210 : Int) (x211 : Int) (x212 : Int) (x213 : Int) (x214 : Int) (x215 : Int) (x216 : Int) : Option ((Int × Int × Int × Int × Int × Int × Int × Int × Int × Int × Int × Int × Int × Int)) :=
  (impl_countFlatParts_n6 x210 x211 x212 x213 x214 x215 x216).bind (fun (t : Int × Int × Int × Int × Int × Int × Int × Int × Int × Int × Int × Int × Int × Int) => impl_countFlatParts_n7 t.1 t.2.1 t.2.2.1 t.2.2.2.1 t.2.2.2.2.1 t.2.2.2.2.2.1 t.2.2.2.2.2.2.1 t.2.2.2.2.2.2.2.1 t.2.2.2.2.2.2.2.2.1 t.2.2.2.2.2.2.2.2.2.1 t.2.2.2.2.2.2.2.2.2.2.1 t.2.2.2.2.2.2.2.2.2.2.2.1 t.2.2.2.2.2.2.2.2.2.2.2.2.1 t.2.2.2.2.2.2.2.2.2.2.2.2.2)

def impl_countFlatParts_n9 : Option ((Int × Int × Int × Int × Int × Int × Int × Int × Int × Int × Int × Int × Int × Int)) :=
  (impl_countFlatParts_n1).bind (fun (t : Int × Int × Int × Int × Int × Int × Int) => impl_countFlatParts_n8 t.1 t.2.1 t.2.2.1 t.2.2.2.1 t.2.2.2.2.1 t.2.2.2.2.2.1 t.2.2.2.2.2.2)

@[irreducible] def impl_countFlatParts : Option (Int × Int × Int × Int × Int × Int × Int × Int × Int × Int × Int × Int × Int × Int) :=
  impl_countFlatParts_n9

/-! loop.example/headtrees/impl.CountFlat -/

def impl_CountFlat_n1 (x202 : Int) : Option (Int) :=
  cond (decide (x202 < 1)) (some (-1)) (cond (decide (x202 > 6)) (some (-1)) ((impl_countFlatParts).bind fun (v482 : Int × Int × Int × Int × Int × Int × Int × Int × Int × Int × Int × Int × Int × Int) => (idx [(v482.1), (v482.2.1), (v482.2.2.1), (v482.2.2.2.1), (v482.2.2.2.2.1), (v482.2.2.2.2.2.1), (v482.2.2.2.2.2.2.1)] x202).bind fun (v497 : Int) => some v497))

@[irreducible] def impl_CountFlat (x202 : Int) : Option (Int) :=
  impl_CountFlat_n1 x202

/-! loop.example/headtrees/spec.l1In -/

def spec_l1In_n1 (x505 : Int) (x506 : Int) (x507 : Int) : Option (Bool) :=
  cond (decide (x505 ≥ x506)) (some (decide (x505 ≤ x507))) (some false)

@[irreducible] def spec_l1In (x505 : Int) (x506 : Int) (x507 : Int) : Option (Bool) :=
  spec_l1In_n1 x505 x506 x507

/-! loop.example/headtrees/spec.l4Flat, loop.example/headtrees/spec.l4Rows -/

def spec_l4Flat_n1 (R0 : Int → Option Int) (R1 : Int → Option Int) : Option (Unit) :=
  some ()

def spec_l4Flat_n2 (R0 : Int → Option Int) (R1 : Int → Option Int) : Option (Unit) :=
  some ()

def spec_l4Flat_n3 (R0 : Int → Option Int) (R1 : Int → Option Int) (x517 : Int) (x620 : Int) (x621 : Int) : Option ((Int × Int) ⊕ Int) :=
  cond (decide (x621 < x517)) ((R1 x621).bind fun (v631 : Int) => (R1 (IntKind.wrap .i64 ((IntKind.wrap .i64 (x517 - 1)) - x621))).bind fun (v634 : Int) => some (Sum.inl ((IntKind.wrap .i64 (x620 + (IntKind.wrap .i64 (v631 * v634)))), (IntKind.wrap .i64 (x621 + 1))))) (some (Sum.inr x620))

def spec_l4Flat_n4 (R0 : Int → Option Int) (R1 : Int → Option Int) (x517 : Int) : Option (Int) :=
  nloop (fun (s : Int × Int) => ((spec_l4Flat_n3 R0 R1 x517 s.1 s.2).map (Sum.elim (fun (t : Int × Int) => Sum.inl (t.1, t.2)) (fun (t : Int) => Sum.inr t)) : Option ((Int × Int) ⊕ (Int)))) LL (0, 0)

def spec_l4Flat_n5 (R0 : Int → Option Int) (R1 : Int → Option Int) (x517 : Int) : Option (Int) :=
  (spec_l4Flat_n4 R0 R1 x517).map (fun (t : Int) => t)

def spec_l4Flat_n6 (R0 : Int → Option Int) (R1 : Int → Option Int) (x517 : Int) : Option (Int) :=
  (spec_l4Flat_n2 R0 R1).bind (fun (t : Unit) => spec_l4Flat_n5 R0 R1 x517)

def spec_l4Flat_n7 (R0 : Int → Option Int) (R1 : Int → Option Int) (x620 : Int) : Option (Int) :=
  some x620

def spec_l4Flat_n8 (R0 : Int → Option Int) (R1 : Int → Option Int) (x517 : Int) : Option (Int) :=
  (spec_l4Flat_n6 R0 R1 x517).bind (fun (t : Int) => spec_l4Flat_n7 R0 R1 t)

def spec_l4Flat_n9 (R0 : Int → Option Int) (R1 : Int → Option Int) (x517 : Int) : Option (Int) :=
  (spec_l4Flat_n1 R0 R1).bind (fun (t : Unit) => spec_l4Flat_n8 R0 R1 x517)

def spec_l4Flat_one (R0 : Int → Option Int) (R1 : Int → Option Int) (x517 : Int) : Option (Int) :=
  spec_l4Flat_n9 R0 R1 x517

def spec_l4Rows_n1 (R0 : Int → Option Int) (R1 : Int → Option Int) (x565 : Int) : Option (Unit ⊕ Int) :=
  cond (x565 == 0) (some (Sum.inr 1)) (some (Sum.inl ()))

def spec_l4Rows_n2 (R0 : Int → Option Int) (R1 : Int → Option Int) : Option (Unit) :=
  some ()

def spec_l4Rows_n3 (R0 : Int → Option Int) (R1 : Int → Option Int) (x565 : Int) (x589 : Int) (x590 : Int) : Option ((Int × Int) ⊕ Int) :=
  cond (decide (x590 ≤ x565)) ((R0 x590).bind fun (v599 : Int) => (R1 (IntKind.wrap .i64 (x565 - x590))).bind fun (v601 : Int) => some (Sum.inl ((IntKind.wrap .i64 (x589 + (IntKind.wrap .i64 (v599 * v601)))), (IntKind.wrap .i64 (x590 + 1))))) (some (Sum.inr x589))

def spec_l4Rows_n4 (R0 : Int → Option Int) (R1 : Int → Option Int) (x565 : Int) : Option (Int) :=
  nloop (fun (s : Int × Int) => ((spec_l4Rows_n3 R0 R1 x565 s.1 s.2).map (Sum.elim (fun (t : Int × Int) => Sum.inl (t.1, t.2)) (fun (t : Int) => Sum.inr t)) : Option ((Int × Int) ⊕ (Int)))) LL (0, 1)

def spec_l4Rows_n5 (R0 : Int → Option Int) (R1 : Int → Option Int) (x565 : Int) : Option (Int) :=
  (spec_l4Rows_n4 R0 R1 x565).map (fun (t : Int) => t)

def spec_l4Rows_n6 (R0 : Int → Option Int) (R1 : Int → Option Int) (x565 : Int) : Option (Int) :=
  (spec_l4Rows_n2 R0 R1).bind (fun (t : Unit) => spec_l4Rows_n5 R0 R1 x565)

def spec_l4Rows_n7 (R0 : Int → Option Int) (R1 : Int → Option Int) (x589 : Int) : Option (Int) :=
  some x589

def spec_l4Rows_n8 (R0 : Int → Option Int) (R1 : Int → Option Int) (x565 : Int) : Option (Int) :=
  (spec_l4Rows_n6 R0 R1 x565).bind (fun (t : Int) => spec_l4Rows_n7 R0 R1 t)

def spec_l4Rows_n9 (R0 : Int → Option Int) (R1 : Int → Option Int) (x565 : Int) : Option (Int) :=
  (spec_l4Rows_n1 R0 R1 x565).bind (Sum.elim (fun (t : Unit) => spec_l4Rows_n8 R0 R1 x565) (fun e => some ((fun (t : Int) => t) e)))

def spec_l4Rows_one (R0 : Int → Option Int) (R1 : Int → Option Int) (x565 : Int) : Option (Int) :=
  spec_l4Rows_n9 R0 R1 x565

def spec_l4Flat_knot : Nat → (Int → Option Int) × (Int → Option Int)
  | 0 => ((fun _ => none), (fun _ => none))
  | n + 1 => ((fun y0 => spec_l4Flat_one (spec_l4Flat_knot n).1 (spec_l4Flat_knot n).2 y0), (fun y0 => spec_l4Rows_one (spec_l4Flat_knot n).1 (spec_l4Flat_knot n).2 y0))

def spec_l4Flat_fuel (n : Nat) : Int → Option Int := (spec_l4Flat_knot n).1

@[irreducible] def spec_l4Flat (x517 : Int) : Option (Int) := spec_l4Flat_fuel RR x517

def spec_l4Rows_fuel (n : Nat) : Int → Option Int := (spec_l4Flat_knot n).2

@[irreducible] def spec_l4Rows (x565 : Int) : Option (Int) := spec_l4Rows_fuel RR x565

/-! loop.example/headtrees/spec.CountFlat -/

def spec_CountFlat_n1 (x504 : Int) : Option (Int) :=
  (spec_l1In x504 1 6).bind fun (v639 : Bool) => cond (!v639) (some (-1)) ((spec_l4Flat x504).bind fun (v641 : Int) => some v641)

@[irreducible] def spec_CountFlat (x504 : Int) : Option (Int) :=
  spec_CountFlat_n1 x504

/-! loop.example/headtrees/impl.oneRoot -/

def impl_oneRoot_n1 : Option (Unit) :=
  some ()

def impl_oneRoot_n2 (x661 : List Int) : Option (Int) :=
  some (((List.length x661 : Nat) : Int))

def impl_oneRoot_n3 (x661 : List Int) (x683 : Int) (x662 : Int) (x684 : Int) : Option ((Int × Int) ⊕ Bool ⊕ Int) :=
  cond (decide (x684 < x662)) ((idx x661 x684).bind fun (v695 : Int) => cond (decide (v695 < 0)) (some (Sum.inr (Sum.inl false))) (cond (decide (v695 > (((List.length x661 : Nat) : Int)))) (some (Sum.inr (Sum.inl false))) (cond (v695 == 0) (some (Sum.inl ((IntKind.wrap .i64 (x683 + 1)), (IntKind.wrap .i64 (x684 + 1))))) (some (Sum.inl (x683, (IntKind.wrap .i64 (x684 + 1)))))))) (some (Sum.inr (Sum.inr x683)))

def impl_oneRoot_n4 (x661 : List Int) (x662 : Int) : Option (Bool ⊕ Int) :=
  nloop (fun (s : Int × Int) => ((impl_oneRoot_n3 x661 s.1 x662 s.2).map (Sum.elim (fun (t : Int × Int) => Sum.inl (t.1, t.2)) (Sum.elim (fun (t : Bool) => Sum.inr (Sum.inl t)) (fun (t : Int) => Sum.inr (Sum.inr t)))) : Option ((Int × Int) ⊕ (Bool ⊕ Int)))) LL (0, 0)

def impl_oneRoot_n5 (x661 : List Int) (x662 : Int) : Option (Int ⊕ Bool) :=
  (impl_oneRoot_n4 x661 x662).map (Sum.elim (fun (t : Bool) => (Sum.inr t)) (fun (t : Int) => (Sum.inl t)))

def impl_oneRoot_n6 (x661 : List Int) : Option (Int ⊕ Bool) :=
  (impl_oneRoot_n2 x661).bind (fun (t : Int) => impl_oneRoot_n5 x661 t)

def impl_oneRoot_n7 (x683 : Int) : Option (Bool) :=
  some (x683 == 1)

def impl_oneRoot_n8 (x661 : List Int) : Option (Bool) :=
  (impl_oneRoot_n6 x661).bind (Sum.elim (fun (t : Int) => impl_oneRoot_n7 t) (fun e => some ((fun (t : Bool) => t) e)))

def impl_oneRoot_n9 (x661 : List Int) : Option (Bool) :=
  (impl_oneRoot_n1).bind (fun (t : Unit) => impl_oneRoot_n8 x661)

@[irreducible] def impl_oneRoot (x661 : List Int) : Option (Bool) :=
  impl_oneRoot_n9 x661

/-! (*loop.example/headtrees/impl.walker).up -/

def impl_walker_up_n1 (x717 : List Int) (x718 : Int) (x719 : Int) : Option ((Bool × Int × Int)) :=
  (idx x717 (IntKind.wrap .i64 (x718 - 1))).bind fun (v737 : Int) => cond (v737 == 0) (some (false, x718, x719)) (some (true, v737, (IntKind.wrap .i64 (x719 + 1))))

@[irreducible] def impl_walker_up (x717 : List Int) (x718 : Int) (x719 : Int) : Option (Bool × Int × Int) :=
  impl_walker_up_n1 x717 x718 x719

/-! loop.example/headtrees/impl.stepsToRoot -/

def impl_stepsToRoot_n1 : Option (Unit) :=
  some ()

def impl_stepsToRoot_n2 (x715 : List Int) (x753 : Int) (x754 : Int) : Option ((Int × Int) ⊕ (Int × Bool) ⊕ (Int × Int)) :=
  (impl_walker_up x715 x753 x754).bind fun (v759 : Bool × Int × Int) => cond (v759.1) (cond (decide ((v759.2.2) ≥ (((List.length x715 : Nat) : Int)))) (some (Sum.inr (Sum.inl (0, false)))) (some (Sum.inl ((v759.2.1), (v759.2.2))))) (some (Sum.inr (Sum.inr ((v759.2.1), (v759.2.2)))))

def impl_stepsToRoot_n3 (x715 : List Int) (x716 : Int) : Option ((Int × Bool) ⊕ (Int × Int)) :=
  nloop (fun (s : Int × Int) => ((impl_stepsToRoot_n2 x715 s.1 s.2).map (Sum.elim (fun (t : Int × Int) => Sum.inl (t.1, t.2)) (Sum.elim (fun (t : Int × Bool) => Sum.inr (Sum.inl t)) (fun (t : Int × Int) => Sum.inr (Sum.inr t)))) : Option ((Int × Int) ⊕ ((Int × Bool) ⊕ (Int × Int))))) LL (x716, 0)

def impl_stepsToRoot_n4 (x715 : List Int) (x716 : Int) : Option ((Int × Int) ⊕ (Int × Bool)) :=
  (impl_stepsToRoot_n3 x715 x716).map (Sum.elim (fun (t : Int × Bool) => (Sum.inr t)) (fun (t : Int × Int) => (Sum.inl (t.1, t.2))))

def impl_stepsToRoot_n5 (x762 : Int) : Option ((Int × Bool)) :=
  some (x762, true)

def impl_stepsToRoot_n6 (x715 : List Int) (x716 : Int) : Option ((Int × Bool)) :=
  (impl_stepsToRoot_n4 x715 x716).bind (Sum.elim (fun (t : Int × Int) => impl_stepsToRoot_n5 t.2) (fun e => some ((fun (t : Int × Bool) => t) e)))

def impl_stepsToRoot_n7 (x715 : List Int) (x716 : Int) : Option ((Int × Bool)) :=
  (impl_stepsToRoot_n1).bind (fun (t : Unit) => impl_stepsToRoot_n6 x715 x716)

@[irreducible] def impl_stepsToRoot (x715 : List Int) (x716 : Int) : Option (Int × Bool) :=
  impl_stepsToRoot_n7 x715 x716

/-! loop.example/headtrees/impl.TreeOk -/

def impl_TreeOk_n1 (x655 : List Int) : Option (Unit ⊕ Bool) :=
  cond (decide ((((List.length x655 : Nat) : Int)) < 1)) (some (Sum.inr false)) (cond (decide ((((List.length x655 : Nat) : Int)) > 8)) (some (Sum.inr false)) ((impl_oneRoot x655).bind fun (v708 : Bool) => cond (!v708) (some (Sum.inr false)) (some (Sum.inl ()))))

def impl_TreeOk_n2 (x655 : List Int) : Option (Int) :=
  some (((List.length x655 : Nat) : Int))

def impl_TreeOk_n3 (x655 : List Int) (x710 : Int) (x778 : Int) : Option (Int ⊕ Bool ⊕ Unit) :=
  cond (decide (x778 < x710)) ((impl_stepsToRoot x655 (IntKind.wrap .i64 (x778 + 1))).bind fun (v789 : Int × Bool) => cond (!(v789.2)) (some (Sum.inr (Sum.inl false))) (some (Sum.inl (IntKind.wrap .i64 (x778 + 1))))) (some (Sum.inr (Sum.inr ())))

def impl_TreeOk_n4 (x655 : List Int) (x710 : Int) : Option (Bool ⊕ Unit) :=
  nloop (fun (s : Int) => ((impl_TreeOk_n3 x655 x710 s).map (Sum.elim (fun (t : Int) => Sum.inl t) (Sum.elim (fun (t : Bool) => Sum.inr (Sum.inl t)) (fun (t : Unit) => Sum.inr (Sum.inr t)))) : Option ((Int) ⊕ (Bool ⊕ Unit)))) LL 0

def impl_TreeOk_n5 (x655 : List Int) (x710 : Int) : Option (Unit ⊕ Bool) :=
  (impl_TreeOk_n4 x655 x710).map (Sum.elim (fun (t : Bool) => (Sum.inr t)) (fun (t : Unit) => (Sum.inl ())))

def impl_TreeOk_n6 (x655 : List Int) : Option (Unit ⊕ Bool) :=
  (impl_TreeOk_n2 x655).bind (fun (t : Int) => impl_TreeOk_n5 x655 t)

def impl_TreeOk_n7 : Option (Bool) :=
  some true

def impl_TreeOk_n8 (x655 : List Int) : Option (Bool) :=
  (impl_TreeOk_n6 x655).bind (Sum.elim (fun (t : Unit) => impl_TreeOk_n7) (fun e => some ((fun (t : Bool) => t) e)))

def impl_TreeOk_n9 (x655 : List Int) : Option (Bool) :=
  (impl_TreeOk_n1 x655).bind (Sum.elim (fun (t : Unit) => impl_TreeOk_n8 x655) (fun e => some ((fun (t : Bool) => t) e)))

@[irreducible] def impl_TreeOk (x655 : List Int) : Option (Bool) :=
  impl_TreeOk_n9 x655

/-! loop.example/headtrees/laws.alive -/

def laws_alive_n1 : Option (Bool) :=
  (impl_TreeOk ([0])).bind fun (v800 : Bool) => cond v800 ((impl_TreeOk ([1])).bind fun (v802 : Bool) => some (!v802)) (some false)

@[irreducible] def laws_alive : Option (Bool) :=
  laws_alive_n1

/-! loop.example/headtrees/impl.CountTrees -/

def impl_CountTrees_n1 (x857 : Int) : Option (Unit ⊕ Int) :=
  cond (decide (x857 < 1)) (some (Sum.inr (-1))) (cond (decide (x857 > 8)) (some (Sum.inr (-1))) (some (Sum.inl ())))

def impl_CountTrees_n2 (x857 : Int) : Option (Int) :=
  some (IntKind.wrap .i64 (x857 - 1))

def impl_CountTrees_n3 (x857 : Int) (x870 : Int) (x862 : Int) (x871 : Int) : Option ((Int × Int) ⊕ Int) :=
  cond (decide (x871 < x862)) (some (Sum.inl ((IntKind.wrap .i64 (x870 * x857)), (IntKind.wrap .i64 (x871 + 1))))) (some (Sum.inr x870))

def impl_CountTrees_n4 (x857 : Int) (x862 : Int) : Option (Int) :=
  nloop (fun (s : Int × Int) => ((impl_CountTrees_n3 x857 s.1 x862 s.2).map (Sum.elim (fun (t : Int × Int) => Sum.inl (t.1, t.2)) (fun (t : Int) => Sum.inr t)) : Option ((Int × Int) ⊕ (Int)))) LL (1, 0)

def impl_CountTrees_n5 (x857 : Int) (x862 : Int) : Option (Int) :=
  (impl_CountTrees_n4 x857 x862).map (fun (t : Int) => t)

def impl_CountTrees_n6 (x857 : Int) : Option (Int) :=
  (impl_CountTrees_n2 x857).bind (fun (t : Int) => impl_CountTrees_n5 x857 t)

def impl_CountTrees_n7 (x870 : Int) : Option (Int) :=
  some x870

def impl_CountTrees_n8 (x857 : Int) : Option (Int) :=
  (impl_CountTrees_n6 x857).bind (fun (t : Int) => impl_CountTrees_n7 t)

def impl_CountTrees_n9 (x857 : Int) : Option (Int) :=
  (impl_CountTrees_n1 x857).bind (Sum.elim (fun (t : Unit) => impl_CountTrees_n8 x857) (fun e => some ((fun (t : Int) => t) e)))

@[irreducible] def impl_CountTrees (x857 : Int) : Option (Int) :=
  impl_CountTrees_n9 x857

/-! loop.example/headtrees/laws.FnCountFlat -/

def laws_FnCountFlat_n1 (x2 : List Int) : Option ((Int × Int) ⊕ Bool) :=
  cond (decide ((((List.length x2 : Nat) : Int)) > 1048576)) (some (Sum.inr true)) ((spec_DrawCountFlat x2).bind fun (v810 : Int) => (impl_CountFlat v810).bind fun (v811 : Int) => (spec_CountFlat v810).bind fun (v812 : Int) => cond (v811 != v812) (some (Sum.inr false)) (cond (decide (v811 < 0)) (cond (v811 == (-1)) (cond (decide (v810 < 1)) ((laws_alive).bind fun (v817 : Bool) => some (Sum.inr v817)) (cond (decide (v810 > 6)) ((laws_alive).bind fun (v819 : Bool) => some (Sum.inr v819)) (some (Sum.inr false)))) (some (Sum.inr false))) (some (Sum.inl (v810, v811)))))

def laws_FnCountFlat_n2 : Option (Unit) :=
  some ()

def laws_FnCountFlat_n3 (x810 : Int) (x837 : Int) (x838 : Int) : Option ((Int × Int) ⊕ Int) :=
  cond (decide (x838 < x810)) ((quo .i64 (IntKind.wrap .i64 (x837 * (IntKind.wrap .i64 ((IntKind.wrap .i64 ((IntKind.wrap .i64 (3 * x810)) - 2)) - (IntKind.wrap .i64 (x838 - 1)))))) x838).bind fun (v853 : Int) => some (Sum.inl (v853, (IntKind.wrap .i64 (x838 + 1))))) (some (Sum.inr x837))

def laws_FnCountFlat_n4 (x810 : Int) : Option (Int) :=
  nloop (fun (s : Int × Int) => ((laws_FnCountFlat_n3 x810 s.1 s.2).map (Sum.elim (fun (t : Int × Int) => Sum.inl (t.1, t.2)) (fun (t : Int) => Sum.inr t)) : Option ((Int × Int) ⊕ (Int)))) LL (1, 1)

def laws_FnCountFlat_n5 (x810 : Int) : Option (Int) :=
  (laws_FnCountFlat_n4 x810).map (fun (t : Int) => t)

def laws_FnCountFlat_n6 (x810 : Int) : Option (Int) :=
  (laws_FnCountFlat_n2).bind (fun (t : Unit) => laws_FnCountFlat_n5 x810)

def laws_FnCountFlat_n7 (x810 : Int) (x811 : Int) (x837 : Int) : Option (Bool) :=
  cond ((IntKind.wrap .i64 (x811 * x810)) == x837) ((impl_CountTrees x810).bind fun (v884 : Int) => some (decide (x811 ≤ v884))) (some false)

def laws_FnCountFlat_n8 (x810 : Int) (x811 : Int) : Option (Bool) :=
  (laws_FnCountFlat_n6 x810).bind (fun (t : Int) => laws_FnCountFlat_n7 x810 x811 t)

def laws_FnCountFlat_n9 (x2 : List Int) : Option (Bool) :=
  (laws_FnCountFlat_n1 x2).bind (Sum.elim (fun (t : Int × Int) => laws_FnCountFlat_n8 t.1 t.2) (fun e => some ((fun (t : Bool) => t) e)))

@[irreducible] def laws_FnCountFlat (x2 : List Int) : Option (Bool) :=
  laws_FnCountFlat_n9 x2

/-! loop.example/headtrees/spec.DrawCountRows -/

def spec_DrawCountRows_n1 (x893 : List Int) : Option (Int) :=
  (spec_l20Open x893).bind fun (v899 : List Int) => (spec_l20Rd_pick 9 v899 0).bind fun (v900 : Int × Int) => some (IntKind.wrap .i64 ((v900.1) - 1))

@[irreducible] def spec_DrawCountRows (x893 : List Int) : Option (Int) :=
  spec_DrawCountRows_n1 x893

/-! loop.example/headtrees/impl.CountRows -/

def impl_CountRows_n1 (x908 : Int) : Option (Int) :=
  cond (decide (x908 < 0)) (some (-1)) (cond (decide (x908 > 6)) (some (-1)) ((impl_countFlatParts).bind fun (v931 : Int × Int × Int × Int × Int × Int × Int × Int × Int × Int × Int × Int × Int × Int) => (idx [(v931.2.2.2.2.2.2.2.1), (v931.2.2.2.2.2.2.2.2.1), (v931.2.2.2.2.2.2.2.2.2.1), (v931.2.2.2.2.2.2.2.2.2.2.1), (v931.2.2.2.2.2.2.2.2.2.2.2.1), (v931.2.2.2.2.2.2.2.2.2.2.2.2.1), (v931.2.2.2.2.2.2.2.2.2.2.2.2.2)] x908).bind fun (v946 : Int) => some v946))

@[irreducible] def impl_CountRows (x908 : Int) : Option (Int) :=
  impl_CountRows_n1 x908

/-! loop.example/headtrees/spec.CountRows -/

def spec_CountRows_n1 (x953 : Int) : Option (Int) :=
  (spec_l1In x953 0 6).bind fun (v959 : Bool) => cond (!v959) (some (-1)) ((spec_l4Rows x953).bind fun (v961 : Int) => some v961)

@[irreducible] def spec_CountRows (x953 : Int) : Option (Int) :=
  spec_CountRows_n1 x953

/-! loop.example/headtrees/laws.FnCountRows -/

def laws_FnCountRows_n1 (x888 : List Int) : Option ((Int × Int) ⊕ Bool) :=
  cond (decide ((((List.length x888 : Nat) : Int)) > 1048576)) (some (Sum.inr true)) ((spec_DrawCountRows x888).bind fun (v979 : Int) => (impl_CountRows v979).bind fun (v980 : Int) => (spec_CountRows v979).bind fun (v981 : Int) => cond (v980 != v981) (some (Sum.inr false)) (cond (decide (v980 < 0)) (cond (v980 == (-1)) (cond (decide (v979 < 0)) ((laws_alive).bind fun (v986 : Bool) => some (Sum.inr v986)) (cond (decide (v979 > 6)) ((laws_alive).bind fun (v988 : Bool) => some (Sum.inr v988)) (some (Sum.inr false)))) (some (Sum.inr false))) (some (Sum.inl (v979, v980)))))

def laws_FnCountRows_n2 : Option (Unit) :=
  some ()

def laws_FnCountRows_n3 (x979 : Int) (x1003 : Int) (x1004 : Int) : Option ((Int × Int) ⊕ Int) :=
  cond (decide (x1004 ≤ x979)) ((impl_CountRows x1004).bind fun (v1013 : Int) => (impl_CountRows (IntKind.wrap .i64 (x979 - x1004))).bind fun (v1015 : Int) => some (Sum.inl ((IntKind.wrap .i64 (x1003 + (IntKind.wrap .i64 (v1013 * v1015)))), (IntKind.wrap .i64 (x1004 + 1))))) (some (Sum.inr x1003))

def laws_FnCountRows_n4 (x979 : Int) : Option (Int) :=
  nloop (fun (s : Int × Int) => ((laws_FnCountRows_n3 x979 s.1 s.2).map (Sum.elim (fun (t : Int × Int) => Sum.inl (t.1, t.2)) (fun (t : Int) => Sum.inr t)) : Option ((Int × Int) ⊕ (Int)))) LL (0, 0)

def laws_FnCountRows_n5 (x979 : Int) : Option (Int) :=
  (laws_FnCountRows_n4 x979).map (fun (t : Int) => t)

def laws_FnCountRows_n6 (x979 : Int) : Option (Int) :=
  (laws_FnCountRows_n2).bind (fun (t : Unit) => laws_FnCountRows_n5 x979)

def laws_FnCountRows_n7 (x979 : Int) (x980 : Int) (x1003 : Int) : Option (Bool) :=
  cond (decide (x979 > 5)) (some (decide (x980 ≥ 1))) ((impl_CountFlat (IntKind.wrap .i64 (x979 + 1))).bind fun (v1029 : Int) => cond (x1003 == v1029) (some (decide (x980 ≥ 1))) (some false))

def laws_FnCountRows_n8 (x979 : Int) (x980 : Int) : Option (Bool) :=
  (laws_FnCountRows_n6 x979).bind (fun (t : Int) => laws_FnCountRows_n7 x979 x980 t)

def laws_FnCountRows_n9 (x888 : List Int) : Option (Bool) :=
  (laws_FnCountRows_n1 x888).bind (Sum.elim (fun (t : Int × Int) => laws_FnCountRows_n8 t.1 t.2) (fun e => some ((fun (t : Bool) => t) e)))

@[irreducible] def laws_FnCountRows (x888 : List Int) : Option (Bool) :=
  laws_FnCountRows_n9 x888

/-! loop.example/headtrees/laws.FnExactCountFlat -/

def laws_FnExactCountFlat_n1 (x1034 : Int) : Option (Bool) :=
  (spec_CountFlat x1034).bind fun (v1044 : Int) => (impl_CountFlat x1034).bind fun (v1045 : Int) => cond (v1045 != v1044) (some false) (some true)

@[irreducible] def laws_FnExactCountFlat (x1034 : Int) : Option (Bool) :=
  laws_FnExactCountFlat_n1 x1034

/-! loop.example/headtrees/laws.FnExactCountRows -/

def laws_FnExactCountRows_n1 (x1049 : Int) : Option (Bool) :=
  (spec_CountRows x1049).bind fun (v1059 : Int) => (impl_CountRows x1049).bind fun (v1060 : Int) => cond (v1060 != v1059) (some false) (some true)

@[irreducible] def laws_FnExactCountRows (x1049 : Int) : Option (Bool) :=
  laws_FnExactCountRows_n1 x1049

/-! loop.example/headtrees/spec.l4Tree, loop.example/headtrees/spec.l4Row -/

def spec_l4Tree_n1 (R0 : Int → Int → Int → Int → (List Int) → Option ((List Int))) (R1 : Int → Int → Int → Int → (List Int) → Option ((List Int))) : Option (Unit) :=
  some ()

def spec_l4Tree_n2 (R0 : Int → Int → Int → Int → (List Int) → Option ((List Int))) (R1 : Int → Int → Int → Int → (List Int) → Option ((List Int))) (x1092 : Int) (x1093 : Int) (x1094 : Int) (x1494 : Int) (x1495 : Int) (x1096 : List Int) : Option ((Int × Int) ⊕ ((List Int)) ⊕ Unit) :=
  cond (decide (x1495 ≤ x1093)) ((spec_l4Rows (IntKind.wrap .i64 (x1093 - x1495))).bind fun (v1516 : Int) => (spec_l4Rows (IntKind.wrap .i64 (x1495 - x1092))).bind fun (v1518 : Int) => cond (decide (x1494 < (IntKind.wrap .i64 (v1518 * v1516)))) ((inb (IntKind.wrap .i64 (x1495 - 1)) (List.length x1096)).bind fun (v1522 : Nat) => (quo .i64 x1494 v1516).bind fun (v1525 : Int) => (R1 x1092 (IntKind.wrap .i64 (x1495 - 1)) x1495 v1525 (x1096.set v1522 x1094)).bind fun (v1526 : List Int) => (rem x1494 v1516).bind fun (v1528 : Int) => (R1 (IntKind.wrap .i64 (x1495 + 1)) x1093 x1495 v1528 v1526).bind fun (v1529 : List Int) => some (Sum.inr (Sum.inl v1529))) (some (Sum.inl ((IntKind.wrap .i64 (x1494 - (IntKind.wrap .i64 (v1518 * v1516)))), (IntKind.wrap .i64 (x1495 + 1)))))) (some (Sum.inr (Sum.inr ())))

def spec_l4Tree_n3 (R0 : Int → Int → Int → Int → (List Int) → Option ((List Int))) (R1 : Int → Int → Int → Int → (List Int) → Option ((List Int))) (x1092 : Int) (x1093 : Int) (x1094 : Int) (x1095 : Int) (x1096 : List Int) : Option (((List Int)) ⊕ Unit) :=
  nloop (fun (s : Int × Int) => ((spec_l4Tree_n2 R0 R1 x1092 x1093 x1094 s.1 s.2 x1096).map (Sum.elim (fun (t : Int × Int) => Sum.inl (t.1, t.2)) (Sum.elim (fun (t : (List Int)) => Sum.inr (Sum.inl t)) (fun (t : Unit) => Sum.inr (Sum.inr t)))) : Option ((Int × Int) ⊕ (((List Int)) ⊕ Unit)))) LL (x1095, x1092)

def spec_l4Tree_n4 (R0 : Int → Int → Int → Int → (List Int) → Option ((List Int))) (R1 : Int → Int → Int → Int → (List Int) → Option ((List Int))) (x1092 : Int) (x1093 : Int) (x1094 : Int) (x1095 : Int) (x1096 : List Int) : Option (Unit ⊕ ((List Int))) :=
  (spec_l4Tree_n3 R0 R1 x1092 x1093 x1094 x1095 x1096).map (Sum.elim (fun (t : (List Int)) => (Sum.inr t)) (fun (t : Unit) => (Sum.inl ())))

def spec_l4Tree_n5 (R0 : Int → Int → Int → Int → (List Int) → Option ((List Int))) (R1 : Int → Int → Int → Int → (List Int) → Option ((List Int))) (x1092 : Int) (x1093 : Int) (x1094 : Int) (x1095 : Int) (x1096 : List Int) : Option (Unit ⊕ ((List Int))) :=
  (spec_l4Tree_n1 R0 R1).bind (fun (t : Unit) => spec_l4Tree_n4 R0 R1 x1092 x1093 x1094 x1095 x1096)

def spec_l4Tree_one (R0 : Int → Int → Int → Int → (List Int) → Option ((List Int))) (R1 : Int → Int → Int → Int → (List Int) → Option ((List Int))) (x1092 : Int) (x1093 : Int) (x1094 : Int) (x1095 : Int) (x1096 : List Int) : Option ((List Int)) :=
  (spec_l4Tree_n5 R0 R1 x1092 x1093 x1094 x1095 x1096).map (Sum.elim (fun (t : Unit) => x1096) (fun (t : (List Int)) => t))

def spec_l4Row_n1 (R0 : Int → Int → Int → Int → (List Int) → Option ((List Int))) (R1 : Int → Int → Int → Int → (List Int) → Option ((List Int))) : Option (Unit) :=
  some ()

def spec_l4Row_n2 (R0 : Int → Int → Int → Int → (List Int) → Option ((List Int))) (R1 : Int → Int → Int → Int → (List Int) → Option ((List Int))) (x1282 : Int) (x1283 : Int) (x1284 : Int) (x1438 : Int) (x1439 : Int) (x1286 : List Int) : Option ((Int × Int) ⊕ ((List Int)) ⊕ Unit) :=
  cond (decide (x1439 ≤ x1283)) ((spec_l4Rows (IntKind.wrap .i64 (x1283 - x1439))).bind fun (v1457 : Int) => (spec_l4Flat (IntKind.wrap .i64 ((IntKind.wrap .i64 (x1439 - x1282)) + 1))).bind fun (v1460 : Int) => cond (decide (x1438 < (IntKind.wrap .i64 (v1460 * v1457)))) ((quo .i64 x1438 v1457).bind fun (v1463 : Int) => (R0 x1282 x1439 x1284 v1463 x1286).bind fun (v1464 : List Int) => (rem x1438 v1457).bind fun (v1466 : Int) => (R1 (IntKind.wrap .i64 (x1439 + 1)) x1283 x1284 v1466 v1464).bind fun (v1467 : List Int) => some (Sum.inr (Sum.inl v1467))) (some (Sum.inl ((IntKind.wrap .i64 (x1438 - (IntKind.wrap .i64 (v1460 * v1457)))), (IntKind.wrap .i64 (x1439 + 1)))))) (some (Sum.inr (Sum.inr ())))

def spec_l4Row_n3 (R0 : Int → Int → Int → Int → (List Int) → Option ((List Int))) (R1 : Int → Int → Int → Int → (List Int) → Option ((List Int))) (x1282 : Int) (x1283 : Int) (x1284 : Int) (x1285 : Int) (x1286 : List Int) : Option (((List Int)) ⊕ Unit) :=
  nloop (fun (s : Int × Int) => ((spec_l4Row_n2 R0 R1 x1282 x1283 x1284 s.1 s.2 x1286).map (Sum.elim (fun (t : Int × Int) => Sum.inl (t.1, t.2)) (Sum.elim (fun (t : (List Int)) => Sum.inr (Sum.inl t)) (fun (t : Unit) => Sum.inr (Sum.inr t)))) : Option ((Int × Int) ⊕ (((List Int)) ⊕ Unit)))) LL (x1285, x1282)

def spec_l4Row_n4 (R0 : Int → Int → Int → Int → (List Int) → Option ((List Int))) (R1 : Int → Int → Int → Int → (List Int) → Option ((List Int))) (x1282 : Int) (x1283 : Int) (x1284 : Int) (x1285 : Int) (x1286 : List Int) : Option (Unit ⊕ ((List Int))) :=
  (spec_l4Row_n3 R0 R1 x1282 x1283 x1284 x1285 x1286).map (Sum.elim (fun (t : (List Int)) => (Sum.inr t)) (fun (t : Unit) => (Sum.inl ())))

def spec_l4Row_n5 (R0 : Int → Int → Int → Int → (List Int) → Option ((List Int))) (R1 : Int → Int → Int → Int → (List Int) → Option ((List Int))) (x1282 : Int) (x1283 : Int) (x1284 : Int) (x1285 : Int) (x1286 : List Int) : Option (Unit ⊕ ((List Int))) :=
  (spec_l4Row_n1 R0 R1).bind (fun (t : Unit) => spec_l4Row_n4 R0 R1 x1282 x1283 x1284 x1285 x1286)

def spec_l4Row_one (R0 : Int → Int → Int → Int → (List Int) → Option ((List Int))) (R1 : Int → Int → Int → Int → (List Int) → Option ((List Int))) (x1282 : Int) (x1283 : Int) (x1284 : Int) (x1285 : Int) (x1286 : List Int) : Option ((List Int)) :=
  (spec_l4Row_n5 R0 R1 x1282 x1283 x1284 x1285 x1286).map (Sum.elim (fun (t : Unit) => x1286) (fun (t : (List Int)) => t))

def spec_l4Tree_knot : Nat → (Int → Int → Int → Int → (List Int) → Option ((List Int))) × (Int → Int → Int → Int → (List Int) → Option ((List Int)))
  | 0 => ((fun _ _ _ _ _ => none), (fun _ _ _ _ _ => none))
  | n + 1 => ((fun y0 y1 y2 y3 y4 => spec_l4Tree_one (spec_l4Tree_knot n).1 (spec_l4Tree_knot n).2 y0 y1 y2 y3 y4), (fun y0 y1 y2 y3 y4 => spec_l4Row_one (spec_l4Tree_knot n).1 (spec_l4Tree_knot n).2 y0 y1 y2 y3 y4))

def spec_l4Tree_fuel (n : Nat) : Int → Int → Int → Int → (List Int) → Option ((List Int)) := (spec_l4Tree_knot n).1

@[irreducible] def spec_l4Tree (x1092 : Int) (x1093 : Int) (x1094 : Int) (x1095 : Int) (x1096 : List Int) : Option ((List Int)) := spec_l4Tree_fuel RR x1092 x1093 x1094 x1095 x1096

def spec_l4Row_fuel (n : Nat) : Int → Int → Int → Int → (List Int) → Option ((List Int)) := (spec_l4Tree_knot n).2

@[irreducible] def spec_l4Row (x1282 : Int) (x1283 : Int) (x1284 : Int) (x1285 : Int) (x1286 : List Int) : Option ((List Int)) := spec_l4Row_fuel RR x1282 x1283 x1284 x1285 x1286

/-! loop.example/headtrees/spec.FlatAt -/

def spec_FlatAt_n1 (x1067 : Int) (x1068 : Int) : Option ((Bool × (List Int))) :=
  (spec_l1In x1067 1 6).bind fun (v1543 : Bool) => cond (!v1543) (some (false, ([] : List Int))) ((spec_l4Flat x1067).bind fun (v1545 : Int) => (spec_l1In x1068 0 (IntKind.wrap .i64 (v1545 - 1))).bind fun (v1547 : Bool) => cond (!v1547) (some (false, ([] : List Int))) ((mk x1067 x1067).bind fun (v1549 : Nat) => (spec_l4Tree 1 x1067 0 x1068 (List.replicate v1549 (0 : Int))).bind fun (v1551 : List Int) => some (true, v1551)))

@[irreducible] def spec_FlatAt (x1067 : Int) (x1068 : Int) : Option (Bool × (List Int)) :=
  spec_FlatAt_n1 x1067 x1068

/-! (loop.example/headtrees/impl.joins).partsOf -/

def impl_joins_partsOf_n1 : Option (Unit) :=
  some ()

def impl_joins_partsOf_n2 (x1625 : Int) (x1626 : Int) (x1634 : Int) (x1611 : Int) (x1612 : Int) (x1613 : Int) (x1614 : Int) (x1615 : Int) (x1616 : Int) (x1617 : Int) (x1618 : Int) (x1619 : Int) (x1620 : Int) (x1621 : Int) (x1622 : Int) (x1623 : Int) (x1624 : Int) : Option (Int ⊕ Int) :=
  (impl_joins_below x1611 x1612 x1613 x1614 x1615 x1616 x1617 x1618 x1619 x1620 x1621 x1622 x1623 x1624 x1625 (IntKind.wrap .i64 (x1634 + 1))).bind fun (v1639 : Int) => cond (decide (v1639 ≤ x1626)) (some (Sum.inl (IntKind.wrap .i64 (x1634 + 1)))) (some (Sum.inr x1634))

def impl_joins_partsOf_n3 (x1625 : Int) (x1626 : Int) (x1611 : Int) (x1612 : Int) (x1613 : Int) (x1614 : Int) (x1615 : Int) (x1616 : Int) (x1617 : Int) (x1618 : Int) (x1619 : Int) (x1620 : Int) (x1621 : Int) (x1622 : Int) (x1623 : Int) (x1624 : Int) : Option (Int) :=
  nloop (fun (s : Int) => ((impl_joins_partsOf_n2 x1625 x1626 s x1611 x1612 x1613 x1614 x1615 x1616 x1617 x1618 x1619 x1620 x1621 x1622 x1623 x1624).map (Sum.elim (fun (t : Int) => Sum.inl t) (fun (t : Int) => Sum.inr t)) : Option ((Int) ⊕ (Int)))) LL 0

def impl_joins_partsOf_n4 (x1625 : Int) (x1626 : Int) (x1611 : Int) (x1612 : Int) (x1613 : Int) (x1614 : Int) (x1615 : Int) (x1616 : Int) (x1617 : Int) (x1618 : Int) (x1619 : Int) (x1620 : Int) (x1621 : Int) (x1622 : Int) (x1623 : Int) (x1624 : Int) : Option (Int) :=
  (impl_joins_partsOf_n3 x1625 x1626 x1611 x1612 x1613 x1614 x1615 x1616 x1617 x1618 x1619 x1620 x1621 x1622 x1623 x1624).map (fun (t : Int) => t)

def impl_joins_partsOf_n5 (x1625 : Int) (x1626 : Int) (x1634 : Int) (x1611 : Int) (x1612 : Int) (x1613 : Int) (x1614 : Int) (x1615 : Int) (x1616 : Int) (x1617 : Int) (x1618 : Int) (x1619 : Int) (x1620 : Int) (x1621 : Int) (x1622 : Int) (x1623 : Int) (x1624 : Int) : Option ((Int × Int × Int × Int)) :=
  (impl_joins_below x1611 x1612 x1613 x1614 x1615 x1616 x1617 x1618 x1619 x1620 x1621 x1622 x1623 x1624 x1625 x1634).bind fun (v1657 : Int) => (inb (IntKind.wrap .i64 (x1625 - x1634)) 7).bind fun (v1660 : Nat) => ([x1618, x1619, x1620, x1621, x1622, x1623, x1624][v1660]?).bind fun (v1661 : Int) => (quo .i64 (IntKind.wrap .i64 (x1626 - v1657)) v1661).bind fun (v1662 : Int) => (rem (IntKind.wrap .i64 (x1626 - v1657)) v1661).bind fun (v1664 : Int) => some (x1634, v1662, (IntKind.wrap .i64 (x1625 - x1634)), v1664)

def impl_joins_partsOf_n6 (x1625 : Int) (x1626 : Int) (x1611 : Int) (x1612 : Int) (x1613 : Int) (x1614 : Int) (x1615 : Int) (x1616 : Int) (x1617 : Int) (x1618 : Int) (x1619 : Int) (x1620 : Int) (x1621 : Int) (x1622 : Int) (x1623 : Int) (x1624 : Int) : Option ((Int × Int × Int × Int)) :=
  (impl_joins_partsOf_n4 x1625 x1626 x1611 x1612 x1613 x1614 x1615 x1616 x1617 x1618 x1619 x1620 x1621 x1622 x1623 x1624).bind (fun (t : Int) => impl_joins_partsOf_n5 x1625 x1626 t x1611 x1612 x1613 x1614 x1615 x1616 x1617 x1618 x1619 x1620 x1621 x1622 x1623 x1624)

def impl_joins_partsOf_n7 (x1611 : Int) (x1612 : Int) (x1613 : Int) (x1614 : Int) (x1615 : Int) (x1616 : Int) (x1617 : Int) (x1618 : Int) (x1619 : Int) (x1620 : Int) (x1621 : Int) (x1622 : Int) (x1623 : Int) (x1624 : Int) (x1625 : Int) (x1626 : Int) : Option ((Int × Int × Int × Int)) :=
  (impl_joins_partsOf_n1).bind (fun (t : Unit) => impl_joins_partsOf_n6 x1625 x1626 x1611 x1612 x1613 x1614 x1615 x1616 x1617 x1618 x1619 x1620 x1621 x1622 x1623 x1624)

@[irreducible] def impl_joins_partsOf (x1611 : Int) (x1612 : Int) (x1613 : Int) (x1614 : Int) (x1615 : Int) (x1616 : Int) (x1617 : Int) (x1618 : Int) (x1619 : Int) (x1620 : Int) (x1621 : Int) (x1622 : Int) (x1623 : Int) (x1624 : Int) (x1625 : Int) (x1626 : Int) : Option (Int × Int × Int × Int) :=
  impl_joins_partsOf_n7 x1611 x1612 x1613 x1614 x1615 x1616 x1617 x1618 x1619 x1620 x1621 x1622 x1623 x1624 x1625 x1626

/-! (loop.example/headtrees/impl.flatCounts).tellTree, (loop.example/headtrees/impl.flatCounts).tellRow -/

def impl_flatCounts_tellTree_n1 (R0 : Int → Int → Int → Int → Int → Int → Int → Int → Int → Int → Int → Int → Int → Int → Int → Int → Int → Int → (List Int) → Option ((List Int))) (R1 : Int → Int → Int → Int → Int → Int → Int → Int → Int → Int → Int → Int → Int → Int → Int → Int → Int → Int → (List Int) → Option ((List Int))) (x1590 : Int) (x1591 : Int) (x1592 : Int) (x1593 : Int) (x1594 : Int) (x1595 : Int) (x1596 : Int) (x1597 : Int) (x1598 : Int) (x1599 : Int) (x1600 : Int) (x1601 : Int) (x1602 : Int) (x1603 : Int) (x1604 : Int) (x1605 : Int) (x1606 : Int) (x1607 : Int) (x1608 : List Int) : Option (((List Int))) :=
  (impl_flatCounts_aroundRoots x1590 x1591 x1592 x1593 x1594 x1595 x1596 x1597 x1598 x1599 x1600 x1601 x1602 x1603).bind fun (v1901 : Unit) => (impl_joins_partsOf x1597 x1598 x1599 x1600 x1601 x1602 x1603 x1597 x1598 x1599 x1600 x1601 x1602 x1603 (IntKind.wrap .i64 (x1605 - 1)) x1606).bind fun (v1902 : Int × Int × Int × Int) => (inb (IntKind.wrap .i64 ((IntKind.wrap .i64 (x1604 + (v1902.1))) - 1)) (List.length x1608)).bind fun (v1909 : Nat) => (R1 x1590 x1591 x1592 x1593 x1594 x1595 x1596 x1597 x1598 x1599 x1600 x1601 x1602 x1603 x1604 (v1902.1) (v1902.2.1) (IntKind.wrap .i64 (x1604 + (v1902.1))) (x1608.set v1909 x1607)).bind fun (v1911 : List Int) => (R1 x1590 x1591 x1592 x1593 x1594 x1595 x1596 x1597 x1598 x1599 x1600 x1601 x1602 x1603 (IntKind.wrap .i64 ((IntKind.wrap .i64 (x1604 + (v1902.1))) + 1)) (v1902.2.2.1) (v1902.2.2.2) (IntKind.wrap .i64 (x1604 + (v1902.1))) v1911).bind fun (v1913 : List Int) => some v1913

def impl_flatCounts_tellTree_one (R0 : Int → Int → Int → Int → Int → Int → Int → Int → Int → Int → Int → Int → Int → Int → Int → Int → Int → Int → (List Int) → Option ((List Int))) (R1 : Int → Int → Int → Int → Int → Int → Int → Int → Int → Int → Int → Int → Int → Int → Int → Int → Int → Int → (List Int) → Option ((List Int))) (x1590 : Int) (x1591 : Int) (x1592 : Int) (x1593 : Int) (x1594 : Int) (x1595 : Int) (x1596 : Int) (x1597 : Int) (x1598 : Int) (x1599 : Int) (x1600 : Int) (x1601 : Int) (x1602 : Int) (x1603 : Int) (x1604 : Int) (x1605 : Int) (x1606 : Int) (x1607 : Int) (x1608 : List Int) : Option ((List Int)) :=
  (impl_flatCounts_tellTree_n1 R0 R1 x1590 x1591 x1592 x1593 x1594 x1595 x1596 x1597 x1598 x1599 x1600 x1601 x1602 x1603 x1604 x1605 x1606 x1607 x1608).map (fun (t : (List Int)) => t)

def impl_flatCounts_tellRow_n1 (R0 : Int → Int → Int → Int → Int → Int → Int → Int → Int → Int → Int → Int → Int → Int → Int → Int → Int → Int → (List Int) → Option ((List Int))) (R1 : Int → Int → Int → Int → Int → Int → Int → Int → Int → Int → Int → Int → Int → Int → Int → Int → Int → Int → (List Int) → Option ((List Int))) (x1801 : Int) (x1802 : Int) (x1803 : Int) (x1804 : Int) (x1805 : Int) (x1806 : Int) (x1807 : Int) (x1808 : Int) (x1809 : Int) (x1810 : Int) (x1811 : Int) (x1812 : Int) (x1813 : Int) (x1814 : Int) (x1815 : Int) (x1816 : Int) (x1817 : Int) (x1818 : Int) (x1819 : List Int) : Option (((List Int)) ⊕ ((List Int))) :=
  cond (x1816 == 0) (some (Sum.inr x1819)) ((impl_flatCounts_inRows x1801 x1802 x1803 x1804 x1805 x1806 x1807 x1808 x1809 x1810 x1811 x1812 x1813 x1814).bind fun (v1889 : Unit) => (impl_joins_partsOf x1801 x1802 x1803 x1804 x1805 x1806 x1807 x1808 x1809 x1810 x1811 x1812 x1813 x1814 x1816 x1817).bind fun (v1890 : Int × Int × Int × Int) => (R0 x1801 x1802 x1803 x1804 x1805 x1806 x1807 x1808 x1809 x1810 x1811 x1812 x1813 x1814 x1815 (v1890.1) (v1890.2.1) x1818 x1819).bind fun (v1895 : List Int) => (R1 x1801 x1802 x1803 x1804 x1805 x1806 x1807 x1808 x1809 x1810 x1811 x1812 x1813 x1814 (IntKind.wrap .i64 (x1815 + (v1890.1))) (v1890.2.2.1) (v1890.2.2.2) x1818 v1895).bind fun (v1897 : List Int) => some (Sum.inl v1897))

def impl_flatCounts_tellRow_one (R0 : Int → Int → Int → Int → Int → Int → Int → Int → Int → Int → Int → Int → Int → Int → Int → Int → Int → Int → (List Int) → Option ((List Int))) (R1 : Int → Int → Int → Int → Int → Int → Int → Int → Int → Int → Int → Int → Int → Int → Int → Int → Int → Int → (List Int) → Option ((List Int))) (x1801 : Int) (x1802 : Int) (x1803 : Int) (x1804 : Int) (x1805 : Int) (x1806 : Int) (x1807 : Int) (x1808 : Int) (x1809 : Int) (x1810 : Int) (x1811 : Int) (x1812 : Int) (x1813 : Int) (x1814 : Int) (x1815 : Int) (x1816 : Int) (x1817 : Int) (x1818 : Int) (x1819 : List Int) : Option ((List Int)) :=
  (impl_flatCounts_tellRow_n1 R0 R1 x1801 x1802 x1803 x1804 x1805 x1806 x1807 x1808 x1809 x1810 x1811 x1812 x1813 x1814 x1815 x1816 x1817 x1818 x1819).map (Sum.elim (fun (t : (List Int)) => t) (fun (t : (List Int)) => t))

def impl_flatCounts_tellTree_knot : Nat → (Int → Int → Int → Int → Int → Int → Int → Int → Int → Int → Int → Int → Int → Int → Int → Int → Int → Int → (List Int) → Option ((List Int))) × (Int → Int → Int → Int → Int → Int → Int → Int → Int → Int → Int → Int → Int → Int → Int → Int → Int → Int → (List Int) → Option ((List Int)))
  | 0 => ((fun _ _ _ _ _ _ _ _ _ _ _ _ _ _ _ _ _ _ _ => none), (fun _ _ _ _ _ _ _ _ _ _ _ _ _ _ _ _ _ _ _ => none))
  | n + 1 => ((fun y0 y1 y2 y3 y4 y5 y6 y7 y8 y9 y10 y11 y12 y13 y14 y15 y16 y17 y18 => impl_flatCounts_tellTree_one (impl_flatCounts_tellTree_knot n).1 (impl_flatCounts_tellTree_knot n).2 y0 y1 y2 y3 y4 y5 y6 y7 y8 y9 y10 y11 y12 y13 y14 y15 y16 y17 y18), (fun y0 y1 y2 y3 y4 y5 y6 y7 y8 y9 y10 y11 y12 y13 y14 y15 y16 y17 y18 => impl_flatCounts_tellRow_one (impl_flatCounts_tellTree_knot n).1 (impl_flatCounts_tellTree_knot n).2 y0 y1 y2 y3 y4 y5 y6 y7 y8 y9 y10 y11 y12 y13 y14 y15 y16 y17 y18))

def impl_flatCounts_tellTree_fuel (n : Nat) : Int → Int → Int → Int → Int → Int → Int → Int → Int → Int → Int → Int → Int → Int → Int → Int → Int → Int → (List Int) → Option ((List Int)) := (impl_flatCounts_tellTree_knot n).1

@[irreducible] def impl_flatCounts_tellTree (x1590 : Int) (x1591 : Int) (x1592 : Int) (x1593 : Int) (x1594 : Int) (x1595 : Int) (x1596 : Int) (x1597 : Int) (x1598 : Int) (x1599 : Int) (x1600 : Int) (x1601 : Int) (x1602 : Int) (x1603 : Int) (x1604 : Int) (x1605 : Int) (x1606 : Int) (x1607 : Int) (x1608 : List Int) : Option ((List Int)) := impl_flatCounts_tellTree_fuel RR x1590 x1591 x1592 x1593 x1594 x1595 x1596 x1597 x1598 x1599 x1600 x1601 x1602 x1603 x1604 x1605 x1606 x1607 x1608

def impl_flatCounts_tellRow_fuel (n : Nat) : Int → Int → Int → Int → Int → Int → Int → Int → Int → Int → Int → Int → Int → Int → Int → Int → Int → Int → (List Int) → Option ((List Int)) := (impl_flatCounts_tellTree_knot n).2

@[irreducible] def impl_flatCounts_tellRow (x1801 : Int) (x1802 : Int) (x1803 : Int) (x1804 : Int) (x1805 : Int) (x1806 : Int) (x1807 : Int) (x1808 : Int) (x1809 : Int) (x1810 : Int) (x1811 : Int) (x1812 : Int) (x1813 : Int) (x1814 : Int) (x1815 : Int) (x1816 : Int) (x1817 : Int) (x1818 : Int) (x1819 : List Int) : Option ((List Int)) := impl_flatCounts_tellRow_fuel RR x1801 x1802 x1803 x1804 x1805 x1806 x1807 x1808 x1809 x1810 x1811 x1812 x1813 x1814 x1815 x1816 x1817 x1818 x1819

/-! loop.example/headtrees/impl.FlatAt -/

def impl_FlatAt_n1 (x1560 : Int) (x1561 : Int) : Option ((Bool × (List Int))) :=
  cond (decide (x1561 < 0)) (some (false, ([] : List Int))) ((impl_CountFlat x1560).bind fun (v1937 : Int) => cond (decide (x1561 ≥ v1937)) (some (false, ([] : List Int))) ((mk x1560 x1560).bind fun (v1939 : Nat) => (impl_countFlatParts).bind fun (v1941 : Int × Int × Int × Int × Int × Int × Int × Int × Int × Int × Int × Int × Int × Int) => (impl_flatCounts_tellTree (v1941.1) (v1941.2.1) (v1941.2.2.1) (v1941.2.2.2.1) (v1941.2.2.2.2.1) (v1941.2.2.2.2.2.1) (v1941.2.2.2.2.2.2.1) (v1941.2.2.2.2.2.2.2.1) (v1941.2.2.2.2.2.2.2.2.1) (v1941.2.2.2.2.2.2.2.2.2.1) (v1941.2.2.2.2.2.2.2.2.2.2.1) (v1941.2.2.2.2.2.2.2.2.2.2.2.1) (v1941.2.2.2.2.2.2.2.2.2.2.2.2.1) (v1941.2.2.2.2.2.2.2.2.2.2.2.2.2) 1 x1560 x1561 0 (List.replicate v1939 (0 : Int))).bind fun (v1956 : List Int) => some (true, v1956)))

@[irreducible] def impl_FlatAt (x1560 : Int) (x1561 : Int) : Option (Bool × (List Int)) :=
  impl_FlatAt_n1 x1560 x1561

/-! loop.example/headtrees/laws.eqIntS -/

def laws_eqIntS_n1 (x1968 : List Int) (x1969 : List Int) : Option (Unit ⊕ Bool) :=
  cond ((((List.length x1968 : Nat) : Int)) != (((List.length x1969 : Nat) : Int))) (some (Sum.inr false)) (some (Sum.inl ()))

def laws_eqIntS_n2 : Option (Unit) :=
  some ()

def laws_eqIntS_n3 (x1968 : List Int) (x1969 : List Int) (x1986 : Int) : Option (Int ⊕ Bool ⊕ Unit) :=
  cond (decide (x1986 < (((List.length x1968 : Nat) : Int)))) ((idx x1968 x1986).bind fun (v1996 : Int) => (idx x1969 x1986).bind fun (v1997 : Int) => cond (v1996 != v1997) (some (Sum.inr (Sum.inl false))) (some (Sum.inl (IntKind.wrap .i64 (x1986 + 1))))) (some (Sum.inr (Sum.inr ())))

def laws_eqIntS_n4 (x1968 : List Int) (x1969 : List Int) : Option (Bool ⊕ Unit) :=
  nloop (fun (s : Int) => ((laws_eqIntS_n3 x1968 x1969 s).map (Sum.elim (fun (t : Int) => Sum.inl t) (Sum.elim (fun (t : Bool) => Sum.inr (Sum.inl t)) (fun (t : Unit) => Sum.inr (Sum.inr t)))) : Option ((Int) ⊕ (Bool ⊕ Unit)))) LL 0

def laws_eqIntS_n5 (x1968 : List Int) (x1969 : List Int) : Option (Unit ⊕ Bool) :=
  (laws_eqIntS_n4 x1968 x1969).map (Sum.elim (fun (t : Bool) => (Sum.inr t)) (fun (t : Unit) => (Sum.inl ())))

def laws_eqIntS_n6 (x1968 : List Int) (x1969 : List Int) : Option (Unit ⊕ Bool) :=
  (laws_eqIntS_n2).bind (fun (t : Unit) => laws_eqIntS_n5 x1968 x1969)

def laws_eqIntS_n7 : Option (Bool) :=
  some true

def laws_eqIntS_n8 (x1968 : List Int) (x1969 : List Int) : Option (Bool) :=
  (laws_eqIntS_n6 x1968 x1969).bind (Sum.elim (fun (t : Unit) => laws_eqIntS_n7) (fun e => some ((fun (t : Bool) => t) e)))

def laws_eqIntS_n9 (x1968 : List Int) (x1969 : List Int) : Option (Bool) :=
  (laws_eqIntS_n1 x1968 x1969).bind (Sum.elim (fun (t : Unit) => laws_eqIntS_n8 x1968 x1969) (fun e => some ((fun (t : Bool) => t) e)))

@[irreducible] def laws_eqIntS (x1968 : List Int) (x1969 : List Int) : Option (Bool) :=
  laws_eqIntS_n9 x1968 x1969

/-! loop.example/headtrees/laws.markIntS -/

def laws_markIntS_n1 : Option (Unit) :=
  some ()

def laws_markIntS_n2 : Option (Unit) :=
  some ()

def laws_markIntS_n3 (x2037 : Int) (x2038 : Int) (x2039 : List Int) : Option ((Int × Int × (List Int)) ⊕ (Int × (List Int))) :=
  cond (decide (x2038 < (((List.length x2039 : Nat) : Int)))) ((inb x2038 (List.length x2039)).bind fun (v2049 : Nat) => some (Sum.inl ((IntKind.wrap .i64 (x2037 + 1)), (IntKind.wrap .i64 (x2038 + 1)), (x2039.set v2049 x2037)))) (some (Sum.inr (x2037, x2039)))

def laws_markIntS_n4 (x2022 : Int) (x2023 : List Int) : Option ((Int × (List Int))) :=
  nloop (fun (s : Int × Int × (List Int)) => ((laws_markIntS_n3 s.1 s.2.1 s.2.2).map (Sum.elim (fun (t : Int × Int × (List Int)) => Sum.inl (t.1, t.2.1, t.2.2)) (fun (t : Int × (List Int)) => Sum.inr t)) : Option ((Int × Int × (List Int)) ⊕ ((Int × (List Int)))))) LL (x2022, 0, x2023)

def laws_markIntS_n5 (x2022 : Int) (x2023 : List Int) : Option ((Int × (List Int))) :=
  (laws_markIntS_n4 x2022 x2023).map (fun (t : Int × (List Int)) => (t.1, t.2))

def laws_markIntS_n6 (x2022 : Int) (x2023 : List Int) : Option ((Int × (List Int))) :=
  (laws_markIntS_n2).bind (fun (t : Unit) => laws_markIntS_n5 x2022 x2023)

def laws_markIntS_n7 (x2037 : Int) (x2039 : List Int) : Option ((Int × (List Int))) :=
  some (x2037, x2039)

def laws_markIntS_n8 (x2022 : Int) (x2023 : List Int) : Option ((Int × (List Int))) :=
  (laws_markIntS_n6 x2022 x2023).bind (fun (t : Int × (List Int)) => laws_markIntS_n7 t.1 t.2)

def laws_markIntS_n9 (x2022 : Int) (x2023 : List Int) : Option ((Int × (List Int))) :=
  (laws_markIntS_n1).bind (fun (t : Unit) => laws_markIntS_n8 x2022 x2023)

@[irreducible] def laws_markIntS (x2022 : Int) (x2023 : List Int) : Option (Int × (List Int)) :=
  laws_markIntS_n9 x2022 x2023

/-! loop.example/headtrees/laws.heldIntS -/

def laws_heldIntS_n1 : Option (Unit) :=
  some ()

def laws_heldIntS_n2 : Option (Unit) :=
  some ()

def laws_heldIntS_n3 (x2080 : List Int) (x2095 : Int) (x2096 : Int) : Option ((Int × Int) ⊕ Int ⊕ Int) :=
  cond (decide (x2096 < (((List.length x2080 : Nat) : Int)))) ((idx x2080 x2096).bind fun (v2106 : Int) => cond (v2106 != x2095) (some (Sum.inr (Sum.inl (-1)))) (some (Sum.inl ((IntKind.wrap .i64 (x2095 + 1)), (IntKind.wrap .i64 (x2096 + 1)))))) (some (Sum.inr (Sum.inr x2095)))

def laws_heldIntS_n4 (x2080 : List Int) (x2081 : Int) : Option (Int ⊕ Int) :=
  nloop (fun (s : Int × Int) => ((laws_heldIntS_n3 x2080 s.1 s.2).map (Sum.elim (fun (t : Int × Int) => Sum.inl (t.1, t.2)) (Sum.elim (fun (t : Int) => Sum.inr (Sum.inl t)) (fun (t : Int) => Sum.inr (Sum.inr t)))) : Option ((Int × Int) ⊕ (Int ⊕ Int)))) LL (x2081, 0)

def laws_heldIntS_n5 (x2080 : List Int) (x2081 : Int) : Option (Int ⊕ Int) :=
  (laws_heldIntS_n4 x2080 x2081).map (Sum.elim (fun (t : Int) => (Sum.inr t)) (fun (t : Int) => (Sum.inl t)))

def laws_heldIntS_n6 (x2080 : List Int) (x2081 : Int) : Option (Int ⊕ Int) :=
  (laws_heldIntS_n2).bind (fun (t : Unit) => laws_heldIntS_n5 x2080 x2081)

def laws_heldIntS_n7 (x2095 : Int) : Option (Int) :=
  some x2095

def laws_heldIntS_n8 (x2080 : List Int) (x2081 : Int) : Option (Int) :=
  (laws_heldIntS_n6 x2080 x2081).bind (Sum.elim (fun (t : Int) => laws_heldIntS_n7 t) (fun e => some ((fun (t : Int) => t) e)))

def laws_heldIntS_n9 (x2080 : List Int) (x2081 : Int) : Option (Int) :=
  (laws_heldIntS_n1).bind (fun (t : Unit) => laws_heldIntS_n8 x2080 x2081)

@[irreducible] def laws_heldIntS (x2080 : List Int) (x2081 : Int) : Option (Int) :=
  laws_heldIntS_n9 x2080 x2081

/-! loop.example/headtrees/laws.FnExactFlatAt -/

def laws_FnExactFlatAt_n1 (x1065 : Int) (x1066 : Int) : Option (Bool) :=
  (spec_FlatAt x1065 x1066).bind fun (v2294 : Bool × (List Int)) => (impl_FlatAt x1065 x1066).bind fun (v2297 : Bool × (List Int)) => (laws_eqIntS (v2297.2) (v2294.2)).bind fun (v2300 : Bool) => cond (!v2300) (some false) (cond ((v2297.1) != (v2294.1)) (some false) ((laws_markIntS 1 (v2297.2)).bind fun (v2303 : Int × (List Int)) => (laws_heldIntS (v2303.2) 1).bind fun (v2306 : Int) => cond (decide (v2306 < 0)) (some false) (cond (v2306 != (v2303.1)) (some false) ((impl_FlatAt x1065 x1066).bind fun (v2309 : Bool × (List Int)) => (laws_eqIntS (v2309.2) (v2294.2)).bind fun (v2312 : Bool) => cond (!v2312) (some false) (cond ((v2309.1) != (v2294.1)) (some false) ((laws_heldIntS (v2303.2) 1).bind fun (v2315 : Int) => cond (decide (v2315 < 0)) (some false) (cond (v2315 != (v2303.1)) (some false) (some true))))))))

@[irreducible] def laws_FnExactFlatAt (x1065 : Int) (x1066 : Int) : Option (Bool) :=
  laws_FnExactFlatAt_n1 x1065 x1066

end Go.Rv
