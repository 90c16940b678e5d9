/-
  DERIVED: THE SHELF's CONTRACTS AT THIS DUMP, IN PLAIN WORDS (tools/lay-plain.mjs out of 'YtbgcbokddldmkaaDoorSh.lean', which tools/lay-shelf.mjs wrote): THE SAME DECLARATIONS UNDER THE SAME NAMES: 'import', 'namespace', 'open', 'def', 'theorem' AND NOTHING ELSE: no command of the shelf's: FOR A HAND-IN. Each laying: the table of numbers ('.._ren') and one theorem, a field a fact of the dump's own or the kernel's comparison; each contract: ONE APPLICATION.
-/
import Derived.Shelf.SlGeneric
import Derived.Shelf.SlSortCmp.NoneTotal
import Derived.Ground.SlsfProg
import Derived.Test.YtbgcbokddldmkaaDoorProg
namespace Go.Proofs
open Go.Shelf
def Tryd.sortC_ren : Go.Shelf.Ren := ⟨fun | 6 => 212 | 15 => 214 | 14 => 213 | 28 => 223 | 29 => 195 | 20 => 215 | 21 => 216 | 22 => 217 | 23 => 218 | 24 => 219 | 25 => 220 | 26 => 221 | 27 => 222 | 46 => 224 | 47 => 225 | 48 => 226 | 49 => 227 | 50 => 228 | 57 => 229 | n => n, fun | 22 => 59 | 24 => 102 | 25 => 135 | 3 => 3 | 39 => 193 | 0 => 0 | 53 => 205 | 55 => 184 | 4 => 4 | 46 => 233 | 45 => 232 | 50 => 47 | 5 => 5 | 9 => 9 | 66 => 238 | 70 => 242 | 76 => 244 | 77 => 245 | n => n, fun | n => n⟩
theorem Tryd.sortC : Go.Proofs.SlLaysF0.n6 Tryd.prog Tryd.sortC_ren := {
  mixed := by kernel_rfl
  f6 := ⟨Tryd.f212.name, by decide, Tryd.func212.trans (congrArg some (by kernel_rfl))⟩
  f14 := ⟨Tryd.f213.name, by decide, Tryd.func213.trans (congrArg some (by kernel_rfl))⟩
  f15 := Tryd.func214.trans (congrArg some (by kernel_rfl))
  f20 := ⟨Tryd.f215.name, by decide, Tryd.func215.trans (congrArg some (by kernel_rfl))⟩
  f21 := ⟨Tryd.f216.name, by decide, Tryd.func216.trans (congrArg some (by kernel_rfl))⟩
  f22 := ⟨Tryd.f217.name, by decide, Tryd.func217.trans (congrArg some (by kernel_rfl))⟩
  f23 := ⟨Tryd.f218.name, by decide, Tryd.func218.trans (congrArg some (by kernel_rfl))⟩
  f24 := ⟨Tryd.f219.name, by decide, Tryd.func219.trans (congrArg some (by kernel_rfl))⟩
  f25 := ⟨Tryd.f220.name, by decide, Tryd.func220.trans (congrArg some (by kernel_rfl))⟩
  f26 := ⟨Tryd.f221.name, by decide, Tryd.func221.trans (congrArg some (by kernel_rfl))⟩
  f27 := ⟨Tryd.f222.name, by decide, Tryd.func222.trans (congrArg some (by kernel_rfl))⟩
  f28 := Tryd.func223.trans (congrArg some (by kernel_rfl))
  f29 := Tryd.func195.trans (congrArg some (by kernel_rfl))
  f46 := ⟨Tryd.f224.name, by decide, Tryd.func224.trans (congrArg some (by kernel_rfl))⟩
  f47 := Tryd.func225.trans (congrArg some (by kernel_rfl))
  f48 := Tryd.func226.trans (congrArg some (by kernel_rfl))
  f49 := ⟨Tryd.f227.name, by decide, Tryd.func227.trans (congrArg some (by kernel_rfl))⟩
  f50 := ⟨Tryd.f228.name, by decide, Tryd.func228.trans (congrArg some (by kernel_rfl))⟩
  f57 := ⟨Tryd.f229.name, by decide, Tryd.func229.trans (congrArg some (by kernel_rfl))⟩
  t0 := Tryd.underlying0
  a0 := Tryd.isAgg0
  z0 := Tryd.sizeOf0
  v0 := Tryd.zeroValue0
  t3 := Tryd.underlying3
  a3 := Tryd.isAgg3
  z3 := Tryd.sizeOf3
  v3 := Tryd.zeroValue3
  t4 := Tryd.underlying4
  a4 := Tryd.isAgg4
  z4 := Tryd.sizeOf4
  v4 := Tryd.zeroValue4
  t5 := Tryd.underlying5
  a5 := Tryd.isAgg5
  z5 := Tryd.sizeOf5
  v5 := Tryd.zeroValue5
  t9 := Tryd.underlying9
  a9 := Tryd.isAgg9
  z9 := Tryd.sizeOf9
  v9 := Tryd.zeroValue9
  t22 := Tryd.underlying59
  a22 := Tryd.isAgg59
  z22 := Tryd.sizeOf59
  v22 := Tryd.zeroValue59
  t25 := Tryd.underlying135
  a25 := Tryd.isAgg135
  z25 := Tryd.sizeOf135
  v25 := Tryd.zeroValue135
  t39 := Tryd.underlying193
  a39 := Tryd.isAgg193
  z39 := Tryd.sizeOf193
  v39 := Tryd.zeroValue193
  t45 := Tryd.underlying232
  a45 := Tryd.isAgg232
  z45 := Tryd.sizeOf232
  v45 := Tryd.zeroValue232
  t46 := Tryd.underlying233
  a46 := Tryd.isAgg233
  z46 := Tryd.sizeOf233
  v46 := Tryd.zeroValue233
  t50 := Tryd.underlying47
  a50 := Tryd.isAgg47
  z50 := Tryd.sizeOf47
  v50 := Tryd.zeroValue47
  t53 := Tryd.underlying205
  a53 := Tryd.isAgg205
  z53 := Tryd.sizeOf205
  v53 := Tryd.zeroValue205
  t55 := Tryd.underlying184
  a55 := Tryd.isAgg184
  z55 := Tryd.sizeOf184
  v55 := Tryd.zeroValue184
  t66 := Tryd.underlying238
  a66 := Tryd.isAgg238
  z66 := Tryd.sizeOf238
  v66 := Tryd.zeroValue238
  t70 := Tryd.underlying242
  a70 := Tryd.isAgg242
  z70 := Tryd.sizeOf242
  v70 := Tryd.zeroValue242
  t76 := Tryd.underlying244
  a76 := Tryd.isAgg244
  z76 := Tryd.sizeOf244
  v76 := Tryd.zeroValue244
  t77 := Tryd.underlying245
  a77 := Tryd.isAgg245
  z77 := Tryd.sizeOf245
  v77 := Tryd.zeroValue245 }
end Go.Proofs
