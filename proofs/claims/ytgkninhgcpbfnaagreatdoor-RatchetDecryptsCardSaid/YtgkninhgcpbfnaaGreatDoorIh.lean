/-
  Of no statement by itself: the texts RatX, FraR in one.
  Conditions: each theorem's own.
-/
import Derived.Test.YtgkninhgcpbfnaaGreatDoorIg
import Derived.Test.YtgkninhgcpbfnaaGreatDoorTie
import Derived.SevenTiedAt
import Derived.LaidMore
import Derived.Lay
import Derived.ProofKit
import Derived.Lib.LaidTab
set_option linter.unusedSimpArgs false
set_option linter.unusedVariables false
namespace Go.Proofs.YtgkninhgcpbfnaaGreatDoor
section
set_option maxRecDepth 10000
open Go.ChangeShapes Go.WideShapes Go.ChangeAt Go.RowKit
open Sl n5
set_option linter.unusedVariables false
theorem pM {l : List Value} {x : List Value} {a b : Nat} (c : Nat) (hc : a+b=c) (h : (l.drop a).take b=x) : l.drop a=x++l.drop c:=by
  subst hc
  rw [← h,← List.drop_drop,List.take_append_drop]
theorem Hy {H : Type} {enc : TypeId × Value→H} {W : World} {fuel : Nat} {v : Value} {x : DataW H × List MemPlace} (h : DataW.trod enc Tryz.prog W 0 (fun _=>true) true fuel 24 [v]=some x) :
    ∃ k : gO,v=k.v∧k.ok W:=by
  obtain ⟨ad,cap,l,e,h1,h2,h3⟩:=C5 (k:=65) (e:=57) CR qL.ok eu (by decide) (by kernel_rfl) (by kernel_rfl) (fun c h=>Bq h)
    (fun l fuel x hl hx=>by
      obtain ⟨n,g⟩:=Bz (nf:=3) (by kernel_rfl) (by kernel_rfl) hx
      have c0 : Tryz.prog.cellsOf 3=1:=by kernel_rfl
      have c1 : Tryz.prog.cellsOf 23=32:=by kernel_rfl
      have hi : Tryz.prog.underlying 3=some (.int .i64):=by kernel_rfl
      have hk : Tryz.prog.underlying 23=some (.array 32 5):=by kernel_rfl
      obtain ⟨y0,g0⟩:=g (i:=0) (ty:=23) (off:=0) (by kernel_rfl) (by decide)
      obtain ⟨y1,g1⟩:=g (i:=1) (ty:=3) (off:=32) (by kernel_rfl) (by decide)
      obtain ⟨y2,g2⟩:=g (i:=2) (ty:=23) (off:=33) (by kernel_rfl) (by decide)
      rw [c1] at g0 g2
      rw [c0] at g1
      obtain ⟨r0,q0,l0⟩:=jl hk (by rw [List.length_take,List.length_drop];omega) g0
      obtain ⟨z1,q1,_,_⟩:=DataW.trod_int hi g1
      obtain ⟨r2,q2,l2⟩:=jl hk (by rw [List.length_take,List.length_drop];omega) g2
      refine ⟨⟨r0,z1,r2⟩,?_,l0,l2⟩
      have e : l.drop 0=CR ⟨r0,z1,r2⟩:=by
        rw [pM 32 rfl q0,pM 33 rfl q1,pM 65 rfl q2,List.drop_of_length_le (by omega : l.length≤65),List.append_nil]
        rfl
      exact e) h
  exact ⟨⟨ad,cap,l⟩,e,⟨h1,h2,h3⟩⟩
theorem Hz {H : Type} {enc : TypeId × Value→H} {W : World} {base fuel : Nat} {v : Value} {x : DataW H × List MemPlace} (hok : Value.okWide Tryz.prog W .any base 26 v) (h : DataW.trod enc Tryz.prog W 0 (fun _=>true) true fuel 26 v.cells.toList=some x) :
    ∃ k : J4,v=k.v∧k.ok W:=by
  have ht : Tryz.prog.underlying 26=some (.struct (Tryz.prog.fieldsOf 26)):=by kernel_rfl
  have ct : Tryz.prog.cellsOf 26=166:=by kernel_rfl
  obtain ⟨n,g⟩:=Bz (nf:=11) ht (by kernel_rfl) h
  simp only [Value.okWide,ht] at hok
  obtain ⟨c,rfl,hcz,_⟩:=hok
  rw [ct] at hcz
  obtain ⟨l⟩:=c
  have hl : l.length=166:=by simpa using hcz
  clear hcz
  have c0 : Tryz.prog.cellsOf 3=1:=by kernel_rfl
  have c1 : Tryz.prog.cellsOf 23=32:=by kernel_rfl
  have c2 : Tryz.prog.cellsOf 4=1:=by kernel_rfl
  have c3 : Tryz.prog.cellsOf 24=1:=by kernel_rfl
  have hi : Tryz.prog.underlying 3=some (.int .i64):=by kernel_rfl
  have hb : Tryz.prog.underlying 4=some .bool:=by kernel_rfl
  have hk : Tryz.prog.underlying 23=some (.array 32 5):=by kernel_rfl
  obtain ⟨y0,g0⟩:=g (i:=0) (ty:=23) (off:=0) (by kernel_rfl) (by decide)
  obtain ⟨y1,g1⟩:=g (i:=1) (ty:=23) (off:=32) (by kernel_rfl) (by decide)
  obtain ⟨y2,g2⟩:=g (i:=2) (ty:=23) (off:=64) (by kernel_rfl) (by decide)
  obtain ⟨y3,g3⟩:=g (i:=3) (ty:=4) (off:=96) (by kernel_rfl) (by decide)
  obtain ⟨y4,g4⟩:=g (i:=4) (ty:=4) (off:=97) (by kernel_rfl) (by decide)
  obtain ⟨y5,g5⟩:=g (i:=5) (ty:=23) (off:=98) (by kernel_rfl) (by decide)
  obtain ⟨y6,g6⟩:=g (i:=6) (ty:=23) (off:=130) (by kernel_rfl) (by decide)
  obtain ⟨y7,g7⟩:=g (i:=7) (ty:=3) (off:=162) (by kernel_rfl) (by decide)
  obtain ⟨y8,g8⟩:=g (i:=8) (ty:=3) (off:=163) (by kernel_rfl) (by decide)
  obtain ⟨y9,g9⟩:=g (i:=9) (ty:=3) (off:=164) (by kernel_rfl) (by decide)
  obtain ⟨y10,g10⟩:=g (i:=10) (ty:=24) (off:=165) (by kernel_rfl) (by decide)
  rw [show (Value.agg ⟨l⟩).cells.toList=l from rfl] at g0 g1 g2 g3 g4 g5 g6 g7 g8 g9 g10
  rw [c1] at g0 g1 g2 g5 g6
  rw [c2] at g3 g4
  rw [c0] at g7 g8 g9
  rw [c3] at g10
  obtain ⟨r0,q0,l0⟩:=jl hk (by rw [List.length_take,List.length_drop];omega) g0
  obtain ⟨r1,q1,l1⟩:=jl hk (by rw [List.length_take,List.length_drop];omega) g1
  obtain ⟨r2,q2,l2⟩:=jl hk (by rw [List.length_take,List.length_drop];omega) g2
  obtain ⟨r5,q5,l5⟩:=jl hk (by rw [List.length_take,List.length_drop];omega) g5
  obtain ⟨r6,q6,l6⟩:=jl hk (by rw [List.length_take,List.length_drop];omega) g6
  obtain ⟨z3,q3,_⟩:=DataW.trod_bool hb g3
  obtain ⟨z4,q4,_⟩:=DataW.trod_bool hb g4
  obtain ⟨z7,q7,_,_⟩:=DataW.trod_int hi g7
  obtain ⟨z8,q8,_,_⟩:=DataW.trod_int hi g8
  obtain ⟨z9,q9,_,_⟩:=DataW.trod_int hi g9
  obtain ⟨v,q10,_⟩:=J9 (off:=165) (by omega : 165<l.length)
  rw [q10] at g10
  obtain ⟨k,rfl,ok⟩:=Hy g10
  refine ⟨⟨⟨r0,r1,r2,z3,z4,r5,r6,z7,z8,z9,k.l⟩,k⟩,?_,⟨⟨l0,l1,l2,l5,l6,ok.all⟩,rfl,ok⟩⟩
  have e : l.drop 0=iQ ⟨r0,r1,r2,z3,z4,r5,r6,z7,z8,z9,k.l⟩ k.v:=by
    rw [pM 32 rfl q0,pM 64 rfl q1,pM 96 rfl q2,pM 97 rfl q3,pM 98 rfl q4,pM 130 rfl q5,pM 162 rfl q6,pM 163 rfl q7,pM 164 rfl q8,pM 165 rfl q9,pM 166 rfl q10,List.drop_of_length_le (by omega : l.length≤166)]
    rfl
  show Value.agg ⟨l⟩=.agg ⟨_⟩
  rw [← e]
  rfl
end
section
open Go.ChangeShapes Go.WideShapes Go.ChangeAt Go.RowKit
open Sl iB mO
set_option linter.unusedVariables false
set_option maxRecDepth 100000
theorem lu {P : Program} {w : World} {n : String} {d : DataW Unit} : ∀ {L : List (String × DataW Unit)} {ps : List MemPlace},DataW.LaidVars P w L ps→(n,d) ∈ L→
    ∃ g t cs fuel p,P.globalNamed n=some g∧(P.globals[g]?).map (·.type)=some t∧w.var? P n=some cs∧DataW.trod (fun _=>()) P w 0 (fun _=>true) false fuel t cs.toList=some (d,p)
  | [],_,_,h=>by cases h
  | (n',d')::L,ps,⟨g,t,cs,fuel,p,q,h1,h2,h3,h4,h5,_⟩,h=>by
    rcases List.mem_cons.1 h with h | h
    · cases h
      exact ⟨g,t,cs,fuel,p,h1,h2,h3,h4⟩
    · exact lu h5 h
theorem wm {α : Type} {a b : List α} (n : Nat) (hl : a.length=n * 4) (hb : b.length=n * 4) (h : ∀ i<n,(a.drop (i * 4)).take 4=(b.drop (i * 4)).take 4) : a=b:=by
  apply List.ext_getElem?
  intro j
  by_cases hj : j<n * 4
  · have h1:=congrArg (·[j % 4]?) (h (j / 4) (by omega))
    simp only [List.getElem?_take,List.getElem?_drop,Nat.mod_lt j (by decide : 0<4),if_true] at h1
    rwa [show j / 4 * 4+j % 4=j by omega] at h1
  · rw [List.getElem?_eq_none (by omega),List.getElem?_eq_none (by omega)]
def mJ (i : Nat) : DataW Unit:=Lib.tabData .i64 ((o4 i).map fun x : Nat=>(x : Int))
def Ka : DataW Unit:=.agg [mJ 0,mJ 1,mJ 2,mJ 3,mJ 4,mJ 5,mJ 6,mJ 7]
theorem LO {W : World} {ps : List MemPlace} {L : List (String × DataW Unit)} (h : DataW.LaidVars Tryz.prog W L ps) (hm : ("despatch/stream.quarters",Ka) ∈ L) : GQ W:=by
  obtain ⟨g,t,cs,fuel,p,h1,h2,h3,h4⟩:=lu h hm
  have hg : Tryz.prog.globalNamed "despatch/stream.quarters" = some 0:=by kernel_rfl
  obtain rfl:=Option.some.inj (hg.symm.trans h1)
  obtain rfl:=Option.some.inj ((show (Tryz.prog.globals[0]?).map (·.type)=some 161 by kernel_rfl).symm.trans h2)
  obtain ⟨xs,m,_,ex,hlen,hl,hel⟩:=DataW.trod_array (show Tryz.prog.underlying 161=some (.array 8 160) by kernel_rfl) h4
  have c4 : Tryz.prog.cellsOf 160=4:=by kernel_rfl
  have c32 : Tryz.prog.cellsOf 161=32:=by kernel_rfl
  rw [c32] at hlen
  have hxs : xs.map (·.1)=[mJ 0,mJ 1,mJ 2,mJ 3,mJ 4,mJ 5,mJ 6,mJ 7]:=by
    have:=congrArg Prod.fst ex
    simpa [Ka] using this.symm
  have hcs : cs.toList=qH.map N:=by
    refine wm 8 hlen rfl fun i hi=>?_
    have h5:=hel i hi
    rw [c4] at h5
    have h6 : (xs.map (·.1))[i]?=some (mJ i):=by
      rw [hxs]
      have : i=0∨i=1∨i=2∨i=3∨i=4∨i=5∨i=6∨i=7:=by omega
      rcases this with rfl | rfl | rfl | rfl | rfl | rfl | rfl | rfl <;> rfl
    rw [List.getElem?_map] at h6
    obtain ⟨y,hy,hy1⟩:=Option.map_eq_some_iff.1 h6
    rw [hy] at h5
    obtain ⟨y1,y2⟩:=y
    subst hy1
    have h7:=Lib.cells_of_tab (show Tryz.prog.underlying 160=some (.array 4 3) by kernel_rfl) (show Tryz.prog.underlying 3=some (.int .i64) by kernel_rfl) (by kernel_rfl) c4 h5
    rw [h7,HU i hi,List.map_map]
    rfl
  unfold World.var? at h3
  rw [hg] at h3
  simp only [Option.bind_some] at h3
  split at h3
  · rename_i cs' e fr hb
    obtain rfl:=Option.some.inj h3
    refine ⟨e,fr,?_⟩
    rw [hb,← hcs]
  · cases h3
theorem Kb {W : World} {ps : List MemPlace} {L : List (String × DataW Unit)} (h : DataW.LaidVars Tryz.prog W L ps) (hm : ("despatch/hash.rounds",Lib.tabData .u32 (K.map fun x=>(x.toNat : Int))) ∈ L) : iE W:=by
  obtain ⟨g,t,cs,fuel,p,h1,h2,h3,h4⟩:=lu h hm
  have hg : Tryz.prog.globalNamed "despatch/hash.rounds" = some 1:=by kernel_rfl
  obtain rfl:=Option.some.inj (hg.symm.trans h1)
  obtain rfl:=Option.some.inj ((show (Tryz.prog.globals[1]?).map (·.type)=some 134 by kernel_rfl).symm.trans h2)
  have hcs:=Lib.cells_of_tab (show Tryz.prog.underlying 134=some (.array 64 95) by kernel_rfl) (show Tryz.prog.underlying 95=some (.int .u32) by kernel_rfl) (by kernel_rfl) (by kernel_rfl) h4
  unfold World.var? at h3
  rw [hg] at h3
  simp only [Option.bind_some] at h3
  split at h3
  · rename_i cs' e fr hb
    obtain rfl:=Option.some.inj h3
    refine ⟨e,fr,?_⟩
    rw [hb]
    have : cs'=(cs'.toList).toArray:=by simp
    rw [this,hcs,List.map_map]
    rfl
  · cases h3
theorem tg : ((Rows.ratchetDecryptsRow.laid).all fun x=>x.2.handleName?.isNone)=true:=by kernel_rfl
theorem HA : Rows.ratchetDecryptsRow.laid=[("despatch/hash.rounds",Lib.tabData .u32 (K.map fun x=>(x.toNat : Int))),("despatch/stream.quarters",Ka)]:=by kernel_rfl
theorem pN {W : World} (h : laidMetH Tryz.prog Rows.ratchetDecryptsRow.laid W) : iE W∧GQ W:=by
  rw [MakeChecks.laidMetH_plain _ _ _ tg,HA] at h
  obtain ⟨ps,h,_⟩:=h
  exact ⟨Kb h (by simp),LO h (by simp)⟩
theorem HB (os : Os) (args : Array Value) : laidMetH Tryz.prog Rows.ratchetDecryptsRow.laid ((World.laidAll Tryz.prog os Rows.ratchetDecryptsRow.laid).forCall (fun _ _=>0) ⟨#[],args,[]⟩).memory:=by
  rw [MakeChecks.laidMetH_plain _ _ _ tg]
  exact laidMet_laidAll _ (by kernel_rfl) (by kernel_rfl)
theorem C6 (os : Os) : (World.laidAll Tryz.prog os Rows.ratchetDecryptsRow.laid).Shaped Tryz.prog:=World.shaped_of_ZipB (by kernel_rfl) (by kernel_rfl)
end
end Go.Proofs.YtgkninhgcpbfnaaGreatDoor
