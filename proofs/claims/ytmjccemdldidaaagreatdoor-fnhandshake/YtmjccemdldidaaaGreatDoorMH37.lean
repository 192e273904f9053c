import Derived.Test.YtmjccemdldidaaaGreatDoorMH13
namespace Go.Proofs.YtmjccemdldidaaaGreatDoor
open Go.RowKit
open Go.Proofs.Tryz
set_option linter.unusedVariables false
def A6:List LI:=[[0,4,8,12],[1,5,9,13],[2,6,10,14],[3,7,11,15],[0,5,10,15],[1,6,11,12],[2,7,8,13],[3,4,9,14]]
def tW:List LI:=[[0,1,2,3,4,5,6,7,8,9,10,11,12,13,14,15],[14,10,4,8,9,15,13,6,1,12,0,2,11,7,5,3],[11,8,12,0,5,2,15,13,10,14,3,6,7,1,9,4],[7,9,3,1,13,12,11,14,2,6,5,10,4,0,15,8],[9,0,5,7,2,4,10,15,14,1,11,12,6,8,3,13],[2,12,6,10,0,11,8,3,4,13,7,5,15,14,1,9],[12,5,1,15,14,13,4,10,0,7,6,3,9,2,8,11],[13,11,7,14,12,1,3,9,5,0,15,4,8,6,2,10],[6,15,14,9,11,3,0,8,12,2,13,7,1,4,10,5],[10,2,8,4,7,6,1,5,15,11,9,14,3,12,13,0]]
theorem af8:prog.globalNamed "loop.example/s02974/impl.mixPlaces" =some 2:=by kernel_rfl
theorem ZF:(prog.globals[2]?).map (·.type)=some 213:=by kernel_rfl
theorem ajB:prog.globalNamed "loop.example/s02974/impl.blakeStart" =some 1:=by kernel_rfl
theorem acB:(prog.globals[1]?).map (·.type)=some 154:=by kernel_rfl
theorem af9:prog.globalNamed "loop.example/s02974/impl.blakeOrder" =some 3:=by kernel_rfl
theorem ZG:(prog.globals[3]?).map (·.type)=some 214:=by kernel_rfl
theorem aeE:prog.cellsOf 212=4:=by kernel_rfl
theorem ab0:prog.cellsOf 35=16:=by kernel_rfl
theorem WO:prog.cellsOf 5=1:=by kernel_rfl
theorem aeF:prog.cellsOf 32=1:=by kernel_rfl
theorem aeG:prog.cellsOf 154=8:=by kernel_rfl
theorem vR {H:Type} {enc:TypeId×Value→H} {P:Program} {w:World} {base:Nat} {sp:Nat→Bool} {held:Bool} {fuel:Nat} {t e u:TypeId} {n m:Nat} {k:IntKind} {cs:List Value} {rows:List LI} {p:List MemPlace}
 (ht:P.underlying t=some (.array n e)) (he:P.underlying e=some (.array m u)) (hu:P.underlying u=some (.int k)) (hcu:P.cellsOf u=1) (hce:P.cellsOf e=m)
 (h:DataW.trod enc P w base sp held fuel t cs=some (.agg (rows.map fun r=>Lib.tabData k r),p)) (i:Nat) (r:LI) (hr:rows[i]? =some r) (hi:i<n):
 (cs.drop (i*m)).take m=r.map fun z=>Value.int k z:=by
 obtain⟨xs,f,_,hx,hlen,hxl,hxi⟩:=DataW.trod_array ht h
 have h1:=hxi i hi
 rw[hce]at h1
 have hmap:xs.map (·.1)=rows.map fun r=>Lib.tabData k r:=by
  have:=congrArg Prod.fst hx
  simp only[DataW.agg.injEq]at this
  exact this.symm
 have h2:(xs.map (·.1))[i]? =some (Lib.tabData k r):=by rw[hmap];simp[hr]
 rw[List.getElem?_map]at h2
 cases hxi2:xs[i]? with
 | none=>rw[hxi2]at h2;cases h2
 | some x=>
   rw[hxi2]at h2 h1
   obtain⟨d,q⟩:=x
   simp only[Option.map_some,Option.some.injEq]at h2
   subst h2
   exact Lib.cells_of_tab he hu hcu hce h1
theorem OP (r:Nat) (hr:r<10):tW[r]? =some (qM r):=by
 have hc:r=0∨r=1∨r=2∨r=3∨r=4∨r=5∨r=6∨r=7∨r=8∨r=9:=by omega
 rcases hc with rfl|rfl|rfl|rfl|rfl|rfl|rfl|rfl|rfl|rfl<;>rfl
theorem PA {W:World} (h:laidMet prog [("loop.example/s02974/impl.blakeStart",Lib.tabData .u32 mP),("loop.example/s02974/impl.blakeOrder",.agg (tW.map fun r=>Lib.tabData .u8 r)),("loop.example/s02974/impl.mixPlaces",.agg (A6.map fun r=>Lib.tabData .u8 r))] W):cN W:=by
 obtain⟨ps,⟨g1,t1,cs1,f1,p1,q1,hg1,ht1,hv1,hd1,⟨g2,t2,cs2,f2,p2,q2,hg2,ht2,hv2,hd2,⟨g3,t3,cs3,f3,p3,q3,hg3,ht3,hv3,hd3,_,_⟩,_⟩,_⟩,_⟩:=h
 obtain rfl:=Option.some.inj (ajB.symm.trans hg1)
 obtain rfl:=Option.some.inj (acB.symm.trans ht1)
 obtain rfl:=Option.some.inj (af9.symm.trans hg2)
 obtain rfl:=Option.some.inj (ZG.symm.trans ht2)
 obtain rfl:=Option.some.inj (af8.symm.trans hg3)
 obtain rfl:=Option.some.inj (ZF.symm.trans ht3)
 have keyM:∀i r,A6[i]? =some r→i<8→∀j,j<4→W.cell? ⟨2,i*4+j,none⟩=(r.map fun z=>Value.int .u8 z)[j]? :=by
  intro i r hr hi j hj
  have hc:=vR underlying213 underlying212 underlying5 WO aeE hd3 i r hr hi
  rw[←hc,World.var?_cell af8 hv3,List.getElem?_take,if_pos hj,List.getElem?_drop]
  simp
 have keyO:∀i r,tW[i]? =some r→i<10→∀j,j<16→W.cell? ⟨3,i*16+j,none⟩=(r.map fun z=>Value.int .u8 z)[j]? :=by
  intro i r hr hi j hj
  have hc:=vR underlying214 underlying35 underlying5 WO ab0 hd2 i r hr hi
  rw[←hc,World.var?_cell af9 hv2,List.getElem?_take,if_pos hj,List.getElem?_drop]
  simp
 refine⟨fun i hi=>?_,fun i hi=>?_,fun r i hr hi=>?_⟩
 ·match i,hi with
  | 0,_=>exact⟨keyM 0 _ rfl (by decide) 0 (by decide),keyM 0 _ rfl (by decide) 1 (by decide),keyM 0 _ rfl (by decide) 2 (by decide),keyM 0 _ rfl (by decide) 3 (by decide)⟩
  | 1,_=>exact⟨keyM 1 _ rfl (by decide) 0 (by decide),keyM 1 _ rfl (by decide) 1 (by decide),keyM 1 _ rfl (by decide) 2 (by decide),keyM 1 _ rfl (by decide) 3 (by decide)⟩
  | 2,_=>exact⟨keyM 2 _ rfl (by decide) 0 (by decide),keyM 2 _ rfl (by decide) 1 (by decide),keyM 2 _ rfl (by decide) 2 (by decide),keyM 2 _ rfl (by decide) 3 (by decide)⟩
  | 3,_=>exact⟨keyM 3 _ rfl (by decide) 0 (by decide),keyM 3 _ rfl (by decide) 1 (by decide),keyM 3 _ rfl (by decide) 2 (by decide),keyM 3 _ rfl (by decide) 3 (by decide)⟩
  | 4,_=>exact⟨keyM 4 _ rfl (by decide) 0 (by decide),keyM 4 _ rfl (by decide) 1 (by decide),keyM 4 _ rfl (by decide) 2 (by decide),keyM 4 _ rfl (by decide) 3 (by decide)⟩
  | 5,_=>exact⟨keyM 5 _ rfl (by decide) 0 (by decide),keyM 5 _ rfl (by decide) 1 (by decide),keyM 5 _ rfl (by decide) 2 (by decide),keyM 5 _ rfl (by decide) 3 (by decide)⟩
  | 6,_=>exact⟨keyM 6 _ rfl (by decide) 0 (by decide),keyM 6 _ rfl (by decide) 1 (by decide),keyM 6 _ rfl (by decide) 2 (by decide),keyM 6 _ rfl (by decide) 3 (by decide)⟩
  | 7,_=>exact⟨keyM 7 _ rfl (by decide) 0 (by decide),keyM 7 _ rfl (by decide) 1 (by decide),keyM 7 _ rfl (by decide) 2 (by decide),keyM 7 _ rfl (by decide) 3 (by decide)⟩
 ·have hc:=Lib.cells_of_tab underlying154 underlying32 aeF aeG hd1
  rw[World.var?_cell ajB hv1,←Array.getElem?_toList,hc]
  simp[aM,List.getD_eq_getElem?_getD,List.getElem?_eq_getElem (show i<mP.length from hi)]
 ·rw[keyO r (qM r) (OP r hr) hr i hi,←VU r i]
  simp[List.getD_eq_getElem?_getD,List.getElem?_eq_getElem (show i<(qM r).length by rw[mR];exact hi)]
end Go.Proofs.YtmjccemdldidaaaGreatDoor
