import Derived.Test.YtgcepckaolkeoaaGreatDoorMZ01
import Derived.Deep.MidRow
import Derived.Laws.CopyOwn
namespace Go.Proofs.YtgcepckaolkeoaaGreatDoor
open Go.RowKit
open Go.Proofs.Tryz
open Go renaming wpList_load_row → wpLr, wpQuiet_nil → wqN
open Go.World renaming block_lt_of_cell? → wJ
open List renaming drop_succ_cons → dJ, length_append → lQ, length_map → lU, length_replicate → rJ, length_set → lJ, nil_append → nA, replicate → rQ, setIfInBounds_toArray → sU, take_succ_cons → tU
open Nat renaming le_refl → nQ
set_option linter.unusedVariables false
theorem iA {W W0:World} {g p:Nat} {v:Value} (h:∃cs,W.drew=W0.drew.setRow g cs):∃cs,(W.setCell ⟨g,p,none⟩ v).drew=W0.drew.setRow g cs:=by
 obtain⟨cs,h⟩:=h
 refine⟨cs.setIfInBounds p v,?_⟩
 rw[←aL,←h]
 rfl
set_option maxRecDepth 10000 in
set_option maxHeartbeats 4000000 in
theorem BK (l m:List Int) (r:Nat) (w:World) (hl:l.length=16) (h:bC l) (hm:m.length=16) (hmw:bC m) (hr:r<10) (ht:dU w) (Bf:List Int) (HBF:Hid (∀L:List Int,jH l m r 8=L→L=Bf)):
 Calls prog 132 #[.agg (Iv .u32 l),.agg (Iv .u32 m),.int .i64 r] w fun e w'=>e=.returned (.agg (Iv .u32 Bf))∧Below w.heap.size w w':=by
 have hri:(r:Int)<10:=by omega
 have HT:Hid _:=ht
 have HMW:Hid _:=hmw
 clear ht hmw
 go_enter func132,ntmps132
 go_wp2
 go_loopw [11] (fun i wr=>∃j:Nat,j≤8∧i=.int .i64 j∧aB wr w.heap.size .u32 (jH l m r j) 177∧aB wr (w.heap.size+1) .u32 m 177∧aB wr (w.heap.size+1+1) .u32 (rQ 16 0) 177∧Below w.heap.size w wr) (fun i _=>8 - (intOf i).toNat)
 case atStart=>
  obtain⟨W,hW,h0,h1,h2,hs,hb⟩:=oW w (.cells (Iv .u32 l) 177) (.cells (Iv .u32 m) 177) (.cells (Iv .u32 (rQ 16 0)) 177)
  subst hW
  exact⟨0,by omega,rfl,h0,h1,h2,hb⟩
 case round=>
  obtain⟨j,hj,rfl,hg,hgm,hgz,hbel⟩:=hrel
  by_cases hlt:j<8
  ·have hTw:=HT.out.later hbel (nQ _)
   obtain⟨c0,c1,c2,c3⟩:=hTw.mix j hlt
   have hx:=hTw.order r (2*j) hr (by omega)
   have hy:=hTw.order r (2*j+1) hr (by omega)
   clear hTw
   obtain⟨l0,l1,l2,l3⟩:=YK j hlt
   have HL:Hid (jH l m r (j+1)=qN (jH l m r j) (q0 j) (q1 j) (q2 j) (q3 j) (aK m (sg r (2*j))) (aK m (sg r (2*j+1)))):=rfl
   have hLl:(jH l m r j).length=16:=by rw[jX,hl]
   have hLa:bC (jH l m r j):=xH h m r j
   have hsx:=P6 r (2*j)
   have hsy:=P6 r (2*j+1)
   have wx:fP (aK m (sg r (2*j))):=HMW.out _
   have wy:fP (aK m (sg r (2*j+1))):=HMW.out _
   have hmx:wr.cell? ⟨w.heap.size+1,sg r (2*j),none⟩=some (.int .u32 (aK m (sg r (2*j)))):=hgm.cell _ (by omega)
   have hmy:wr.cell? ⟨w.heap.size+1,sg r (2*j+1),none⟩=some (.int .u32 (aK m (sg r (2*j+1)))):=hgm.cell _ (by omega)
   have hlv:=hg.lt
   have hlm:=hgm.lt
   have hlz:=hgz.lt
   generalize aK m (sg r (2*j))=x at*
   generalize aK m (sg r (2*j+1))=y at*
   generalize sg r (2*j)=sx at*
   generalize sg r (2*j+1)=sy at*
   generalize jH l m r j=L at*
   obtain⟨b0,b1,b1',b2,b2',b3,b3'⟩:=YJ j hlt
   have w0:fP (aK L (q0 j)):=hLa (q0 j)
   have e0:Hid ((Iv .u32 L)[q0 j]? =some (.int .u32 (aK L (q0 j)))):=by show _=_;rw[cT _ _ _ (by omega)];simp[aK,show q0 j<L.length by omega]
   have w1:fP (aK L (q1 j)):=hLa (q1 j)
   have e1:Hid ((Iv .u32 L)[q1 j]? =some (.int .u32 (aK L (q1 j)))):=by show _=_;rw[cT _ _ _ (by omega)];simp[aK,show q1 j<L.length by omega]
   have w2:fP (aK L (q2 j)):=hLa (q2 j)
   have e2:Hid ((Iv .u32 L)[q2 j]? =some (.int .u32 (aK L (q2 j)))):=by show _=_;rw[cT _ _ _ (by omega)];simp[aK,show q2 j<L.length by omega]
   have w3:fP (aK L (q3 j)):=hLa (q3 j)
   have e3:Hid ((Iv .u32 L)[q3 j]? =some (.int .u32 (aK L (q3 j)))):=by show _=_;rw[cT _ _ _ (by omega)];simp[aK,show q3 j<L.length by omega]
   have HM:Hid (qN L (q0 j) (q1 j) (q2 j) (q3 j) x y=(((L.set (q0 j) (gA (aK L (q0 j)) (aK L (q1 j)) (aK L (q2 j)) (aK L (q3 j)) x y)).set (q1 j) (gB (aK L (q0 j)) (aK L (q1 j)) (aK L (q2 j)) (aK L (q3 j)) x y)).set (q2 j) (gC (aK L (q0 j)) (aK L (q1 j)) (aK L (q2 j)) (aK L (q3 j)) x y)).set (q3 j) (gD (aK L (q0 j)) (aK L (q1 j)) (aK L (q2 j)) (aK L (q3 j)) x y)):=rfl
   have n01:¬q0 j=q1 j:=by omega
   have m01:¬q1 j=q0 j:=by omega
   have n02:¬q0 j=q2 j:=by omega
   have m02:¬q2 j=q0 j:=by omega
   have n03:¬q0 j=q3 j:=by omega
   have m03:¬q3 j=q0 j:=by omega
   have n12:¬q1 j=q2 j:=by omega
   have m12:¬q2 j=q1 j:=by omega
   have n13:¬q1 j=q3 j:=by omega
   have m13:¬q3 j=q1 j:=by omega
   have n23:¬q2 j=q3 j:=by omega
   have m23:¬q3 j=q2 j:=by omega
   clear b0 b1 b1' b2 b2' b3 b3' hLa h hl hm hr
   generalize q0 j=p0 at*
   generalize aK L p0=x0 at*
   generalize q1 j=p1 at*
   generalize aK L p1=x1 at*
   generalize q2 j=p2 at*
   generalize aK L p2=x2 at*
   generalize q3 j=p3 at*
   generalize aK L p3=x3 at*
   have i0:(p0:Int)<16:=by omega
   have i1:(p1:Int)<16:=by omega
   have i2:(p2:Int)<16:=by omega
   have i3:(p3:Int)<16:=by omega
   have isx:(sx:Int)<16:=by omega
   have isy:(sy:Int)<16:=by omega
   have ij:(2:Int)*(j:Int)<16:=by omega
   have ij1:(2:Int)*(j:Int)+1<16:=by omega
   have HG:Hid _:=hg
   have HGM:Hid _:=hgm
   have HGZ:Hid _:=hgz
   have HBL:Hid _:=hbel
   clear hg hgm hgz hbel
   go_wp2_with fail
   obtain⟨W0,hW0⟩:∃X,X=wr.alloc (.cells #[.int .u8 p0,.int .u8 p1,.int .u8 p2,.int .u8 p3] 231):=⟨_,rfl⟩
   rw[←hW0]
   have hbA:Below wr.heap.size wr W0:=by rw[hW0];exact(Below.refl _ _).alloc (nQ _) _
   have pc0:W0.cell? ⟨wr.heap.size,0,none⟩=some (.int .u8 p0):=by rw[hW0];simp
   have pc1:W0.cell? ⟨wr.heap.size,1,none⟩=some (.int .u8 p1):=by rw[hW0];simp
   have pc2:W0.cell? ⟨wr.heap.size,2,none⟩=some (.int .u8 p2):=by rw[hW0];simp
   have pc3:W0.cell? ⟨wr.heap.size,3,none⟩=some (.int .u8 p3):=by rw[hW0];simp
   have hxW:=(hbA.cell (p:=⟨3,r*16+2*j,none⟩) (wJ _ _ hx)).trans hx
   have hyW:=(hbA.cell (p:=⟨3,r*16+(2*j+1),none⟩) (wJ _ _ hy)).trans hy
   have hmxW:=(hbA.cell (p:=⟨w.heap.size+1,sx,none⟩) hlm).trans hmx
   have hmyW:=(hbA.cell (p:=⟨w.heap.size+1,sy,none⟩) hlm).trans hmy
   have hgW:=(show aB wr w.heap.size .u32 L 177 from HG.out).below hbA hlv
   have hgmW:=(show aB wr (w.heap.size+1) .u32 m 177 from HGM.out).below hbA hlm
   have hgzW:=(show aB wr (w.heap.size+1+1) .u32 (rQ 16 0) 177 from HGZ.out).below hbA hlz
   have hbW:Below w.heap.size w W0:=HBL.out.trans (hbA.mono HBL.out.size)
   clear hW0 hbA hx hy hmx hmy HG HGM HGZ HBL c0 c1 c2 c3
   generalize wr.heap.size=pb at*
   have HG:Hid _:=hgW
   have HGM:Hid _:=hgmW
   have HGZ:Hid _:=hgzW
   have HBL:Hid _:=hbW
   clear hgW hgmW hgzW hbW
   go_quiet (fail)
   obtain⟨W1,hW1⟩:∃X,X=W0.drewN nq:=⟨_,rfl⟩
   rw[←hW1]
   replace pc0:W1.cell? ⟨pb,0,none⟩=some (.int .u8 p0):=by rw[hW1];exact pc0
   replace pc1:W1.cell? ⟨pb,1,none⟩=some (.int .u8 p1):=by rw[hW1];exact pc1
   replace pc2:W1.cell? ⟨pb,2,none⟩=some (.int .u8 p2):=by rw[hW1];exact pc2
   replace pc3:W1.cell? ⟨pb,3,none⟩=some (.int .u8 p3):=by rw[hW1];exact pc3
   have hgW:aB W1 w.heap.size .u32 L 177:=by rw[hW1];exact HG.out
   have hgmW:aB W1 (w.heap.size+1) .u32 m 177:=by rw[hW1];exact HGM.out
   have hgzW:aB W1 (w.heap.size+1+1) .u32 (rQ 16 0) 177:=by rw[hW1];exact HGZ.out
   have hbW:Below w.heap.size w W1:=by rw[hW1];exact bDr HBL.out nq
   clear hW1 hxW hyW hmxW hmyW HG HGM HGZ HBL
   clear W0 nq
   have HG:Hid _:=hgW
   have HGM:Hid _:=hgmW
   have HGZ:Hid _:=hgzW
   have HBL:Hid _:=hbW
   have r0:W1.cell? ⟨w.heap.size,p0,none⟩=some (.int .u32 x0):=by rw[cell_of_row _ _ _ _ _ _ hgW];exact e0.out
   have f0:W1.frozen? ⟨w.heap.size,p0,none⟩=false:=frozen_of_row _ _ _ _ _ hgW
   have r1:W1.cell? ⟨w.heap.size,p1,none⟩=some (.int .u32 x1):=by rw[cell_of_row _ _ _ _ _ _ hgW];exact e1.out
   have f1:W1.frozen? ⟨w.heap.size,p1,none⟩=false:=frozen_of_row _ _ _ _ _ hgW
   have r2:W1.cell? ⟨w.heap.size,p2,none⟩=some (.int .u32 x2):=by rw[cell_of_row _ _ _ _ _ _ hgW];exact e2.out
   have f2:W1.frozen? ⟨w.heap.size,p2,none⟩=false:=frozen_of_row _ _ _ _ _ hgW
   have r3:W1.cell? ⟨w.heap.size,p3,none⟩=some (.int .u32 x3):=by rw[cell_of_row _ _ _ _ _ _ hgW];exact e3.out
   have f3:W1.frozen? ⟨w.heap.size,p3,none⟩=false:=frozen_of_row _ _ _ _ _ hgW
   have S0:Hid (∃cs,W1.drew=W1.drew.setRow w.heap.size cs):=⟨_,(gZ W1.drew w.heap.size (Iv .u32 L) 177 (0,0) hgW).symm⟩
   have pq0:∀cs,(W1.drew.setRow w.heap.size cs).cell? ⟨pb,0,none⟩=some (.int .u8 p0):=fun cs=>by rw[aY _ _ _ _ (by show pb≠_;omega)];exact pc0
   have pq1:∀cs,(W1.drew.setRow w.heap.size cs).cell? ⟨pb,1,none⟩=some (.int .u8 p1):=fun cs=>by rw[aY _ _ _ _ (by show pb≠_;omega)];exact pc1
   have pq2:∀cs,(W1.drew.setRow w.heap.size cs).cell? ⟨pb,2,none⟩=some (.int .u8 p2):=fun cs=>by rw[aY _ _ _ _ (by show pb≠_;omega)];exact pc2
   have pq3:∀cs,(W1.drew.setRow w.heap.size cs).cell? ⟨pb,3,none⟩=some (.int .u8 p3):=fun cs=>by rw[aY _ _ _ _ (by show pb≠_;omega)];exact pc3
   clear hgW hgmW hgzW hbW
   go_wp2_with fail
   refine wRl 33 (fun w'=>∃cs,w'=W1.drew.setRow w.heap.size cs)
    [(.held,[0,1,2,3,4,5,6,7]),(.exact,[8,9,10,11,12,13,14,15,16,17,18,19,20,21,22,23,24,25]),(.only,[26]),(.held,[27,28,29,30,31,32]),(.tail,[33]),(.held,[34]),(.tail,[35]),(.held,[36]),(.tail,[37]),(.held,[38]),(.tail,[39])] DK (by kernel_rfl)
    S0.out ?_
   simp only[iO,oS]
   repeat(go_big_quiet_step (fail))
   refine wqN ?_
   repeat(go_big_quiet_step (fail))
   refine wqN ?_
   go_wp2_with fail
   refine(IU _ _ _ _ _ _ _ w0 w1 w2 w3 wx wy).mono ?_
   rintro e WX ⟨rfl,rfl⟩
   go_wp2_with fail
   refine⟨rfl,?_⟩
   repeat(go_big_quiet_step (fail))
   refine wqN ?_
   go_wp2_with fail
   refine⟨iA S0.out,?_⟩
   repeat(go_big_quiet_step (fail))
   refine wqN ?_
   go_wp2_with fail
   refine⟨iA (iA S0.out),?_⟩
   repeat(go_big_quiet_step (fail))
   refine wqN ?_
   go_wp2_with fail
   refine⟨iA (iA (iA S0.out)),?_⟩
   repeat(go_big_quiet_step (fail))
   refine wqN ?_
   go_wp2_with fail
   refine⟨iA (iA (iA (iA S0.out))),dM ?_⟩
   go_wp2
   go_roundw
   case rel=>
    have hw1:=setCell_eq_setRow W1 w.heap.size p0 (Iv .u32 L) 177 (0,0) (.int .u32 (gA x0 x1 x2 x3 x y)) HG.out
    refine⟨j+1,by omega,by go_num,?_,?_,?_,?_⟩
    ·rw[HL.out,HM.out,hw1,aL,aL,aL,bR,bR,bR,bR]
     exact setRow_heap _ _ _ _ _ _ HG.out
    ·rw[hw1,aL,aL,aL]
     exact(cE _ _ _ _ (by omega)).trans HGM.out
    ·rw[hw1,aL,aL,aL]
     exact(cE _ _ _ _ (by omega)).trans HGZ.out
    ·rw[hw1,aL,aL,aL]
     exact bDr (aO HBL.out _ (nQ _) _) 1
   case measure=>simp[intOf];omega
  ·obtain rfl:j=8:=by omega
   have hL:Bf.length=16:=by rw[←HBF.out _ rfl,jX,hl]
   rw[HBF.out _ rfl]at hg
   have hi:Hid ((prog.info? 177).map (·.size)=some (Iv .u32 Bf).size):=by show _=_;rw[aC,hL];exact xZ
   have hz:Hid ((Iv .u32 (rQ 16 0)).size=(Iv .u32 Bf).size):=by show _=_;rw[aC,aC,hL,rJ]
   have HG:Hid _:=hg
   have HGZ:Hid _:=hgz
   have HBL:Hid _:=hbel
   clear hg hgm hgz hbel
   go_wp2_with(first|refine wpLr rfl 177 _ rfl w.heap.size rfl _ (Iv .u32 Bf) _ _ HG.out underlying177 rfl hi.out ?_ |refine wpList_store_row rfl 177 _ _ rfl (w.heap.size+1+1) (Iv .u32 Bf) rfl rfl _ _ HGZ.out hi.out hz.out (aH _ _) ?_)
   refine oG (cs:=Iv .u32 Bf) results132 ?_ (setRow_heap _ _ _ _ _ _ HGZ.out) underlying177 hi.out ?_
   ·rfl
   ·exact⟨rfl,aO HBL.out _ (by omega) _⟩
theorem sH {p:Prop} (h:Hid p):p:=h.out
theorem aG {p:Prop} (h:p):Hid p:=h
def IA (cs:Array Value):Nat→List Value→Array Value
 | _,[]=>cs
 | o,v::r=>IA (cs.setIfInBounds o v) (o+1) r
theorem sN:∀(vs:List Value) (w:World) (g o:Nat) (cs:Array Value) (t:TypeId) (fr:Nat×Nat),w.heap[g]? =some (.cells cs t fr)→w.setCells g o vs=w.setRow g (IA cs o vs)
 | [],w,g,o,cs,t,fr,h=>(gZ w g cs t fr h).symm
 | v::r,w,g,o,cs,t,fr,h=>by
   rw[World.setCells,setCell_eq_setRow w g o _ t fr v h,sN r _ g (o+1) _ t fr (setRow_heap w g cs _ t fr h),FJ]
   rfl
theorem wY:∀(vs:List Value) (l:List Value) (o:Nat),o+vs.length≤l.length→IA l.toArray o vs=(l.take o++vs++l.drop (o+vs.length)).toArray
 | [],l,o,h=>by simp[IA]
 | v::r,l,o,h=>by
   simp only[List.length_cons]at h
   rw[IA,sU,wY r _ (o+1) (by simp;omega)]
   congr 1
   apply List.ext_getElem?
   intro i
   simp only[List.getElem?_append,lQ,List.length_take,lJ,List.length_cons,List.getElem?_drop,List.getElem?_take,List.getElem?_set]
   by_cases h1:i<o
   ·rw[if_pos (by omega),if_pos (by omega),if_pos (by omega),if_neg (by omega),if_pos (by omega),if_pos (by omega),if_pos (by omega)]
   ·by_cases h2:i=o
    ·subst h2
     rw[if_pos (by omega),if_pos (by omega),if_pos (by omega),if_pos rfl,if_pos (by omega),if_pos (by omega),if_neg (by omega)]
     simp[show min i l.length=i by omega]
    ·by_cases h3:i<o+1+r.length
     ·rw[if_pos (by omega),if_neg (by omega),if_pos (by omega),if_neg (by omega)]
      rw[show i - min o l.length=(i - min (o+1) l.length)+1 by omega,List.getElem?_cons_succ]
     ·rw[if_neg (by omega),if_neg (by omega),if_neg (by omega)]
      congr 1
      omega
theorem yU {P:Program} {ops:Array Oper} {rest:List Oper} {op:Oper} {a:Act} {w:World} {Q:Exit→Act→World→Prop} (hgd:op.guard=none) (ty:TypeId) (x y:Operand) (ho:op.op=.store ty x y)
 (g o:Nat) (vs:List Value) (hx:a.eval x=.pointer (some ⟨g,o,none⟩)) (hy:a.eval y=.agg vs.toArray) (l:List Value) (t:TypeId) (hg:w.heap[g]? =some (.cells l.toArray t))
 (hi:(P.info? ty).map (·.size)=some vs.length) (hfit:o+vs.length≤l.length) (h1:vs.all (·.oneCell')=true)
 (h:wpList P ops Q rest (a.put op.dst undef) (w.setRow g (l.take o++vs++l.drop (o+vs.length)).toArray)):wpList P ops Q (op::rest) a w:=by
 rw[←wY vs l o hfit,←sN vs w g o l.toArray t (0,0) hg]at h
 refine wpList_store_mid hgd ty x y ho g o vs.toArray hx hy ?_ (by simpa using hi) (by simpa using h1) (by simpa using h)
 intro j hj
 simp only[List.size_toArray]at hj
 refine⟨?_,frozen_of_row w g _ _ t hg⟩
 rw[cell_of_row _ _ _ _ _ _ hg]
 simp
 omega
structure vD (w:World) (g:Nat) (cs:Array Value) (t:TypeId) (W:World):Prop where
 here:W.heap[g]? =some (.cells cs t)
 far:∀k,k≠g→W.heap[k]? =w.heap[k]?
 size:W.heap.size=w.heap.size
 below:∀B a,Below B a w→B≤g→Below B a W
theorem iC {w:World} {g:Nat} {old:Array Value} {t:TypeId} (h:w.heap[g]? =some (.cells old t)) (cs:Array Value):vD w g cs t (w.setRow g cs):=
 ⟨setRow_heap w g old cs t (0,0) h,fun k hk=>cE w g k cs hk,by simp,fun B a hb hg=>aO hb g hg cs⟩
theorem wpPp {P:Program} {ops:Array Oper} {rest:List Oper} {op:Oper} {a:Act} {w:World} {Q:Exit→Act→World→Prop} (hgd:op.guard=none) (ty:TypeId) (x y:Operand) (ho:op.op=.store ty x y)
 (g o:Nat) (vs:List Value) (hx:a.eval x=.pointer (some ⟨g,o,none⟩)) (hy:a.eval y=.agg vs.toArray) (l:List Value) (t:TypeId) (hg:w.heap[g]? =some (.cells l.toArray t))
 (new:List Value) (hi:(P.info? ty).map (·.size)=some vs.length) (hfit:o+vs.length≤l.length) (h1:vs.all (·.oneCell')=true) (hnew:l.take o++vs++l.drop (o+vs.length)=new)
 (h:∀W,vD w g new.toArray t W→wpList P ops Q rest (a.put op.dst undef) W):wpList P ops Q (op::rest) a w:=by
 subst hnew
 exact yU hgd ty x y ho g o vs hx hy l t hg hi hfit h1 (h _ (iC hg _))
theorem wpPr {P:Program} {ops:Array Oper} {rest:List Oper} {op:Oper} {a:Act} {w:World} {Q:Exit→Act→World→Prop} (hgd:op.guard=none) (ty:TypeId) (x y:Operand) (ho:op.op=.store ty x y)
 (g:Nat) (cs:Array Value) (hx:a.eval x=.pointer (some ⟨g,0,none⟩)) (hy:a.eval y=.agg cs) (t:TypeId) (old:Array Value) (hg:w.heap[g]? =some (.cells old t))
 (hi:(P.info? ty).map (·.size)=some cs.size) (hs:old.size=cs.size) (h1:cs.all (·.oneCell')=true)
 (h:∀W,vD w g cs t W→wpList P ops Q rest (a.put op.dst undef) W):wpList P ops Q (op::rest) a w:=
 wpList_store_row hgd ty x y ho g cs hx hy t old hg hi hs h1 (h _ (iC hg _))
theorem fE {w:World} {g:Nat} {l:List Value} {t:TypeId} {fr:Nat×Nat} (hg:w.heap[g]? =some (.cells l.toArray t fr)) (o n:Nat):w.rangeAt g o ((l.drop o).take n):=by
 intro j v hj
 rw[cell_of_row _ _ _ _ _ _ hg]
 rw[List.getElem?_take]at hj
 split at hj
 ·rw[List.getElem?_drop]at hj
  simpa using hj
 ·cases hj
theorem FZ {P:Program} {w:World} {ops:Array Oper} {rest:List Oper} {o:Oper} {a:Act} {Q:Exit→Act→World→Prop} (k:IntKind) (hgd:o.guard=none) (d s:Operand) (dT sT:TypeId)
 (ho:o.op=.call { callee:=.builtin .copy,args:=#[d,s],argTypes:=#[dT,sT] }) (elem:TypeId) (hu:P.underlying dT=some (.slice elem)) (hsz:(P.info? elem).map (·.size)=some 1)
 (g off dLen dCap b o' sLen sCap:Nat) (hd:a.eval d=.slice (some ⟨g,off,none⟩) dLen dCap) (hs:a.eval s=.slice (some ⟨b,o',none⟩) sLen sCap)
 (l zs:List Int) (t:TypeId) (hg:aB w g k l t) (hn:zs.length=Nat.min sLen dLen)
 (hsrc:∀j,j<zs.length→w.cell? ⟨b,o'+j,none⟩=some (.int k (zs.getD j 0))) (hfit:off+zs.length≤l.length)
 (h:wpList P ops Q rest (a.put o.dst (goInt zs.length)) (w.setRow g (Iv k (l.take off++(zs++l.drop (off+zs.length)))))):wpList P ops Q (o::rest) a w:=by
 have e:(Iv k (l.take off++(zs++l.drop (off+zs.length))))=((Iv k l).toList.take off++(zs.map (Value.int k)++(Iv k l).toList.drop (off+(zs.map (Value.int k)).length))).toArray:=by
  simp[Iv]
 rw[e]at h
 refine wpList_copy_own hgd d s dT sT ho elem hu hsz g off dLen dCap ⟨b,o',none⟩ sLen sCap hd hs (Iv k l) t hg (zs.map (Value.int k)) (by simpa using hn) ?_ (by simpa[aC]using hfit) ?_ (by simpa using h)
 ·intro j v hj
  have hj':j<zs.length:=by simpa using(List.getElem?_eq_some_iff.1 hj).1
  have hadd:(⟨b,o',none⟩:Addr).add j=⟨b,o'+j,none⟩:=by unfold Addr.add;split<;>simp_all
  rw[hadd,hsrc j hj',←hj]
  simp[hj']
 ·intro v hv
  obtain⟨x,_,rfl⟩:=List.mem_map.1 hv
  rfl
theorem KN {P:Program} {w:World} {ops:Array Oper} {rest:List Oper} {o:Oper} {a:Act} {Q:Exit→Act→World→Prop} (k:IntKind) (hgd:o.guard=none) (d s:Operand) (dT sT:TypeId)
 (ho:o.op=.call { callee:=.builtin .copy,args:=#[d,s],argTypes:=#[dT,sT] }) (elem:TypeId) (hu:P.underlying dT=some (.slice elem)) (hsz:(P.info? elem).map (·.size)=some 1)
 (g off dLen dCap b o' sLen sCap:Nat) (hd:a.eval d=.slice (some ⟨g,off,none⟩) dLen dCap) (hs:a.eval s=.slice (some ⟨b,o',none⟩) sLen sCap)
 (l zs new:List Int) (n:Nat) (t:TypeId) (hg:w.heap[g]? =some (.cells (Iv k l) t)) (hz:zs.length=n) (hn:n=Nat.min sLen dLen)
 (hsrc:∀j,j<n→w.cell? ⟨b,o'+j,none⟩=some (.int k (zs.getD j 0))) (hfit:off+n≤l.length) (hnew:l.take off++(zs++l.drop (off+n))=new)
 (h:∀W,vD w g (Iv k new) t W→wpList P ops Q rest (a.put o.dst (.int .i64 n)) W):wpList P ops Q (o::rest) a w:=by
 subst hz
 subst hnew
 exact FZ k hgd d s dT sT ho elem hu hsz g off dLen dCap b o' sLen sCap hd hs l zs t hg hn hsrc hfit (h _ (iC hg _))
def aA (n:Nat):List Int:=rQ n 0
def WL (r:Int) (z:List Int):List Value:=Value.int .u32 r::z.map (Value.int .u8)
theorem cJ (r:Int) (z:List Int):(WL r z).length=z.length+1:=by simp[WL]
theorem IP (r:Int) (z:List Int):(WL r z).toArray.size=z.length+1:=by simp[WL]
theorem wE (r:Int) (z:List Int):(WL r z).toArray.all (·.oneCell')=true:=by simp[WL,Value.oneCell']
theorem ZI (r:Int) (z:List Int) (o n:Nat):((WL r z).drop (o+1)).take n=((z.drop o).take n).map (Value.int .u8):=by simp[WL,List.map_drop,List.map_take]
def gY (z:List Int) (o n:Nat):List Int:=(z.drop o).take n
theorem lT (z:List Int) (o n N:Nat) (hz:z.length=N) (h:o+n≤N):(gY z o n).length=n:=by simp[gY,hz];omega
theorem WM (r:Int) (z:List Int) (o n:Nat):((WL r z).drop (o+1)).take n=(gY z o n).map (Value.int .u8):=ZI r z o n
def cX (z:List Int) (N k:Nat):List Int:=z.take k++rQ (N - k) 0
theorem xR (z:List Int) (N k:Nat) (hz:z.length=N) (hk:k≤N):(cX z N k).length=N:=by simp[cX,hz];omega
theorem GH (z:List Int) (N:Nat) (hz:z.length=N):cX z N N=z:=by simp[cX,←hz]
theorem iD {w:World} {g:Nat} {r:Int} {z:List Int} {t:TypeId} {fr:Nat×Nat} (hg:w.heap[g]? =some (.cells (WL r z).toArray t fr)) (o n:Nat):w.rangeAt g (o+1) ((gY z o n).map (Value.int .u8)):=by
 rw[←WM r z o n]
 exact fE hg (o+1) n
def HV (h:List Int) (t:Int) (b:List Int) (f:Int):List Value:=h.map (Value.int .u32)++(.int .u64 t::(b.map (Value.int .u8)++[.int .i64 f]))
def dE (h:List Int) (t:Int) (b:List Int) (f:Int):Array Value:=(HV h t b f).toArray
theorem yV (h:List Int) (t:Int) (b:List Int) (f:Int) (hh:h.length=8) (hb:b.length=64):(HV h t b f).length=74:=by simp[HV,hh,hb]
theorem eW (h:List Int) (t:Int) (b:List Int) (f:Int) (hh:h.length=8) (hb:b.length=64):(dE h t b f).size=74:=by simp[dE,yV h t b f hh hb]
theorem oL (h:List Int) (t:Int) (b:List Int) (f:Int):(dE h t b f).all (·.oneCell')=true:=by simp[dE,HV,Value.oneCell']
theorem CU (h:List Int) (t:Int) (b:List Int) (f:Int) (hh:h.length=8) (i:Nat) (hi:i<8):(dE h t b f)[i]? =some (.int .u32 (aK h i)):=by
 simp[dE,HV,aK,List.getElem?_append,hh,hi]
theorem GK (h:List Int) (t:Int) (b:List Int) (f:Int) (hh:h.length=8):(dE h t b f)[8]? =some (.int .u64 t):=by
 simp[dE,HV,hh]
theorem UU (h:List Int) (t:Int) (b:List Int) (f:Int) (hh:h.length=8) (hb:b.length=64) (i:Nat) (hi:i<64):(dE h t b f)[9+i]? =some (.int .u8 (b.getD i 0)):=by
 simp only[dE,HV,List.getElem?_toArray,List.getElem?_append,lU,hh]
 rw[if_neg (by omega),show 9+i - 8=i+1 by omega,List.getElem?_cons_succ,List.getElem?_append,lU,hb,if_pos hi]
 simp[hb,hi]
theorem nM (h:List Int) (t:Int) (b:List Int) (f:Int) (hh:h.length=8) (hb:b.length=64):(dE h t b f)[73]? =some (.int .i64 f):=by
 simp[dE,HV,hh,hb]
theorem zX (h:List Int) (t:Int) (b:List Int) (f:Int) (hh:h.length=8) (i:Nat) (hi:i<8) (x:Int):(dE h t b f).setIfInBounds i (.int .u32 x)=dE (h.set i x) t b f:=by
 unfold dE HV
 rw[sU,List.set_append,if_pos (by simp;omega),←List.map_set]
theorem I6 (h:List Int) (t:Int) (b:List Int) (f:Int) (hh:h.length=8) (x:Int):(dE h t b f).setIfInBounds 8 (.int .u64 x)=dE h x b f:=by
 unfold dE HV
 rw[sU,List.set_append,if_neg (by simp;omega)]
 simp[hh]
theorem tN (h:List Int) (t:Int) (b:List Int) (f:Int) (hh:h.length=8) (hb:b.length=64) (x:Int):(dE h t b f).setIfInBounds 73 (.int .i64 x)=dE h t b x:=by
 unfold dE HV
 rw[sU,List.set_append,if_neg (by simp;omega)]
 simp[hh,hb]
theorem TH (h:List Int) (t:Int) (b:List Int) (f:Int) (hh:h.length=8) (hb:b.length=64) (o:Nat) (zs:List Int) (ho:o+zs.length≤64):
 (HV h t b f).take (9+o)++(zs.map (Value.int .u8)++(HV h t b f).drop (9+o+(zs.map (Value.int .u8)).length))=HV h t (b.take o++(zs++b.drop (o+zs.length))) f:=by
 have e1:(HV h t b f).take (9+o)=h.map (Value.int .u32)++(.int .u64 t::(b.take o).map (Value.int .u8)):=by
  unfold HV
  rw[List.take_append,lU,hh,show 9+o - 8=o+1 by omega,List.take_of_length_le (by simp;omega),tU,List.take_append_of_le_length (by simp;omega),List.map_take]
 have e2:(HV h t b f).drop (9+o+(zs.map (Value.int .u8)).length)=(b.drop (o+zs.length)).map (Value.int .u8)++[.int .i64 f]:=by
  unfold HV
  rw[lU,List.drop_append,lU,hh,List.drop_eq_nil_of_le (by simp;omega),nA,show 9+o+zs.length - 8=(o+zs.length)+1 by omega,dJ,List.drop_append_of_le_length (by simp;omega),List.map_drop]
 rw[e1,e2]
 simp[HV]
theorem GA {P:Program} {w:World} {ops:Array Oper} {rest:List Oper} {o:Oper} {a:Act} {Q:Exit→Act→World→Prop} (k:IntKind) (hgd:o.guard=none) (d s:Operand) (dT sT:TypeId)
 (ho:o.op=.call { callee:=.builtin .copy,args:=#[d,s],argTypes:=#[dT,sT] }) (elem:TypeId) (hu:P.underlying dT=some (.slice elem)) (hsz:(P.info? elem).map (·.size)=some 1)
 (g off dLen dCap b o' sLen sCap:Nat) (hd:a.eval d=.slice (some ⟨g,off,none⟩) dLen dCap) (hs:a.eval s=.slice (some ⟨b,o',none⟩) sLen sCap)
 (l:List Value) (zs:List Int) (new:List Value) (n:Nat) (t:TypeId) (hg:w.heap[g]? =some (.cells l.toArray t)) (hz:zs.length=n) (hn:n=Nat.min sLen dLen)
 (hsrc:∀j,j<n→w.cell? ⟨b,o'+j,none⟩=some (.int k (zs.getD j 0))) (hfit:off+n≤l.length) (hnew:l.take off++(zs.map (Value.int k)++l.drop (off+(zs.map (Value.int k)).length))=new)
 (h:∀W,vD w g new.toArray t W→wpList P ops Q rest (a.put o.dst (.int .i64 n)) W):wpList P ops Q (o::rest) a w:=by
 subst hz
 subst hnew
 refine wpList_copy_own hgd d s dT sT ho elem hu hsz g off dLen dCap ⟨b,o',none⟩ sLen sCap hd hs l.toArray t hg (zs.map (Value.int k)) (by simpa using hn) ?_ (by simpa using hfit) ?_ ?_
 ·intro j v hj
  have hj':j<zs.length:=by simpa using(List.getElem?_eq_some_iff.1 hj).1
  have hadd:(⟨b,o',none⟩:Addr).add j=⟨b,o'+j,none⟩:=by unfold Addr.add;split<;>simp_all
  rw[hadd,hsrc j hj',←hj]
  simp[hj']
 ·intro v hv
  obtain⟨x,_,rfl⟩:=List.mem_map.1 hv
  rfl
 ·have:=h _ (iC hg _)
  simpa[goInt]using this
def oX (h:List Int) (k:Nat):List Int:=h.take k++rQ (8 - k) 0++(k8.take k++rQ (8 - k) 0)
theorem xQ (h:List Int) (k:Nat) (hh:h.length=8) (hk:k≤8):(oX h k).length=16:=by simp[oX,hh,k8];omega
theorem BZ (h:List Int):oX h 0=rQ 16 0:=rfl
theorem BX (h:List Int) (hh:h.length=8):oX h 8=h++k8:=by simp[oX,←hh];simp[hh,k8]
theorem BY (h:List Int) (k:Nat) (hh:h.length=8) (hk:k<8):((oX h k).set k (aK h k)).set (k+8) (aK k8 k)=oX h (k+1):=by
 match h,hh with
 | [a0,a1,a2,a3,a4,a5,a6,a7],_=>
   have hc:k=0∨k=1∨k=2∨k=3∨k=4∨k=5∨k=6∨k=7:=by omega
   rcases hc with rfl|rfl|rfl|rfl|rfl|rfl|rfl|rfl<;>rfl
theorem IJ (h:List Int) (hh:h.length=8):(h++k8).getD 12 0=1359893119∧(h++k8).getD 13 0=2600822924∧(h++k8).getD 14 0=528734635:=by
 refine⟨?_,?_,?_⟩<;>(simp only[List.getD_eq_getElem?_getD,List.getElem?_append,hh];rfl)
set_option maxRecDepth 100000 in
set_option maxHeartbeats 1000000 in
theorem FL (h b:List Int) (t:Nat) (fv:Int) (last:Bool) (w:World) (hh:h.length=8) (hb:b.length=64) (ht63:t<9223372036854775808) (ht:dU w) (Bf:List Int) (HBF:Hid (sX h t last=Bf)) (hBf:Bf.length=16):
 Calls prog 131 #[.agg (dE h t b fv),.bool last] w fun e w'=>e=.returned (.agg (Iv .u32 Bf))∧Below w.heap.size w w':=by
 have HT:Hid _:=ht
 clear ht
 go_enter func131,ntmps131
 go_wp2
 go_loopw [7] (fun i wr=>∃j:Nat,j≤8∧i=.int .i64 j∧wr.heap[w.heap.size]? =some (.cells (dE h t b fv) 184)∧aB wr (w.heap.size+1) .u32 (rQ 16 0) 177∧aB wr (w.heap.size+1+1) .u32 (oX h j) 177∧Below w.heap.size w wr) (fun i _=>8 - (intOf i).toNat)
 case atStart=>
  obtain⟨W,hW,h0,h1,h2,hs,hb⟩:=oW w (.cells (dE h t b fv) 184) (.cells (Iv .u32 (rQ 16 0)) 177) (.cells (Iv .u32 (rQ 16 0)) 177)
  subst hW
  exact⟨0,by omega,rfl,h0,h1,by rw[BZ];exact h2,hb⟩
 case round=>
  obtain⟨j,hj,rfl,hg,hgr,hgv,hbel⟩:=hrel
  by_cases hlt:j<8
  ·have ci:=(HT.out.later hbel (nQ _)).iv j hlt
   have cw:wr.cell? ⟨w.heap.size,j,none⟩=some (.int .u32 (aK h j)):=by rw[cell_of_row _ _ _ _ _ _ hg,CU h t b fv hh j hlt]
   have HS:Hid (((oX h j).set j (aK h j)).set (j+8) (aK k8 j)=oX h (j+1)):=BY h j hh hlt
   have hL:=xQ h j hh (by omega)
   generalize oX h j=L at*
   generalize aK h j=x at*
   generalize aK k8 j=y at*
   have cv:wr.cell? ⟨w.heap.size+1+1,j,none⟩=some (.int .u32 (L.getD j 0)):=aB.cell hgv j (by omega)
   have cv8:wr.cell? ⟨w.heap.size+1+1,j+8,none⟩=some (.int .u32 (L.getD (j+8) 0)):=aB.cell hgv (j+8) (by omega)
   have f0:wr.frozen? ⟨w.heap.size+1+1,j,none⟩=false:=frozen_of_row _ _ _ _ _ hgv
   have f8:wr.frozen? ⟨w.heap.size+1+1,j+8,none⟩=false:=frozen_of_row _ _ _ _ _ hgv
   have HG:Hid _:=hg
   have HGR:Hid _:=hgr
   have HGV:Hid _:=hgv
   have HBL:Hid _:=hbel
   have i8:(j:Int)+8<16:=by omega
   clear hg hgr hgv hbel
   go_wp2
   go_roundw
   case rel=>
    refine⟨j+1,by omega,by go_num,?_,?_,?_,?_⟩
    ·rw[heap_setCell_other _ _ _ _ (by simp;omega),heap_setCell_other _ _ _ _ (by simp;omega)]
     exact HG.out
    ·exact aB.setFar (aB.setFar (show aB wr _ .u32 _ _ from HGR.out) _ _ (by simp)) _ _ (by simp)
    ·rw[←HS.out]
     exact aB.setCell (aB.setCell (show aB wr _ .u32 L _ from HGV.out) j x) (j+8) y
    ·exact(HBL.out.setCell (by simp;omega) _).setCell (by simp;omega) _
   case measure=>simp[intOf];omega
  ·obtain rfl:j=8:=by omega
   rw[BX h hh]at hgv
   obtain⟨v12,v13,v14⟩:=IJ h hh
   have hL:(h++k8).length=16:=by simp[hh,k8]
   have c12:wr.cell? ⟨w.heap.size+1+1,12,none⟩=some (.int .u32 1359893119):=by rw[←v12];exact aB.cell hgv 12 (by omega)
   have c13:wr.cell? ⟨w.heap.size+1+1,13,none⟩=some (.int .u32 2600822924):=by rw[←v13];exact aB.cell hgv 13 (by omega)
   have c14:wr.cell? ⟨w.heap.size+1+1,14,none⟩=some (.int .u32 528734635):=by rw[←v14];exact aB.cell hgv 14 (by omega)
   have f12:wr.frozen? ⟨w.heap.size+1+1,12,none⟩=false:=frozen_of_row _ _ _ _ _ hgv
   have f13:wr.frozen? ⟨w.heap.size+1+1,13,none⟩=false:=frozen_of_row _ _ _ _ _ hgv
   have f14:wr.frozen? ⟨w.heap.size+1+1,14,none⟩=false:=frozen_of_row _ _ _ _ _ hgv
   have ct:wr.cell? ⟨w.heap.size,8,none⟩=some (.int .u64 t):=by rw[cell_of_row _ _ _ _ _ _ hg,GK h t b fv hh]
   have hi:Hid ((prog.info? 177).map (·.size)=some (Iv .u32 Bf).size):=by show _=_;rw[aC,hBf];exact xZ
   have hz:Hid ((Iv .u32 (rQ 16 0)).size=(Iv .u32 Bf).size):=by show _=_;rw[aC,aC,hBf,rJ]
   have HGR:Hid _:=hgr
   have HGV:Hid _:=hgv
   have HBL:Hid _:=hbel
   have ht0:(0:Int)≤t:=by omega
   have ht1:(t:Int)<9223372036854775808:=by omega
   clear hg hgr hgv hbel v12 v13 v14 hL
   obtain⟨k12,e12⟩:∃x:Int,x=1359893119:=⟨_,rfl⟩
   obtain⟨k13,e13⟩:∃x:Int,x=2600822924:=⟨_,rfl⟩
   obtain⟨k14,e14⟩:∃x:Int,x=528734635:=⟨_,rfl⟩
   rw[←e12]at c12
   rw[←e13]at c13
   rw[←e14]at c14
   have E12:Hid _:=e12
   have E13:Hid _:=e13
   have E14:Hid _:=e14
   clear e12 e13 e14
   have HTT:Hid (sX h t last=if last then(((h++k8).set 12 (xr k12 ((t:Int)%4294967296))).set 13 (xr k13 ((t:Int) / 4294967296))).set 14 (xr k14 4294967295)else((h++k8).set 12 (xr k12 ((t:Int)%4294967296))).set 13 (xr k13 ((t:Int) / 4294967296))):=by
    show _=_
    rw[E12.out,E13.out,E14.out]
    unfold sX D5
    rw[Int.natCast_emod,Int.natCast_ediv]
    rfl
   generalize(t:Int)=tt at*
   cases last with
   | false=>
     go_wp2_with(first|refine wpLr rfl 177 _ rfl (w.heap.size+1+1) rfl 177 (Iv .u32 Bf) (0,0) _ ?hv underlying177 rfl hi.out ?_ |refine wpList_store_row rfl 177 _ _ rfl (w.heap.size+1) (Iv .u32 Bf) rfl rfl 177 (Iv .u32 (rQ 16 0)) ?hr hi.out hz.out (aH _ _) ?_)
     case hv=>
      have e:=HTT.out
      rw[HBF.out,if_neg (by simp)]at e
      rw[e]
      exact aB.setCell (aB.setCell (show aB wr _ .u32 (h++k8) _ from HGV.out) 12 _) 13 _
     case hr=>exact aB.setFar (aB.setFar (show aB wr _ .u32 _ _ from HGR.out) _ _ (by simp)) _ _ (by simp)
     refine oG (cs:=Iv .u32 Bf) results131 ?_ (setRow_heap _ _ _ _ _ _ (aB.setFar (aB.setFar (show aB wr _ .u32 _ _ from HGR.out) _ _ (by simp)) _ _ (by simp))) underlying177 hi.out ?_
     ·rfl
     ·exact⟨rfl,aO ((HBL.out.setCell (by simp;omega) _).setCell (by simp;omega) _) _ (by omega) _⟩
   | true=>
     go_wp2_with(first|refine wpLr rfl 177 _ rfl (w.heap.size+1+1) rfl 177 (Iv .u32 Bf) (0,0) _ ?hv underlying177 rfl hi.out ?_ |refine wpList_store_row rfl 177 _ _ rfl (w.heap.size+1) (Iv .u32 Bf) rfl rfl 177 (Iv .u32 (rQ 16 0)) ?hr hi.out hz.out (aH _ _) ?_)
     case hv=>
      have e:=HTT.out
      rw[HBF.out,if_pos trivial]at e
      rw[e]
      exact aB.setCell (aB.setCell (aB.setCell (show aB wr _ .u32 (h++k8) _ from HGV.out) 12 _) 13 _) 14 _
     case hr=>exact aB.setFar (aB.setFar (aB.setFar (show aB wr _ .u32 _ _ from HGR.out) _ _ (by simp)) _ _ (by simp)) _ _ (by simp)
     refine oG (cs:=Iv .u32 Bf) results131 ?_ (setRow_heap _ _ _ _ _ _ (aB.setFar (aB.setFar (aB.setFar (show aB wr _ .u32 _ _ from HGR.out) _ _ (by simp)) _ _ (by simp)) _ _ (by simp))) underlying177 hi.out ?_
     ·rfl
     ·exact⟨rfl,aO (((HBL.out.setCell (by simp;omega) _).setCell (by simp;omega) _).setCell (by simp;omega) _) _ (by omega) _⟩
end Go.Proofs.YtgcepckaolkeoaaGreatDoor
