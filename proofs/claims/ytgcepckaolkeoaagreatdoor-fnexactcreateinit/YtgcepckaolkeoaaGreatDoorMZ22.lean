import Derived.Test.YtgcepckaolkeoaaGreatDoorMZ21
namespace Go.Proofs.YtgcepckaolkeoaaGreatDoor
open Go.RowKit
open Go.Proofs.Tryz
open Go renaming wpList_load_row → wpLr, wpQuiet_nil → wqN
open Go.World renaming block_lt_of_cell? → wJ, size_alloc → wU
open List renaming cons_append → cA, drop_succ_cons → dJ, drop_zero → dY, length_append → lQ, length_replicate → rJ, length_set → lJ, replicate → rQ, take_succ_cons → tU, take_succ_eq_append_getElem → tQ, take_zero → tJ
open Nat renaming le_refl → nQ
set_option linter.unusedVariables false
theorem IW (N z:Int):gG (N+340282366920938463463374607431768211456*z)=gG N:=by
 unfold gG
 apply List.map_congr_left
 intro i hi
 have h16:i<16:=by simpa using hi
 clear hi
 match i,h16 with
 | 0,_=>simp;omega
 | 1,_=>simp;omega
 | 2,_=>simp;omega
 | 3,_=>simp;omega
 | 4,_=>simp;omega
 | 5,_=>simp;omega
 | 6,_=>simp;omega
 | 7,_=>simp;omega
 | 8,_=>simp;omega
 | 9,_=>simp;omega
 | 10,_=>simp;omega
 | 11,_=>simp;omega
 | 12,_=>simp;omega
 | 13,_=>simp;omega
 | 14,_=>simp;omega
 | 15,_=>simp;omega
 | n+16,h=>omega
theorem aaD:(prog.info? 22).map (·.size)=some 32:=by kernel_rfl
theorem aaE:(prog.info? 27).map (·.size)=some 16:=by kernel_rfl
set_option maxRecDepth 100000 in
set_option maxHeartbeats 4000000 in
theorem VD (key zs:List Int) (m b o cap:Nat) (w:World) (hm:zs.length=m) (hk:key.length=32) (hkb:aE key) (hz:aE zs) (hb:b<w.heap.size) (hcap:m≤cap) (hcap2:cap≤9223372036854775807)
 (hc:∀i,i<m→w.cell? ⟨b,o+i,none⟩=some (.int .u8 (zs.getD i 0))):
 Calls prog 140 #[.agg (Iv .u8 key),.slice (some ⟨b,o,none⟩) m cap] w fun e w'=>e=.returned (.agg (Iv .u8 (hJ key zs)))∧Below w.heap.size w w':=by
 have hgk:∀O,((w.alloc (.cells (Iv .u8 key) 22)).alloc O).heap[w.heap.size]? =some (.cells (Iv .u8 key) 22):=by
  intro O
  simp only[cC,wU]
  simp
 have HK:Hid (∀O,_):=hgk
 clear hgk
 have hik:(prog.info? 22).map (·.size)=some (Iv .u8 key).size:=by rw[aC,hk];exact aaD
 go_enter func140,ntmps140
 go_wp2_with(refine wpLr rfl 22 _ rfl w.heap.size rfl _ (Iv .u8 key) _ _ (HK.out _) underlying22 rfl hik ?_)
 refine(NJ key hk hkb _).mono ?_
 rintro e w1 ⟨r0,r1,r2,r3,r4,rfl,lr,vr,hb1⟩
 have hs1:w.heap.size+2≤w1.heap.size:=by have:=hb1.size;simpa using this
 have hk1:w1.heap[w.heap.size]? =some (.cells (Iv .u8 key) 22):=by rw[hb1.block _ (by simp<;>omega)];exact HK.out _
 have ho1:w1.heap[w.heap.size+1]? =some (.cells (Iv .u8 (rQ 16 0)) 27):=by
  rw[hb1.block _ (by simp<;>omega)]
  simp only[cC,wU]
  simp
  rfl
 have hbw:Below w.heap.size w w1:=(((Below.refl w.heap.size w).alloc (by simp) _).alloc (by simp) _).trans (hb1.mono (by simp<;>omega))
 clear hb1 HK
 have hcd:∀i,i<m→w1.cell? ⟨b,o+i,none⟩=some (.int .u8 (zs.getD i 0)):=fun i hi=>(hbw.cell (p:=⟨b,o+i,none⟩) hb).trans (hc i hi)
 have HC:Hid (∀i,i<m→w1.cell? ⟨b,o+i,none⟩=some (.int .u8 (zs.getD i 0))):=hcd
 have HM:Hid (zs.length=m):=hm
 clear hc hcd hm
 go_wp2
 go_loopw [1] (fun v wr=>ab1 key zs m b w1 r0 r1 r2 r3 r4 v wr) (fun v _=>match v with| .slice _ n _=>n|_=>0)
 case atStart=>
  refine⟨0,o,m,cap,0,0,0,0,0,rfl,by omega,hcap,hcap2,by omega,by unfold A7;omega,⟨0,by simp[V5,iQ]⟩,?_,?_,?_,?_⟩
  ·exact((Below.refl _ _).alloc (by simp) _).alloc (by simp) _
  ·intro i hi
   rw[World.cell?_alloc_past _ _ _ (by simp<;>omega),World.cell?_alloc_past _ _ _ (by omega)]
   simpa using HC.out i hi
  ·simp only[cC,wU]
   simp
  ·simp only[cC,wU]
   simp
 case round=>
  obtain⟨k,o',m',c',a0,a1,a2,a3,a4,rfl,hm',hc1,hc2,hk16,hacc,hval,hbr,hcell,hgr,hga⟩:=hrel
  have HM':Hid (m'=m - 16*k):=hm'
  have HCL:Hid (∀i,i<m'→wr.cell? ⟨b,o'+i,none⟩=some (.int .u8 (zs.getD (16*k+i) 0))):=hcell
  have HVL:Hid (∃q,V5 a0 a1 a2 a3 a4=iQ (kO key) zs k+gP*q):=hval
  clear hm' hcell hval
  by_cases hpos:0<m'
  ·have hp':(0:Int)<(m':Int):=by omega
   obtain⟨x0,x1,x2,x3,x4⟩:=gU hgr
   obtain⟨y0,y1,y2,y3,y4⟩:=gU hga
   obtain⟨n0,n1,n2,n3,n4,n5,n6,n7,n8,n9⟩:=hacc
   obtain⟨j0,j1,j2,j3,j4,j5,j6,j7,j8,j9⟩:=lr
   have hsr:=hbr.size
   by_cases h16:m'≤16
   ·have HPL:Hid (((zs.drop (16*k)).take 16).length=m'):=by
     show _=_
     rw[List.length_take,List.length_drop,HM.out,HM'.out]
     have:=HM'.out
     omega
    have HPC:Hid (∀i,i<m'→wr.cell? ⟨b,o'+i,none⟩=some (.int .u8 (((zs.drop (16*k)).take 16).getD i 0))):=by
     intro i hi
     rw[HCL.out i hi,cN,if_pos (by omega)]
     simp only[List.getD_eq_getElem?_getD,List.getElem?_drop]
    have H14:Hid (∀W,Below wr.heap.size wr W→Calls prog 152 #[.slice (some ⟨b,o',none⟩) m' c'] W fun e w2=>∃q0 q1 q2 q3 q4,e=.returned (.agg #[.int .u64 q0,.int .u64 q1,.int .u64 q2,.int .u64 q3,.int .u64 q4])∧oA q0 q1 q2 q3 q4∧V5 q0 q1 q2 q3 q4=aT ((zs.drop (16*k)).take 16)+256^m'∧Below wr.heap.size wr w2):=by
     intro W hW
     refine(H7 ((zs.drop (16*k)).take 16) m' HPL.out (by omega) (by omega) (eM (dC hz _) _) b o' c' W (by have:=hW.size;omega) (by omega) (by omega) (fun i hi=>(hW.cell (p:=⟨b,o'+i,none⟩) (by show b<_;omega)).trans (HPC.out i hi))).mono ?_
     rintro e w2 ⟨q0,q1,q2,q3,q4,rfl,lq,vq,hb2⟩
     exact⟨q0,q1,q2,q3,q4,rfl,lq,vq,hW.trans (hb2.mono hW.size)⟩
    have H13:Hid (∀W q0 q1 q2 q3 q4,oA q0 q1 q2 q3 q4→Below wr.heap.size wr W→Calls prog 151 #[.agg #[.int .u64 a0,.int .u64 a1,.int .u64 a2,.int .u64 a3,.int .u64 a4],.agg #[.int .u64 q0,.int .u64 q1,.int .u64 q2,.int .u64 q3,.int .u64 q4]] W fun e w2=>e=.returned (.agg #[.int .u64 (a0+q0),.int .u64 (a1+q1),.int .u64 (a2+q2),.int .u64 (a3+q3),.int .u64 (a4+q4)])∧Below wr.heap.size wr w2):=by
     intro W q0 q1 q2 q3 q4 lq hW
     obtain⟨l0,l1,l2,l3,l4,l5,l6,l7,l8,l9⟩:=lq
     refine(OZ a0 a1 a2 a3 a4 q0 q1 q2 q3 q4 W (by omega) (by omega) (by omega) (by omega) (by omega) (by omega) (by omega) (by omega) (by omega) (by omega) (by omega) (by omega) (by omega) (by omega) (by omega) (by omega) (by omega) (by omega) (by omega) (by omega)).mono ?_
     rintro e w2 ⟨rfl,hb2⟩
     exact⟨rfl,hW.trans (hb2.mono hW.size)⟩
    have H15:Hid (∀W q0 q1 q2 q3 q4,oA q0 q1 q2 q3 q4→Below wr.heap.size wr W→Calls prog 153 #[.agg #[.int .u64 (a0+q0),.int .u64 (a1+q1),.int .u64 (a2+q2),.int .u64 (a3+q3),.int .u64 (a4+q4)],.agg #[.int .u64 r0,.int .u64 r1,.int .u64 r2,.int .u64 r3,.int .u64 r4]] W fun e w2=>∃s0 s1 s2 s3 s4,e=.returned (.agg #[.int .u64 s0,.int .u64 s1,.int .u64 s2,.int .u64 s3,.int .u64 s4])∧A7 s0 s1 s2 s3 s4∧(∃q,V5 s0 s1 s2 s3 s4=(V5 a0 a1 a2 a3 a4+V5 q0 q1 q2 q3 q4)*V5 r0 r1 r2 r3 r4 - gP*q)∧Below wr.heap.size wr w2):=by
     intro W q0 q1 q2 q3 q4 lq hW
     obtain⟨l0,l1,l2,l3,l4,l5,l6,l7,l8,l9⟩:=lq
     refine(IG (a0+q0) (a1+q1) (a2+q2) (a3+q3) (a4+q4) r0 r1 r2 r3 r4 W (by omega) (by omega) (by omega) (by omega) (by omega) (by omega) (by omega) (by omega) (by omega) (by omega) (by omega) (by omega) (by omega) (by omega) (by omega) (by omega) (by omega) (by omega) (by omega) (by omega)).mono ?_
     rintro e w2 ⟨s0,s1,s2,s3,s4,rfl,hs,⟨q,hq⟩,hb2⟩
     refine⟨s0,s1,s2,s3,s4,rfl,hs,⟨q,?_⟩,hW.trans (hb2.mono hW.size)⟩
     rw[hq]
     congr 2
     unfold V5
     omega
    have HR:Hid (∀W,Below wr.heap.size wr W→W.heap[w1.heap.size]? =some (.cells #[.int .u64 r0,.int .u64 r1,.int .u64 r2,.int .u64 r3,.int .u64 r4] 240)):=fun W hW=>(hW.block _ (by have:=(Array.getElem?_eq_some_iff.1 hga).1;omega)).trans hgr
    have HA:Hid (∀W,Below wr.heap.size wr W→W.heap[w1.heap.size+1]? =some (.cells #[.int .u64 a0,.int .u64 a1,.int .u64 a2,.int .u64 a3,.int .u64 a4] 240)):=fun W hW=>(hW.block _ (by have:=(Array.getElem?_eq_some_iff.1 hga).1;omega)).trans hga
    go_wp2
    go_region_with (first
     | (go_at_call 152;(refine(H14.out _ (by exact⟨rfl,rfl,rfl,nQ _,fun _ _=>rfl⟩)).mono ?_);rintro e w2 ⟨q0,q1,q2,q3,q4,rfl,lq,vq,hb2⟩;obtain⟨xx0,xx1,xx2,xx3,xx4⟩:=gU (HR.out _ hb2);obtain⟨yy0,yy1,yy2,yy3,yy4⟩:=gU (HA.out _ hb2))
     | (go_at_call 151;(refine(H13.out _ q0 q1 q2 q3 q4 lq (by first|exact hb2|assumption)).mono ?_);rintro e w3 ⟨rfl,hb3⟩;obtain⟨zz0,zz1,zz2,zz3,zz4⟩:=gU (HR.out _ hb3);obtain⟨tt0,tt1,tt2,tt3,tt4⟩:=gU (HA.out _ hb3))
     | (go_at_call 153;(refine(H15.out _ q0 q1 q2 q3 q4 lq (by assumption)).mono ?_);rintro e w4 ⟨s0,s1,s2,s3,s4,rfl,hs,hsv,hb4⟩;obtain⟨uu0,uu1,uu2,uu3,uu4⟩:=gU (HA.out _ hb4);have hf4:∀i,w4.frozen? ⟨w1.heap.size+1,i,none⟩=false:=fun i=>frozen_of_row _ _ i _ _ (HA.out _ hb4)))
    all_goals go_wp2
    all_goals go_roundw
    all_goals first|exact FO HM'.out hc1 hc2 hk16 HVL.out hbr HCL.out hgr hga m' 0 (Or.inl ⟨rfl,by omega⟩) hpos (by omega) HPL.out (by omega) hb4 vq vr hs hsv|omega|(simp;omega)
   ·have HPL:Hid (((zs.drop (16*k)).take 16).length=16):=by
     show _=_
     rw[List.length_take,List.length_drop,HM.out]
     have:=HM'.out
     omega
    have HPC:Hid (∀i,i<16→wr.cell? ⟨b,o'+i,none⟩=some (.int .u8 (((zs.drop (16*k)).take 16).getD i 0))):=by
     intro i hi
     rw[HCL.out i (by omega),cN,if_pos (by omega)]
     simp only[List.getD_eq_getElem?_getD,List.getElem?_drop]
    have H14:Hid (∀W,Below wr.heap.size wr W→Calls prog 152 #[.slice (some ⟨b,o',none⟩) 16 c'] W fun e w2=>∃q0 q1 q2 q3 q4,e=.returned (.agg #[.int .u64 q0,.int .u64 q1,.int .u64 q2,.int .u64 q3,.int .u64 q4])∧oA q0 q1 q2 q3 q4∧V5 q0 q1 q2 q3 q4=aT ((zs.drop (16*k)).take 16)+256^16∧Below wr.heap.size wr w2):=by
     intro W hW
     refine(H7 ((zs.drop (16*k)).take 16) 16 HPL.out (by omega) (by omega) (eM (dC hz _) _) b o' c' W (by have:=hW.size;omega) (by omega) (by omega) (fun i hi=>(hW.cell (p:=⟨b,o'+i,none⟩) (by show b<_;omega)).trans (HPC.out i hi))).mono ?_
     rintro e w2 ⟨q0,q1,q2,q3,q4,rfl,lq,vq,hb2⟩
     exact⟨q0,q1,q2,q3,q4,rfl,lq,vq,hW.trans (hb2.mono hW.size)⟩
    have H13:Hid (∀W q0 q1 q2 q3 q4,oA q0 q1 q2 q3 q4→Below wr.heap.size wr W→Calls prog 151 #[.agg #[.int .u64 a0,.int .u64 a1,.int .u64 a2,.int .u64 a3,.int .u64 a4],.agg #[.int .u64 q0,.int .u64 q1,.int .u64 q2,.int .u64 q3,.int .u64 q4]] W fun e w2=>e=.returned (.agg #[.int .u64 (a0+q0),.int .u64 (a1+q1),.int .u64 (a2+q2),.int .u64 (a3+q3),.int .u64 (a4+q4)])∧Below wr.heap.size wr w2):=by
     intro W q0 q1 q2 q3 q4 lq hW
     obtain⟨l0,l1,l2,l3,l4,l5,l6,l7,l8,l9⟩:=lq
     refine(OZ a0 a1 a2 a3 a4 q0 q1 q2 q3 q4 W (by omega) (by omega) (by omega) (by omega) (by omega) (by omega) (by omega) (by omega) (by omega) (by omega) (by omega) (by omega) (by omega) (by omega) (by omega) (by omega) (by omega) (by omega) (by omega) (by omega)).mono ?_
     rintro e w2 ⟨rfl,hb2⟩
     exact⟨rfl,hW.trans (hb2.mono hW.size)⟩
    have H15:Hid (∀W q0 q1 q2 q3 q4,oA q0 q1 q2 q3 q4→Below wr.heap.size wr W→Calls prog 153 #[.agg #[.int .u64 (a0+q0),.int .u64 (a1+q1),.int .u64 (a2+q2),.int .u64 (a3+q3),.int .u64 (a4+q4)],.agg #[.int .u64 r0,.int .u64 r1,.int .u64 r2,.int .u64 r3,.int .u64 r4]] W fun e w2=>∃s0 s1 s2 s3 s4,e=.returned (.agg #[.int .u64 s0,.int .u64 s1,.int .u64 s2,.int .u64 s3,.int .u64 s4])∧A7 s0 s1 s2 s3 s4∧(∃q,V5 s0 s1 s2 s3 s4=(V5 a0 a1 a2 a3 a4+V5 q0 q1 q2 q3 q4)*V5 r0 r1 r2 r3 r4 - gP*q)∧Below wr.heap.size wr w2):=by
     intro W q0 q1 q2 q3 q4 lq hW
     obtain⟨l0,l1,l2,l3,l4,l5,l6,l7,l8,l9⟩:=lq
     refine(IG (a0+q0) (a1+q1) (a2+q2) (a3+q3) (a4+q4) r0 r1 r2 r3 r4 W (by omega) (by omega) (by omega) (by omega) (by omega) (by omega) (by omega) (by omega) (by omega) (by omega) (by omega) (by omega) (by omega) (by omega) (by omega) (by omega) (by omega) (by omega) (by omega) (by omega)).mono ?_
     rintro e w2 ⟨s0,s1,s2,s3,s4,rfl,hs,⟨q,hq⟩,hb2⟩
     refine⟨s0,s1,s2,s3,s4,rfl,hs,⟨q,?_⟩,hW.trans (hb2.mono hW.size)⟩
     rw[hq]
     congr 2
     unfold V5
     omega
    have HR:Hid (∀W,Below wr.heap.size wr W→W.heap[w1.heap.size]? =some (.cells #[.int .u64 r0,.int .u64 r1,.int .u64 r2,.int .u64 r3,.int .u64 r4] 240)):=fun W hW=>(hW.block _ (by have:=(Array.getElem?_eq_some_iff.1 hga).1;omega)).trans hgr
    have HA:Hid (∀W,Below wr.heap.size wr W→W.heap[w1.heap.size+1]? =some (.cells #[.int .u64 a0,.int .u64 a1,.int .u64 a2,.int .u64 a3,.int .u64 a4] 240)):=fun W hW=>(hW.block _ (by have:=(Array.getElem?_eq_some_iff.1 hga).1;omega)).trans hga
    go_wp2
    go_region_with (first
     | (go_at_call 152;(refine(H14.out _ (by exact⟨rfl,rfl,rfl,nQ _,fun _ _=>rfl⟩)).mono ?_);rintro e w2 ⟨q0,q1,q2,q3,q4,rfl,lq,vq,hb2⟩;obtain⟨xx0,xx1,xx2,xx3,xx4⟩:=gU (HR.out _ hb2);obtain⟨yy0,yy1,yy2,yy3,yy4⟩:=gU (HA.out _ hb2))
     | (go_at_call 151;(refine(H13.out _ q0 q1 q2 q3 q4 lq (by first|exact hb2|assumption)).mono ?_);rintro e w3 ⟨rfl,hb3⟩;obtain⟨zz0,zz1,zz2,zz3,zz4⟩:=gU (HR.out _ hb3);obtain⟨tt0,tt1,tt2,tt3,tt4⟩:=gU (HA.out _ hb3))
     | (go_at_call 153;(refine(H15.out _ q0 q1 q2 q3 q4 lq (by assumption)).mono ?_);rintro e w4 ⟨s0,s1,s2,s3,s4,rfl,hs,hsv,hb4⟩;obtain⟨uu0,uu1,uu2,uu3,uu4⟩:=gU (HA.out _ hb4);have hf4:∀i,w4.frozen? ⟨w1.heap.size+1,i,none⟩=false:=fun i=>frozen_of_row _ _ i _ _ (HA.out _ hb4)))
    all_goals go_wp2
    all_goals go_roundw
    all_goals first|(have hst:=FO HM'.out hc1 hc2 hk16 HVL.out hbr HCL.out hgr hga 16 (m' - 16) (Or.inr ⟨rfl,by omega⟩) hpos (by omega) HPL.out (by omega) hb4 vq vr hs hsv;rw[if_neg (by omega)]at hst;exact hst)|(show m' - 16<m';omega)
  ·have hk0:m'=0:=by omega
   have hkk:k=(m+15) / 16:=by have:=HM'.out;omega
   obtain⟨n0,n1,n2,n3,n4,n5,n6,n7,n8,n9⟩:=hacc
   have HKK:Hid (k=(m+15) / 16):=hkk
   clear hkk
   go_wp2_with(refine wpLr rfl 240 _ rfl (w1.heap.size+1) rfl _ _ _ _ hga underlying240 rfl mR ?_)
   refine(MF a0 a1 a2 a3 a4 _ (by omega) (by omega) (by omega) (by omega) (by omega) (by omega) (by omega) (by omega) (by omega) (by omega)).mono ?_
   rintro e w2 ⟨t0,t1,t2,t3,t4,rfl,lt,hq,hlt,hb2⟩
   obtain⟨j0,j1,j2,j3,j4,j5,j6,j7,j8,j9⟩:=lt
   have HT:Hid (V5 t0 t1 t2 t3 t4=iQ (kO key) zs k):=by
    obtain⟨q,hq⟩:=hq
    obtain⟨q',hq'⟩:=HVL.out
    have hin:=MU (kO key) zs k
    exact TJ (q:=q' - q) (by rw[hq,hq',Int.mul_sub];omega) (by unfold V5;omega) hlt hin.1 hin.2
   clear hq hlt
   go_wp2_with fail
   refine(NN t0 t1 t2 t3 t4 _ (by omega) (by omega) (by omega) (by omega) (by omega) (by omega) (by omega) (by omega) (by omega) (by omega)).mono ?_
   rintro e w3 ⟨rfl,hb3⟩
   have hb13:Below w1.heap.size w1 w3:=(hbr.trans (hb2.mono hbr.size)).trans (hb3.mono (by have:=hb2.size;have:=hbr.size;omega))
   have hk3:w3.heap[w.heap.size]? =some (.cells (Iv .u8 key) 22):=(hb13.block _ (by omega)).trans hk1
   have ho3:w3.heap[w.heap.size+1]? =some (.cells (Iv .u8 (rQ 16 0)) 27):=(hb13.block _ (by omega)).trans ho1
   have hbw3:Below w.heap.size w w3:=hbw.trans (hb13.mono (by omega))
   have hs3:w1.heap.size≤w3.heap.size:=hb13.size
   obtain⟨lo,hlo⟩:∃lo,lo=t0+67108864*t1+4503599627370496*(t2%4096):=⟨_,rfl⟩
   obtain⟨hi,hhi⟩:∃hi,hi=t2 / 4096+16384*t3+1099511627776*(t4%16777216):=⟨_,rfl⟩
   have hlo0:0≤lo:=by omega
   have hlo1:lo<18446744073709551616:=by omega
   have hhi0:0≤hi:=by omega
   rw[←hlo,←hhi]
   have HL:Hid (V5 t0 t1 t2 t3 t4=lo+18446744073709551616*hi+340282366920938463463374607431768211456*(t4 / 16777216)):=by
    unfold V5
    show _=_
    omega
   clear hlo hhi hb2 hb3 hbr hga hgr HCL HVL hb13
   go_wp2
   refine wRh 2 eJ (by kernel_rfl) ?_
   simp only[tU,tJ,dJ,dY]
   repeat(go_big_quiet_step (fail))
   refine wqN ?_
   go_wp2_with fail
   refine(iV 16 w3.heap.size 0 4 4 246 [0,0,0,0] w.heap.size 16 16 (key.drop 16) _ (by simp[hk]) ?_ (by decide) (by decide) (by omega) (dC hkb 16) (by decide) (by decide) ?_ (by decide) (by decide)).mono ?_
   ·simp only[heap_drew,cC]
    simp
    rfl
   ·intro i hi
    simp only[World.cell?_drew]
    rw[World.cell?_alloc_past _ _ _ (by omega),cell_of_row _ _ _ _ _ _ hk3,cT .u8 key (16+i) (by omega)]
    simp[List.getD_eq_getElem?_getD,List.getElem?_drop,show 16+i<key.length by omega]
   rintro e w4 ⟨rfl,d,rfl⟩
   rw[uF,oT _ _ _ _ _ rfl,show Iv .u32 (pF9 [0,0,0,0] 0 (aF (key.drop 16)) (min (16 / 4+1) 4))=#[.int .u32 (aF (key.drop 16) 0),.int .u32 (aF (key.drop 16) 1),.int .u32 (aF (key.drop 16) 2),.int .u32 (aF (key.drop 16) 3)]from rfl]
   obtain⟨i0,f0⟩:=kR (dC hkb 16) 0
   obtain⟨i1,f1⟩:=kR (dC hkb 16) 1
   obtain⟨i2,f2⟩:=kR (dC hkb 16) 2
   obtain⟨i3,f3⟩:=kR (dC hkb 16) 3
   have HS:Hid (YQ key=aF (key.drop 16) 0+4294967296*aF (key.drop 16) 1+18446744073709551616*(aF (key.drop 16) 2+4294967296*aF (key.drop 16) 3)):=rfl
   generalize aF (key.drop 16) 0=x0 at*
   generalize aF (key.drop 16) 1=x1 at*
   generalize aF (key.drop 16) 2=x2 at*
   generalize aF (key.drop 16) 3=x3 at*
   have e0:=PQ x0 x1 i0 f0 i1 f1
   have e1:=PQ x2 x3 i2 f2 i3 f3
   have c0:0≤(lo+(x0+4294967296*x1)) / 18446744073709551616:=by omega
   have c1:(lo+(x0+4294967296*x1)) / 18446744073709551616≤1:=by omega
   have r1:=FR lo (x0+4294967296*x1) 0 hlo0 (by omega) (by omega) (by omega)
   have r2:=FR hi (x2+4294967296*x3) ((lo+(x0+4294967296*x1)) / 18446744073709551616) hhi0 (by omega) c0 c1
   rw[Int.add_zero]at r1
   go_wp2_with fail
   obtain⟨N,hN⟩:∃N,N=lo+18446744073709551616*hi+(x0+4294967296*x1+18446744073709551616*(x2+4294967296*x3)):=⟨_,rfl⟩
   have hA:(lo+(x0+4294967296*x1))%18446744073709551616=N%18446744073709551616:=by omega
   have hB:(hi+(x2+4294967296*x3)+(lo+(x0+4294967296*x1)) / 18446744073709551616)%18446744073709551616=N / 18446744073709551616%18446744073709551616:=by omega
   have HN:Hid (gG N=hJ key zs):=by
    unfold hJ
    rw[HM.out,←HKK.out,HS.out,←HT.out,HL.out]
    exact(IW N (t4 / 16777216)).symm.trans (congrArg gG (by omega))
   rw[hA,hB]
   clear e0 e1 r1 r2 hA hB hN
   refine(eD (w3.heap.size+1) 0 8 16 27 (rQ 16 0) (N%18446744073709551616) _ ?_ (by decide) (by decide) (by omega)).mono ?_
   ·simp only[World.heap_drewN,cC,wU]
    simp
    rfl
   rintro e w5 ⟨rfl,rfl⟩
   rw[oT _ _ _ _ _ (by simp)]
   go_wp2_with fail
   refine(eD (w3.heap.size+1) 8 8 8 27 (pF9 (rQ 16 0) 0 (fun i=>N%18446744073709551616 / 256^i%256) 8) (N / 18446744073709551616%18446744073709551616) _ ?_ (by rw[aR _ _ _ _ (by decide)];decide) (by decide) (by omega)).mono ?_
   ·simp only[World.heap_drewN,cC,wU]
    simp
   rintro e w6 ⟨rfl,rfl⟩
   rw[oT _ _ _ _ _ (by simp),YH N _ _ rfl rfl _ rJ,HN.out]
   have hl16:(hJ key zs).length=16:=by simp[hJ,gG]
   have hit:(prog.info? 27).map (·.size)=some (Iv .u8 (hJ key zs)).size:=by rw[aC,hl16];exact aaE
   have hg1:∀O O' n,(((w3.alloc O).drewN n).alloc O').heap[w.heap.size+1]? =some (.cells (Iv .u8 (rQ 16 0)) 27):=by
    intro O O' n
    rw[cC,if_neg (by simp<;>omega),World.heap_drewN,cC,if_neg (by omega)]
    exact ho3
   have hg2:∀O n,(((w3.alloc O).drewN n).alloc (.cells (Iv .u8 (hJ key zs)) 27)).heap[w3.heap.size+1]? =some (.cells (Iv .u8 (hJ key zs)) 27):=by
    intro O n
    rw[cC,if_pos (by simp)]
   have HG1:Hid (∀O O' n,_):=hg1
   have HG2:Hid (∀O n,_):=hg2
   clear hg1 hg2 hl16
   go_wp2_with(first|refine wpLr rfl 27 _ rfl _ rfl _ (Iv .u8 (hJ key zs)) _ _ (HG2.out _ _) underlying27 rfl hit ?_ |refine wpList_store_row rfl 27 _ _ rfl _ (Iv .u8 (hJ key zs)) rfl rfl _ _ (HG1.out _ _ _) hit (by simp[aC,hJ,gG]) (aH _ _) ?_)
   refine oG (cs:=Iv .u8 (hJ key zs)) results140 ?_ (setRow_heap _ _ _ _ _ _ (HG1.out _ _ _)) underlying27 hit ?_
   ·rfl
   ·exact⟨rfl,aO ((bDr (hbw3.alloc (by omega) _) _).alloc (by simp<;>omega) _) _ (by omega) _⟩
def M8 (d:List Int):Nat→Int
 | 0=>0
 | k+1=>(M8 d k+d.getD k 0) / 256
def PE (d:List Int) (k:Nat):Int:=(M8 d k+d.getD k 0)%256
def jN (d:List Int):Prop:=∀i,0≤d.getD i 0∧d.getD i 0≤1099511627776
theorem T4 {d:List Int} (h:jN d):∀k,0≤M8 d k∧M8 d k≤1099511627776
 | 0=>by simp[M8]
 | k+1=>by
   have h1:=T4 h k
   have h2:=h k
   simp only[M8]
   omega
def gE (d:List Int) (n:Nat):List Int:=(List.range n).map (PE d)
theorem iT (d:List Int) (n:Nat):(gE d n).length=n:=by simp[gE]
theorem BO (d:List Int) (n:Nat):gE d (n+1)=gE d n++[PE d n]:=by simp[gE,List.range_succ]
theorem nK (d:List Int) (n:Nat):aE (gE d n):=by
 intro i
 simp only[gE,List.getD_eq_getElem?_getD,List.getElem?_map]
 by_cases h:i<n
 ·rw[List.getElem?_range h]
  simp only[Option.map_some,Option.getD_some,PE]
  omega
 ·rw[List.getElem?_eq_none (by simp;omega)]
  simp
theorem fB:∀(l r:List Int),aT (l++r)=aT l+256^l.length*aT r
 | [],r=>by simp[aT]
 | x::l,r=>by
   have:=fB l r
   simp only[cA,aT,this,List.length_cons,Int.pow_succ,Int.mul_add]
   rw[←Int.mul_assoc,Int.mul_comm 256 (256^l.length)]
   omega
def yD (d:List Int):Nat→Int
 | 0=>0
 | n+1=>yD d n+256^n*d.getD n 0
theorem zR (d:List Int):∀n,aT (gE d n)+256^n*M8 d n=yD d n
 | 0=>by simp[gE,aT,yD,M8]
 | n+1=>by
   have ih:=zR d n
   rw[BO,fB,iT]
   simp only[aT,yD,←ih,PE,M8,Int.pow_succ,Int.mul_assoc,Int.mul_zero,Int.add_zero]
   rw[Int.add_assoc,Int.add_assoc,←Int.mul_add,←Int.mul_add]
   congr 2
   omega
theorem wP (d:List Int):∀n,yD d n=aT (d.take n)
 | 0=>by simp[yD,aT]
 | n+1=>by
   rw[yD,wP d n]
   by_cases h:n<d.length
   ·rw[tQ h,fB,List.length_take,Nat.min_eq_left (by omega)]
    simp[aT,h]
   ·rw[List.take_of_length_le (by omega),List.take_of_length_le (by omega)]
    simp[List.getD_eq_getElem?_getD,List.getElem?_eq_none (show d.length≤n by omega)]
theorem SG (d:List Int) (n:Nat) (h:d.length≤n):yD d n=aT d:=by rw[wP,List.take_of_length_le h]
theorem wV (n:Nat):(0:Int)<256^n:=Int.pow_pos (by decide)
theorem nC:∀(l:List Int),aE l→0≤aT l∧aT l<256^l.length
 | [],_=>by simp[aT]
 | x::l,h=>by
   have h0:0≤x∧x≤255:=h 0
   have ih:=nC l (fun i=>by have:=h (i+1);simpa using this)
   simp only[aT,List.length_cons,Int.pow_succ]
   omega
theorem FY (d:List Int) (hd:jN d) (n:Nat):aT (gE d n)=yD d n%256^n:=by
 have h:=zR d n
 have hb:=nC _ (nK d n)
 rw[iT]at hb
 rw[←h,Int.add_mul_emod_self_left]
 exact(Int.emod_eq_of_lt hb.1 hb.2).symm
theorem wK (d:List Int) (hd:jN d) (n:Nat) (hl:d.length≤n) (h0:0≤aT d) (h:aT d<256^n):aT (gE d n)=aT d:=by
 rw[FY d hd n,SG d n hl]
 exact Int.emod_eq_of_lt h0 h
def nX:List Int→List Int
 | []=>[]
 | x::r=>(x / 4+(r.headD 0%4)*64)::nX r
theorem qG:∀l,(nX l).length=l.length
 | []=>rfl
 | x::r=>by simp[nX,qG r]
theorem GX:∀(r:List Int),aT r%4=r.headD 0%4
 | []=>rfl
 | x::r=>by simp[aT];omega
theorem DU:∀l,aT (nX l)=aT l / 4
 | []=>rfl
 | x::r=>by
   have ih:=DU r
   have hh:=GX r
   simp only[nX,aT,ih]
   omega
theorem DT:∀(l:List Int) (i:Nat),i<l.length→(nX l).getD i 0=l.getD i 0 / 4+(l.getD (i+1) 0%4)*64
 | [],i,h=>by simp at h
 | x::r,0,_=>by cases r<;>simp[nX]
 | x::r,i+1,h=>by
   have:=DT r i (by simpa using h)
   simpa[nX]using this
def jP:List Int→List Int→List Int
 | l,[]=>l
 | [],y::r=>(5*y)::jP [] r
 | x::l,y::r=>(x+5*y)::jP l r
theorem wG:∀l r,aT (jP l r)=aT l+5*aT r
 | l,[]=>by simp[jP,aT]
 | [],y::r=>by
   have:=wG [] r
   simp only[jP,aT,this]
   omega
 | x::l,y::r=>by
   have:=wG l r
   simp only[jP,aT,this]
   omega
def qY (d:List Int):List Int:=jP ((d.take 16)++[d.getD 16 0%4]) (nX (d.drop 16))
theorem NM (d:List Int) (hb:aE d) (h:17≤d.length):aT (qY d)=aT d%1361129467683753853853498429727072845824+5*(aT d / 1361129467683753853853498429727072845824):=by
 have hsplit:aT d=aT (d.take 16)+340282366920938463463374607431768211456*aT (d.drop 16):=by
  have:=fB (d.take 16) (d.drop 16)
  rw[List.take_append_drop,List.length_take,Nat.min_eq_left (by omega)]at this
  exact this
 have ht:=nC (d.take 16) (eM hb 16)
 rw[List.length_take,Nat.min_eq_left (by omega)]at ht
 have hh:=GX (d.drop 16)
 have hd16:(d.drop 16).headD 0=d.getD 16 0:=by
  rw[List.headD_eq_head?_getD,List.head?_drop,List.getD_eq_getElem?_getD]
 rw[hd16]at hh
 unfold qY
 rw[wG,fB,DU,List.length_take,Nat.min_eq_left (by omega)]
 simp only[aT]
 have hpow:(256:Int)^16=340282366920938463463374607431768211456:=by decide
 rw[hpow]at*
 omega
def Rd (w:World) (a:Option Addr) (d:List Int):Prop:=∀i,i<d.length→∃b o,a=some ⟨b,o,none⟩∧w.cell? ⟨b,o+i,none⟩=some (.int .i64 (d.getD i 0))
theorem pD:(prog.info? 3).map (fun i=>(i.zero,i.size,i.bytes))=some (some (.int .i64 0),1,8):=by kernel_rfl
set_option maxHeartbeats 4000000 in
theorem QW (d:List Int) (m n:Nat) (hm:d.length=m) (hd:jN d) (hn:n≤40) (a:Option Addr) (cap:Nat) (w:World) (hr:Rd w a d) (hm2:m≤1000):
 Calls prog 104 #[.slice a m cap,.int .i64 n] w fun e w'=>∃v,e=.returned v∧bX .i64 3 w.heap.size w' v (gE d n)∧Below w.heap.size w w':=by
 go_enter func104,ntmps104
 go_wp2
 go_loopw [5,6,7] (fun v c i wr=>∃k:Nat,k≤n∧i=.int .i64 k∧c=.int .i64 (M8 d k)∧bX .i64 3 w.heap.size wr v (gE d k)∧Below w.heap.size w wr) (fun _ _ i _=>n - (intOf i).toNat)
 case atStart=>
  exact⟨0,Nat.zero_le _,rfl,rfl,bX.nil w (nQ _),(Below.refl _ _).alloc (nQ _) _⟩
 case round=>
  obtain⟨k,hk,rfl,rfl,hown,hbel⟩:=hrel
  have hc:=T4 hd k
  have hdk:=hd k
  have HS:Hid (M8 d (k+1)=(M8 d k+d.getD k 0) / 256∧gE d (k+1)=gE d k++[(M8 d k+d.getD k 0)%256]):=⟨rfl,BO d k⟩
  obtain⟨hc0,hc1⟩:=hc
  obtain⟨hd0,hd1⟩:=hdk
  have hlen:=iT d k
  have HL:Hid ((gE d k).length≤100000000):=by show _≤_;omega
  have hsz:=hbel.size
  clear hlen
  by_cases hlt:k<n
  ·by_cases hkm:k<m
   ·obtain⟨b,o,rfl,hcell⟩:=hr k (by omega)
    have hck:wr.cell? ⟨b,o+k,none⟩=some (.int .i64 (d.getD k 0)):=(hbel.cell (p:=⟨b,o+k,none⟩) (wJ _ _ hcell)).trans hcell
    generalize d.getD k 0=x at*
    generalize hcc:M8 d k=c at*
    clear hr hcell hd hcc
    go_wp2_with(at_builtin;refine cI .i64 180 3 8 underlying180 pD (by decide) rfl (.tmp 24) (.tmp 27) rfl w.heap.size w wr _ (gE d k) _ rfl rfl hown hbel hsz HL.out ?_;intro v' w' hown' hbel' _ _)
    go_roundw
    case rel=>exact⟨k+1,by omega,by go_num,by rw[HS.out.1],by rw[HS.out.2];exact hown',hbel'⟩
    case measure=>simp[intOf];omega
   ·have hx:d.getD k 0=0:=by simp[List.getD_eq_getElem?_getD,List.getElem?_eq_none (show d.length≤k by omega)]
    have HX:Hid (d.getD k 0=0):=hx
    generalize hcc:M8 d k=c at*
    clear hr hd hcc hx
    go_wp2_with(at_builtin;refine cI .i64 180 3 8 underlying180 pD (by decide) rfl (.tmp 24) (.tmp 27) rfl w.heap.size w wr _ (gE d k) _ rfl rfl hown hbel hsz HL.out ?_;intro v' w' hown' hbel' _ _)
    go_roundw
    case rel=>exact⟨k+1,by omega,by go_num,by rw[HS.out.1,HX.out,Int.add_zero],by rw[HS.out.2,HX.out,Int.add_zero];exact hown',hbel'⟩
    case measure=>simp[intOf];omega
  ·go_wp2
   go_ret
   obtain rfl:k=n:=by omega
   exact⟨_,rfl,hown,hbel⟩
theorem OQ (D:List Int) (h:D.length=40) (y:Int):(D.take 17).set 16 y=D.take 16++[y]:=by
 rw[tQ (by omega),List.set_append_right _ _ (by rw[List.length_take];omega),List.length_take,Nat.min_eq_left (by omega)]
 rfl
theorem u9 (l:List Int) (j:Nat) (h:j<l.length):l.take (j+1)=l.take j++[l.getD j 0]:=by
 rw[tQ h]
 simp[h]
theorem eU:∀l r,(jP l r).length=max l.length r.length
 | l,[]=>by simp[jP]
 | [],y::r=>by simp[jP,eU [] r]
 | x::l,y::r=>by simp[jP,eU l r]
theorem nF:∀(l r:List Int) (i:Nat),(jP l r).getD i 0=l.getD i 0+5*r.getD i 0
 | l,[],i=>by simp[jP]
 | [],y::r,0=>by simp[jP]
 | [],y::r,i+1=>by
   have:=nF [] r i
   simpa[jP]using this
 | x::l,y::r,0=>by simp[jP]
 | x::l,y::r,i+1=>by
   have:=nF l r i
   simpa[jP]using this
theorem KT {l r:List Int} (hl:l.length=r.length) (h:∀i,i<l.length→l.getD i 0=r.getD i 0):l=r:=by
 apply List.ext_getElem hl
 intro i h1 h2
 have:=h i h1
 simpa[h1,h2]using this
theorem pA (l:List Int) (i j:Nat) (y:Int) (hj:j<l.length):(l.set j y).getD i 0=if i=j then y else l.getD i 0:=by
 simp only[List.getD_eq_getElem?_getD,List.getElem?_set]
 by_cases h:j=i
 ·subst h;simp[hj]
 ·simp[h,Ne.symm h]
theorem tL (l r:List Int) (i:Nat):(l++r).getD i 0=if i<l.length then l.getD i 0 else r.getD (i - l.length) 0:=by
 simp only[List.getD_eq_getElem?_getD,List.getElem?_append]
 split<;>rfl
theorem TM (l r:List Int) (j:Nat) (hj:j<l.length) (hr:j<r.length):jP l (r.take (j+1))=(jP l (r.take j)).set j (l.getD j 0+5*r.getD j 0):=by
 have hlen:(jP l (r.take j)).length=l.length:=by rw[eU,List.length_take];omega
 apply KT
 ·rw[lJ,eU,eU,List.length_take,List.length_take];omega
 ·intro i hi
  rw[pA _ _ _ _ (by omega),nF,nF,cN,cN]
  by_cases h1:i=j
  ·subst h1;simp
  ·rw[if_neg h1]
   by_cases h2:i<j
   ·rw[if_pos h2,if_pos (by omega)]
   ·rw[if_neg h2,if_neg (by omega)]
theorem QJ (l r:List Int) (j:Nat) (hj:l.length≤j) (hr:j<r.length):jP l (r.take (j+1))=jP l (r.take j)++[5*r.getD j 0]:=by
 have hlen:(jP l (r.take j)).length=j:=by rw[eU,List.length_take];omega
 apply KT
 ·rw[lQ,eU,hlen,List.length_take];simp;omega
 ·intro i hi
  rw[eU,List.length_take]at hi
  rw[tL,hlen,nF,cN]
  by_cases h2:i<j
  ·rw[if_pos h2,if_pos (by omega),nF,cN,if_pos h2]
  ·obtain rfl:i=j:=by omega
   rw[if_neg h2,if_pos (by omega)]
   simp[List.getD_eq_getElem?_getD,List.getElem?_eq_none hj]
theorem zW (D:List Int) (h:D.length=40):(qY D).length=24:=by
 unfold qY
 rw[eU,qG,lQ,List.length_take,List.length_drop]
 simp;omega
theorem P7 (D:List Int) (hb:aE D) (i:Nat):0≤(nX D).getD i 0∧(nX D).getD i 0≤255:=by
 by_cases h:i<D.length
 ·rw[DT D i h]
  have h1:=hb i
  have h2:=hb (i+1)
  omega
 ·simp[List.getD_eq_getElem?_getD,List.getElem?_eq_none (show(nX D).length≤i by rw[qG];omega)]
theorem U3 (D:List Int) (hb:aE D) (i:Nat):0≤(D.take 16++[D.getD 16 0%4]).getD i 0∧(D.take 16++[D.getD 16 0%4]).getD i 0≤255:=by
 rw[tL]
 have h1:=eM hb 16 i
 have h16:=hb 16
 split
 ·exact h1
 ·generalize i - (D.take 16).length=q
  match q with
  | 0=>simp;omega
  | q+1=>simp
theorem zV (D:List Int) (hb:aE D):jN (qY D):=by
 intro i
 unfold qY
 rw[nF]
 have h1:=U3 D hb i
 have h2:=P7 (D.drop 16) (dC hb 16) i
 omega
end Go.Proofs.YtgcepckaolkeoaaGreatDoor
