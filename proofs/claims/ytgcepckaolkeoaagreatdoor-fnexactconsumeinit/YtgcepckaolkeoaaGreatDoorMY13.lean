import Derived.Test.YtgcepckaolkeoaaGreatDoorMY12
namespace Go.Proofs.YtgcepckaolkeoaaGreatDoor
open Go.RowKit
open Go.Proofs.Tryz
open Go renaming wpList_load_row → wpLr, wpQuiet_nil → wqN
open Go.World renaming block_lt_of_cell? → wJ, size_alloc → wU
open List renaming cons_append → cA, drop_succ_cons → dJ, drop_zero → dY, length_append → lQ, length_replicate → rJ, length_set → lJ, nil_append → nA, replicate → rQ, set_cons_zero → sY, take_succ_cons → tU, take_succ_eq_append_getElem → tQ, take_zero → tJ
open Nat renaming le_refl → nQ
set_option linter.unusedVariables false
theorem J9 (N z:Int):gI (N+340282366920938463463374607431768211456*z)=gI N:=by
 unfold gI
 apply List.map_congr_left
 intro i hi
 have h16:i<16:=by simpa using hi
 clear hi
 match i,h16 with
 | 0,_=>simp;omega
 | 1,_=>simp;omega
 | 2,_=>simp;omega
 | 3,_=>simp;omega
 | 4,_=>simp;omega
 | 5,_=>simp;omega
 | 6,_=>simp;omega
 | 7,_=>simp;omega
 | 8,_=>simp;omega
 | 9,_=>simp;omega
 | 10,_=>simp;omega
 | 11,_=>simp;omega
 | 12,_=>simp;omega
 | 13,_=>simp;omega
 | 14,_=>simp;omega
 | 15,_=>simp;omega
 | n+16,h=>omega
theorem acF:(prog.info? 22).map (·.size)=some 32:=by kernel_rfl
theorem acG:(prog.info? 27).map (·.size)=some 16:=by kernel_rfl
set_option maxRecDepth 100000 in
set_option maxHeartbeats 4000000 in
theorem YJ (key zs:List Int) (m b o cap:Nat) (w:World) (hm:zs.length=m) (hk:key.length=32) (hkb:aE key) (hz:aE zs) (hb:b<w.heap.size) (hcap:m≤cap) (hcap2:cap≤9223372036854775807)
 (hc:∀i,i<m→w.cell? ⟨b,o+i,none⟩=some (.int .u8 (zs.getD i 0))):
 Calls prog 140 #[.agg (Iv .u8 key),.slice (some ⟨b,o,none⟩) m cap] w fun e w'=>e=.returned (.agg (Iv .u8 (gR key zs)))∧Below w.heap.size w w':=by
 have hgk:∀O,((w.alloc (.cells (Iv .u8 key) 22)).alloc O).heap[w.heap.size]? =some (.cells (Iv .u8 key) 22):=by
  intro O
  simp only[bO,wU]
  simp
 have HK:Hid (∀O,_):=hgk
 clear hgk
 have hik:(prog.info? 22).map (·.size)=some (Iv .u8 key).size:=by rw[aD,hk];exact acF
 go_enter func140,ntmps140
 go_wp2_with(refine wpLr rfl 22 _ rfl w.heap.size rfl _ (Iv .u8 key) _ _ (HK.out _) underlying22 rfl hik ?_)
 refine(PD key hk hkb _).mono ?_
 rintro e w1 ⟨r0,r1,r2,r3,r4,rfl,lr,vr,hb1⟩
 have hs1:w.heap.size+2≤w1.heap.size:=by have:=hb1.size;simpa using this
 have hk1:w1.heap[w.heap.size]? =some (.cells (Iv .u8 key) 22):=by rw[hb1.block _ (by simp<;>omega)];exact HK.out _
 have ho1:w1.heap[w.heap.size+1]? =some (.cells (Iv .u8 (rQ 16 0)) 27):=by
  rw[hb1.block _ (by simp<;>omega)]
  simp only[bO,wU]
  simp
  rfl
 have hbw:Below w.heap.size w w1:=(((Below.refl w.heap.size w).alloc (by simp) _).alloc (by simp) _).trans (hb1.mono (by simp<;>omega))
 clear hb1 HK
 have hcd:∀i,i<m→w1.cell? ⟨b,o+i,none⟩=some (.int .u8 (zs.getD i 0)):=fun i hi=>(hbw.cell (p:=⟨b,o+i,none⟩) hb).trans (hc i hi)
 have HC:Hid (∀i,i<m→w1.cell? ⟨b,o+i,none⟩=some (.int .u8 (zs.getD i 0))):=hcd
 have HM:Hid (zs.length=m):=hm
 clear hc hcd hm
 go_wp2
 go_loopw [1] (fun v wr=>ad4 key zs m b w1 r0 r1 r2 r3 r4 v wr) (fun v _=>match v with| .slice _ n _=>n|_=>0)
 case atStart=>
  refine⟨0,o,m,cap,0,0,0,0,0,rfl,by omega,hcap,hcap2,by omega,by unfold DL;omega,⟨0,by simp[V5,iS]⟩,?_,?_,?_,?_⟩
  ·exact((Below.refl _ _).alloc (by simp) _).alloc (by simp) _
  ·intro i hi
   rw[World.cell?_alloc_past _ _ _ (by simp<;>omega),World.cell?_alloc_past _ _ _ (by omega)]
   simpa using HC.out i hi
  ·simp only[bO,wU]
   simp
  ·simp only[bO,wU]
   simp
 case round=>
  obtain⟨k,o',m',c',a0,a1,a2,a3,a4,rfl,hm',hc1,hc2,hk16,hacc,hval,hbr,hcell,hgr,hga⟩:=hrel
  have HM':Hid (m'=m - 16*k):=hm'
  have HCL:Hid (∀i,i<m'→wr.cell? ⟨b,o'+i,none⟩=some (.int .u8 (zs.getD (16*k+i) 0))):=hcell
  have HVL:Hid (∃q,V5 a0 a1 a2 a3 a4=iS (kR key) zs k+gS*q):=hval
  clear hm' hcell hval
  by_cases hpos:0<m'
  ·have hp':(0:Int)<(m':Int):=by omega
   obtain⟨x0,x1,x2,x3,x4⟩:=hJ hgr
   obtain⟨y0,y1,y2,y3,y4⟩:=hJ hga
   obtain⟨n0,n1,n2,n3,n4,n5,n6,n7,n8,n9⟩:=hacc
   obtain⟨j0,j1,j2,j3,j4,j5,j6,j7,j8,j9⟩:=lr
   have hsr:=hbr.size
   by_cases h16:m'≤16
   ·have HPL:Hid (((zs.drop (16*k)).take 16).length=m'):=by
     show _=_
     rw[List.length_take,List.length_drop,HM.out,HM'.out]
     have:=HM'.out
     omega
    have HPC:Hid (∀i,i<m'→wr.cell? ⟨b,o'+i,none⟩=some (.int .u8 (((zs.drop (16*k)).take 16).getD i 0))):=by
     intro i hi
     rw[HCL.out i hi,cT,if_pos (by omega)]
     simp only[List.getD_eq_getElem?_getD,List.getElem?_drop]
    have H14:Hid (∀W,Below wr.heap.size wr W→Calls prog 152 #[.slice (some ⟨b,o',none⟩) m' c'] W fun e w2=>∃q0 q1 q2 q3 q4,e=.returned (.agg #[.int .u64 q0,.int .u64 q1,.int .u64 q2,.int .u64 q3,.int .u64 q4])∧oL q0 q1 q2 q3 q4∧V5 q0 q1 q2 q3 q4=aR ((zs.drop (16*k)).take 16)+256^m'∧Below wr.heap.size wr w2):=by
     intro W hW
     refine(JI ((zs.drop (16*k)).take 16) m' HPL.out (by omega) (by omega) (dB (cE hz _) _) b o' c' W (by have:=hW.size;omega) (by omega) (by omega) (fun i hi=>(hW.cell (p:=⟨b,o'+i,none⟩) (by show b<_;omega)).trans (HPC.out i hi))).mono ?_
     rintro e w2 ⟨q0,q1,q2,q3,q4,rfl,lq,vq,hb2⟩
     exact⟨q0,q1,q2,q3,q4,rfl,lq,vq,hW.trans (hb2.mono hW.size)⟩
    have H13:Hid (∀W q0 q1 q2 q3 q4,oL q0 q1 q2 q3 q4→Below wr.heap.size wr W→Calls prog 151 #[.agg #[.int .u64 a0,.int .u64 a1,.int .u64 a2,.int .u64 a3,.int .u64 a4],.agg #[.int .u64 q0,.int .u64 q1,.int .u64 q2,.int .u64 q3,.int .u64 q4]] W fun e w2=>e=.returned (.agg #[.int .u64 (a0+q0),.int .u64 (a1+q1),.int .u64 (a2+q2),.int .u64 (a3+q3),.int .u64 (a4+q4)])∧Below wr.heap.size wr w2):=by
     intro W q0 q1 q2 q3 q4 lq hW
     obtain⟨l0,l1,l2,l3,l4,l5,l6,l7,l8,l9⟩:=lq
     refine(QZ a0 a1 a2 a3 a4 q0 q1 q2 q3 q4 W (by omega) (by omega) (by omega) (by omega) (by omega) (by omega) (by omega) (by omega) (by omega) (by omega) (by omega) (by omega) (by omega) (by omega) (by omega) (by omega) (by omega) (by omega) (by omega) (by omega)).mono ?_
     rintro e w2 ⟨rfl,hb2⟩
     exact⟨rfl,hW.trans (hb2.mono hW.size)⟩
    have H15:Hid (∀W q0 q1 q2 q3 q4,oL q0 q1 q2 q3 q4→Below wr.heap.size wr W→Calls prog 153 #[.agg #[.int .u64 (a0+q0),.int .u64 (a1+q1),.int .u64 (a2+q2),.int .u64 (a3+q3),.int .u64 (a4+q4)],.agg #[.int .u64 r0,.int .u64 r1,.int .u64 r2,.int .u64 r3,.int .u64 r4]] W fun e w2=>∃s0 s1 s2 s3 s4,e=.returned (.agg #[.int .u64 s0,.int .u64 s1,.int .u64 s2,.int .u64 s3,.int .u64 s4])∧DL s0 s1 s2 s3 s4∧(∃q,V5 s0 s1 s2 s3 s4=(V5 a0 a1 a2 a3 a4+V5 q0 q1 q2 q3 q4)*V5 r0 r1 r2 r3 r4 - gS*q)∧Below wr.heap.size wr w2):=by
     intro W q0 q1 q2 q3 q4 lq hW
     obtain⟨l0,l1,l2,l3,l4,l5,l6,l7,l8,l9⟩:=lq
     refine(JS (a0+q0) (a1+q1) (a2+q2) (a3+q3) (a4+q4) r0 r1 r2 r3 r4 W (by omega) (by omega) (by omega) (by omega) (by omega) (by omega) (by omega) (by omega) (by omega) (by omega) (by omega) (by omega) (by omega) (by omega) (by omega) (by omega) (by omega) (by omega) (by omega) (by omega)).mono ?_
     rintro e w2 ⟨s0,s1,s2,s3,s4,rfl,hs,⟨q,hq⟩,hb2⟩
     refine⟨s0,s1,s2,s3,s4,rfl,hs,⟨q,?_⟩,hW.trans (hb2.mono hW.size)⟩
     rw[hq]
     congr 2
     unfold V5
     omega
    have HR:Hid (∀W,Below wr.heap.size wr W→W.heap[w1.heap.size]? =some (.cells #[.int .u64 r0,.int .u64 r1,.int .u64 r2,.int .u64 r3,.int .u64 r4] 240)):=fun W hW=>(hW.block _ (by have:=(Array.getElem?_eq_some_iff.1 hga).1;omega)).trans hgr
    have HA:Hid (∀W,Below wr.heap.size wr W→W.heap[w1.heap.size+1]? =some (.cells #[.int .u64 a0,.int .u64 a1,.int .u64 a2,.int .u64 a3,.int .u64 a4] 240)):=fun W hW=>(hW.block _ (by have:=(Array.getElem?_eq_some_iff.1 hga).1;omega)).trans hga
    go_wp2
    go_region_with (first
     | (go_at_call 152;(refine(H14.out _ (by exact⟨rfl,rfl,rfl,nQ _,fun _ _=>rfl⟩)).mono ?_);rintro e w2 ⟨q0,q1,q2,q3,q4,rfl,lq,vq,hb2⟩;obtain⟨xx0,xx1,xx2,xx3,xx4⟩:=hJ (HR.out _ hb2);obtain⟨yy0,yy1,yy2,yy3,yy4⟩:=hJ (HA.out _ hb2))
     | (go_at_call 151;(refine(H13.out _ q0 q1 q2 q3 q4 lq (by first|exact hb2|assumption)).mono ?_);rintro e w3 ⟨rfl,hb3⟩;obtain⟨zz0,zz1,zz2,zz3,zz4⟩:=hJ (HR.out _ hb3);obtain⟨tt0,tt1,tt2,tt3,tt4⟩:=hJ (HA.out _ hb3))
     | (go_at_call 153;(refine(H15.out _ q0 q1 q2 q3 q4 lq (by assumption)).mono ?_);rintro e w4 ⟨s0,s1,s2,s3,s4,rfl,hs,hsv,hb4⟩;obtain⟨uu0,uu1,uu2,uu3,uu4⟩:=hJ (HA.out _ hb4);have hf4:∀i,w4.frozen? ⟨w1.heap.size+1,i,none⟩=false:=fun i=>frozen_of_row _ _ i _ _ (HA.out _ hb4)))
    all_goals go_wp2
    all_goals go_roundw
    all_goals first|exact IF HM'.out hc1 hc2 hk16 HVL.out hbr HCL.out hgr hga m' 0 (Or.inl ⟨rfl,by omega⟩) hpos (by omega) HPL.out (by omega) hb4 vq vr hs hsv|omega|(simp;omega)
   ·have HPL:Hid (((zs.drop (16*k)).take 16).length=16):=by
     show _=_
     rw[List.length_take,List.length_drop,HM.out]
     have:=HM'.out
     omega
    have HPC:Hid (∀i,i<16→wr.cell? ⟨b,o'+i,none⟩=some (.int .u8 (((zs.drop (16*k)).take 16).getD i 0))):=by
     intro i hi
     rw[HCL.out i (by omega),cT,if_pos (by omega)]
     simp only[List.getD_eq_getElem?_getD,List.getElem?_drop]
    have H14:Hid (∀W,Below wr.heap.size wr W→Calls prog 152 #[.slice (some ⟨b,o',none⟩) 16 c'] W fun e w2=>∃q0 q1 q2 q3 q4,e=.returned (.agg #[.int .u64 q0,.int .u64 q1,.int .u64 q2,.int .u64 q3,.int .u64 q4])∧oL q0 q1 q2 q3 q4∧V5 q0 q1 q2 q3 q4=aR ((zs.drop (16*k)).take 16)+256^16∧Below wr.heap.size wr w2):=by
     intro W hW
     refine(JI ((zs.drop (16*k)).take 16) 16 HPL.out (by omega) (by omega) (dB (cE hz _) _) b o' c' W (by have:=hW.size;omega) (by omega) (by omega) (fun i hi=>(hW.cell (p:=⟨b,o'+i,none⟩) (by show b<_;omega)).trans (HPC.out i hi))).mono ?_
     rintro e w2 ⟨q0,q1,q2,q3,q4,rfl,lq,vq,hb2⟩
     exact⟨q0,q1,q2,q3,q4,rfl,lq,vq,hW.trans (hb2.mono hW.size)⟩
    have H13:Hid (∀W q0 q1 q2 q3 q4,oL q0 q1 q2 q3 q4→Below wr.heap.size wr W→Calls prog 151 #[.agg #[.int .u64 a0,.int .u64 a1,.int .u64 a2,.int .u64 a3,.int .u64 a4],.agg #[.int .u64 q0,.int .u64 q1,.int .u64 q2,.int .u64 q3,.int .u64 q4]] W fun e w2=>e=.returned (.agg #[.int .u64 (a0+q0),.int .u64 (a1+q1),.int .u64 (a2+q2),.int .u64 (a3+q3),.int .u64 (a4+q4)])∧Below wr.heap.size wr w2):=by
     intro W q0 q1 q2 q3 q4 lq hW
     obtain⟨l0,l1,l2,l3,l4,l5,l6,l7,l8,l9⟩:=lq
     refine(QZ a0 a1 a2 a3 a4 q0 q1 q2 q3 q4 W (by omega) (by omega) (by omega) (by omega) (by omega) (by omega) (by omega) (by omega) (by omega) (by omega) (by omega) (by omega) (by omega) (by omega) (by omega) (by omega) (by omega) (by omega) (by omega) (by omega)).mono ?_
     rintro e w2 ⟨rfl,hb2⟩
     exact⟨rfl,hW.trans (hb2.mono hW.size)⟩
    have H15:Hid (∀W q0 q1 q2 q3 q4,oL q0 q1 q2 q3 q4→Below wr.heap.size wr W→Calls prog 153 #[.agg #[.int .u64 (a0+q0),.int .u64 (a1+q1),.int .u64 (a2+q2),.int .u64 (a3+q3),.int .u64 (a4+q4)],.agg #[.int .u64 r0,.int .u64 r1,.int .u64 r2,.int .u64 r3,.int .u64 r4]] W fun e w2=>∃s0 s1 s2 s3 s4,e=.returned (.agg #[.int .u64 s0,.int .u64 s1,.int .u64 s2,.int .u64 s3,.int .u64 s4])∧DL s0 s1 s2 s3 s4∧(∃q,V5 s0 s1 s2 s3 s4=(V5 a0 a1 a2 a3 a4+V5 q0 q1 q2 q3 q4)*V5 r0 r1 r2 r3 r4 - gS*q)∧Below wr.heap.size wr w2):=by
     intro W q0 q1 q2 q3 q4 lq hW
     obtain⟨l0,l1,l2,l3,l4,l5,l6,l7,l8,l9⟩:=lq
     refine(JS (a0+q0) (a1+q1) (a2+q2) (a3+q3) (a4+q4) r0 r1 r2 r3 r4 W (by omega) (by omega) (by omega) (by omega) (by omega) (by omega) (by omega) (by omega) (by omega) (by omega) (by omega) (by omega) (by omega) (by omega) (by omega) (by omega) (by omega) (by omega) (by omega) (by omega)).mono ?_
     rintro e w2 ⟨s0,s1,s2,s3,s4,rfl,hs,⟨q,hq⟩,hb2⟩
     refine⟨s0,s1,s2,s3,s4,rfl,hs,⟨q,?_⟩,hW.trans (hb2.mono hW.size)⟩
     rw[hq]
     congr 2
     unfold V5
     omega
    have HR:Hid (∀W,Below wr.heap.size wr W→W.heap[w1.heap.size]? =some (.cells #[.int .u64 r0,.int .u64 r1,.int .u64 r2,.int .u64 r3,.int .u64 r4] 240)):=fun W hW=>(hW.block _ (by have:=(Array.getElem?_eq_some_iff.1 hga).1;omega)).trans hgr
    have HA:Hid (∀W,Below wr.heap.size wr W→W.heap[w1.heap.size+1]? =some (.cells #[.int .u64 a0,.int .u64 a1,.int .u64 a2,.int .u64 a3,.int .u64 a4] 240)):=fun W hW=>(hW.block _ (by have:=(Array.getElem?_eq_some_iff.1 hga).1;omega)).trans hga
    go_wp2
    go_region_with (first
     | (go_at_call 152;(refine(H14.out _ (by exact⟨rfl,rfl,rfl,nQ _,fun _ _=>rfl⟩)).mono ?_);rintro e w2 ⟨q0,q1,q2,q3,q4,rfl,lq,vq,hb2⟩;obtain⟨xx0,xx1,xx2,xx3,xx4⟩:=hJ (HR.out _ hb2);obtain⟨yy0,yy1,yy2,yy3,yy4⟩:=hJ (HA.out _ hb2))
     | (go_at_call 151;(refine(H13.out _ q0 q1 q2 q3 q4 lq (by first|exact hb2|assumption)).mono ?_);rintro e w3 ⟨rfl,hb3⟩;obtain⟨zz0,zz1,zz2,zz3,zz4⟩:=hJ (HR.out _ hb3);obtain⟨tt0,tt1,tt2,tt3,tt4⟩:=hJ (HA.out _ hb3))
     | (go_at_call 153;(refine(H15.out _ q0 q1 q2 q3 q4 lq (by assumption)).mono ?_);rintro e w4 ⟨s0,s1,s2,s3,s4,rfl,hs,hsv,hb4⟩;obtain⟨uu0,uu1,uu2,uu3,uu4⟩:=hJ (HA.out _ hb4);have hf4:∀i,w4.frozen? ⟨w1.heap.size+1,i,none⟩=false:=fun i=>frozen_of_row _ _ i _ _ (HA.out _ hb4)))
    all_goals go_wp2
    all_goals go_roundw
    all_goals first|(have hst:=IF HM'.out hc1 hc2 hk16 HVL.out hbr HCL.out hgr hga 16 (m' - 16) (Or.inr ⟨rfl,by omega⟩) hpos (by omega) HPL.out (by omega) hb4 vq vr hs hsv;rw[if_neg (by omega)]at hst;exact hst)|(show m' - 16<m';omega)
  ·have hk0:m'=0:=by omega
   have hkk:k=(m+15) / 16:=by have:=HM'.out;omega
   obtain⟨n0,n1,n2,n3,n4,n5,n6,n7,n8,n9⟩:=hacc
   have HKK:Hid (k=(m+15) / 16):=hkk
   clear hkk
   go_wp2_with(refine wpLr rfl 240 _ rfl (w1.heap.size+1) rfl _ _ _ _ hga underlying240 rfl m0 ?_)
   refine(N5 a0 a1 a2 a3 a4 _ (by omega) (by omega) (by omega) (by omega) (by omega) (by omega) (by omega) (by omega) (by omega) (by omega)).mono ?_
   rintro e w2 ⟨t0,t1,t2,t3,t4,rfl,lt,hq,hlt,hb2⟩
   obtain⟨j0,j1,j2,j3,j4,j5,j6,j7,j8,j9⟩:=lt
   have HT:Hid (V5 t0 t1 t2 t3 t4=iS (kR key) zs k):=by
    obtain⟨q,hq⟩:=hq
    obtain⟨q',hq'⟩:=HVL.out
    have hin:=OL (kR key) zs k
    exact WK (q:=q' - q) (by rw[hq,hq',Int.mul_sub];omega) (by unfold V5;omega) hlt hin.1 hin.2
   clear hq hlt
   go_wp2_with fail
   refine(PK t0 t1 t2 t3 t4 _ (by omega) (by omega) (by omega) (by omega) (by omega) (by omega) (by omega) (by omega) (by omega) (by omega)).mono ?_
   rintro e w3 ⟨rfl,hb3⟩
   have hb13:Below w1.heap.size w1 w3:=(hbr.trans (hb2.mono hbr.size)).trans (hb3.mono (by have:=hb2.size;have:=hbr.size;omega))
   have hk3:w3.heap[w.heap.size]? =some (.cells (Iv .u8 key) 22):=(hb13.block _ (by omega)).trans hk1
   have ho3:w3.heap[w.heap.size+1]? =some (.cells (Iv .u8 (rQ 16 0)) 27):=(hb13.block _ (by omega)).trans ho1
   have hbw3:Below w.heap.size w w3:=hbw.trans (hb13.mono (by omega))
   have hs3:w1.heap.size≤w3.heap.size:=hb13.size
   obtain⟨lo,hlo⟩:∃lo,lo=t0+67108864*t1+4503599627370496*(t2%4096):=⟨_,rfl⟩
   obtain⟨hi,hhi⟩:∃hi,hi=t2 / 4096+16384*t3+1099511627776*(t4%16777216):=⟨_,rfl⟩
   have hlo0:0≤lo:=by omega
   have hlo1:lo<18446744073709551616:=by omega
   have hhi0:0≤hi:=by omega
   rw[←hlo,←hhi]
   have HL:Hid (V5 t0 t1 t2 t3 t4=lo+18446744073709551616*hi+340282366920938463463374607431768211456*(t4 / 16777216)):=by
    unfold V5
    show _=_
    omega
   clear hlo hhi hb2 hb3 hbr hga hgr HCL HVL hb13
   go_wp2
   refine wRh 2 eN (by kernel_rfl) ?_
   simp only[tU,tJ,dJ,dY]
   repeat(go_big_quiet_step (fail))
   refine wqN ?_
   go_wp2_with fail
   refine(iY 16 w3.heap.size 0 4 4 246 [0,0,0,0] w.heap.size 16 16 (key.drop 16) _ (by simp[hk]) ?_ (by decide) (by decide) (by omega) (cE hkb 16) (by decide) (by decide) ?_ (by decide) (by decide)).mono ?_
   ·simp only[heap_drew,bO]
    simp
    rfl
   ·intro i hi
    simp only[World.cell?_drew]
    rw[World.cell?_alloc_past _ _ _ (by omega),cell_of_row _ _ _ _ _ _ hk3,cN .u8 key (16+i) (by omega)]
    simp[List.getD_eq_getElem?_getD,List.getElem?_drop,show 16+i<key.length by omega]
   rintro e w4 ⟨rfl,d,rfl⟩
   rw[uZ,pG _ _ _ _ _ rfl,show Iv .u32 (pF9 [0,0,0,0] 0 (aF (key.drop 16)) (min (16 / 4+1) 4))=#[.int .u32 (aF (key.drop 16) 0),.int .u32 (aF (key.drop 16) 1),.int .u32 (aF (key.drop 16) 2),.int .u32 (aF (key.drop 16) 3)]from rfl]
   obtain⟨i0,f0⟩:=kW (cE hkb 16) 0
   obtain⟨i1,f1⟩:=kW (cE hkb 16) 1
   obtain⟨i2,f2⟩:=kW (cE hkb 16) 2
   obtain⟨i3,f3⟩:=kW (cE hkb 16) 3
   have HS:Hid (aa7 key=aF (key.drop 16) 0+4294967296*aF (key.drop 16) 1+18446744073709551616*(aF (key.drop 16) 2+4294967296*aF (key.drop 16) 3)):=rfl
   generalize aF (key.drop 16) 0=x0 at*
   generalize aF (key.drop 16) 1=x1 at*
   generalize aF (key.drop 16) 2=x2 at*
   generalize aF (key.drop 16) 3=x3 at*
   have e0:=RW x0 x1 i0 f0 i1 f1
   have e1:=RW x2 x3 i2 f2 i3 f3
   have c0:0≤(lo+(x0+4294967296*x1)) / 18446744073709551616:=by omega
   have c1:(lo+(x0+4294967296*x1)) / 18446744073709551616≤1:=by omega
   have r1:=II lo (x0+4294967296*x1) 0 hlo0 (by omega) (by omega) (by omega)
   have r2:=II hi (x2+4294967296*x3) ((lo+(x0+4294967296*x1)) / 18446744073709551616) hhi0 (by omega) c0 c1
   rw[Int.add_zero]at r1
   go_wp2_with fail
   obtain⟨N,hN⟩:∃N,N=lo+18446744073709551616*hi+(x0+4294967296*x1+18446744073709551616*(x2+4294967296*x3)):=⟨_,rfl⟩
   have hA:(lo+(x0+4294967296*x1))%18446744073709551616=N%18446744073709551616:=by omega
   have hB:(hi+(x2+4294967296*x3)+(lo+(x0+4294967296*x1)) / 18446744073709551616)%18446744073709551616=N / 18446744073709551616%18446744073709551616:=by omega
   have HN:Hid (gI N=gR key zs):=by
    unfold gR
    rw[HM.out,←HKK.out,HS.out,←HT.out,HL.out]
    exact(J9 N (t4 / 16777216)).symm.trans (congrArg gI (by omega))
   rw[hA,hB]
   clear e0 e1 r1 r2 hA hB hN
   refine(eE (w3.heap.size+1) 0 8 16 27 (rQ 16 0) (N%18446744073709551616) _ ?_ (by decide) (by decide) (by omega)).mono ?_
   ·simp only[World.heap_drewN,bO,wU]
    simp
    rfl
   rintro e w5 ⟨rfl,rfl⟩
   rw[pG _ _ _ _ _ (by simp)]
   go_wp2_with fail
   refine(eE (w3.heap.size+1) 8 8 8 27 (pF9 (rQ 16 0) 0 (fun i=>N%18446744073709551616 / 256^i%256) 8) (N / 18446744073709551616%18446744073709551616) _ ?_ (by rw[aP _ _ _ _ (by decide)];decide) (by decide) (by omega)).mono ?_
   ·simp only[World.heap_drewN,bO,wU]
    simp
   rintro e w6 ⟨rfl,rfl⟩
   rw[pG _ _ _ _ _ (by simp),aa0 N _ _ rfl rfl _ rJ,HN.out]
   have hl16:(gR key zs).length=16:=by simp[gR,gI]
   have hit:(prog.info? 27).map (·.size)=some (Iv .u8 (gR key zs)).size:=by rw[aD,hl16];exact acG
   have hg1:∀O O' n,(((w3.alloc O).drewN n).alloc O').heap[w.heap.size+1]? =some (.cells (Iv .u8 (rQ 16 0)) 27):=by
    intro O O' n
    rw[bO,if_neg (by simp<;>omega),World.heap_drewN,bO,if_neg (by omega)]
    exact ho3
   have hg2:∀O n,(((w3.alloc O).drewN n).alloc (.cells (Iv .u8 (gR key zs)) 27)).heap[w3.heap.size+1]? =some (.cells (Iv .u8 (gR key zs)) 27):=by
    intro O n
    rw[bO,if_pos (by simp)]
   have HG1:Hid (∀O O' n,_):=hg1
   have HG2:Hid (∀O n,_):=hg2
   clear hg1 hg2 hl16
   go_wp2_with(first|refine wpLr rfl 27 _ rfl _ rfl _ (Iv .u8 (gR key zs)) _ _ (HG2.out _ _) underlying27 rfl hit ?_ |refine wpList_store_row rfl 27 _ _ rfl _ (Iv .u8 (gR key zs)) rfl rfl _ _ (HG1.out _ _ _) hit (by simp[aD,gR,gI]) (aG _ _) ?_)
   refine oT (cs:=Iv .u8 (gR key zs)) results140 ?_ (setRow_heap _ _ _ _ _ _ (HG1.out _ _ _)) underlying27 hit ?_
   ·rfl
   ·exact⟨rfl,aM ((bDr (hbw3.alloc (by omega) _) _).alloc (by simp<;>omega) _) _ (by omega) _⟩
def OV (d:List Int):Nat→Int
 | 0=>0
 | k+1=>(OV d k+d.getD k 0) / 256
def RJ (d:List Int) (k:Nat):Int:=(OV d k+d.getD k 0)%256
def jN (d:List Int):Prop:=∀i,0≤d.getD i 0∧d.getD i 0≤1099511627776
theorem XC {d:List Int} (h:jN d):∀k,0≤OV d k∧OV d k≤1099511627776
 | 0=>by simp[OV]
 | k+1=>by
   have h1:=XC h k
   have h2:=h k
   simp only[OV]
   omega
def gE (d:List Int) (n:Nat):List Int:=(List.range n).map (RJ d)
theorem iU (d:List Int) (n:Nat):(gE d n).length=n:=by simp[gE]
theorem DS (d:List Int) (n:Nat):gE d (n+1)=gE d n++[RJ d n]:=by simp[gE,List.range_succ]
theorem nT (d:List Int) (n:Nat):aE (gE d n):=by
 intro i
 simp only[gE,List.getD_eq_getElem?_getD,List.getElem?_map]
 by_cases h:i<n
 ·rw[List.getElem?_range h]
  simp only[Option.map_some,Option.getD_some,RJ]
  omega
 ·rw[List.getElem?_eq_none (by simp;omega)]
  simp
theorem eW:∀(l r:List Int),aR (l++r)=aR l+256^l.length*aR r
 | [],r=>by simp[aR]
 | x::l,r=>by
   have:=eW l r
   simp only[cA,aR,this,List.length_cons,Int.pow_succ,Int.mul_add]
   rw[←Int.mul_assoc,Int.mul_comm 256 (256^l.length)]
   omega
def zE (d:List Int):Nat→Int
 | 0=>0
 | n+1=>zE d n+256^n*d.getD n 0
theorem AR (d:List Int):∀n,aR (gE d n)+256^n*OV d n=zE d n
 | 0=>by simp[gE,aR,zE,OV]
 | n+1=>by
   have ih:=AR d n
   rw[DS,eW,iU]
   simp only[aR,zE,←ih,RJ,OV,Int.pow_succ,Int.mul_assoc,Int.mul_zero,Int.add_zero]
   rw[Int.add_assoc,Int.add_assoc,←Int.mul_add,←Int.mul_add]
   congr 2
   omega
theorem xY (d:List Int):∀n,zE d n=aR (d.take n)
 | 0=>by simp[zE,aR]
 | n+1=>by
   rw[zE,xY d n]
   by_cases h:n<d.length
   ·rw[tQ h,eW,List.length_take,Nat.min_eq_left (by omega)]
    simp[aR,h]
   ·rw[List.take_of_length_le (by omega),List.take_of_length_le (by omega)]
    simp[List.getD_eq_getElem?_getD,List.getElem?_eq_none (show d.length≤n by omega)]
theorem U5 (d:List Int) (n:Nat) (h:d.length≤n):zE d n=aR d:=by rw[xY,List.take_of_length_le h]
theorem yB (n:Nat):(0:Int)<256^n:=Int.pow_pos (by decide)
theorem nK:∀(l:List Int),aE l→0≤aR l∧aR l<256^l.length
 | [],_=>by simp[aR]
 | x::l,h=>by
   have h0:0≤x∧x≤255:=h 0
   have ih:=nK l (fun i=>by have:=h (i+1);simpa using this)
   simp only[aR,List.length_cons,Int.pow_succ]
   omega
theorem IN (d:List Int) (hd:jN d) (n:Nat):aR (gE d n)=zE d n%256^n:=by
 have h:=AR d n
 have hb:=nK _ (nT d n)
 rw[iU]at hb
 rw[←h,Int.add_mul_emod_self_left]
 exact(Int.emod_eq_of_lt hb.1 hb.2).symm
theorem xQ (d:List Int) (hd:jN d) (n:Nat) (hl:d.length≤n) (h0:0≤aR d) (h:aR d<256^n):aR (gE d n)=aR d:=by
 rw[IN d hd n,U5 d n hl]
 exact Int.emod_eq_of_lt h0 h
def oJ:List Int→List Int
 | []=>[]
 | x::r=>(x / 4+(r.headD 0%4)*64)::oJ r
theorem qX:∀l,(oJ l).length=l.length
 | []=>rfl
 | x::r=>by simp[oJ,qX r]
theorem I8:∀(r:List Int),aR r%4=r.headD 0%4
 | []=>rfl
 | x::r=>by simp[aR];omega
theorem FO:∀l,aR (oJ l)=aR l / 4
 | []=>rfl
 | x::r=>by
   have ih:=FO r
   have hh:=I8 r
   simp only[oJ,aR,ih]
   omega
theorem FN:∀(l:List Int) (i:Nat),i<l.length→(oJ l).getD i 0=l.getD i 0 / 4+(l.getD (i+1) 0%4)*64
 | [],i,h=>by simp at h
 | x::r,0,_=>by cases r<;>simp[oJ]
 | x::r,i+1,h=>by
   have:=FN r i (by simpa using h)
   simpa[oJ]using this
def jP:List Int→List Int→List Int
 | l,[]=>l
 | [],y::r=>(5*y)::jP [] r
 | x::l,y::r=>(x+5*y)::jP l r
theorem xN:∀l r,aR (jP l r)=aR l+5*aR r
 | l,[]=>by simp[jP,aR]
 | [],y::r=>by
   have:=xN [] r
   simp only[jP,aR,this]
   omega
 | x::l,y::r=>by
   have:=xN l r
   simp only[jP,aR,this]
   omega
def rW (d:List Int):List Int:=jP ((d.take 16)++[d.getD 16 0%4]) (oJ (d.drop 16))
theorem PJ (d:List Int) (hb:aE d) (h:17≤d.length):aR (rW d)=aR d%1361129467683753853853498429727072845824+5*(aR d / 1361129467683753853853498429727072845824):=by
 have hsplit:aR d=aR (d.take 16)+340282366920938463463374607431768211456*aR (d.drop 16):=by
  have:=eW (d.take 16) (d.drop 16)
  rw[List.take_append_drop,List.length_take,Nat.min_eq_left (by omega)]at this
  exact this
 have ht:=nK (d.take 16) (dB hb 16)
 rw[List.length_take,Nat.min_eq_left (by omega)]at ht
 have hh:=I8 (d.drop 16)
 have hd16:(d.drop 16).headD 0=d.getD 16 0:=by
  rw[List.headD_eq_head?_getD,List.head?_drop,List.getD_eq_getElem?_getD]
 rw[hd16]at hh
 unfold rW
 rw[xN,eW,FO,List.length_take,Nat.min_eq_left (by omega)]
 simp only[aR]
 have hpow:(256:Int)^16=340282366920938463463374607431768211456:=by decide
 rw[hpow]at*
 omega
def Rd (w:World) (a:Option Addr) (d:List Int):Prop:=∀i,i<d.length→∃b o,a=some ⟨b,o,none⟩∧w.cell? ⟨b,o+i,none⟩=some (.int .i64 (d.getD i 0))
theorem pO:(prog.info? 3).map (fun i=>(i.zero,i.size,i.bytes))=some (some (.int .i64 0),1,8):=by kernel_rfl
set_option maxHeartbeats 4000000 in
theorem TJ (d:List Int) (m n:Nat) (hm:d.length=m) (hd:jN d) (hn:n≤40) (a:Option Addr) (cap:Nat) (w:World) (hr:Rd w a d) (hm2:m≤1000):
 Calls prog 104 #[.slice a m cap,.int .i64 n] w fun e w'=>∃v,e=.returned v∧cC .i64 3 w.heap.size w' v (gE d n)∧Below w.heap.size w w':=by
 go_enter func104,ntmps104
 go_wp2
 go_loopw [5,6,7] (fun v c i wr=>∃k:Nat,k≤n∧i=.int .i64 k∧c=.int .i64 (OV d k)∧cC .i64 3 w.heap.size wr v (gE d k)∧Below w.heap.size w wr) (fun _ _ i _=>n - (intOf i).toNat)
 case atStart=>
  exact⟨0,Nat.zero_le _,rfl,rfl,cC.nil w (nQ _),(Below.refl _ _).alloc (nQ _) _⟩
 case round=>
  obtain⟨k,hk,rfl,rfl,hown,hbel⟩:=hrel
  have hc:=XC hd k
  have hdk:=hd k
  have HS:Hid (OV d (k+1)=(OV d k+d.getD k 0) / 256∧gE d (k+1)=gE d k++[(OV d k+d.getD k 0)%256]):=⟨rfl,DS d k⟩
  obtain⟨hc0,hc1⟩:=hc
  obtain⟨hd0,hd1⟩:=hdk
  have hlen:=iU d k
  have HL:Hid ((gE d k).length≤100000000):=by show _≤_;omega
  have hsz:=hbel.size
  clear hlen
  by_cases hlt:k<n
  ·by_cases hkm:k<m
   ·obtain⟨b,o,rfl,hcell⟩:=hr k (by omega)
    have hck:wr.cell? ⟨b,o+k,none⟩=some (.int .i64 (d.getD k 0)):=(hbel.cell (p:=⟨b,o+k,none⟩) (wJ _ _ hcell)).trans hcell
    generalize d.getD k 0=x at*
    generalize hcc:OV d k=c at*
    clear hr hcell hd hcc
    go_wp2_with(at_builtin;refine cM .i64 180 3 8 underlying180 pO (by decide) rfl (.tmp 24) (.tmp 27) rfl w.heap.size w wr _ (gE d k) _ rfl rfl hown hbel hsz HL.out ?_;intro v' w' hown' hbel' _ _)
    go_roundw
    case rel=>exact⟨k+1,by omega,by go_num,by rw[HS.out.1],by rw[HS.out.2];exact hown',hbel'⟩
    case measure=>simp[intOf];omega
   ·have hx:d.getD k 0=0:=by simp[List.getD_eq_getElem?_getD,List.getElem?_eq_none (show d.length≤k by omega)]
    have HX:Hid (d.getD k 0=0):=hx
    generalize hcc:OV d k=c at*
    clear hr hd hcc hx
    go_wp2_with(at_builtin;refine cM .i64 180 3 8 underlying180 pO (by decide) rfl (.tmp 24) (.tmp 27) rfl w.heap.size w wr _ (gE d k) _ rfl rfl hown hbel hsz HL.out ?_;intro v' w' hown' hbel' _ _)
    go_roundw
    case rel=>exact⟨k+1,by omega,by go_num,by rw[HS.out.1,HX.out,Int.add_zero],by rw[HS.out.2,HX.out,Int.add_zero];exact hown',hbel'⟩
    case measure=>simp[intOf];omega
  ·go_wp2
   go_ret
   obtain rfl:k=n:=by omega
   exact⟨_,rfl,hown,hbel⟩
theorem QQ (D:List Int) (h:D.length=40) (y:Int):(D.take 17).set 16 y=D.take 16++[y]:=by
 rw[tQ (by omega),List.set_append_right _ _ (by rw[List.length_take];omega),List.length_take,Nat.min_eq_left (by omega)]
 rfl
theorem vZ (l:List Int) (j:Nat) (h:j<l.length):l.take (j+1)=l.take j++[l.getD j 0]:=by
 rw[tQ h]
 simp[h]
theorem eT:∀l r,(jP l r).length=max l.length r.length
 | l,[]=>by simp[jP]
 | [],y::r=>by simp[jP,eT [] r]
 | x::l,y::r=>by simp[jP,eT l r]
theorem nN:∀(l r:List Int) (i:Nat),(jP l r).getD i 0=l.getD i 0+5*r.getD i 0
 | l,[],i=>by simp[jP]
 | [],y::r,0=>by simp[jP]
 | [],y::r,i+1=>by
   have:=nN [] r i
   simpa[jP]using this
 | x::l,y::r,0=>by simp[jP]
 | x::l,y::r,i+1=>by
   have:=nN l r i
   simpa[jP]using this
theorem MJ {l r:List Int} (hl:l.length=r.length) (h:∀i,i<l.length→l.getD i 0=r.getD i 0):l=r:=by
 apply List.ext_getElem hl
 intro i h1 h2
 have:=h i h1
 simpa[h1,h2]using this
theorem pL (l:List Int) (i j:Nat) (y:Int) (hj:j<l.length):(l.set j y).getD i 0=if i=j then y else l.getD i 0:=by
 simp only[List.getD_eq_getElem?_getD,List.getElem?_set]
 by_cases h:j=i
 ·subst h;simp[hj]
 ·simp[h,Ne.symm h]
theorem uH (l r:List Int) (i:Nat):(l++r).getD i 0=if i<l.length then l.getD i 0 else r.getD (i - l.length) 0:=by
 simp only[List.getD_eq_getElem?_getD,List.getElem?_append]
 split<;>rfl
theorem WO (l r:List Int) (j:Nat) (hj:j<l.length) (hr:j<r.length):jP l (r.take (j+1))=(jP l (r.take j)).set j (l.getD j 0+5*r.getD j 0):=by
 have hlen:(jP l (r.take j)).length=l.length:=by rw[eT,List.length_take];omega
 apply MJ
 ·rw[lJ,eT,eT,List.length_take,List.length_take];omega
 ·intro i hi
  rw[pL _ _ _ _ (by omega),nN,nN,cT,cT]
  by_cases h1:i=j
  ·subst h1;simp
  ·rw[if_neg h1]
   by_cases h2:i<j
   ·rw[if_pos h2,if_pos (by omega)]
   ·rw[if_neg h2,if_neg (by omega)]
theorem SZ (l r:List Int) (j:Nat) (hj:l.length≤j) (hr:j<r.length):jP l (r.take (j+1))=jP l (r.take j)++[5*r.getD j 0]:=by
 have hlen:(jP l (r.take j)).length=j:=by rw[eT,List.length_take];omega
 apply MJ
 ·rw[lQ,eT,hlen,List.length_take];simp;omega
 ·intro i hi
  rw[eT,List.length_take]at hi
  rw[uH,hlen,nN,cT]
  by_cases h2:i<j
  ·rw[if_pos h2,if_pos (by omega),nN,cT,if_pos h2]
  ·obtain rfl:i=j:=by omega
   rw[if_neg h2,if_pos (by omega)]
   simp[List.getD_eq_getElem?_getD,List.getElem?_eq_none hj]
theorem AW (D:List Int) (h:D.length=40):(rW D).length=24:=by
 unfold rW
 rw[eT,qX,lQ,List.length_take,List.length_drop]
 simp;omega
theorem SQ (D:List Int) (hb:aE D) (i:Nat):0≤(oJ D).getD i 0∧(oJ D).getD i 0≤255:=by
 by_cases h:i<D.length
 ·rw[FN D i h]
  have h1:=hb i
  have h2:=hb (i+1)
  omega
 ·simp[List.getD_eq_getElem?_getD,List.getElem?_eq_none (show(oJ D).length≤i by rw[qX];omega)]
theorem X9 (D:List Int) (hb:aE D) (i:Nat):0≤(D.take 16++[D.getD 16 0%4]).getD i 0∧(D.take 16++[D.getD 16 0%4]).getD i 0≤255:=by
 rw[uH]
 have h1:=dB hb 16 i
 have h16:=hb 16
 split
 ·exact h1
 ·generalize i - (D.take 16).length=q
  match q with
  | 0=>simp;omega
  | q+1=>simp
theorem AV (D:List Int) (hb:aE D):jN (rW D):=by
 intro i
 unfold rW
 rw[nN]
 have h1:=X9 D hb i
 have h2:=SQ (D.drop 16) (cE hb 16) i
 omega
def dS (d:List Int):Nat→List Int
 | 0=>gE d 40
 | k+1=>gE (rW (dS d k)) 40
theorem kC (d:List Int):∀k,(dS d k).length=40
 | 0=>iU _ _
 | _+1=>iU _ _
theorem lF (d:List Int):∀k,aE (dS d k)
 | 0=>nT _ _
 | _+1=>nT _ _
def mD (D:List Int):List Int:=gE (D.set 0 (D.getD 0 0+5)) 40
def oP (d:List Int):List Int:=if 4≤(mD (dS d 4)).getD 16 0 then((mD (dS d 4)).set 16 ((mD (dS d 4)).getD 16 0 - 4)).take 17 else(dS d 4).take 17
theorem FG {D:List Int} (hb:aE D) (hl:D.length=40):jN (D.set 0 (D.getD 0 0+5)):=by
 intro i
 rw[pL _ _ _ _ (by omega)]
 have h0:=hb 0
 have hi:=hb i
 split<;>omega
theorem I9 (D:List Int):aE (mD D):=nT _ _
theorem xZ (D:List Int):(mD D).length=40:=iU _ _
theorem pV (l:List Int) (n:Nat) (h:n≤l.length):aR l=aR (l.take n)+256^n*aR (l.drop n):=by
 have:=eW (l.take n) (l.drop n)
 rw[List.take_append_drop,List.length_take,Nat.min_eq_left h]at this
 exact this
theorem A7 (l:List Int) (h:aE l):0≤aR l:=(nK l h).1
theorem uQ (l:List Int) (j:Nat) (y:Int) (h:j<l.length):aR (l.set j y)=aR l+256^j*(y - l.getD j 0):=by
 rw[pV l j (by omega),pV (l.set j y) j (by rw[lJ];omega)]
 rw[List.take_set_of_le (nQ j),List.drop_set,if_neg (by omega),Nat.sub_self]
 have hd:l.drop j=l.getD j 0::l.drop (j+1):=by
  rw[List.drop_eq_getElem_cons h]
  simp[h]
 rw[hd]
 simp only[sY,aR,Int.mul_add,Int.mul_sub]
 omega
theorem SF:(256:Int)^16=340282366920938463463374607431768211456:=by decide
theorem ae6:(256:Int)^17=87112285931760246646623899502532662132736:=by decide
theorem NT:(256:Int)^40=2135987035920910082395021706169552114602704522356652769947041607822219725780640550022962086936576:=by decide
theorem vS (D:List Int) (hb:aE D) (hl:D.length=40):aR (gE (rW D) 40)=aR D%1361129467683753853853498429727072845824+5*(aR D / 1361129467683753853853498429727072845824):=by
 have hin:=nK D hb
 rw[hl,NT]at hin
 have hf:=PJ D hb (by omega)
 rw[xQ (rW D) (AV D hb) 40 (by rw[AW D hl];decide) (by rw[hf];omega) (by rw[hf,NT];omega),hf]
theorem agF (d:List Int) (hd:jN d) (hl:d.length≤40) (h0:0≤aR d) (h:aR d<256^40):
 ∃q,aR (dS d 4)=aR d - gS*q∧0≤aR (dS d 4)∧aR (dS d 4)<1361129467683753853853498429727072845824:=by
 have e0:aR (dS d 0)=aR d:=xQ d hd 40 hl h0 h
 have e1:=vS (dS d 0) (lF d 0) (kC d 0)
 have e2:=vS (dS d 1) (lF d 1) (kC d 1)
 have e3:=vS (dS d 2) (lF d 2) (kC d 2)
 have e4:=vS (dS d 3) (lF d 3) (kC d 3)
 rw[show gE (rW (dS d 0)) 40=dS d 1 from rfl]at e1
 rw[show gE (rW (dS d 1)) 40=dS d 2 from rfl]at e2
 rw[show gE (rW (dS d 2)) 40=dS d 3 from rfl]at e3
 rw[show gE (rW (dS d 3)) 40=dS d 4 from rfl]at e4
 rw[NT]at h
 rw[e0]at e1
 generalize aR (dS d 1)=n1 at*
 generalize aR (dS d 2)=n2 at*
 generalize aR (dS d 3)=n3 at*
 generalize aR (dS d 4)=n4 at*
 generalize aR d=n0 at*
 refine⟨n0 / 1361129467683753853853498429727072845824+n1 / 1361129467683753853853498429727072845824+n2 / 1361129467683753853853498429727072845824+n3 / 1361129467683753853853498429727072845824,?_⟩
 unfold gS
 omega
theorem Y6 (F:List Int) (hb:aE F) (hl:F.length=40) (N:Int) (hN:aR F=N) (h:N<87112285931760246646623899502532662132736):aR (F.take 17)=N∧F.getD 16 0=N / 340282366920938463463374607431768211456:=by
 have h17:=pV F 17 (by omega)
 have hb17:=A7 _ (cE hb 17)
 have ht:=A7 _ (dB hb 17)
 rw[ae6,hN]at h17
 have h16:=pV F 16 (by omega)
 have hd:F.drop 16=F.getD 16 0::F.drop 17:=by
  rw[List.drop_eq_getElem_cons (by omega)]
  simp[show 16<F.length by omega]
 have ht16:=nK (F.take 16) (dB hb 16)
 rw[List.length_take,hl,Nat.min_eq_left (by omega),SF]at ht16
 rw[hd,SF,hN]at h16
 simp only[aR]at h16
 omega
theorem I7 (d:List Int) (hd:jN d) (hl:d.length≤40) (h0:0≤aR d) (h:aR d<256^40):
 aR (oP d)=aR d%gS∧aE (oP d)∧(oP d).length=17:=by
 obtain⟨q,hq,hq0,hq1⟩:=agF d hd hl h0 h
 have hDb:=lF d 4
 have hDl:=kC d 4
 unfold oP
 generalize dS d 4=D at*
 have hset:aR (D.set 0 (D.getD 0 0+5))=aR D+5:=by
  rw[uQ D 0 _ (by omega)]
  simp
  omega
 have hF:aR (mD D)=aR D+5:=by
  unfold mD
  rw[xQ _ (FG hDb hDl) 40 (by rw[lJ];omega) (by rw[hset];omega) (by rw[hset,NT];omega),hset]
 have hFb:=I9 D
 have hFl:=xZ D
 generalize mD D=F at*
 have tD:=Y6 D hDb hDl (aR D) rfl (by omega)
 have tF:=Y6 F hFb hFl (aR D+5) hF (by omega)
 have b16:=hFb 16
 by_cases h4:4≤F.getD 16 0
 ·rw[if_pos h4]
  have hlen:((F.set 16 (F.getD 16 0 - 4)).take 17).length=17:=by rw[List.length_take,lJ,hFl];rfl
  refine⟨?_,?_,hlen⟩
  ·have e:(F.set 16 (F.getD 16 0 - 4)).take 17=(F.take 17).set 16 (F.getD 16 0 - 4):=by rw[List.take_set]
   have hg:(F.take 17).getD 16 0=F.getD 16 0:=by rw[cT,if_pos (by decide)]
   rw[e,uQ _ _ _ (by rw[List.length_take,hFl];decide),tF.1,hg,SF]
   unfold gS at*
   omega
  ·intro i
   rw[cT]
   split
   ·rw[pL _ _ _ _ (by omega)]
    have hi:=hFb i
    split<;>omega
   ·omega
 ·rw[if_neg h4]
  refine⟨?_,dB hDb 17,by rw[List.length_take,hDl];rfl⟩
  rw[tD.1]
  unfold gS at*
  omega
theorem AD:prog.follows .mixedOrders=true:=by kernel_rfl
theorem yP (d:List Int) (m n:Nat) (z:Int) (hz:z=n) (hm:d.length=m) (hd:jN d) (hn:n≤40) (a:Option Addr) (cap:Nat) (w:World) (hr:Rd w a d) (hm2:m≤1000):
 Calls prog 104 #[.slice a m cap,.int .i64 z] w fun e w'=>∃v,e=.returned v∧cC .i64 3 w.heap.size w' v (gE d n)∧Below w.heap.size w w':=by
 subst hz
 exact TJ d m n hm hd hn a cap w hr hm2
theorem cC.held {k:IntKind} {e:TypeId} {base:Nat} {w:World} {v:Value} {l:List Int} (h:cC k e base w v l) (n:Nat) (hn:l.length=n) (h0:0<n):
 ∃g cap,v=.slice (some ⟨g,0,none⟩) n cap∧base≤g∧g<w.heap.size∧n≤cap∧cap≤9223372036854775807∧(∀i,i<n→w.cell? ⟨g,i,none⟩=some (.int k (l.getD i 0)))∧(∀i,w.frozen? ⟨g,i,none⟩=false):=by
 subst hn
 rcases h.at with ⟨_,hl⟩|h
 ·rw[hl]at h0;simp at h0
 ·exact h
theorem cC.rd {base:Nat} {w:World} {g n cap:Nat} {l:List Int} (h:cC .i64 3 base w (.slice (some ⟨g,0,none⟩) n cap) l):n=l.length∧Rd w (some ⟨g,0,none⟩) l:=by
 rcases h.at with ⟨hv,_⟩|⟨g',cap',hv,_,_,_,_,hc,_⟩
 ·cases hv
 ·simp at hv
  obtain⟨rfl,rfl,rfl⟩:=hv
  exact⟨rfl,fun i hi=>⟨g,0,rfl,by rw[Nat.zero_add];exact hc i hi⟩⟩
set_option maxRecDepth 100000 in
set_option maxHeartbeats 8000000 in
theorem RV (d:List Int) (m:Nat) (hm:d.length=m) (hd:jN d) (a:Option Addr) (cap:Nat) (w:World) (hr:Rd w a d) (hm2:m≤40):
 Calls prog 103 #[.slice a m cap] w fun e w'=>∃v,e=.returned v∧cC .i64 3 w.heap.size w' v (oP d)∧Below w.heap.size w w':=by
 go_enter func103,ntmps103
 go_wp2_with fail
 refine(yP d m 40 40 rfl hm hd (by decide) a cap w hr (by omega)).mono ?_
 rintro e w1 ⟨v1,rfl,hown1,hbel1⟩
 clear hr hd
 go_wp2
 go_loopw [0,3] (fun v i wr=>∃k:Nat,k≤4∧i=.int .i64 k∧cC .i64 3 w.heap.size wr v (dS d k)∧Below w.heap.size w wr) (fun _ i _=>4 - (intOf i).toNat)
 case atStart=>exact⟨0,by omega,rfl,hown1,hbel1⟩
 case round=>
  obtain⟨k,hk,rfl,hown,hbel⟩:=hrel
  have hDl:=kC d k
  have hDb:=lF d k
  have modB:∀i,0≤(dS d k).getD i 0∧(dS d k).getD i 0≤255:=hDb
  have HF:Hid (dS d (k+1)=gE (rW (dS d k)) 40):=rfl
  have hD4:∀D,D=dS d k→k=4→oP d=if 4≤(mD D).getD 16 0 then((mD D).set 16 ((mD D).getD 16 0 - 4)).take 17 else D.take 17:=by
   intro D hD h4
   subst h4
   rw[hD]
   rfl
  have HMD:Hid (k=4→oP d=if 4≤(mD (dS d k)).getD 16 0 then((mD (dS d k)).set 16 ((mD (dS d k)).getD 16 0 - 4)).take 17 else(dS d k).take 17):=hD4 _ rfl
  clear hD4
  generalize dS d k=D at*
  rcases hown.at with ⟨hv,hl⟩|⟨g,cap,rfl,hg,hgs,hcap,hcap2,hc,hf⟩
  ·rw[hl]at hDl;simp at hDl
  have HDL:Hid (D.length=40):=hDl
  rw[hDl]at hcap hc hown⊢
  clear hDl
  by_cases hlt:k<4
  ·have c16:=hc 16 (by omega)
   have b16:=hDb 16
   obtain⟨b0,b1⟩:=b16
   have HC:Hid (∀i,i<40→wr.cell? ⟨g,i,none⟩=some (.int .i64 (D.getD i 0))):=hc
   have HO:Hid (cC .i64 3 wr.heap.size (wr.alloc (.cells #[] 3)) (.slice (some ⟨wr.heap.size,0,none⟩) 0 0) []):=cC.nil wr (nQ _)
   have HB:Hid (Below wr.heap.size wr (wr.alloc (.cells #[] 3))):=(Below.refl _ _).alloc (nQ _) _
   have HN:Hid (∀j,j<17→(wr.alloc (.cells #[] 3)).cell? ⟨g,0+j,none⟩=some (.int .i64 ((D.take 17).getD j 0))):=by
    intro j hj
    rw[World.cell?_alloc_past _ _ _ hgs,Nat.zero_add,HC.out j (by omega),cT,if_pos hj]
   have HL:Hid ((D.take 17).length=17):=by show _=_;rw[List.length_take,HDL.out];rfl
   generalize hx16:D.getD 16 0=x16 at*
   have HX16:Hid (D.getD 16 0=x16):=hx16
   clear hx16
   clear hc hDb
   go_wp2_with(at_builtin;refine dG .i64 180 3 8 underlying180 pO (by decide) rfl (.tmp 16) (.tmp 18) rfl wr.heap.size wr _ _ [] g 0 17 _ (D.take 17) HL.out rfl rfl HO.out HB.out (by simp) (by simp) HN.out ?_;intro v2 w2 hown2 hbel2 _ _;obtain⟨g2,cap2,rfl,q1,q2,q3,q4,q5,q6⟩:=hown2.held 17 (by exact HL.out) (by decide);have c16b:=(hbel2.cell (p:=⟨g,16,none⟩) hgs).trans c16;have l16:=q5 16 (by decide);have f16:=q6 16;have HQ:Hid (∀i,i<17→w2.cell? ⟨g2,i,none⟩=some (.int .i64 (([]++D.take 17).getD i 0))):=q5;have HF2:Hid (∀i,w2.frozen? ⟨g2,i,none⟩=false):=q6;clear q5 q6)
   have HLs:Hid (([]++D.take 17).set 16 (x16%4)=D.take 16++[x16%4]):=QQ D HDL.out _
   have hlow:cC .i64 3 wr.heap.size (w2.setCell ⟨g2,16,none⟩ (.int .i64 (x16%4))) (.slice (some ⟨g2,0,none⟩) 17 cap2) (D.take 16++[x16%4]):=by
    have:=hown2.set 16 (x16%4)
    rw[HLs.out]at this
    exact this
   have hgr3:=BY w2 g2 16 (.int .i64 (x16%4))
   have hb3:Below wr.heap.size wr (w2.setCell ⟨g2,16,none⟩ (.int .i64 (x16%4))):=hbel2.setCell (by exact q1) _
   have hcD:∀i,i<40→(w2.setCell ⟨g2,16,none⟩ (.int .i64 (x16%4))).cell? ⟨g,i,none⟩=some (.int .i64 (D.getD i 0)):=fun i hi=>(hb3.cell (p:=⟨g,i,none⟩) hgs).trans (HC.out i hi)
   have hs3:(w2.setCell ⟨g2,16,none⟩ (.int .i64 (x16%4))).heap.size=w2.heap.size:=by simp
   have hs2:=hbel2.size
   generalize w2.setCell ⟨g2,16,none⟩ (.int .i64 (x16%4))=W3 at*
   have HcD:Hid (∀i,i<40→W3.cell? ⟨g,i,none⟩=some (.int .i64 (D.getD i 0))):=hcD
   have Hlow:Hid (cC .i64 3 wr.heap.size W3 (.slice (some ⟨g2,0,none⟩) 17 cap2) (D.take 16++[x16%4])):=hlow
   have HS3:Hid (W3.heap.size=w2.heap.size):=hs3
   have hq2:g2<W3.heap.size:=by omega
   have hgW:g<W3.heap.size:=by omega
   rw[←hs3]
   clear hcD hlow hs3 c16b l16 f16 HQ HF2 hgr3 hown2 hbel2 c16 HN HO HB
   have HSH:Hid (∀j,j<24→(oJ (D.drop 16)).getD j 0=D.getD (16+j) 0 / 4+(D.getD (16+j+1) 0%4)*64):=by
    intro j hj
    rw[FN _ _ (by rw[List.length_drop,HDL.out];omega)]
    simp only[List.getD_eq_getElem?_getD,List.getElem?_drop]
    rfl
   have HSL:Hid ((oJ (D.drop 16)).length=24):=by
    have h:=qX (D.drop 16)
    rw[List.length_drop,HDL.out]at h
    exact h
   have HDB:Hid (∀i,0≤D.getD i 0∧D.getD i 0≤255):=modB
   have HD40:Hid (D.getD 40 0=0):=by
    have hle:D.length≤40:=Nat.le_of_eq HDL.out
    show D.getD 40 0=0
    rw[List.getD_eq_getElem?_getD,List.getElem?_eq_none hle]
    rfl
   clear modB
   go_loopw [5,6] (fun v i wx=>∃j:Nat,j≤24∧i=.int .i64 ((16+j:Nat):Int)∧cC .i64 3 W3.heap.size wx v ((oJ (D.drop 16)).take j)∧Below W3.heap.size W3 wx) (fun _ i _=>40 - (intOf i).toNat)
   case atStart=>exact⟨0,by omega,rfl,cC.nil W3 (nQ _),(Below.refl _ _).alloc (nQ _) _⟩
   case round=>
    obtain⟨j,hj,rfl,hownH,hbelH⟩:=hrel
    have hsx:=hbelH.size
    by_cases hj24:j<24
    ·have cj:=(hbelH.cell (p:=⟨g,16+j,none⟩) hgW).trans (HcD.out (16+j) (by omega))
     have bj:=HDB.out (16+j)
     have bj1:=HDB.out (16+j+1)
     have hval:=HSH.out j hj24
     have HTP:Hid ((oJ (D.drop 16)).take (j+1)=(oJ (D.drop 16)).take j++[D.getD (16+j) 0 / 4+(D.getD (16+j+1) 0%4)*64]):=by
      show _=_
      rw[vZ _ _ (by rw[HSL.out];exact hj24),hval]
     have HTL:Hid (((oJ (D.drop 16)).take j).length≤100000000):=by show _≤_;rw[List.length_take];omega
     obtain⟨p0,p1⟩:=bj
     obtain⟨p2,p3⟩:=bj1
     clear hval
     by_cases hlast:16+j+1<40
     ·have cj1:=(hbelH.cell (p:=⟨g,16+j+1,none⟩) hgW).trans (HcD.out (16+j+1) (by omega))
      generalize D.getD (16+j) 0=x at*
      generalize D.getD (16+j+1) 0=y at*
      go_wp2_with(at_builtin;refine cM .i64 180 3 8 underlying180 pO (by decide) rfl (.tmp 44) (.tmp 53) rfl W3.heap.size W3 _ _ ((oJ (D.drop 16)).take j) _ rfl rfl hownH hbelH hsx HTL.out ?_;intro v' w' hown' hbel' _ _)
      go_roundw
      case rel=>exact⟨j+1,by omega,by go_num,by rw[HTP.out];exact hown',hbel'⟩
      case measure=>simp[intOf];omega
     ·obtain rfl:j=23:=by omega
      have hy:D.getD (16+23+1) 0=0:=HD40.out
      rw[hy]at HTP p2 p3
      generalize D.getD (16+23) 0=x at*
      go_wp2_with(at_builtin;refine cM .i64 180 3 8 underlying180 pO (by decide) rfl (.tmp 44) (.tmp 53) rfl W3.heap.size W3 _ _ ((oJ (D.drop 16)).take 23) _ rfl rfl hownH hbelH hsx HTL.out ?_;intro v' w' hown' hbel' _ _)
      go_roundw
      case rel=>exact⟨24,by omega,by go_num,by rw[HTP.out,show x / 4+0%4*64=x / 4 by omega];exact hown',hbel'⟩
      case measure=>simp[intOf]
    ·obtain rfl:j=24:=by omega
     rw[show((16+24:Nat):Int)=40 from rfl]
     rw[List.take_of_length_le (by rw[HSL.out];exact nQ _)]at hownH
     obtain⟨g5,cap5,rfl,t1,t2,t3,t4,t5,t6⟩:=hownH.held 24 HSL.out (by decide)
     have HH5:Hid (∀i,i<24→wr.cell? ⟨g5,i,none⟩=some (.int .i64 ((oJ (D.drop 16)).getD i 0))):=t5
     have hlow4:cC .i64 3 w.heap.size wr (.slice (some ⟨g2,0,none⟩) 17 cap2) (D.take 16++[x16%4]):=(Hlow.out.later hbelH).mono (by have:=hbel.size;omega)
     have hbel4:Below w.heap.size w wr:=(hbel.trans (hb3.mono hbel.size)).trans (hbelH.mono (by have:=hbel.size;omega))
     have HHin:Hid (∀i,0≤(oJ (D.drop 16)).getD i 0∧(oJ (D.drop 16)).getD i 0≤255):=SQ (D.drop 16) (cE HDB.out 16)
     have HLin:Hid (∀i,0≤(D.take 16++[x16%4]).getD i 0∧(D.take 16++[x16%4]).getD i 0≤255):=by
      rw[←HX16.out]
      exact X9 D HDB.out
     have HLL:Hid ((D.take 16++[x16%4]).length=17):=by
      show _=_
      rw[lQ,List.length_take,HDL.out]
      rfl
     have HFD:Hid (rW D=jP (D.take 16++[x16%4]) (oJ (D.drop 16))):=by rw[←HX16.out];rfl
     have HFg:Hid (jN (rW D)∧(rW D).length=24):=⟨AV D HDB.out,AW D HDL.out⟩
     have HG5:Hid (g2≠g5):=by show g2≠g5;omega
     generalize oJ (D.drop 16)=H at*
     generalize D.take 16++[x16%4]=L at*
     clear t5 t6 hownH hbelH
     go_wp2
     go_loopw [4,57] (fun v i wy=>∃j:Nat,j≤24∧i=.int .i64 j∧cC .i64 3 w.heap.size wy v (jP L (H.take j))∧v.ownBlock≠some g5∧g5<wy.heap.size∧(∀i,i<24→wy.cell? ⟨g5,i,none⟩=some (.int .i64 (H.getD i 0)))∧Below w.heap.size w wy) (fun _ i _=>24 - (intOf i).toNat)
     case atStart=>
      refine⟨0,by omega,rfl,?_,?_,t2,HH5.out,hbel4⟩
      ·have:jP L (H.take 0)=L:=by simp[jP]
       rw[this]
       exact hlow4
      ·intro h
       simp[Value.ownBlock]at h
       exact HG5.out h
     case round=>
      obtain⟨j,hj,rfl,hownL,hneL,hg5,hcH,hbelL⟩:=hrel
      have hsy:=hbelL.size
      by_cases hj24:j<24
      ·have cH:=hcH j hj24
       have bH:=HHin.out j
       have bL:=HLin.out j
       obtain⟨p0,p1⟩:=bH
       obtain⟨p2,p3⟩:=bL
       have HcH:Hid (∀i,i<24→wr.cell? ⟨g5,i,none⟩=some (.int .i64 (H.getD i 0))):=hcH
       by_cases h17:j<17
       ·have hlen:(jP L (H.take j)).length=17:=by rw[eT,HLL.out,List.length_take];omega
        obtain⟨g4,cap4,rfl,o1,o2,o3,o4,o5,o6⟩:=hownL.held 17 hlen (by decide)
        have cL:=o5 j h17
        have fL:=o6 j
        rw[nN,cT,if_neg (by omega),Int.mul_zero,Int.add_zero]at cL
        have HST:Hid (jP L (H.take (j+1))=(jP L (H.take j)).set j (L.getD j 0+5*H.getD j 0)):=WO L H j (by rw[HLL.out];exact h17) (by rw[HSL.out];exact hj24)
        have hne4:g4≠g5:=fun h=>hneL (by rw[h];rfl)
        generalize H.getD j 0=x at*
        generalize L.getD j 0=y at*
        clear o5 o6 hlen hcH
        go_wp2
        refine wRh 11 AD (by kernel_rfl) ?_
        simp only[tU,tJ,dJ,dY]
        repeat(go_big_quiet_step (fail))
        refine wqN ?_
        go_wp2
        go_roundw
        case rel=>
         refine⟨j+1,by omega,by go_num,?_,hneL,by simpa using hg5,?_,?_⟩
         ·rw[HST.out]
          exact(cC.set (w:=wr.drew) hownL j (y+5*x))
         ·intro i hi
          show(wr.setCell ⟨g4,j,none⟩ (.int .i64 (y+5*x))).cell? _=_
          rw[World.cell?_setCell_other _ _ _ _ (by intro h;injection h with h1 h2 h3;exact hne4 h1)]
          exact HcH.out i hi
         ·exact hbelL.drew.setCell (by exact o1) _
        case measure=>simp[intOf];omega
       ·have hlen:(jP L (H.take j)).length=j:=by rw[eT,HLL.out,List.length_take,HSL.out];omega
        have HST:Hid (jP L (H.take (j+1))=jP L (H.take j)++[5*H.getD j 0]):=SZ L H j (by rw[HLL.out];omega) (by rw[HSL.out];exact hj24)
        have HLN:Hid ((jP L (H.take j)).length≤100000000):=by show _≤_;omega
        generalize H.getD j 0=x at*
        clear hlen hcH
        go_wp2_with(at_builtin;refine cM .i64 180 3 8 underlying180 pO (by decide) rfl (.tmp 73) (.tmp 79) rfl w.heap.size w _ _ (jP L (H.take j)) _ rfl rfl hownL hbelL hsy HLN.out ?_;intro v' w' hown' hbel' hgr' hbl')
        go_roundw
        case rel=>
         refine⟨j+1,by omega,by go_num,by rw[HST.out];exact hown',?_,?_,?_,hbel'⟩
         ·rcases hbl' with h|h
          ·rw[h];exact hneL
          ·rw[h];intro h';simp at h';omega
         ·have:=hgr'.size;omega
         ·intro i hi
          rw[←HcH.out i hi]
          exact World.cell?_of_block (hgr'.block g5 hg5 (fun h=>hneL h.symm))
        case measure=>simp[intOf];omega
      ·obtain rfl:j=24:=by omega
       rw[List.take_of_length_le (by rw[HSL.out];exact nQ _),←HFD.out]at hownL
       obtain⟨g4,cap4,rfl,o1,o2,o3,o4,o5,o6⟩:=hownL.held 24 HFg.out.2 (by decide)
       clear o5 o6 hcH
       go_wp2_with fail
       refine(yP (rW D) 24 40 40 rfl HFg.out.2 HFg.out.1 (by decide) _ cap4 wr hownL.rd.2 (by decide)).mono ?_
       rintro e w9 ⟨v9,rfl,hown9,hbel9⟩
       go_wp2
       go_roundw
       case rel=>exact⟨k+1,by omega,by go_num,by rw[HF.out];exact hown9.mono hsy,hbelL.trans (hbel9.mono hsy)⟩
       case measure=>show 4 - ((k:Int)+1).toNat<4 - (k:Int).toNat;omega
  ·obtain rfl:k=4:=by omega
   have HM:Hid (oP d=if 4≤(mD D).getD 16 0 then((mD D).set 16 ((mD D).getD 16 0 - 4)).take 17 else D.take 17):=HMD.out rfl
   have c0:=hc 0 (by omega)
   have HC:Hid (∀i,i<40→wr.cell? ⟨g,i,none⟩=some (.int .i64 (D.getD i 0))):=hc
   have HDB:Hid (aE D):=hDb
   have HO:Hid (cC .i64 3 wr.heap.size (wr.alloc (.cells #[] 3)) (.slice (some ⟨wr.heap.size,0,none⟩) 0 0) []):=cC.nil wr (nQ _)
   have HB:Hid (Below wr.heap.size wr (wr.alloc (.cells #[] 3))):=(Below.refl _ _).alloc (nQ _) _
   have HN:Hid (∀j,j<40→(wr.alloc (.cells #[] 3)).cell? ⟨g,0+j,none⟩=some (.int .i64 (D.getD j 0))):=by
    intro j hj
    rw[World.cell?_alloc_past _ _ _ hgs,Nat.zero_add,HC.out j hj]
   have hsw:=hbel.size
   have bD:=hDb 0
   obtain⟨b0,b1⟩:=bD
   clear hc hDb modB hown1 hbel1
   obtain⟨z,hz⟩:∃z,z=D.getD 0 0:=⟨_,rfl⟩
   have HZ:Hid (z=D.getD 0 0):=hz
   rw[←hz]at b0 b1 c0
   clear hz
   go_wp2_with(at_builtin;refine dG .i64 180 3 8 underlying180 pO (by decide) rfl (.tmp 84) (.tmp 85) rfl wr.heap.size wr _ _ [] g 0 40 _ D HDL.out rfl rfl HO.out HB.out (by simp) (by simp) HN.out ?_;intro v2 w2 hown2 hbel2 _ _;rw[nA]at hown2;obtain⟨g2,cap2,rfl,q1,q2,q3,q4,q5,q6⟩:=hown2.held 40 (by exact HDL.out) (by decide);have l0:=q5 0 (by decide);rw[←HZ.out]at l0;have f0:=q6 0;clear q5 q6)
   rw[HZ.out]
   have hbW:Below wr.heap.size wr (w2.setCell ⟨g2,0,none⟩ (.int .i64 (D.getD 0 0+5))):=hbel2.setCell (by exact q1) _
   refine(yP (D.set 0 (D.getD 0 0+5)) 40 40 40 rfl (by rw[lJ];exact HDL.out) (FG HDB.out HDL.out) (by decide) _ cap2 _ (hown2.set 0 (D.getD 0 0+5)).rd.2 (by decide)).mono ?_
   rintro e w3 ⟨v3,rfl,hown3,hbel3⟩
   have hbW3:Below wr.heap.size wr w3:=hbW.trans (hbel3.mono (by have:=hbW.size;omega))
   have hownD:cC .i64 3 w.heap.size w3 (.slice (some ⟨g,0,none⟩) 40 cap) D:=hown.later hbW3
   have hbw3:Below w.heap.size w w3:=hbel.trans (hbW3.mono hsw)
   have hsz3:w.heap.size≤(w2.setCell ⟨g2,0,none⟩ (.int .i64 (D.getD 0 0+5))).heap.size:=by have:=hbW.size;omega
   have hown3':cC .i64 3 w.heap.size w3 v3 (mD D):=hown3.mono hsz3
   obtain⟨g3,cap3,rfl,s1,s2,s3,s4,s5,s6⟩:=hown3'.held 40 (xZ D) (by decide)
   have l16:=s5 16 (by decide)
   have f16:=s6 16
   have b16:=I9 D 16
   obtain⟨b2,b3⟩:=b16
   have hoff:=xZ D
   generalize mD D=F at*
   by_cases h4:4≤F.getD 16 0
   ·generalize hx:F.getD 16 0=x at*
    clear s5 s6 hx
    go_wp2
    go_ret
    refine⟨_,rfl,?_,?_⟩
    ·rw[HM.out,if_pos h4]
     exact(hown3'.set 16 (x - 4)).take 17 (by decide)
    ·exact hbw3.setCell (by exact s1) _
   ·generalize hx:F.getD 16 0=x at*
    clear s5 s6 hx
    go_wp2
    go_ret
    refine⟨_,rfl,?_,hbw3⟩
    rw[HM.out,if_neg (by omega)]
    exact hownD.take 17 (by decide)
end Go.Proofs.YtgcepckaolkeoaaGreatDoor
