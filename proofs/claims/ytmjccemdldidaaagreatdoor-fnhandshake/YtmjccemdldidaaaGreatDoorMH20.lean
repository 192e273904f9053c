import Derived.Test.YtmjccemdldidaaaGreatDoorMH19
import Derived.Deep.RegionHeld
namespace Go.Proofs.YtmjccemdldidaaaGreatDoor
open Go.RowKit
open Go.Proofs.Tryz
open Go renaming wpList_load_row → wpLr, wpQuiet_nil → wqN
open Go.World renaming size_alloc → wU
open List renaming drop_succ_cons → dJ, drop_zero → dY, length_replicate → rJ, replicate → rQ, take_succ_cons → tU, take_zero → tJ
open Nat renaming le_refl → nQ
set_option linter.unusedVariables false
set_option maxHeartbeats 4000000
set_option maxRecDepth 100000
theorem LF (x y c:Int) (hx:0≤x) (hy:0≤y) (hc0:0≤c) (hc:c≤1) (w:World):
 (callFunc 126 #[.int .u64 x,.int .u64 y,.int .u64 c]).run prog w=.ok (.value (.tuple #[.int .u64 ((x+y+c)%18446744073709551616),.int .u64 ((x+y+c) / 18446744073709551616)])) w:=by
 rw[run_callFunc_extern func126 (by kernel_rfl) (by kernel_rfl) (by kernel_rfl) (e:=add64Entry) (by kernel_rfl),run_add64 x y c hx hy hc0 hc]
 rfl
def GS (a0 a1 a2 a3 a4:Int):Prop:=0≤a0∧a0≤67108863∧0≤a1∧a1≤67109888∧0≤a2∧a2≤67108863∧0≤a3∧a3≤67108863∧0≤a4∧a4≤67108863
theorem M7 (a0 a1 a2 a3 a4 b0 b1 b2 b3 b4:Int) (w:World) (h0:0≤a0) (g0:a0≤268435456) (k0:0≤b0) (l0:b0≤67108863) (h1:0≤a1) (g1:a1≤268435456) (k1:0≤b1) (l1:b1≤67108863) (h2:0≤a2) (g2:a2≤268435456) (k2:0≤b2) (l2:b2≤67108863) (h3:0≤a3) (g3:a3≤268435456) (k3:0≤b3) (l3:b3≤67108863) (h4:0≤a4) (g4:a4≤268435456) (k4:0≤b4) (l4:b4≤67108863):
 Calls prog 132 #[.agg #[.int .u64 a0,.int .u64 a1,.int .u64 a2,.int .u64 a3,.int .u64 a4],.agg #[.int .u64 b0,.int .u64 b1,.int .u64 b2,.int .u64 b3,.int .u64 b4]] w fun e w'=>∃r0 r1 r2 r3 r4,e=.returned (.agg #[.int .u64 r0,.int .u64 r1,.int .u64 r2,.int .u64 r3,.int .u64 r4])∧GS r0 r1 r2 r3 r4∧(∃q,V5 r0 r1 r2 r3 r4=V5 a0 a1 a2 a3 a4*V5 b0 b1 b2 b3 b4 - gV*q)∧Below w.heap.size w w':=by
 refine(abA a0 a1 a2 a3 a4 b0 b1 b2 b3 b4 w h0 g0 k0 l0 h1 g1 k1 l1 h2 g2 k2 l2 h3 g3 k3 l3 h4 g4 k4 l4).mono ?_
 rintro e w' ⟨r0,r1,r2,r3,r4,rfl,hcar,hb⟩
 obtain⟨q,hq⟩:=LN hcar
 have hin:=agR hcar
 refine⟨r0,r1,r2,r3,r4,rfl,?_,?_,hb⟩
 ·unfold GS
  obtain⟨u00,v00⟩:=cU a0 b0 h0 g0 k0 l0
  obtain⟨u01,v01⟩:=cU a0 b1 h0 g0 k1 l1
  obtain⟨u02,v02⟩:=cU a0 b2 h0 g0 k2 l2
  obtain⟨u03,v03⟩:=cU a0 b3 h0 g0 k3 l3
  obtain⟨u04,v04⟩:=cU a0 b4 h0 g0 k4 l4
  obtain⟨u10,v10⟩:=cU a1 b0 h1 g1 k0 l0
  obtain⟨u11,v11⟩:=cU a1 b1 h1 g1 k1 l1
  obtain⟨u12,v12⟩:=cU a1 b2 h1 g1 k2 l2
  obtain⟨u13,v13⟩:=cU a1 b3 h1 g1 k3 l3
  obtain⟨u14,v14⟩:=dW a1 b4 h1 g1 k4 l4
  obtain⟨u20,v20⟩:=cU a2 b0 h2 g2 k0 l0
  obtain⟨u21,v21⟩:=cU a2 b1 h2 g2 k1 l1
  obtain⟨u22,v22⟩:=cU a2 b2 h2 g2 k2 l2
  obtain⟨u23,v23⟩:=dW a2 b3 h2 g2 k3 l3
  obtain⟨u24,v24⟩:=dW a2 b4 h2 g2 k4 l4
  obtain⟨u30,v30⟩:=cU a3 b0 h3 g3 k0 l0
  obtain⟨u31,v31⟩:=cU a3 b1 h3 g3 k1 l1
  obtain⟨u32,v32⟩:=dW a3 b2 h3 g3 k2 l2
  obtain⟨u33,v33⟩:=dW a3 b3 h3 g3 k3 l3
  obtain⟨u34,v34⟩:=dW a3 b4 h3 g3 k4 l4
  obtain⟨u40,v40⟩:=cU a4 b0 h4 g4 k0 l0
  obtain⟨u41,v41⟩:=dW a4 b1 h4 g4 k1 l1
  obtain⟨u42,v42⟩:=dW a4 b2 h4 g4 k2 l2
  obtain⟨u43,v43⟩:=dW a4 b3 h4 g4 k3 l3
  obtain⟨u44,v44⟩:=dW a4 b4 h4 g4 k4 l4
  exact hin (by omega) (by omega) (by omega) (by omega) (by omega) (by omega) (by omega) (by omega) (by omega) (by omega)
 ·rw[SR,Int.sub_sub,←Int.mul_add]at hq
  exact⟨_,hq⟩
def aiZ (key zs:LI) (m b:Nat) (w1:World) (r0 r1 r2 r3 r4:Int) (v:Value) (wr:World):Prop:=
 ∃(k o' m' c':Nat) (a0 a1 a2 a3 a4:Int),v=.slice (some ⟨b,o',none⟩) m' c'∧m'=m - 16*k∧m'≤c'∧c'≤9223372036854775807∧16*k<m+16∧
  GS a0 a1 a2 a3 a4∧(∃q,V5 a0 a1 a2 a3 a4=iZ (mD key) zs k+gV*q)∧Below w1.heap.size w1 wr∧(∀i,i<m'→wr.cell? ⟨b,o'+i,none⟩=some (.int .u8 (zs.getD (16*k+i) 0)))∧
  wr.heap[w1.heap.size]? =some (.cells #[.int .u64 r0,.int .u64 r1,.int .u64 r2,.int .u64 r3,.int .u64 r4] 221)∧wr.heap[w1.heap.size+1]? =some (.cells #[.int .u64 a0,.int .u64 a1,.int .u64 a2,.int .u64 a3,.int .u64 a4] 221)
theorem LD {key zs:LI} {m b:Nat} {w1:World} {r0 r1 r2 r3 r4:Int} {wr:World} {k o' m' c':Nat} {a0 a1 a2 a3 a4:Int} (hm':m'=m - 16*k) (hc1:m'≤c') (hc2:c'≤9223372036854775807) (hk16:16*k<m+16)
 (hval:∃q,V5 a0 a1 a2 a3 a4=iZ (mD key) zs k+gV*q) (hbr:Below w1.heap.size w1 wr) (hcell:∀i,i<m'→wr.cell? ⟨b,o'+i,none⟩=some (.int .u8 (zs.getD (16*k+i) 0)))
 (hgr:wr.heap[w1.heap.size]? =some (.cells #[.int .u64 r0,.int .u64 r1,.int .u64 r2,.int .u64 r3,.int .u64 r4] 221)) (hga:wr.heap[w1.heap.size+1]? =some (.cells #[.int .u64 a0,.int .u64 a1,.int .u64 a2,.int .u64 a3,.int .u64 a4] 221))
 (n L:Nat) (hn:n=m'∧m'≤16∨n=16∧16≤m') (hpos:0<m') (hL:L=m' - n) (hlen:((zs.drop (16*k)).take 16).length=n) (hb:b<w1.heap.size) {w4:World} (hb4:Below wr.heap.size wr w4) {q0 q1 q2 q3 q4 s0 s1 s2 s3 s4:Int}
 (vq:V5 q0 q1 q2 q3 q4=aU ((zs.drop (16*k)).take 16)+256^n) (vr:V5 r0 r1 r2 r3 r4=mD key) (hs:GS s0 s1 s2 s3 s4) (hsv:∃q,V5 s0 s1 s2 s3 s4=(V5 a0 a1 a2 a3 a4+V5 q0 q1 q2 q3 q4)*V5 r0 r1 r2 r3 r4 - gV*q):
 aiZ key zs m b w1 r0 r1 r2 r3 r4 (.slice (if c'=n then some ⟨b,o',none⟩else some ⟨b,o'+n,none⟩) L (c' - n))
  (((((w4.setCell ⟨w1.heap.size+1,0,none⟩ (.int .u64 s0)).setCell ⟨w1.heap.size+1,1,none⟩ (.int .u64 s1)).setCell ⟨w1.heap.size+1,2,none⟩ (.int .u64 s2)).setCell ⟨w1.heap.size+1,3,none⟩ (.int .u64 s3)).setCell ⟨w1.heap.size+1,4,none⟩ (.int .u64 s4)):=by
 have hlt:=(Array.getElem?_eq_some_iff.1 hga).1
 have hga4:=(hb4.block (w1.heap.size+1) hlt).trans hga
 have hgr4:=(hb4.block w1.heap.size (by omega)).trans hgr
 rw[alJ hga4]
 obtain⟨qa,hqa⟩:=hval
 obtain⟨q,hq⟩:=hsv
 have hstep:∃t,V5 s0 s1 s2 s3 s4=iZ (mD key) zs (k+1)+gV*t:=by
  have:=abM (iZ (mD key) zs k) (aU ((zs.drop (16*k)).take 16)+256^n) (mD key) qa q (V5 s0 s1 s2 s3 s4) (by rw[hq,hqa,vq,vr])
  rw[show iZ (mD key) zs (k+1)=(iZ (mD key) zs k+(aU ((zs.drop (16*k)).take 16)+256^n))*mD key%gV by rw[←hlen];rfl]
  exact this
 have hcells:∀i,i<L→(w4.setRow (w1.heap.size+1) #[.int .u64 s0,.int .u64 s1,.int .u64 s2,.int .u64 s3,.int .u64 s4]).cell? ⟨b,o'+n+i,none⟩=some (.int .u8 (zs.getD (16*(k+1)+i) 0)):=by
  intro i hi
  rw[bB _ _ _ _ (by show b≠_;omega),hb4.cell (p:=⟨b,o'+n+i,none⟩) (by show b<_;omega)]
  have:=hcell (n+i) (by omega)
  rw[Nat.add_assoc,this]
  rcases hn with ⟨h1,h2⟩|⟨h1,h2⟩
  ·omega
  ·subst h1
   rw[show 16*(k+1)+i=16*k+(16+i) by omega]
 have hbel:Below w1.heap.size w1 (w4.setRow (w1.heap.size+1) #[.int .u64 s0,.int .u64 s1,.int .u64 s2,.int .u64 s3,.int .u64 s4]):=
  aO (hbr.trans (hb4.mono hbr.size)) _ (by omega) _
 have hr5:(w4.setRow (w1.heap.size+1) #[.int .u64 s0,.int .u64 s1,.int .u64 s2,.int .u64 s3,.int .u64 s4]).heap[w1.heap.size]? =some (.cells #[.int .u64 r0,.int .u64 r1,.int .u64 r2,.int .u64 r3,.int .u64 r4] 221):=by
  rw[cG _ _ _ _ (by omega)]
  exact hgr4
 by_cases hcn:c'=n
 ·rw[if_pos hcn]
  exact⟨k+1,o',L,c' - n,s0,s1,s2,s3,s4,rfl,by omega,by omega,by omega,by omega,hs,hstep,hbel,fun i hi=>by omega,hr5,setRow_heap _ _ _ _ _ _ hga4⟩
 ·rw[if_neg hcn]
  exact⟨k+1,o'+n,L,c' - n,s0,s1,s2,s3,s4,rfl,by omega,by omega,by omega,by omega,hs,hstep,hbel,hcells,hr5,setRow_heap _ _ _ _ _ _ hga4⟩
theorem NP (N z:Int):fY (N+340282366920938463463374607431768211456*z)=fY N:=by
 unfold fY
 apply List.map_congr_left
 intro i hi
 have h16:i<16:=by simpa using hi
 clear hi
 match i,h16 with
 | 0,_=>simp;omega
 | 1,_=>simp;omega
 | 2,_=>simp;omega
 | 3,_=>simp;omega
 | 4,_=>simp;omega
 | 5,_=>simp;omega
 | 6,_=>simp;omega
 | 7,_=>simp;omega
 | 8,_=>simp;omega
 | 9,_=>simp;omega
 | 10,_=>simp;omega
 | 11,_=>simp;omega
 | 12,_=>simp;omega
 | 13,_=>simp;omega
 | 14,_=>simp;omega
 | 15,_=>simp;omega
 | n+16,h=>omega
theorem ag6:(prog.info? 25).map (·.size)=some 32:=by kernel_rfl
theorem ag7:(prog.info? 35).map (·.size)=some 16:=by kernel_rfl
theorem ac5 (key zs:LI) (m b o cap:Nat) (w:World) (hm:zs.length=m) (hk:key.length=32) (hkb:aC key) (hz:aC zs) (hb:b<w.heap.size) (hcap:m≤cap) (hcap2:cap≤9223372036854775807)
 (hc:∀i,i<m→w.cell? ⟨b,o+i,none⟩=some (.int .u8 (zs.getD i 0))):
 Calls prog 118 #[.agg (Iv .u8 key),.slice (some ⟨b,o,none⟩) m cap] w fun e w'=>e=.returned (.agg (Iv .u8 (gQ key zs)))∧Below w.heap.size w w':=by
 have hgk:∀O,((w.alloc (.cells (Iv .u8 key) 25)).alloc O).heap[w.heap.size]? =some (.cells (Iv .u8 key) 25):=by
  intro O
  simp only[cI,wU]
  simp
 have HK:Hid (∀O,_):=hgk
 clear hgk
 have hik:(prog.info? 25).map (·.size)=some (Iv .u8 key).size:=by rw[aD,hk];exact ag6
 go_enter func118,ntmps118
 go_wp2_with(refine wpLr rfl 25 _ rfl w.heap.size rfl _ (Iv .u8 key) _ _ (HK.out _) underlying25 rfl hik ?_)
 refine(TZ key hk hkb _).mono ?_
 rintro e w1 ⟨r0,r1,r2,r3,r4,rfl,lr,vr,hb1⟩
 have hs1:w.heap.size+2≤w1.heap.size:=by have:=hb1.size;simpa using this
 have hk1:w1.heap[w.heap.size]? =some (.cells (Iv .u8 key) 25):=by rw[hb1.block _ (by simp<;>omega)];exact HK.out _
 have ho1:w1.heap[w.heap.size+1]? =some (.cells (Iv .u8 (rQ 16 0)) 35):=by
  rw[hb1.block _ (by simp<;>omega)]
  simp only[cI,wU]
  simp
  rfl
 have hbw:Below w.heap.size w w1:=(((Below.refl w.heap.size w).alloc (by simp) _).alloc (by simp) _).trans (hb1.mono (by simp<;>omega))
 clear hb1 HK
 have hcd:∀i,i<m→w1.cell? ⟨b,o+i,none⟩=some (.int .u8 (zs.getD i 0)):=fun i hi=>(hbw.cell (p:=⟨b,o+i,none⟩) hb).trans (hc i hi)
 have HC:Hid (∀i,i<m→w1.cell? ⟨b,o+i,none⟩=some (.int .u8 (zs.getD i 0))):=hcd
 have HM:Hid (zs.length=m):=hm
 clear hc hcd hm
 go_wp2
 go_loopw [1] (fun v wr=>aiZ key zs m b w1 r0 r1 r2 r3 r4 v wr) (fun v _=>match v with| .slice _ n _=>n|_=>0)
 case atStart=>
  refine⟨0,o,m,cap,0,0,0,0,0,rfl,by omega,hcap,hcap2,by omega,by unfold GS;omega,⟨0,by simp[V5,iZ]⟩,?_,?_,?_,?_⟩
  ·exact((Below.refl _ _).alloc (by simp) _).alloc (by simp) _
  ·intro i hi
   rw[World.cell?_alloc_past _ _ _ (by simp<;>omega),World.cell?_alloc_past _ _ _ (by omega)]
   simpa using HC.out i hi
  ·simp only[cI,wU]
   simp
  ·simp only[cI,wU]
   simp
 case round=>
  obtain⟨k,o',m',c',a0,a1,a2,a3,a4,rfl,hm',hc1,hc2,hk16,hacc,hval,hbr,hcell,hgr,hga⟩:=hrel
  have HM':Hid (m'=m - 16*k):=hm'
  have HCL:Hid (∀i,i<m'→wr.cell? ⟨b,o'+i,none⟩=some (.int .u8 (zs.getD (16*k+i) 0))):=hcell
  have HVL:Hid (∃q,V5 a0 a1 a2 a3 a4=iZ (mD key) zs k+gV*q):=hval
  clear hm' hcell hval
  by_cases hpos:0<m'
  ·have hp':(0:Int)<(m':Int):=by omega
   obtain⟨x0,x1,x2,x3,x4⟩:=hU hgr
   obtain⟨y0,y1,y2,y3,y4⟩:=hU hga
   obtain⟨n0,n1,n2,n3,n4,n5,n6,n7,n8,n9⟩:=hacc
   obtain⟨j0,j1,j2,j3,j4,j5,j6,j7,j8,j9⟩:=lr
   have hsr:=hbr.size
   by_cases h16:m'≤16
   ·have HPL:Hid (((zs.drop (16*k)).take 16).length=m'):=by
     show _=_
     rw[List.length_take,List.length_drop,HM.out,HM'.out]
     have:=HM'.out
     omega
    have HPC:Hid (∀i,i<m'→wr.cell? ⟨b,o'+i,none⟩=some (.int .u8 (((zs.drop (16*k)).take 16).getD i 0))):=by
     intro i hi
     rw[HCL.out i hi,cM,if_pos (by omega)]
     simp only[List.getD_eq_getElem?_getD,List.getElem?_drop]
    have H14:Hid (∀W,Below wr.heap.size wr W→Calls prog 131 #[.slice (some ⟨b,o',none⟩) m' c'] W fun e w2=>∃q0 q1 q2 q3 q4,e=.returned (.agg #[.int .u64 q0,.int .u64 q1,.int .u64 q2,.int .u64 q3,.int .u64 q4])∧pR q0 q1 q2 q3 q4∧V5 q0 q1 q2 q3 q4=aU ((zs.drop (16*k)).take 16)+256^m'∧Below wr.heap.size wr w2):=by
     intro W hW
     refine(MM ((zs.drop (16*k)).take 16) m' HPL.out (by omega) (by omega) (dB (cE hz _) _) b o' c' W (by have:=hW.size;omega) (by omega) (by omega) (fun i hi=>(hW.cell (p:=⟨b,o'+i,none⟩) (by show b<_;omega)).trans (HPC.out i hi))).mono ?_
     rintro e w2 ⟨q0,q1,q2,q3,q4,rfl,lq,vq,hb2⟩
     exact⟨q0,q1,q2,q3,q4,rfl,lq,vq,hW.trans (hb2.mono hW.size)⟩
    have H13:Hid (∀W q0 q1 q2 q3 q4,pR q0 q1 q2 q3 q4→Below wr.heap.size wr W→Calls prog 130 #[.agg #[.int .u64 a0,.int .u64 a1,.int .u64 a2,.int .u64 a3,.int .u64 a4],.agg #[.int .u64 q0,.int .u64 q1,.int .u64 q2,.int .u64 q3,.int .u64 q4]] W fun e w2=>e=.returned (.agg #[.int .u64 (a0+q0),.int .u64 (a1+q1),.int .u64 (a2+q2),.int .u64 (a3+q3),.int .u64 (a4+q4)])∧Below wr.heap.size wr w2):=by
     intro W q0 q1 q2 q3 q4 lq hW
     obtain⟨l0,l1,l2,l3,l4,l5,l6,l7,l8,l9⟩:=lq
     refine(WJ a0 a1 a2 a3 a4 q0 q1 q2 q3 q4 W (by omega) (by omega) (by omega) (by omega) (by omega) (by omega) (by omega) (by omega) (by omega) (by omega) (by omega) (by omega) (by omega) (by omega) (by omega) (by omega) (by omega) (by omega) (by omega) (by omega)).mono ?_
     rintro e w2 ⟨rfl,hb2⟩
     exact⟨rfl,hW.trans (hb2.mono hW.size)⟩
    have H15:Hid (∀W q0 q1 q2 q3 q4,pR q0 q1 q2 q3 q4→Below wr.heap.size wr W→Calls prog 132 #[.agg #[.int .u64 (a0+q0),.int .u64 (a1+q1),.int .u64 (a2+q2),.int .u64 (a3+q3),.int .u64 (a4+q4)],.agg #[.int .u64 r0,.int .u64 r1,.int .u64 r2,.int .u64 r3,.int .u64 r4]] W fun e w2=>∃s0 s1 s2 s3 s4,e=.returned (.agg #[.int .u64 s0,.int .u64 s1,.int .u64 s2,.int .u64 s3,.int .u64 s4])∧GS s0 s1 s2 s3 s4∧(∃q,V5 s0 s1 s2 s3 s4=(V5 a0 a1 a2 a3 a4+V5 q0 q1 q2 q3 q4)*V5 r0 r1 r2 r3 r4 - gV*q)∧Below wr.heap.size wr w2):=by
     intro W q0 q1 q2 q3 q4 lq hW
     obtain⟨l0,l1,l2,l3,l4,l5,l6,l7,l8,l9⟩:=lq
     refine(M7 (a0+q0) (a1+q1) (a2+q2) (a3+q3) (a4+q4) r0 r1 r2 r3 r4 W (by omega) (by omega) (by omega) (by omega) (by omega) (by omega) (by omega) (by omega) (by omega) (by omega) (by omega) (by omega) (by omega) (by omega) (by omega) (by omega) (by omega) (by omega) (by omega) (by omega)).mono ?_
     rintro e w2 ⟨s0,s1,s2,s3,s4,rfl,hs,⟨q,hq⟩,hb2⟩
     refine⟨s0,s1,s2,s3,s4,rfl,hs,⟨q,?_⟩,hW.trans (hb2.mono hW.size)⟩
     rw[hq]
     congr 2
     unfold V5
     omega
    have HR:Hid (∀W,Below wr.heap.size wr W→W.heap[w1.heap.size]? =some (.cells #[.int .u64 r0,.int .u64 r1,.int .u64 r2,.int .u64 r3,.int .u64 r4] 221)):=fun W hW=>(hW.block _ (by have:=(Array.getElem?_eq_some_iff.1 hga).1;omega)).trans hgr
    have HA:Hid (∀W,Below wr.heap.size wr W→W.heap[w1.heap.size+1]? =some (.cells #[.int .u64 a0,.int .u64 a1,.int .u64 a2,.int .u64 a3,.int .u64 a4] 221)):=fun W hW=>(hW.block _ (by have:=(Array.getElem?_eq_some_iff.1 hga).1;omega)).trans hga
    go_wp2
    go_region_with (first
     | (go_at_call 131;(refine(H14.out _ (by exact⟨rfl,rfl,rfl,nQ _,fun _ _=>rfl⟩)).mono ?_);rintro e w2 ⟨q0,q1,q2,q3,q4,rfl,lq,vq,hb2⟩;obtain⟨xx0,xx1,xx2,xx3,xx4⟩:=hU (HR.out _ hb2);obtain⟨yy0,yy1,yy2,yy3,yy4⟩:=hU (HA.out _ hb2))
     | (go_at_call 130;(refine(H13.out _ q0 q1 q2 q3 q4 lq (by first|exact hb2|assumption)).mono ?_);rintro e w3 ⟨rfl,hb3⟩;obtain⟨zz0,zz1,zz2,zz3,zz4⟩:=hU (HR.out _ hb3);obtain⟨tt0,tt1,tt2,tt3,tt4⟩:=hU (HA.out _ hb3))
     | (go_at_call 132;(refine(H15.out _ q0 q1 q2 q3 q4 lq (by assumption)).mono ?_);rintro e w4 ⟨s0,s1,s2,s3,s4,rfl,hs,hsv,hb4⟩;obtain⟨uu0,uu1,uu2,uu3,uu4⟩:=hU (HA.out _ hb4);have hf4:∀i,w4.frozen? ⟨w1.heap.size+1,i,none⟩=false:=fun i=>frozen_of_row _ _ i _ _ (HA.out _ hb4)))
    all_goals go_wp2
    all_goals go_roundw
    all_goals first|exact LD HM'.out hc1 hc2 hk16 HVL.out hbr HCL.out hgr hga m' 0 (Or.inl ⟨rfl,by omega⟩) hpos (by omega) HPL.out (by omega) hb4 vq vr hs hsv|omega|(simp;omega)
   ·have HPL:Hid (((zs.drop (16*k)).take 16).length=16):=by
     show _=_
     rw[List.length_take,List.length_drop,HM.out]
     have:=HM'.out
     omega
    have HPC:Hid (∀i,i<16→wr.cell? ⟨b,o'+i,none⟩=some (.int .u8 (((zs.drop (16*k)).take 16).getD i 0))):=by
     intro i hi
     rw[HCL.out i (by omega),cM,if_pos (by omega)]
     simp only[List.getD_eq_getElem?_getD,List.getElem?_drop]
    have H14:Hid (∀W,Below wr.heap.size wr W→Calls prog 131 #[.slice (some ⟨b,o',none⟩) 16 c'] W fun e w2=>∃q0 q1 q2 q3 q4,e=.returned (.agg #[.int .u64 q0,.int .u64 q1,.int .u64 q2,.int .u64 q3,.int .u64 q4])∧pR q0 q1 q2 q3 q4∧V5 q0 q1 q2 q3 q4=aU ((zs.drop (16*k)).take 16)+256^16∧Below wr.heap.size wr w2):=by
     intro W hW
     refine(MM ((zs.drop (16*k)).take 16) 16 HPL.out (by omega) (by omega) (dB (cE hz _) _) b o' c' W (by have:=hW.size;omega) (by omega) (by omega) (fun i hi=>(hW.cell (p:=⟨b,o'+i,none⟩) (by show b<_;omega)).trans (HPC.out i hi))).mono ?_
     rintro e w2 ⟨q0,q1,q2,q3,q4,rfl,lq,vq,hb2⟩
     exact⟨q0,q1,q2,q3,q4,rfl,lq,vq,hW.trans (hb2.mono hW.size)⟩
    have H13:Hid (∀W q0 q1 q2 q3 q4,pR q0 q1 q2 q3 q4→Below wr.heap.size wr W→Calls prog 130 #[.agg #[.int .u64 a0,.int .u64 a1,.int .u64 a2,.int .u64 a3,.int .u64 a4],.agg #[.int .u64 q0,.int .u64 q1,.int .u64 q2,.int .u64 q3,.int .u64 q4]] W fun e w2=>e=.returned (.agg #[.int .u64 (a0+q0),.int .u64 (a1+q1),.int .u64 (a2+q2),.int .u64 (a3+q3),.int .u64 (a4+q4)])∧Below wr.heap.size wr w2):=by
     intro W q0 q1 q2 q3 q4 lq hW
     obtain⟨l0,l1,l2,l3,l4,l5,l6,l7,l8,l9⟩:=lq
     refine(WJ a0 a1 a2 a3 a4 q0 q1 q2 q3 q4 W (by omega) (by omega) (by omega) (by omega) (by omega) (by omega) (by omega) (by omega) (by omega) (by omega) (by omega) (by omega) (by omega) (by omega) (by omega) (by omega) (by omega) (by omega) (by omega) (by omega)).mono ?_
     rintro e w2 ⟨rfl,hb2⟩
     exact⟨rfl,hW.trans (hb2.mono hW.size)⟩
    have H15:Hid (∀W q0 q1 q2 q3 q4,pR q0 q1 q2 q3 q4→Below wr.heap.size wr W→Calls prog 132 #[.agg #[.int .u64 (a0+q0),.int .u64 (a1+q1),.int .u64 (a2+q2),.int .u64 (a3+q3),.int .u64 (a4+q4)],.agg #[.int .u64 r0,.int .u64 r1,.int .u64 r2,.int .u64 r3,.int .u64 r4]] W fun e w2=>∃s0 s1 s2 s3 s4,e=.returned (.agg #[.int .u64 s0,.int .u64 s1,.int .u64 s2,.int .u64 s3,.int .u64 s4])∧GS s0 s1 s2 s3 s4∧(∃q,V5 s0 s1 s2 s3 s4=(V5 a0 a1 a2 a3 a4+V5 q0 q1 q2 q3 q4)*V5 r0 r1 r2 r3 r4 - gV*q)∧Below wr.heap.size wr w2):=by
     intro W q0 q1 q2 q3 q4 lq hW
     obtain⟨l0,l1,l2,l3,l4,l5,l6,l7,l8,l9⟩:=lq
     refine(M7 (a0+q0) (a1+q1) (a2+q2) (a3+q3) (a4+q4) r0 r1 r2 r3 r4 W (by omega) (by omega) (by omega) (by omega) (by omega) (by omega) (by omega) (by omega) (by omega) (by omega) (by omega) (by omega) (by omega) (by omega) (by omega) (by omega) (by omega) (by omega) (by omega) (by omega)).mono ?_
     rintro e w2 ⟨s0,s1,s2,s3,s4,rfl,hs,⟨q,hq⟩,hb2⟩
     refine⟨s0,s1,s2,s3,s4,rfl,hs,⟨q,?_⟩,hW.trans (hb2.mono hW.size)⟩
     rw[hq]
     congr 2
     unfold V5
     omega
    have HR:Hid (∀W,Below wr.heap.size wr W→W.heap[w1.heap.size]? =some (.cells #[.int .u64 r0,.int .u64 r1,.int .u64 r2,.int .u64 r3,.int .u64 r4] 221)):=fun W hW=>(hW.block _ (by have:=(Array.getElem?_eq_some_iff.1 hga).1;omega)).trans hgr
    have HA:Hid (∀W,Below wr.heap.size wr W→W.heap[w1.heap.size+1]? =some (.cells #[.int .u64 a0,.int .u64 a1,.int .u64 a2,.int .u64 a3,.int .u64 a4] 221)):=fun W hW=>(hW.block _ (by have:=(Array.getElem?_eq_some_iff.1 hga).1;omega)).trans hga
    go_wp2
    go_region_with (first
     | (go_at_call 131;(refine(H14.out _ (by exact⟨rfl,rfl,rfl,nQ _,fun _ _=>rfl⟩)).mono ?_);rintro e w2 ⟨q0,q1,q2,q3,q4,rfl,lq,vq,hb2⟩;obtain⟨xx0,xx1,xx2,xx3,xx4⟩:=hU (HR.out _ hb2);obtain⟨yy0,yy1,yy2,yy3,yy4⟩:=hU (HA.out _ hb2))
     | (go_at_call 130;(refine(H13.out _ q0 q1 q2 q3 q4 lq (by first|exact hb2|assumption)).mono ?_);rintro e w3 ⟨rfl,hb3⟩;obtain⟨zz0,zz1,zz2,zz3,zz4⟩:=hU (HR.out _ hb3);obtain⟨tt0,tt1,tt2,tt3,tt4⟩:=hU (HA.out _ hb3))
     | (go_at_call 132;(refine(H15.out _ q0 q1 q2 q3 q4 lq (by assumption)).mono ?_);rintro e w4 ⟨s0,s1,s2,s3,s4,rfl,hs,hsv,hb4⟩;obtain⟨uu0,uu1,uu2,uu3,uu4⟩:=hU (HA.out _ hb4);have hf4:∀i,w4.frozen? ⟨w1.heap.size+1,i,none⟩=false:=fun i=>frozen_of_row _ _ i _ _ (HA.out _ hb4)))
    all_goals go_wp2
    all_goals go_roundw
    all_goals first|(have hst:=LD HM'.out hc1 hc2 hk16 HVL.out hbr HCL.out hgr hga 16 (m' - 16) (Or.inr ⟨rfl,by omega⟩) hpos (by omega) HPL.out (by omega) hb4 vq vr hs hsv;rw[if_neg (by omega)]at hst;exact hst)|(show m' - 16<m';omega)
  ·have hk0:m'=0:=by omega
   have hkk:k=(m+15) / 16:=by have:=HM'.out;omega
   obtain⟨n0,n1,n2,n3,n4,n5,n6,n7,n8,n9⟩:=hacc
   have HKK:Hid (k=(m+15) / 16):=hkk
   clear hkk
   go_wp2_with(refine wpLr rfl 221 _ rfl (w1.heap.size+1) rfl _ _ _ _ hga underlying221 rfl oF ?_)
   refine(RZ a0 a1 a2 a3 a4 _ (by omega) (by omega) (by omega) (by omega) (by omega) (by omega) (by omega) (by omega) (by omega) (by omega)).mono ?_
   rintro e w2 ⟨t0,t1,t2,t3,t4,rfl,lt,hq,hlt,hb2⟩
   obtain⟨j0,j1,j2,j3,j4,j5,j6,j7,j8,j9⟩:=lt
   have HT:Hid (V5 t0 t1 t2 t3 t4=iZ (mD key) zs k):=by
    obtain⟨q,hq⟩:=hq
    obtain⟨q',hq'⟩:=HVL.out
    have hin:=TG (mD key) zs k
    exact abL (q:=q' - q) (by rw[hq,hq',Int.mul_sub];omega) (by unfold V5;omega) hlt hin.1 hin.2
   clear hq hlt
   go_wp2_with fail
   refine(UF t0 t1 t2 t3 t4 _ (by omega) (by omega) (by omega) (by omega) (by omega) (by omega) (by omega) (by omega) (by omega) (by omega)).mono ?_
   rintro e w3 ⟨rfl,hb3⟩
   have hb13:Below w1.heap.size w1 w3:=(hbr.trans (hb2.mono hbr.size)).trans (hb3.mono (by have:=hb2.size;have:=hbr.size;omega))
   have hk3:w3.heap[w.heap.size]? =some (.cells (Iv .u8 key) 25):=(hb13.block _ (by omega)).trans hk1
   have ho3:w3.heap[w.heap.size+1]? =some (.cells (Iv .u8 (rQ 16 0)) 35):=(hb13.block _ (by omega)).trans ho1
   have hbw3:Below w.heap.size w w3:=hbw.trans (hb13.mono (by omega))
   have hs3:w1.heap.size≤w3.heap.size:=hb13.size
   obtain⟨lo,hlo⟩:∃lo,lo=t0+67108864*t1+4503599627370496*(t2%4096):=⟨_,rfl⟩
   obtain⟨hi,hhi⟩:∃hi,hi=t2 / 4096+16384*t3+1099511627776*(t4%16777216):=⟨_,rfl⟩
   have hlo0:0≤lo:=by omega
   have hlo1:lo<18446744073709551616:=by omega
   have hhi0:0≤hi:=by omega
   rw[←hlo,←hhi]
   have HL:Hid (V5 t0 t1 t2 t3 t4=lo+18446744073709551616*hi+340282366920938463463374607431768211456*(t4 / 16777216)):=by
    unfold V5
    show _=_
    omega
   clear hlo hhi hb2 hb3 hbr hga hgr HCL HVL hb13
   go_wp2
   refine wRh 2 eP (by kernel_rfl) ?_
   simp only[tU,tJ,dJ,dY]
   repeat(go_big_quiet_step (fail))
   refine wqN ?_
   go_wp2_with fail
   refine(jD 16 w3.heap.size 0 4 4 227 [0,0,0,0] w.heap.size 16 16 (key.drop 16) _ (by simp[hk]) ?_ (by decide) (by decide) (by omega) (cE hkb 16) (by decide) (by decide) ?_ (by decide) (by decide)).mono ?_
   ·simp only[heap_drew,cI]
    simp
    rfl
   ·intro i hi
    simp only[World.cell?_drew]
    rw[World.cell?_alloc_past _ _ _ (by omega),cell_of_row _ _ _ _ _ _ hk3,dG .u8 key (16+i) (by omega)]
    simp[List.getD_eq_getElem?_getD,List.getElem?_drop,show 16+i<key.length by omega]
   rintro e w4 ⟨rfl,d,rfl⟩
   rw[wV,qK _ _ _ _ _ rfl,show Iv .u32 (pF9 [0,0,0,0] 0 (aF (key.drop 16)) (min (16 / 4+1) 4))=#[.int .u32 (aF (key.drop 16) 0),.int .u32 (aF (key.drop 16) 1),.int .u32 (aF (key.drop 16) 2),.int .u32 (aF (key.drop 16) 3)]from rfl]
   obtain⟨i0,f0⟩:=mL (cE hkb 16) 0
   obtain⟨i1,f1⟩:=mL (cE hkb 16) 1
   obtain⟨i2,f2⟩:=mL (cE hkb 16) 2
   obtain⟨i3,f3⟩:=mL (cE hkb 16) 3
   have HS:Hid (afK key=aF (key.drop 16) 0+4294967296*aF (key.drop 16) 1+18446744073709551616*(aF (key.drop 16) 2+4294967296*aF (key.drop 16) 3)):=rfl
   generalize aF (key.drop 16) 0=x0 at*
   generalize aF (key.drop 16) 1=x1 at*
   generalize aF (key.drop 16) 2=x2 at*
   generalize aF (key.drop 16) 3=x3 at*
   have e0:=XM x0 x1 i0 f0 i1 f1
   have e1:=XM x2 x3 i2 f2 i3 f3
   have c0:0≤(lo+(x0+4294967296*x1)) / 18446744073709551616:=by omega
   have c1:(lo+(x0+4294967296*x1)) / 18446744073709551616≤1:=by omega
   have r1:=LF lo (x0+4294967296*x1) 0 hlo0 (by omega) (by omega) (by omega)
   have r2:=LF hi (x2+4294967296*x3) ((lo+(x0+4294967296*x1)) / 18446744073709551616) hhi0 (by omega) c0 c1
   rw[Int.add_zero]at r1
   go_wp2_with fail
   obtain⟨N,hN⟩:∃N,N=lo+18446744073709551616*hi+(x0+4294967296*x1+18446744073709551616*(x2+4294967296*x3)):=⟨_,rfl⟩
   have hA:(lo+(x0+4294967296*x1))%18446744073709551616=N%18446744073709551616:=by omega
   have hB:(hi+(x2+4294967296*x3)+(lo+(x0+4294967296*x1)) / 18446744073709551616)%18446744073709551616=N / 18446744073709551616%18446744073709551616:=by omega
   have HN:Hid (fY N=gQ key zs):=by
    unfold gQ
    rw[HM.out,←HKK.out,HS.out,←HT.out,HL.out]
    exact(NP N (t4 / 16777216)).symm.trans (congrArg fY (by omega))
   rw[hA,hB]
   clear e0 e1 r1 r2 hA hB hN
   refine(eE (w3.heap.size+1) 0 8 16 35 (rQ 16 0) (N%18446744073709551616) _ ?_ (by decide) (by decide) (by omega)).mono ?_
   ·simp only[World.heap_drewN,cI,wU]
    simp
    rfl
   rintro e w5 ⟨rfl,rfl⟩
   rw[qK _ _ _ _ _ (by simp)]
   go_wp2_with fail
   refine(eE (w3.heap.size+1) 8 8 8 35 (pF9 (rQ 16 0) 0 (fun i=>N%18446744073709551616 / 256^i%256) 8) (N / 18446744073709551616%18446744073709551616) _ ?_ (by rw[aS _ _ _ _ (by decide)];decide) (by decide) (by omega)).mono ?_
   ·simp only[World.heap_drewN,cI,wU]
    simp
   rintro e w6 ⟨rfl,rfl⟩
   rw[qK _ _ _ _ _ (by simp),afC N _ _ rfl rfl _ rJ,HN.out]
   have hl16:(gQ key zs).length=16:=by simp[gQ,fY]
   have hit:(prog.info? 35).map (·.size)=some (Iv .u8 (gQ key zs)).size:=by rw[aD,hl16];exact ag7
   have hg1:∀O O' n,(((w3.alloc O).drewN n).alloc O').heap[w.heap.size+1]? =some (.cells (Iv .u8 (rQ 16 0)) 35):=by
    intro O O' n
    rw[cI,if_neg (by simp<;>omega),World.heap_drewN,cI,if_neg (by omega)]
    exact ho3
   have hg2:∀O n,(((w3.alloc O).drewN n).alloc (.cells (Iv .u8 (gQ key zs)) 35)).heap[w3.heap.size+1]? =some (.cells (Iv .u8 (gQ key zs)) 35):=by
    intro O n
    rw[cI,if_pos (by simp)]
   have HG1:Hid (∀O O' n,_):=hg1
   have HG2:Hid (∀O n,_):=hg2
   clear hg1 hg2 hl16
   go_wp2_with(first|refine wpLr rfl 35 _ rfl _ rfl _ (Iv .u8 (gQ key zs)) _ _ (HG2.out _ _) underlying35 rfl hit ?_ |refine wpList_store_row rfl 35 _ _ rfl _ (Iv .u8 (gQ key zs)) rfl rfl _ _ (HG1.out _ _ _) hit (by simp[aD,gQ,fY]) (aG _ _) ?_)
   refine pW (cs:=Iv .u8 (gQ key zs)) results118 ?_ (setRow_heap _ _ _ _ _ _ (HG1.out _ _ _)) underlying35 hit ?_
   ·rfl
   ·exact⟨rfl,aO ((bDr (hbw3.alloc (by omega) _) _).alloc (by simp<;>omega) _) _ (by omega) _⟩
end Go.Proofs.YtmjccemdldidaaaGreatDoor
