import Derived.Test.YtgcepckaolkeoaaGreatDoorMZ27
namespace Go.Proofs.YtgcepckaolkeoaaGreatDoor
open Go.RowKit Go.Lib
open Go.Proofs.Tryz
open Go.RowKit
open Go renaming heap_alloc_new → hAN, rounds_succ → rdS, wpList_load_row → wpLr, wpQuiet_nil → wqN
open Go.World renaming size_alloc → wU
open List renaming drop_succ_cons → dJ, drop_zero → dY, mem_cons_of_mem → mC, mem_cons_self → mQ, mem_singleton → mU, not_mem_nil → nY, take_succ_cons → tU, take_zero → tJ
open Nat renaming le_refl → nQ
set_option linter.unusedVariables false
def nB:List Int→Int
 | []=>0
 | x::r=>x+256*nB r
def UH (q0 q1 q2 q3:Int):List Int:=mP (q0%2251799813685248) (q1%274877906944*8192+q0 / 2251799813685248) (q2%33554432*67108864+q1 / 274877906944) (q3%4096*549755813888+q2 / 33554432) (q3 / 4096)
def oF (l:List Int) (i:Nat):Int:=aF l (2*i+1)*4294967296+aF l (2*i)
def sV (l:List Int):List Int:=UH (oF l 0) (oF l 1) (oF l 2) (oF l 3)
theorem UK (q0 q1 q2 q3:Int) (h0:0≤q0∧q0<18446744073709551616) (h1:0≤q1∧q1<18446744073709551616) (h2:0≤q2∧q2<18446744073709551616) (h3:0≤q3∧q3<18446744073709551616):
 bT (UH q0 q1 q2 q3) (q0+18446744073709551616*q1+340282366920938463463374607431768211456*q2+6277101735386680763835789423207666416102355444464034512896*q3):=by
 obtain⟨k1,q,k2⟩:=xM (q0%2251799813685248) (q1%274877906944*8192+q0 / 2251799813685248) (q2%33554432*67108864+q1 / 274877906944) (q3%4096*549755813888+q2 / 33554432) (q3 / 4096) (by omega) (by omega) (by omega) (by omega) (by omega)
 refine⟨k1,q,?_⟩
 unfold UH
 rw[k2]
 unfold mD
 omega
theorem aaN (k:Nat) (m M x y:Int) (hm:m=((2^k:Nat):Int)) (hM:M*m=2251799813685248) (hM0:0<M) (hx:0≤x) (hx2:x*m<18446744073709551616*m) (hy:0≤y) (hyk:y<m) (hz:x*m%18446744073709551616=x%(18446744073709551616 / m)*m) (hk:x%(18446744073709551616 / m)*m+y<18446744073709551616) (hf:(x%(18446744073709551616 / m)*m+y)%2251799813685248=x%M*m+y):
 bits .and .u64 (bits .or .u64 y (x*m%18446744073709551616)) 2251799813685247=x%M*m+y:=by
 have hm0:0<m:=by rw[hm];have:=Nat.two_pow_pos k;omega
 have hr:0≤x%(18446744073709551616 / m):=by
  have:0≤x%(18446744073709551616 / m)*m:=by rw[←hz];omega
  by_cases h:0≤x%(18446744073709551616 / m)
  ·exact h
  ·have h1:x%(18446744073709551616 / m)≤ -1:=by omega
   have h2:x%(18446744073709551616 / m)*m≤ -1*m:=Int.mul_le_mul_of_nonneg_right h1 (by omega)
   omega
 rw[hz,u0 k m _ y hm hr hy hyk hk,nH _ (by have:=Int.mul_nonneg hr (Int.le_of_lt hm0);omega) hk,hf]
theorem acM (x y:Int) (hx:0≤x∧x<18446744073709551616) (hy:0≤y∧y<18446744073709551616):bits .and .u64 (bits .or .u64 (y / 2251799813685248) (IntKind.u64.wrap (x*8192))) 2251799813685247=x%274877906944*8192+y / 2251799813685248:=by
 rw[IntKind.wrap_u64]
 exact aaN 13 8192 274877906944 x (y / 2251799813685248) (by decide) (by decide) (by decide) (by omega) (by omega) (by omega) (by omega) (by omega) (by omega) (by omega)
theorem acN (x y:Int) (hx:0≤x∧x<18446744073709551616) (hy:0≤y∧y<18446744073709551616):bits .and .u64 (bits .or .u64 (y / 274877906944) (IntKind.u64.wrap (x*67108864))) 2251799813685247=x%33554432*67108864+y / 274877906944:=by
 rw[IntKind.wrap_u64]
 exact aaN 26 67108864 33554432 x (y / 274877906944) (by decide) (by decide) (by decide) (by omega) (by omega) (by omega) (by omega) (by omega) (by omega) (by omega)
theorem acO (x y:Int) (hx:0≤x∧x<18446744073709551616) (hy:0≤y∧y<18446744073709551616):bits .and .u64 (bits .or .u64 (y / 33554432) (IntKind.u64.wrap (x*549755813888))) 2251799813685247=x%4096*549755813888+y / 33554432:=by
 rw[IntKind.wrap_u64]
 exact aaN 39 549755813888 4096 x (y / 33554432) (by decide) (by decide) (by decide) (by omega) (by omega) (by omega) (by omega) (by omega) (by omega) (by omega)
theorem PT (x y:Int) (hx:0≤x∧x<4294967296) (hy:0≤y∧y<4294967296):bits .or .u64 y (x*4294967296)=x*4294967296+y:=
 u0 32 4294967296 x y (by decide) hx.1 hy.1 hy.2 (by omega)
theorem heap_drewN (w:World) (n i:Nat):(w.drewN n).heap[i]? =w.heap[i]? :=rfl
theorem OL (w:World) (n:Nat):(w.drewN n).heap.size=w.heap.size:=rfl
set_option maxHeartbeats 4000000 in
theorem ET (l:List Int) (hl:l.length=32) (hz:aE l) (w:World):
 Calls prog 123 #[.agg (Iv .u8 l)] w fun e w'=>e=.returned (.agg (Iv .u64 (sV l)))∧Below w.heap.size w w':=by
 have hw:∀i,0≤aF l i∧aF l i<4294967296:=fun i=>by have:=kR hz i;omega
 have hq:∀i,0≤oF l i∧oF l i<18446744073709551616:=fun i=>by have h0:=hw (2*i);have h1:=hw (2*i+1);unfold oF;omega
 have h0:=hq 0
 have h1:=hq 1
 have h2:=hq 2
 have h3:=hq 3
 have HC:Hid (∀W,_):=fun W=>nI (oF l 0%2251799813685248) (oF l 1%274877906944*8192+oF l 0 / 2251799813685248) (oF l 2%33554432*67108864+oF l 1 / 274877906944) (oF l 3%4096*549755813888+oF l 2 / 33554432) (oF l 3 / 4096)
  (by omega) (by omega) (by omega) (by omega) (by omega) W
 have HE:Hid (mP (oF l 0%2251799813685248) (oF l 1%274877906944*8192+oF l 0 / 2251799813685248) (oF l 2%33554432*67108864+oF l 1 / 274877906944) (oF l 3%4096*549755813888+oF l 2 / 33554432) (oF l 3 / 4096)=sV l):=rfl
 rw[HE.out]at HC
 have hR:(sV l).length=5:=rfl
 have HL:Hid _:=hR
 generalize sV l=R at*
 clear HE hR
 have a0:=nH (oF l 0) h0.1 h0.2
 have l1:=acM (oF l 1) (oF l 0) h1 h0
 have l2:=acN (oF l 2) (oF l 1) h2 h1
 have l3:=acO (oF l 3) (oF l 2) h3 h2
 have o0:bits .or .u64 (aF l 0) (aF l 1*4294967296)=oF l 0:=PT _ _ (hw 1) (hw 0)
 have o1:bits .or .u64 (aF l 2) (aF l 3*4294967296)=oF l 1:=PT _ _ (hw 3) (hw 2)
 have o2:bits .or .u64 (aF l 4) (aF l 5*4294967296)=oF l 2:=PT _ _ (hw 5) (hw 4)
 have o3:bits .or .u64 (aF l 6) (aF l 7*4294967296)=oF l 3:=PT _ _ (hw 7) (hw 6)
 have w0:=hw 0
 have w1:=hw 1
 have w2:=hw 2
 have w3:=hw 3
 have w4:=hw 4
 have w5:=hw 5
 have w6:=hw 6
 have w7:=hw 7
 have HZ:Hid (aE l):=hz
 have HLL:Hid (l.length=32):=hl
 have HWD:Hid (Iv .u32 (pF9 [0,0,0,0,0,0,0,0] 0 (aF l) (min (32 / 4+1) 8))=#[.int .u32 (aF l 0),.int .u32 (aF l 1),.int .u32 (aF l 2),.int .u32 (aF l 3),.int .u32 (aF l 4),.int .u32 (aF l 5),.int .u32 (aF l 6),.int .u32 (aF l 7)]):=rfl
 clear hw hq hz
 go_enter func123,ntmps123
 go_wp2
 refine wRh 2 kJ (by kernel_rfl) ?_
 simp only[tU,tJ,dJ,dY]
 repeat(go_big_quiet_step (fail))
 refine wqN ?_
 go_wp2_with fail
 refine(iV 32 (w.heap.size+1+1) 0 8 8 174 [0,0,0,0,0,0,0,0] w.heap.size 0 32 l _ HLL.out ?_ (by decide) (by decide) (by omega) HZ.out (by decide) (by decide) ?_ (by decide) (by decide)).mono ?_
 ·simp only[heap_drew,cC,wU]
  simp
  rfl
 ·intro i hi
  have:=cT .u8 l i (by have:=HLL.out;omega)
  simp only[World.cell?_drew]
  rw[World.cell?_alloc_past _ _ _ (by simp<;>omega),World.cell?_alloc_past _ _ _ (by simp<;>omega),World.cell?_alloc_at _ _ _ _ rfl,Nat.zero_add,this]
  simp[show i<l.length by have:=HLL.out;omega]
 rintro e w1 ⟨rfl,d,rfl⟩
 rw[uF,oT _ _ _ _ _ (by simp),HWD.out]
 generalize aF l 0=v0 at*
 generalize aF l 1=v1 at*
 generalize aF l 2=v2 at*
 generalize aF l 3=v3 at*
 generalize aF l 4=v4 at*
 generalize aF l 5=v5 at*
 generalize aF l 6=v6 at*
 generalize aF l 7=v7 at*
 generalize oF l 0=q0 at*
 generalize oF l 1=q1 at*
 generalize oF l 2=q2 at*
 generalize oF l 3=q3 at*
 clear HWD
 go_wp2
 refine wp_loop_rounds 5 ?_
 iterate 4
  rw[rdS];go_wp2
  refine wRh 15 kJ (by kernel_rfl) ?_
  simp only[tU,tJ,dJ,dY]
  repeat(go_big_quiet_step (fail))
  refine wqN ?_
  go_wp2
 rw[rdS];go_wp2_with fail
 refine(HC.out _).mono ?_
 rintro e w9 ⟨rfl,hb⟩
 have B1:Hid (Below w.heap.size w w9):=by
  refine Below.trans ?_ (hb.mono (by simp<;>omega))
  repeat(first|exact Below.refl _ _|refine wH ?_ |refine bDr ?_ _|refine Below.alloc ?_ (by simp<;>omega) _)
 have G1:Hid (w9.heap[w.heap.size+1]? =some (.cells (Iv .u64 [0,0,0,0,0]) 211)):=by
  show _=_
  rw[hb.block _ (by simp<;>omega)]
  simp only[heap_drew,heap_drewN,cC,wU,OL]
  (repeat(first|rw[if_neg (by omega)]|rw[if_pos (by omega)]));try rfl
 clear hb HC
 go_wp2_with(refine wpPr rfl 211 _ _ rfl (w.heap.size+1) (Iv .u64 R) rfl rfl _ _ G1.out (aZ HL.out) (IN HL.out) (aH _ _) (fun W hP=>sH ?_))
 refine aG ?_
 have B2:=hP.below _ _ B1.out (by omega)
 have G2:=hP.here
 go_wp2
 exact bodyPost_ret (v:=.agg (Iv .u64 R)) (results_cell_row rfl _ _ _ _ (Iv .u64 R) _ _ rfl G2 underlying211 rfl (aZ HL.out)) rfl ⟨rfl,B2⟩
theorem fK {w:World} {g:Nat} {cs:Array Value} {t:TypeId} (h:w.heap[g]? =some (.cells cs t)) (o:Nat) (v:Value):vD w g (cs.setIfInBounds o v) t (w.setCell ⟨g,o,none⟩ v):=by
 have e:w.setCell ⟨g,o,none⟩ v=w.setRow g (cs.setIfInBounds o v):=sN [v] w g o cs t (0,0) h
 rw[e]
 exact iC h _
theorem aV {P:Program} {ops:Array Oper} {rest:List Oper} {op:Oper} {a:Act} {w:World} {Q:Exit→Act→World→Prop} (hgd:op.guard=none) (ty:TypeId) (x y:Operand) (ho:op.op=.store ty x y)
 (k:IntKind) (g i:Nat) (v:Int) (hx:a.eval x=.pointer (some ⟨g,i,none⟩)) (hy:a.eval y=.int k v) (l:List Int) (t:TypeId) (hg:w.heap[g]? =some (.cells (Iv k l) t))
 (hs:(P.info? ty).map (·.size)=some 1) (hi:i<l.length) (new:List Int) (hnew:l.set i v=new)
 (h:∀W,vD w g (Iv k new) t W→wpList P ops Q rest (a.put op.dst undef) W):wpList P ops Q (op::rest) a w:=by
 subst hnew
 have hP:=fK hg i (.int k v)
 rw[bR]at hP
 have h2:=h _ hP
 have ht:w.there g i (#[Value.int k v]:Array Value).size:=by
  intro j hj
  simp only[List.size_toArray,List.length_cons,List.length_nil]at hj
  obtain rfl:j=0:=by omega
  refine⟨?_,frozen_of_row w g _ _ t hg⟩
  rw[cell_of_row _ _ _ _ _ _ hg,Nat.add_zero,cT k l i hi]
  rfl
 have e:(storeVar ty ⟨g,i,none⟩ (.int k v)).run P w=.ok () (w.setCell ⟨g,i,none⟩ (.int k v)):=run_storeVar_mid w g i ty #[.int k v] ht hs (by simp[Value.oneCell'])
 refine wpList_plain hgd fun K hK=>?_
 unfold Oper.wp execOp
 simp only[ho,hx,hy,Instr.storeAt,Instr.sureAddr,Sem.run_bind,Sem.run_pure,Result.andThen_ok,e]
 exact hK _ _ h2
def ZH:List Int→Prop
 | [a,b,c,d,e]=>(0≤a∧a<2251799813685248)∧(0≤b∧b<2251799813685248)∧(0≤c∧c<2251799813685248)∧(0≤d∧d<2251799813685248)∧(0≤e∧e<2251799813685248)
 | _=>False
def sW (r0 r1 r2 r3 r4:Int):List Int:=
 let e0:=(r0+19) / 2251799813685248
 let e1:=(r1+e0) / 2251799813685248
 let e2:=(r2+e1) / 2251799813685248
 let e3:=(r3+e2) / 2251799813685248
 let e4:=(r4+e3) / 2251799813685248
 if 0<e4 then[(r0+19)%2251799813685248,(r1+e0)%2251799813685248,(r2+e1)%2251799813685248,(r3+e2)%2251799813685248,(r4+e3)%2251799813685248]else[r0,r1,r2,r3,r4]
def JU:List Int→List Int
 | [x0,x1,x2,x3,x4]=>match mP x0 x1 x2 x3 x4 with
   | [r0,r1,r2,r3,r4]=>sW r0 r1 r2 r3 r4
   | _=>[]
 | _=>[]
theorem KJ (x0 x1 x2 x3 x4:Int) (h:El x0 x1 x2 x3 x4):ZH (mP x0 x1 x2 x3 x4)∧∃q,vL (mP x0 x1 x2 x3 x4)=mD x0 x1 x2 x3 x4 - q*pF:=by
 obtain⟨h0,h1,h2,h3,h4⟩:=h
 obtain⟨k1,q,k2⟩:=xM x0 x1 x2 x3 x4 (by omega) (by omega) (by omega) (by omega) (by omega)
 refine⟨?_,q,k2⟩
 unfold mP ZH
 simp only
 omega
theorem RQ (r0 r1 r2 r3 r4:Int) (h:ZH [r0,r1,r2,r3,r4]):ZH (sW r0 r1 r2 r3 r4)∧0≤vL (sW r0 r1 r2 r3 r4)∧vL (sW r0 r1 r2 r3 r4)<pF∧∃q,vL (sW r0 r1 r2 r3 r4)=mD r0 r1 r2 r3 r4 - q*pF:=by
 obtain⟨h0,h1,h2,h3,h4⟩:=h
 unfold sW
 simp only
 split
 ·rename_i h5
  unfold ZH vL mD pF
  simp only
  refine⟨by omega,by omega,by omega,1,by omega⟩
 ·rename_i h5
  unfold ZH vL mD pF
  simp only
  refine⟨by omega,by omega,by omega,0,by omega⟩
theorem JJ (a n q:Int) (h0:0≤a) (h1:a<pF) (h:a=n - q*pF):a=n%pF:=by
 unfold pF at*
 omega
theorem YM (l:List Int) (n:Int) (h:bT l n):ZH (JU l)∧vL (JU l)=n%pF:=by
 obtain⟨he,q,hq⟩:=h
 obtain⟨x0,x1,x2,x3,x4,rfl,hE⟩:=he.five
 obtain⟨k1,q1,k2⟩:=KJ x0 x1 x2 x3 x4 hE
 obtain⟨r0,r1,r2,r3,r4,hr⟩:∃r0 r1 r2 r3 r4,mP x0 x1 x2 x3 x4=[r0,r1,r2,r3,r4]:=⟨_,_,_,_,_,rfl⟩
 rw[hr]at k1 k2
 obtain⟨m1,m2,m3,q2,m4⟩:=RQ r0 r1 r2 r3 r4 k1
 have e:JU [x0,x1,x2,x3,x4]=sW r0 r1 r2 r3 r4:=by unfold JU;simp only;rw[hr]
 rw[e]
 refine⟨m1,JJ _ _ (q+q1+q2) m2 m3 ?_⟩
 have k3:mD r0 r1 r2 r3 r4=mD x0 x1 x2 x3 x4 - q1*pF:=k2
 have k4:mD x0 x1 x2 x3 x4=n - q*pF:=hq
 rw[m4,k3,k4]
 unfold pF
 omega
theorem fD:(prog.info? 95).map (·.size)=some 1:=by kernel_rfl
set_option maxHeartbeats 4000000 in
theorem VH (l:List Int) (h:fY l) (w:World):
 Calls prog 137 #[.agg (Iv .u64 l)] w fun e w'=>e=.returned (.agg (Iv .u64 (JU l)))∧Below w.heap.size w w':=by
 obtain⟨x0,x1,x2,x3,x4,rfl,hE⟩:=h.five
 obtain⟨k1,_⟩:=KJ x0 x1 x2 x3 x4 hE
 obtain⟨hE0,hE1,hE2,hE3,hE4⟩:=hE
 have HC:Hid (∀W,_):=fun W=>nI x0 x1 x2 x3 x4 (by omega) (by omega) (by omega) (by omega) (by omega) W
 obtain⟨r0,r1,r2,r3,r4,hr⟩:∃r0 r1 r2 r3 r4,mP x0 x1 x2 x3 x4=[r0,r1,r2,r3,r4]:=⟨_,_,_,_,_,rfl⟩
 have e:JU [x0,x1,x2,x3,x4]=sW r0 r1 r2 r3 r4:=by unfold JU;simp only;rw[hr]
 rw[e]
 rw[hr]at HC k1
 obtain⟨h0,h1,h2,h3,h4⟩:=k1
 obtain⟨e0,f0⟩:∃c,(r0+19) / 2251799813685248=c:=⟨_,rfl⟩
 obtain⟨e1,f1⟩:∃c,(r1+e0) / 2251799813685248=c:=⟨_,rfl⟩
 obtain⟨e2,f2⟩:∃c,(r2+e1) / 2251799813685248=c:=⟨_,rfl⟩
 obtain⟨e3,f3⟩:∃c,(r3+e2) / 2251799813685248=c:=⟨_,rfl⟩
 obtain⟨e4,f4⟩:∃c,(r4+e3) / 2251799813685248=c:=⟨_,rfl⟩
 have k0:0≤e0∧e0≤1:=by omega
 have k1:0≤e1∧e1≤1:=by omega
 have k2:0≤e2∧e2≤1:=by omega
 have k3:0≤e3∧e3≤1:=by omega
 have k4:0≤e4∧e4≤1:=by omega
 have a0:=nH (r0+19) (by omega) (by omega)
 have a1:=nH (r1+e0) (by omega) (by omega)
 have a2:=nH (r2+e1) (by omega) (by omega)
 have a3:=nH (r3+e2) (by omega) (by omega)
 have a4:=nH (r4+e3) (by omega) (by omega)
 have HLF:Hid (sW r0 r1 r2 r3 r4=if 0<e4 then[(r0+19)%2251799813685248,(r1+e0)%2251799813685248,(r2+e1)%2251799813685248,(r3+e2)%2251799813685248,(r4+e3)%2251799813685248]else[r0,r1,r2,r3,r4]):=by
  show _=_
  unfold sW
  simp only
  rw[f0,f1,f2,f3,f4]
 obtain⟨t0,g0⟩:∃r,(r0+19)%2251799813685248=r:=⟨_,rfl⟩
 obtain⟨t1,g1⟩:∃r,(r1+e0)%2251799813685248=r:=⟨_,rfl⟩
 obtain⟨t2,g2⟩:∃r,(r2+e1)%2251799813685248=r:=⟨_,rfl⟩
 obtain⟨t3,g3⟩:∃r,(r3+e2)%2251799813685248=r:=⟨_,rfl⟩
 obtain⟨t4,g4⟩:∃r,(r4+e3)%2251799813685248=r:=⟨_,rfl⟩
 rw[g0]at a0
 rw[g1]at a1
 rw[g2]at a2
 rw[g3]at a3
 rw[g4]at a4
 rw[g0,g1,g2,g3,g4]at HLF
 clear g0 g1 g2 g3 g4 hr e
 have hrow:∀a b c d e:Int,Iv .u64 [a,b,c,d,e]=#[.int .u64 a,.int .u64 b,.int .u64 c,.int .u64 d,.int .u64 e]:=fun _ _ _ _ _=>rfl
 rw[hrow]at HC⊢
 by_cases hb:0<e4
 ·have HR:Hid (sW r0 r1 r2 r3 r4=[t0,t1,t2,t3,t4]):=by show _=_;rw[HLF.out,if_pos hb]
  have e41:0<e4:=hb
  rw[HR.out]
  clear HLF HR hb
  go_enter func137,ntmps137
  go_wp2_with fail
  refine(HC.out _).mono ?_
  rintro e w1 ⟨rfl,hb⟩
  have F1:Hid (Rw w [(w.heap.size+1,Iv .u64 [0,0,0,0,0],211),(w.heap.size,Iv .u64 [x0,x1,x2,x3,x4],211)] w1):=by
   have h:=(((Rw.start w).alloc (Iv .u64 [x0,x1,x2,x3,x4]) 211).alloc (Iv .u64 [0,0,0,0,0]) 211).later hb (nQ _)
   simp only[wU]at h
   exact h
  have G0:Hid _:=(F1.out.row _ (mC _ mQ)).2.2
  clear hb HC
  go_wp2_with(refine wpPr rfl 211 _ _ rfl w.heap.size (Iv .u64 [r0,r1,r2,r3,r4]) rfl rfl _ _ G0.out kI rfl (aH _ _) (fun w2 hP=>sH ?_))
  refine aG ?_
  have F2:Hid (Rw w [(w.heap.size,Iv .u64 [r0,r1,r2,r3,r4],211),(w.heap.size+1,Iv .u64 [0,0,0,0,0],211)] w2):=Rw.put (F1.out.sub (fun r hr=>by simp only[List.mem_cons,nY,or_false]at hr⊢;exact hr.symm)) hP (fun r hr=>by rw[mU.1 hr];show w.heap.size+1≠w.heap.size;omega)
  have G2:Hid _:=(F2.out.row _ mQ).2.2
  have KA:Hid ((w2.alloc (.cells (Iv .u64 [0,0,0,0,0]) 211)).heap[w2.heap.size]? =some (.cells (Iv .u64 [0,0,0,0,0]) 211)):=hAN _ _
  clear hP F1 G0
  go_wp2_with(first
   | refine wpLr rfl 211 _ rfl w.heap.size rfl _ (Iv .u64 [r0,r1,r2,r3,r4]) _ _ G2.out underlying211 rfl kI ?_
   | refine wpPr rfl 211 _ _ rfl w2.heap.size (Iv .u64 [r0,r1,r2,r3,r4]) rfl rfl _ _ KA.out kI rfl (aH _ _) (fun w3 hP=>sH ?_))
  refine aG ?_
  have F3:=F2.out.newRow hP
  obtain⟨g3,eg3⟩:∃x,x=w2.heap.size:=⟨_,rfl⟩
  rw[←eg3]at F3⊢
  have HF3:Hid _:=F3
  have hlt3:w.heap.size+1<g3:=by rw[eg3];exact(F2.out.row _ (mC _ mQ)).2.1
  have c0:w3.heap[g3]? =some (.cells #[.int .u64 r0,.int .u64 r1,.int .u64 r2,.int .u64 r3,.int .u64 r4] 211):=(F3.row _ mQ).2.2
  clear F3 eg3 hP KA G2 F2 c0
  go_wp2_with fail
  refine wp_loop_rounds 6 ?_
  have cA0:w3.cell? ⟨g3,0,none⟩=some (.int .u64 r0):=by rw[cell_of_row _ _ _ _ _ _ (HF3.out.row _ mQ).2.2];rfl
  have HA0:Hid _:=(HF3.out.row _ mQ).2.2
  rw[rdS]
  go_wp2_with(with_reducible refine aI ?_;refine aV rfl 95 _ _ rfl .u64 g3 0 (r0+19) rfl rfl [r0,r1,r2,r3,r4] _ HA0.out fD (by simp) [r0+19,r1,r2,r3,r4] rfl (fun y0 hP=>sH ?_))
  refine aG ?_
  have F_y0:Hid (Rw w [(g3,Iv .u64 [r0+19,r1,r2,r3,r4],211),(w.heap.size,Iv .u64 [r0,r1,r2,r3,r4],211),(w.heap.size+1,Iv .u64 [0,0,0,0,0],211)] y0):=Rw.put HF3.out hP (fun r hr=>by simp only[List.mem_cons,nY,or_false]at hr;rcases hr with rfl|rfl<;>(simp only;omega))
  clear hP HF3 cA0 HA0
  have cB0:y0.cell? ⟨g3,0,none⟩=some (.int .u64 (r0+19)):=by rw[cell_of_row _ _ _ _ _ _ (F_y0.out.row _ mQ).2.2];rfl
  have HB0:Hid _:=(F_y0.out.row _ mQ).2.2
  go_wp2_with(with_reducible refine aI ?_;refine aV rfl 95 _ _ rfl .u64 g3 0 (t0) rfl rfl [r0+19,r1,r2,r3,r4] _ HB0.out fD (by simp) [t0,r1,r2,r3,r4] rfl (fun z0 hP=>sH ?_))
  refine aG ?_
  have F_z0:Hid (Rw w [(g3,Iv .u64 [t0,r1,r2,r3,r4],211),(w.heap.size,Iv .u64 [r0,r1,r2,r3,r4],211),(w.heap.size+1,Iv .u64 [0,0,0,0,0],211)] z0):=Rw.put F_y0.out hP (fun r hr=>by simp only[List.mem_cons,nY,or_false]at hr;rcases hr with rfl|rfl<;>(simp only;omega))
  clear hP F_y0 cB0 HB0
  go_wp2_with fail
  have cA1:z0.cell? ⟨g3,1,none⟩=some (.int .u64 r1):=by rw[cell_of_row _ _ _ _ _ _ (F_z0.out.row _ mQ).2.2];rfl
  have HA1:Hid _:=(F_z0.out.row _ mQ).2.2
  rw[rdS]
  go_wp2_with(with_reducible refine aI ?_;refine aV rfl 95 _ _ rfl .u64 g3 1 (r1+e0) rfl rfl [t0,r1,r2,r3,r4] _ HA1.out fD (by simp) [t0,r1+e0,r2,r3,r4] rfl (fun y1 hP=>sH ?_))
  refine aG ?_
  have F_y1:Hid (Rw w [(g3,Iv .u64 [t0,r1+e0,r2,r3,r4],211),(w.heap.size,Iv .u64 [r0,r1,r2,r3,r4],211),(w.heap.size+1,Iv .u64 [0,0,0,0,0],211)] y1):=Rw.put F_z0.out hP (fun r hr=>by simp only[List.mem_cons,nY,or_false]at hr;rcases hr with rfl|rfl<;>(simp only;omega))
  clear hP F_z0 cA1 HA1
  have cB1:y1.cell? ⟨g3,1,none⟩=some (.int .u64 (r1+e0)):=by rw[cell_of_row _ _ _ _ _ _ (F_y1.out.row _ mQ).2.2];rfl
  have HB1:Hid _:=(F_y1.out.row _ mQ).2.2
  go_wp2_with(with_reducible refine aI ?_;refine aV rfl 95 _ _ rfl .u64 g3 1 (t1) rfl rfl [t0,r1+e0,r2,r3,r4] _ HB1.out fD (by simp) [t0,t1,r2,r3,r4] rfl (fun z1 hP=>sH ?_))
  refine aG ?_
  have F_z1:Hid (Rw w [(g3,Iv .u64 [t0,t1,r2,r3,r4],211),(w.heap.size,Iv .u64 [r0,r1,r2,r3,r4],211),(w.heap.size+1,Iv .u64 [0,0,0,0,0],211)] z1):=Rw.put F_y1.out hP (fun r hr=>by simp only[List.mem_cons,nY,or_false]at hr;rcases hr with rfl|rfl<;>(simp only;omega))
  clear hP F_y1 cB1 HB1
  go_wp2_with fail
  have cA2:z1.cell? ⟨g3,2,none⟩=some (.int .u64 r2):=by rw[cell_of_row _ _ _ _ _ _ (F_z1.out.row _ mQ).2.2];rfl
  have HA2:Hid _:=(F_z1.out.row _ mQ).2.2
  rw[rdS]
  go_wp2_with(with_reducible refine aI ?_;refine aV rfl 95 _ _ rfl .u64 g3 2 (r2+e1) rfl rfl [t0,t1,r2,r3,r4] _ HA2.out fD (by simp) [t0,t1,r2+e1,r3,r4] rfl (fun y2 hP=>sH ?_))
  refine aG ?_
  have F_y2:Hid (Rw w [(g3,Iv .u64 [t0,t1,r2+e1,r3,r4],211),(w.heap.size,Iv .u64 [r0,r1,r2,r3,r4],211),(w.heap.size+1,Iv .u64 [0,0,0,0,0],211)] y2):=Rw.put F_z1.out hP (fun r hr=>by simp only[List.mem_cons,nY,or_false]at hr;rcases hr with rfl|rfl<;>(simp only;omega))
  clear hP F_z1 cA2 HA2
  have cB2:y2.cell? ⟨g3,2,none⟩=some (.int .u64 (r2+e1)):=by rw[cell_of_row _ _ _ _ _ _ (F_y2.out.row _ mQ).2.2];rfl
  have HB2:Hid _:=(F_y2.out.row _ mQ).2.2
  go_wp2_with(with_reducible refine aI ?_;refine aV rfl 95 _ _ rfl .u64 g3 2 (t2) rfl rfl [t0,t1,r2+e1,r3,r4] _ HB2.out fD (by simp) [t0,t1,t2,r3,r4] rfl (fun z2 hP=>sH ?_))
  refine aG ?_
  have F_z2:Hid (Rw w [(g3,Iv .u64 [t0,t1,t2,r3,r4],211),(w.heap.size,Iv .u64 [r0,r1,r2,r3,r4],211),(w.heap.size+1,Iv .u64 [0,0,0,0,0],211)] z2):=Rw.put F_y2.out hP (fun r hr=>by simp only[List.mem_cons,nY,or_false]at hr;rcases hr with rfl|rfl<;>(simp only;omega))
  clear hP F_y2 cB2 HB2
  go_wp2_with fail
  have cA3:z2.cell? ⟨g3,3,none⟩=some (.int .u64 r3):=by rw[cell_of_row _ _ _ _ _ _ (F_z2.out.row _ mQ).2.2];rfl
  have HA3:Hid _:=(F_z2.out.row _ mQ).2.2
  rw[rdS]
  go_wp2_with(with_reducible refine aI ?_;refine aV rfl 95 _ _ rfl .u64 g3 3 (r3+e2) rfl rfl [t0,t1,t2,r3,r4] _ HA3.out fD (by simp) [t0,t1,t2,r3+e2,r4] rfl (fun y3 hP=>sH ?_))
  refine aG ?_
  have F_y3:Hid (Rw w [(g3,Iv .u64 [t0,t1,t2,r3+e2,r4],211),(w.heap.size,Iv .u64 [r0,r1,r2,r3,r4],211),(w.heap.size+1,Iv .u64 [0,0,0,0,0],211)] y3):=Rw.put F_z2.out hP (fun r hr=>by simp only[List.mem_cons,nY,or_false]at hr;rcases hr with rfl|rfl<;>(simp only;omega))
  clear hP F_z2 cA3 HA3
  have cB3:y3.cell? ⟨g3,3,none⟩=some (.int .u64 (r3+e2)):=by rw[cell_of_row _ _ _ _ _ _ (F_y3.out.row _ mQ).2.2];rfl
  have HB3:Hid _:=(F_y3.out.row _ mQ).2.2
  go_wp2_with(with_reducible refine aI ?_;refine aV rfl 95 _ _ rfl .u64 g3 3 (t3) rfl rfl [t0,t1,t2,r3+e2,r4] _ HB3.out fD (by simp) [t0,t1,t2,t3,r4] rfl (fun z3 hP=>sH ?_))
  refine aG ?_
  have F_z3:Hid (Rw w [(g3,Iv .u64 [t0,t1,t2,t3,r4],211),(w.heap.size,Iv .u64 [r0,r1,r2,r3,r4],211),(w.heap.size+1,Iv .u64 [0,0,0,0,0],211)] z3):=Rw.put F_y3.out hP (fun r hr=>by simp only[List.mem_cons,nY,or_false]at hr;rcases hr with rfl|rfl<;>(simp only;omega))
  clear hP F_y3 cB3 HB3
  go_wp2_with fail
  have cA4:z3.cell? ⟨g3,4,none⟩=some (.int .u64 r4):=by rw[cell_of_row _ _ _ _ _ _ (F_z3.out.row _ mQ).2.2];rfl
  have HA4:Hid _:=(F_z3.out.row _ mQ).2.2
  rw[rdS]
  go_wp2_with(with_reducible refine aI ?_;refine aV rfl 95 _ _ rfl .u64 g3 4 (r4+e3) rfl rfl [t0,t1,t2,t3,r4] _ HA4.out fD (by simp) [t0,t1,t2,t3,r4+e3] rfl (fun y4 hP=>sH ?_))
  refine aG ?_
  have F_y4:Hid (Rw w [(g3,Iv .u64 [t0,t1,t2,t3,r4+e3],211),(w.heap.size,Iv .u64 [r0,r1,r2,r3,r4],211),(w.heap.size+1,Iv .u64 [0,0,0,0,0],211)] y4):=Rw.put F_z3.out hP (fun r hr=>by simp only[List.mem_cons,nY,or_false]at hr;rcases hr with rfl|rfl<;>(simp only;omega))
  clear hP F_z3 cA4 HA4
  have cB4:y4.cell? ⟨g3,4,none⟩=some (.int .u64 (r4+e3)):=by rw[cell_of_row _ _ _ _ _ _ (F_y4.out.row _ mQ).2.2];rfl
  have HB4:Hid _:=(F_y4.out.row _ mQ).2.2
  go_wp2_with(with_reducible refine aI ?_;refine aV rfl 95 _ _ rfl .u64 g3 4 (t4) rfl rfl [t0,t1,t2,t3,r4+e3] _ HB4.out fD (by simp) [t0,t1,t2,t3,t4] rfl (fun z4 hP=>sH ?_))
  refine aG ?_
  have F_z4:Hid (Rw w [(g3,Iv .u64 [t0,t1,t2,t3,t4],211),(w.heap.size,Iv .u64 [r0,r1,r2,r3,r4],211),(w.heap.size+1,Iv .u64 [0,0,0,0,0],211)] z4):=Rw.put F_y4.out hP (fun r hr=>by simp only[List.mem_cons,nY,or_false]at hr;rcases hr with rfl|rfl<;>(simp only;omega))
  clear hP F_y4 cB4 HB4
  go_wp2_with fail
  have HQ:Hid _:=(F_z4.out.row _ mQ).2.2
  have HZ:Hid _:=(F_z4.out.row _ (mC _ (mC _ mQ))).2.2
  rw[rdS]
  go_wp2_with(first
   | refine wpLr rfl 211 _ rfl g3 rfl _ (Iv .u64 [t0,t1,t2,t3,t4]) _ _ HQ.out underlying211 rfl kI ?_
   | refine wpPr rfl 211 _ _ rfl (w.heap.size+1) (Iv .u64 [t0,t1,t2,t3,t4]) rfl rfl _ _ HZ.out kI rfl (aH _ _) (fun W9 hP=>sH ?_))
  refine aG ?_
  have B9:=hP.below _ _ F_z4.out.bel (by omega)
  have G9:=hP.here
  go_wp2
  exact bodyPost_ret (v:=.agg (Iv .u64 [t0,t1,t2,t3,t4])) (results_cell_row rfl _ _ _ _ (Iv .u64 [t0,t1,t2,t3,t4]) _ _ rfl G9 underlying211 rfl kI) rfl ⟨rfl,B9⟩
 ·have HR:Hid (sW r0 r1 r2 r3 r4=[r0,r1,r2,r3,r4]):=by show _=_;rw[HLF.out,if_neg hb]
  have e41:(0<e4)=False:=eq_false hb
  rw[HR.out]
  clear HLF HR hb
  go_enter func137,ntmps137
  go_wp2_with fail
  refine(HC.out _).mono ?_
  rintro e w1 ⟨rfl,hb⟩
  have F1:Hid (Rw w [(w.heap.size+1,Iv .u64 [0,0,0,0,0],211),(w.heap.size,Iv .u64 [x0,x1,x2,x3,x4],211)] w1):=by
   have h:=(((Rw.start w).alloc (Iv .u64 [x0,x1,x2,x3,x4]) 211).alloc (Iv .u64 [0,0,0,0,0]) 211).later hb (nQ _)
   simp only[wU]at h
   exact h
  have G0:Hid _:=(F1.out.row _ (mC _ mQ)).2.2
  clear hb HC
  go_wp2_with(refine wpPr rfl 211 _ _ rfl w.heap.size (Iv .u64 [r0,r1,r2,r3,r4]) rfl rfl _ _ G0.out kI rfl (aH _ _) (fun w2 hP=>sH ?_))
  refine aG ?_
  have F2:Hid (Rw w [(w.heap.size,Iv .u64 [r0,r1,r2,r3,r4],211),(w.heap.size+1,Iv .u64 [0,0,0,0,0],211)] w2):=Rw.put (F1.out.sub (fun r hr=>by simp only[List.mem_cons,nY,or_false]at hr⊢;exact hr.symm)) hP (fun r hr=>by rw[mU.1 hr];show w.heap.size+1≠w.heap.size;omega)
  have G2:Hid _:=(F2.out.row _ mQ).2.2
  have KA:Hid ((w2.alloc (.cells (Iv .u64 [0,0,0,0,0]) 211)).heap[w2.heap.size]? =some (.cells (Iv .u64 [0,0,0,0,0]) 211)):=hAN _ _
  clear hP F1 G0
  go_wp2_with(first
   | refine wpLr rfl 211 _ rfl w.heap.size rfl _ (Iv .u64 [r0,r1,r2,r3,r4]) _ _ G2.out underlying211 rfl kI ?_
   | refine wpPr rfl 211 _ _ rfl w2.heap.size (Iv .u64 [r0,r1,r2,r3,r4]) rfl rfl _ _ KA.out kI rfl (aH _ _) (fun w3 hP=>sH ?_))
  refine aG ?_
  have F3:=F2.out.newRow hP
  obtain⟨g3,eg3⟩:∃x,x=w2.heap.size:=⟨_,rfl⟩
  rw[←eg3]at F3⊢
  have HF3:Hid _:=F3
  have hlt3:w.heap.size+1<g3:=by rw[eg3];exact(F2.out.row _ (mC _ mQ)).2.1
  have c0:w3.heap[g3]? =some (.cells #[.int .u64 r0,.int .u64 r1,.int .u64 r2,.int .u64 r3,.int .u64 r4] 211):=(F3.row _ mQ).2.2
  clear F3 eg3 hP KA G2 F2 c0
  go_wp2_with fail
  refine wp_loop_rounds 6 ?_
  have cA0:w3.cell? ⟨g3,0,none⟩=some (.int .u64 r0):=by rw[cell_of_row _ _ _ _ _ _ (HF3.out.row _ mQ).2.2];rfl
  have HA0:Hid _:=(HF3.out.row _ mQ).2.2
  rw[rdS]
  go_wp2_with(with_reducible refine aI ?_;refine aV rfl 95 _ _ rfl .u64 g3 0 (r0+19) rfl rfl [r0,r1,r2,r3,r4] _ HA0.out fD (by simp) [r0+19,r1,r2,r3,r4] rfl (fun y0 hP=>sH ?_))
  refine aG ?_
  have F_y0:Hid (Rw w [(g3,Iv .u64 [r0+19,r1,r2,r3,r4],211),(w.heap.size,Iv .u64 [r0,r1,r2,r3,r4],211),(w.heap.size+1,Iv .u64 [0,0,0,0,0],211)] y0):=Rw.put HF3.out hP (fun r hr=>by simp only[List.mem_cons,nY,or_false]at hr;rcases hr with rfl|rfl<;>(simp only;omega))
  clear hP HF3 cA0 HA0
  have cB0:y0.cell? ⟨g3,0,none⟩=some (.int .u64 (r0+19)):=by rw[cell_of_row _ _ _ _ _ _ (F_y0.out.row _ mQ).2.2];rfl
  have HB0:Hid _:=(F_y0.out.row _ mQ).2.2
  go_wp2_with(with_reducible refine aI ?_;refine aV rfl 95 _ _ rfl .u64 g3 0 (t0) rfl rfl [r0+19,r1,r2,r3,r4] _ HB0.out fD (by simp) [t0,r1,r2,r3,r4] rfl (fun z0 hP=>sH ?_))
  refine aG ?_
  have F_z0:Hid (Rw w [(g3,Iv .u64 [t0,r1,r2,r3,r4],211),(w.heap.size,Iv .u64 [r0,r1,r2,r3,r4],211),(w.heap.size+1,Iv .u64 [0,0,0,0,0],211)] z0):=Rw.put F_y0.out hP (fun r hr=>by simp only[List.mem_cons,nY,or_false]at hr;rcases hr with rfl|rfl<;>(simp only;omega))
  clear hP F_y0 cB0 HB0
  go_wp2_with fail
  have cA1:z0.cell? ⟨g3,1,none⟩=some (.int .u64 r1):=by rw[cell_of_row _ _ _ _ _ _ (F_z0.out.row _ mQ).2.2];rfl
  have HA1:Hid _:=(F_z0.out.row _ mQ).2.2
  rw[rdS]
  go_wp2_with(with_reducible refine aI ?_;refine aV rfl 95 _ _ rfl .u64 g3 1 (r1+e0) rfl rfl [t0,r1,r2,r3,r4] _ HA1.out fD (by simp) [t0,r1+e0,r2,r3,r4] rfl (fun y1 hP=>sH ?_))
  refine aG ?_
  have F_y1:Hid (Rw w [(g3,Iv .u64 [t0,r1+e0,r2,r3,r4],211),(w.heap.size,Iv .u64 [r0,r1,r2,r3,r4],211),(w.heap.size+1,Iv .u64 [0,0,0,0,0],211)] y1):=Rw.put F_z0.out hP (fun r hr=>by simp only[List.mem_cons,nY,or_false]at hr;rcases hr with rfl|rfl<;>(simp only;omega))
  clear hP F_z0 cA1 HA1
  have cB1:y1.cell? ⟨g3,1,none⟩=some (.int .u64 (r1+e0)):=by rw[cell_of_row _ _ _ _ _ _ (F_y1.out.row _ mQ).2.2];rfl
  have HB1:Hid _:=(F_y1.out.row _ mQ).2.2
  go_wp2_with(with_reducible refine aI ?_;refine aV rfl 95 _ _ rfl .u64 g3 1 (t1) rfl rfl [t0,r1+e0,r2,r3,r4] _ HB1.out fD (by simp) [t0,t1,r2,r3,r4] rfl (fun z1 hP=>sH ?_))
  refine aG ?_
  have F_z1:Hid (Rw w [(g3,Iv .u64 [t0,t1,r2,r3,r4],211),(w.heap.size,Iv .u64 [r0,r1,r2,r3,r4],211),(w.heap.size+1,Iv .u64 [0,0,0,0,0],211)] z1):=Rw.put F_y1.out hP (fun r hr=>by simp only[List.mem_cons,nY,or_false]at hr;rcases hr with rfl|rfl<;>(simp only;omega))
  clear hP F_y1 cB1 HB1
  go_wp2_with fail
  have cA2:z1.cell? ⟨g3,2,none⟩=some (.int .u64 r2):=by rw[cell_of_row _ _ _ _ _ _ (F_z1.out.row _ mQ).2.2];rfl
  have HA2:Hid _:=(F_z1.out.row _ mQ).2.2
  rw[rdS]
  go_wp2_with(with_reducible refine aI ?_;refine aV rfl 95 _ _ rfl .u64 g3 2 (r2+e1) rfl rfl [t0,t1,r2,r3,r4] _ HA2.out fD (by simp) [t0,t1,r2+e1,r3,r4] rfl (fun y2 hP=>sH ?_))
  refine aG ?_
  have F_y2:Hid (Rw w [(g3,Iv .u64 [t0,t1,r2+e1,r3,r4],211),(w.heap.size,Iv .u64 [r0,r1,r2,r3,r4],211),(w.heap.size+1,Iv .u64 [0,0,0,0,0],211)] y2):=Rw.put F_z1.out hP (fun r hr=>by simp only[List.mem_cons,nY,or_false]at hr;rcases hr with rfl|rfl<;>(simp only;omega))
  clear hP F_z1 cA2 HA2
  have cB2:y2.cell? ⟨g3,2,none⟩=some (.int .u64 (r2+e1)):=by rw[cell_of_row _ _ _ _ _ _ (F_y2.out.row _ mQ).2.2];rfl
  have HB2:Hid _:=(F_y2.out.row _ mQ).2.2
  go_wp2_with(with_reducible refine aI ?_;refine aV rfl 95 _ _ rfl .u64 g3 2 (t2) rfl rfl [t0,t1,r2+e1,r3,r4] _ HB2.out fD (by simp) [t0,t1,t2,r3,r4] rfl (fun z2 hP=>sH ?_))
  refine aG ?_
  have F_z2:Hid (Rw w [(g3,Iv .u64 [t0,t1,t2,r3,r4],211),(w.heap.size,Iv .u64 [r0,r1,r2,r3,r4],211),(w.heap.size+1,Iv .u64 [0,0,0,0,0],211)] z2):=Rw.put F_y2.out hP (fun r hr=>by simp only[List.mem_cons,nY,or_false]at hr;rcases hr with rfl|rfl<;>(simp only;omega))
  clear hP F_y2 cB2 HB2
  go_wp2_with fail
  have cA3:z2.cell? ⟨g3,3,none⟩=some (.int .u64 r3):=by rw[cell_of_row _ _ _ _ _ _ (F_z2.out.row _ mQ).2.2];rfl
  have HA3:Hid _:=(F_z2.out.row _ mQ).2.2
  rw[rdS]
  go_wp2_with(with_reducible refine aI ?_;refine aV rfl 95 _ _ rfl .u64 g3 3 (r3+e2) rfl rfl [t0,t1,t2,r3,r4] _ HA3.out fD (by simp) [t0,t1,t2,r3+e2,r4] rfl (fun y3 hP=>sH ?_))
  refine aG ?_
  have F_y3:Hid (Rw w [(g3,Iv .u64 [t0,t1,t2,r3+e2,r4],211),(w.heap.size,Iv .u64 [r0,r1,r2,r3,r4],211),(w.heap.size+1,Iv .u64 [0,0,0,0,0],211)] y3):=Rw.put F_z2.out hP (fun r hr=>by simp only[List.mem_cons,nY,or_false]at hr;rcases hr with rfl|rfl<;>(simp only;omega))
  clear hP F_z2 cA3 HA3
  have cB3:y3.cell? ⟨g3,3,none⟩=some (.int .u64 (r3+e2)):=by rw[cell_of_row _ _ _ _ _ _ (F_y3.out.row _ mQ).2.2];rfl
  have HB3:Hid _:=(F_y3.out.row _ mQ).2.2
  go_wp2_with(with_reducible refine aI ?_;refine aV rfl 95 _ _ rfl .u64 g3 3 (t3) rfl rfl [t0,t1,t2,r3+e2,r4] _ HB3.out fD (by simp) [t0,t1,t2,t3,r4] rfl (fun z3 hP=>sH ?_))
  refine aG ?_
  have F_z3:Hid (Rw w [(g3,Iv .u64 [t0,t1,t2,t3,r4],211),(w.heap.size,Iv .u64 [r0,r1,r2,r3,r4],211),(w.heap.size+1,Iv .u64 [0,0,0,0,0],211)] z3):=Rw.put F_y3.out hP (fun r hr=>by simp only[List.mem_cons,nY,or_false]at hr;rcases hr with rfl|rfl<;>(simp only;omega))
  clear hP F_y3 cB3 HB3
  go_wp2_with fail
  have cA4:z3.cell? ⟨g3,4,none⟩=some (.int .u64 r4):=by rw[cell_of_row _ _ _ _ _ _ (F_z3.out.row _ mQ).2.2];rfl
  have HA4:Hid _:=(F_z3.out.row _ mQ).2.2
  rw[rdS]
  go_wp2_with(with_reducible refine aI ?_;refine aV rfl 95 _ _ rfl .u64 g3 4 (r4+e3) rfl rfl [t0,t1,t2,t3,r4] _ HA4.out fD (by simp) [t0,t1,t2,t3,r4+e3] rfl (fun y4 hP=>sH ?_))
  refine aG ?_
  have F_y4:Hid (Rw w [(g3,Iv .u64 [t0,t1,t2,t3,r4+e3],211),(w.heap.size,Iv .u64 [r0,r1,r2,r3,r4],211),(w.heap.size+1,Iv .u64 [0,0,0,0,0],211)] y4):=Rw.put F_z3.out hP (fun r hr=>by simp only[List.mem_cons,nY,or_false]at hr;rcases hr with rfl|rfl<;>(simp only;omega))
  clear hP F_z3 cA4 HA4
  have cB4:y4.cell? ⟨g3,4,none⟩=some (.int .u64 (r4+e3)):=by rw[cell_of_row _ _ _ _ _ _ (F_y4.out.row _ mQ).2.2];rfl
  have HB4:Hid _:=(F_y4.out.row _ mQ).2.2
  go_wp2_with(with_reducible refine aI ?_;refine aV rfl 95 _ _ rfl .u64 g3 4 (t4) rfl rfl [t0,t1,t2,t3,r4+e3] _ HB4.out fD (by simp) [t0,t1,t2,t3,t4] rfl (fun z4 hP=>sH ?_))
  refine aG ?_
  have F_z4:Hid (Rw w [(g3,Iv .u64 [t0,t1,t2,t3,t4],211),(w.heap.size,Iv .u64 [r0,r1,r2,r3,r4],211),(w.heap.size+1,Iv .u64 [0,0,0,0,0],211)] z4):=Rw.put F_y4.out hP (fun r hr=>by simp only[List.mem_cons,nY,or_false]at hr;rcases hr with rfl|rfl<;>(simp only;omega))
  clear hP F_y4 cB4 HB4
  go_wp2_with fail
  have HQ:Hid _:=(F_z4.out.row _ (mC _ mQ)).2.2
  have HZ:Hid _:=(F_z4.out.row _ (mC _ (mC _ mQ))).2.2
  rw[rdS]
  go_wp2_with(first
   | refine wpLr rfl 211 _ rfl w.heap.size rfl _ (Iv .u64 [r0,r1,r2,r3,r4]) _ _ HQ.out underlying211 rfl kI ?_
   | refine wpPr rfl 211 _ _ rfl (w.heap.size+1) (Iv .u64 [r0,r1,r2,r3,r4]) rfl rfl _ _ HZ.out kI rfl (aH _ _) (fun W9 hP=>sH ?_))
  refine aG ?_
  have B9:=hP.below _ _ F_z4.out.bel (by omega)
  have G9:=hP.here
  go_wp2
  exact bodyPost_ret (v:=.agg (Iv .u64 [r0,r1,r2,r3,r4])) (results_cell_row rfl _ _ _ _ (Iv .u64 [r0,r1,r2,r3,r4]) _ _ rfl G9 underlying211 rfl kI) rfl ⟨rfl,B9⟩
end Go.Proofs.YtgcepckaolkeoaaGreatDoor
