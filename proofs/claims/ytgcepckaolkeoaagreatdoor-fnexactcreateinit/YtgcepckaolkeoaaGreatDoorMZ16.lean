import Derived.Test.YtgcepckaolkeoaaGreatDoorMZ15
namespace Go.Proofs.YtgcepckaolkeoaaGreatDoor
open Go.RowKit
open Go.Proofs.Tryz
open Go renaming heap_alloc_new → hAN, heap_alloc_old → hAO, wpList_load_row → wpLr, wpQuiet_nil → wqN
open List renaming drop_succ_cons → dJ, drop_zero → dY, length_replicate → rJ, replicate → rQ, take_succ_cons → tU, take_zero → tJ
open Nat renaming le_refl → nQ, lt_of_lt_of_le → nJ
set_option linter.unusedVariables false
def jB (first eJ:List Int) (i:Nat):Int:=(eJ.getD (i / 4) 0+first.getD (i / 4) 0)%4294967296 / 256^(i%4)%256
def gW (first eJ:List Int):List Int:=pF9 (rQ 64 0) 0 (jB first eJ) 64
def J8 (x:Int):List Int:=(List.range 4).map (fun i=>x / 256^i%256)
theorem XF:(prog.info? 22).map (·.size)=some 32:=by kernel_rfl
theorem XD:(prog.info? 27).map (·.size)=some 16:=by kernel_rfl
theorem PJ:(prog.info? 147).map (·.size)=some 64:=by kernel_rfl
theorem yZ (x:Int):aE (J8 x):=by
 intro i
 match i with
 | 0=>simp only[J8];simp;omega
 | 1=>simp only[J8];simp;omega
 | 2=>simp only[J8];simp;omega
 | 3=>simp only[J8];simp;omega
 | i+4=>simp[J8]
def fM (counter:Int) (nonce:List Int):List Int:=J8 counter++nonce
set_option maxRecDepth 10000 in
set_option maxHeartbeats 1000000 in
theorem IY (key nonce:List Int) (counter:Int) (w:World) (hk:key.length=32) (hr:nonce.length=12) (hkb:aE key) (hrb:aE nonce) (hc0:0≤counter) (hc1:counter<4294967296) (ht:jO w):
 Calls prog 139 #[.agg (Iv .u8 key),.int .u32 counter,.agg (Iv .u8 nonce)] w fun e w'=>e=.returned (.agg (Iv .u8 (gW (iY key (fM counter nonce)) (bK (iY key (fM counter nonce)) 10))))∧Below w.heap.size w w':=by
 go_enter func139,ntmps139
 go_wp2_with fail
 obtain⟨W,hW,h0,h1,h2,h3,hs,hb⟩:=qJ w (.cells (Iv .u8 key) 22) (.cells (Iv .u8 nonce) 24) (.cells (Iv .u8 (rQ 64 0)) 147) (.cells (Iv .u8 (rQ 16 0)) 27)
 have hW':=hW
 simp only[Iv,rQ,List.map_cons,List.map_nil]at hW'
 simp only[Iv,hW']
 clear hW hW'
 have H0:aB W w.heap.size .u8 key 22:=h0
 have H1:aB W (w.heap.size+1) .u8 nonce 24:=h1
 have H2:aB W (w.heap.size+1+1) .u8 (rQ 64 0) 147:=h2
 have H3:aB W (w.heap.size+1+1+1) .u8 (rQ 16 0) 27:=h3
 clear h0 h1 h2 h3
 refine(nW (w.heap.size+1+1+1) 0 4 16 27 (rQ 16 0) counter W H3 (by decide) (by decide) hc0).mono ?_
 rintro e w1 ⟨rfl,hw1⟩
 have K0:aB w1 w.heap.size .u8 key 22:=by rw[hw1];exact H0.far _ _ (by omega) 0
 have K1:aB w1 (w.heap.size+1) .u8 nonce 24:=by rw[hw1];exact H1.far _ _ (by omega) 0
 have K2:aB w1 (w.heap.size+1+1) .u8 (rQ 64 0) 147:=by rw[hw1];exact H2.far _ _ (by omega) 0
 have K3:aB w1 (w.heap.size+1+1+1) .u8 (J8 counter++rQ 12 0) 27:=by rw[hw1];exact H3.put _ 0
 have hb1:Below w.heap.size w w1:=by rw[hw1];exact aO hb _ (by omega) _
 have hs1:w1.heap.size=w.heap.size+1+1+1+1:=by rw[hw1];simpa using hs
 clear hw1 H0 H1 H2 H3 hb hs
 go_wp2_with fail
 refine wRh 2 DL (by kernel_rfl) ?_
 simp only[tU,tJ,dJ,dY]
 repeat(go_big_quiet_step (fail))
 refine wqN ?_
 refine FZ .u8 rfl (.tmp 15) (.tmp 16) 48 48 rfl 5 underlying48 (by kernel_rfl) (w.heap.size+1+1+1) 4 12 12 (w.heap.size+1) 0 12 12 rfl rfl (J8 counter++rQ 12 0) nonce 27 K3 (by rw[hr];rfl) (by intro j hj;rw[Nat.zero_add];exact K1.cell j hj) (by rw[hr];simp[J8]) ?_
 have hrest:(J8 counter++rQ 12 0).take 4++(nonce++(J8 counter++rQ 12 0).drop (4+nonce.length))=fM counter nonce:=by
  rw[hr]
  simp[J8,fM]
 rw[hrest]
 clear hrest
 obtain⟨w2,hw2⟩:∃X,X=w1.drew.setRow (w.heap.size+1+1+1) (Iv .u8 (fM counter nonce)):=⟨_,rfl⟩
 rw[←hw2]
 have L0:aB w2 w.heap.size .u8 key 22:=by rw[hw2];exact aB.far (w:=w1.drew) K0 _ _ (by omega) 0
 have L2:aB w2 (w.heap.size+1+1) .u8 (rQ 64 0) 147:=by rw[hw2];exact aB.far (w:=w1.drew) K2 _ _ (by omega) 0
 have L3:aB w2 (w.heap.size+1+1+1) .u8 (fM counter nonce) 27:=by rw[hw2];exact aB.put (w:=w1.drew) K3 _ 0
 have hb2:Below w.heap.size w w2:=by rw[hw2];exact aO (bDr hb1 1) _ (by omega) _
 have hs2:w2.heap.size=w.heap.size+1+1+1+1:=by rw[hw2];simpa using hs1
 clear hw2 K0 K1 K2 K3 hb1 hs1
 have hrl:(fM counter nonce).length=16:=by simp[fM,J8,hr]
 have hik:(prog.info? 22).map (·.size)=some (Iv .u8 key).size:=by rw[aC,hk];exact XF
 have hir:(prog.info? 27).map (·.size)=some (Iv .u8 (fM counter nonce)).size:=by rw[aC,hrl];exact XD
 go_wp2_with(first|refine wpLr rfl 22 _ rfl w.heap.size rfl _ (Iv .u8 key) _ _ L0 underlying22 rfl hik ?_ |refine wpLr rfl 27 _ rfl (w.heap.size+1+1+1) rfl _ (Iv .u8 (fM counter nonce)) _ _ L3 underlying27 rfl hir ?_)
 refine(IZ key (fM counter nonce) w2 hk hrl hkb (bI (yZ _) hrb)).mono ?_
 have hF:Hid ((iY key (fM counter nonce)).length=16∧bC (iY key (fM counter nonce))):=⟨by rw[ID];rfl,zP hkb (bI (yZ _) hrb)⟩
 generalize hFe:iY key (fM counter nonce)=F at*
 have HFe:Hid (iY key (fM counter nonce)=F):=hFe
 clear hFe
 rintro e w3 ⟨rfl,hb3⟩
 have M2:aB w3 (w.heap.size+1+1) .u8 (rQ 64 0) 147:=L2.below hb3 (by omega)
 have hb4:Below w.heap.size w w3:=hb2.trans (hb3.mono (by omega))
 have hs3:w.heap.size+1+1+1+1≤w3.heap.size:=by have:=hb3.size;omega
 clear L0 L2 L3 hb2 hb3 hs2 hik hir
 have hiF:(prog.info? 177).map (·.size)=some (Iv .u32 F).size:=by rw[aC,hF.out.1];exact x5
 have HT:Hid ((w3.alloc (.cells (Iv .u32 (rQ 16 0)) 177)).heap[w3.heap.size]? =some (.cells (Iv .u32 (rQ 16 0)) 177)):=hAN _ _
 have HZ:Hid ((Iv .u32 (rQ 16 0)).size=(Iv .u32 F).size):=by show _=_;rw[aC,aC,hF.out.1,rJ]
 have HG:Hid ((((w3.alloc (.cells (Iv .u32 (rQ 16 0)) 177)).setRow w3.heap.size (Iv .u32 F)).alloc (.cells (Iv .u8 (rQ 64 0)) 147)).heap[w3.heap.size]? =some (.cells (Iv .u32 F) 177)):=by
  show _=_
  rw[hAO _ _ (by simp),setRow_heap _ _ _ _ _ _ HT.out]
 go_wp2_with(first|refine wpList_store_row rfl 177 _ _ rfl w3.heap.size (Iv .u32 F) rfl rfl _ _ HT.out hiF HZ.out (aH _ _) ?_ |refine wpLr rfl 177 _ rfl w3.heap.size rfl _ (Iv .u32 F) _ _ HG.out underlying177 rfl hiF ?_)
 obtain⟨W4,hW4⟩:∃X,X=((w3.alloc (.cells (Iv .u32 (rQ 16 0)) 177)).setRow w3.heap.size (Iv .u32 F)).alloc (.cells (Iv .u8 (rQ 64 0)) 147):=⟨_,rfl⟩
 have X1:aB W4 w3.heap.size .u32 F 177:=by rw[hW4];exact HG.out
 have X2:aB W4 (w3.heap.size+1) .u8 (rQ 64 0) 147:=by
  rw[hW4]
  show _=_
  rw[cC,if_pos (by simp)]
 have X3:aB W4 (w.heap.size+1+1) .u8 (rQ 64 0) 147:=by
  rw[hW4]
  show _=_
  rw[hAO _ _ (by simp;omega),cE _ _ _ _ (by omega),hAO _ _ (by omega)]
  exact M2
 have X4:Below w.heap.size w W4:=by
  rw[hW4]
  exact(aO (hb4.alloc (by omega) _) _ (by omega) _).alloc (by simp;omega) _
 have X5:w3.heap.size+1<W4.heap.size:=X2.lt
 refine(show Calls prog 149 #[.agg (Iv .u32 F)] W4 _ from(EL F W4 hF.out.1 hF.out.2 (ht.later X4 (nQ _))).mono ?_)|>(hW4▸ ·)
 rintro e w5 ⟨rfl,hb5⟩
 have hR:Hid ((bK F 10).length=16∧bC (bK F 10)):=⟨by rw[gF,hF.out.1],pM hF.out.2 10⟩
 generalize hRe:bK F 10=R at*
 have HRe:Hid (bK F 10=R):=hRe
 clear hRe
 have Y1:aB w5 w3.heap.size .u32 F 177:=X1.below hb5 (by omega)
 have Y2:aB w5 (w3.heap.size+1) .u8 (rQ 64 0) 147:=X2.below hb5 (by omega)
 have Y3:aB w5 (w.heap.size+1+1) .u8 (rQ 64 0) 147:=X3.below hb5 X3.lt
 have Y4:Below w.heap.size w w5:=X4.trans (hb5.mono (by omega))
 have hgt:w.heap.size+1+1<w3.heap.size:=by omega
 clear X1 X2 X3 X4 X5 hb5 hW4 HG HT HZ M2 hb4 hs3 hiF
 generalize w3.heap.size=gf at*
 have hib:(prog.info? 147).map (·.size)=some (Iv .u8 (gW F R)).size:=by rw[aC,gW,aR _ _ _ _ (by simp)];exact PJ
 have HIB:Hid ((Iv .u8 (rQ 64 0)).size=(Iv .u8 (gW F R)).size):=by show _=_;rw[aC,aC,gW,aR _ _ _ _ (by simp)]
 have hib':Hid ((prog.info? 147).map (·.size)=some (Iv .u8 (gW F R)).size):=hib
 clear hib
 go_wp2_with fail
 go_loopw [23] (fun i wr=>∃k:Nat,k≤16∧i=.int .i64 k∧aB wr gf .u32 F 177∧aB wr (gf+1) .u8 (pF9 (rQ 64 0) 0 (jB F R) (4*k)) 147∧aB wr (w.heap.size+1+1) .u8 (rQ 64 0) 147∧Below w.heap.size w wr) (fun i _=>16 - (intOf i).toNat)
 case atStart=>exact⟨0,by omega,rfl,Y1,by rw[Nat.mul_zero,bV];exact Y2,Y3,Y4⟩
 case round=>
  obtain⟨k,hk,rfl,Z1,Z2,Z3,Z4⟩:=hrel
  clear Y1 Y2 Y3 Y4
  by_cases hlt:k<16
  ·have hRk:∀wx,(Instr.index 177 (.agg (Iv .u32 R)) (.int .i64 (k:Int))).run prog wx=.ok (.int .u32 (R.getD k 0)) wx:=kT 177 23 16 .u32 R k underlying177 underlying23 (by kernel_rfl) hR.out.1 hlt
   have hFk:wr.cell? ⟨gf,k,none⟩=some (.int .u32 (F.getD k 0)):=Z1.cell k (by rw[hF.out.1];exact hlt)
   have wR:=hR.out.2 k
   have wF:=hF.out.2 k
   have HS:Hid (pF9 (pF9 (rQ 64 0) 0 (jB F R) (4*k)) (4*k) (fun i=>(R.getD k 0+F.getD k 0)%4294967296 / 256^i%256) 4=pF9 (rQ 64 0) 0 (jB F R) (4*(k+1))):=by
    show _=_
    rw[yJ _ _ _ _ _ (by simp;omega),Nat.mul_add]
    intro i hi
    rw[jB,show(4*k+i) / 4=k by omega,show(4*k+i)%4=i by omega]
   generalize R.getD k 0=x at*
   generalize F.getD k 0=y at*
   obtain⟨x0,x1⟩:=wR
   obtain⟨y0,y1⟩:=wF
   have hk0:(0:Int)≤(k:Int):=by omega
   have hk1:(k:Int)<16:=by omega
   have s1:(0:Int)≤4*(k:Int):=by omega
   have s2:4*(k:Int)≤4*(k:Int)+4:=by omega
   have s3:4*(k:Int)+4≤64:=by omega
   have s4:(0:Int)≤4*(k:Int)+4:=by omega
   go_wp2_with fail
   refine wRh 11 DL (by kernel_rfl) ?_
   simp only[tU,tJ,dJ,dY]
   repeat(go_big_quiet_step (fail))
   refine wqN ?_
   go_wp2_with fail
   rw[show 4*k+4 - 4*k=4 by omega]
   refine(nW (gf+1) (4*k) 4 _ 147 (pF9 (rQ 64 0) 0 (jB F R) (4*k)) ((x+y)%4294967296) wr.drew Z2 (by rw[aR _ _ _ _ (by simp;omega)];simp;omega) (by omega) (by omega)).mono ?_
   rintro e w6 ⟨rfl,hw6⟩
   rw[HS.out]at hw6
   have V1:aB w6 gf .u32 F 177:=by rw[hw6];exact aB.far (w:=wr.drew) Z1 _ _ (by omega) 0
   have V2:aB w6 (gf+1) .u8 (pF9 (rQ 64 0) 0 (jB F R) (4*(k+1))) 147:=by rw[hw6];exact aB.put (w:=wr.drew) Z2 _ 0
   have V3:aB w6 (w.heap.size+1+1) .u8 (rQ 64 0) 147:=by rw[hw6];exact aB.far (w:=wr.drew) Z3 _ _ (by omega) 0
   have V4:Below w.heap.size w w6:=by rw[hw6];exact aO (bDr Z4 1) _ (by omega) _
   clear hw6 Z1 Z2 Z3 Z4 HS
   go_wp2_with fail
   go_roundw
   case rel=>exact⟨k+1,by omega,by go_num,V1,V2,V3,V4⟩
   case measure=>simp[intOf];omega
  ·obtain rfl:k=16:=by omega
   have Z2':aB wr (gf+1) .u8 (gW F R) 147:=Z2
   clear Z2
   go_wp2_with(first|refine wpLr rfl 147 _ rfl _ rfl _ _ _ _ Z2' underlying147 rfl hib'.out ?_ |refine wpList_store_row rfl 147 _ _ rfl _ (Iv .u8 (gW F R)) rfl rfl _ _ Z3 hib'.out HIB.out (aH _ _) ?_)
   refine oG (cs:=Iv .u8 (gW F R)) results139 ?_ (setRow_heap _ _ _ _ _ _ Z3) underlying147 hib'.out ?_
   ·rfl
   ·exact⟨by rw[HFe.out,HRe.out],aO Z4 _ (by omega) _⟩
theorem vV (key:List Int) (counter:Int) (ws:List Int):(kX key counter ws).length=16:=by
 have h1:(pF9 kL 4 (aF key) 8).length=16:=by rw[aR _ _ _ _ (by decide)];rfl
 unfold kX
 rw[aR _ _ _ _ (by rw[h1];decide)]
 exact h1
def uK (st mx:List Int) (k:Nat):List Int:=(List.range k).map fun i=>(aK mx i+aK st i)%4294967296
theorem AH (st mx:List Int) (k:Nat):(uK st mx k).length=k:=by simp[uK]
theorem SX (st mx:List Int) (k:Nat):uK st mx (k+1)=uK st mx k++[(aK mx k+aK st k)%4294967296]:=by simp[uK,List.range_succ]
theorem V7 (st mx:List Int) (k:Nat):bC (uK st mx k):=by
 intro i
 unfold uK fP
 rw[List.getD_eq_getElem?_getD,List.getElem?_map]
 cases (List.range k)[i]? with
 | none=>simp
 | some j=>simp only[Option.map_some,Option.getD_some];omega
theorem TU (st mx:List Int):dR (uK st mx 16) (4*16)=gW st mx:=by
 have h:gW st mx=(List.range 64).map (jB st mx):=by simp[gW,pF9]
 rw[h]
 unfold dR
 refine List.map_congr_left fun i hi=>?_
 have hi':i<64:=List.mem_range.1 hi
 unfold iK jB
 have e:aK (uK st mx 16) (i / 4)=(mx.getD (i / 4) 0+st.getD (i / 4) 0)%4294967296:=by
  unfold aK uK
  rw[List.getD_eq_getElem?_getD,List.getElem?_map,List.getElem?_range (by omega)]
  rfl
 rw[e]
theorem FI (l:List Int) (off k:Nat) (f g:Nat→Int) (h:∀i,i<k→f i=g i):pF9 l off f k=pF9 l off g k:=by
 unfold pF9
 rw[List.map_congr_left (fun i hi=>h i (List.mem_range.1 hi))]
theorem IC (key nonce:List Int) (counter:Int) (hc0:0≤counter) (hc1:counter<4294967296):kX key counter (bE nonce 3)=iY key (fM counter nonce):=by
 unfold kX iY
 refine FI _ _ _ _ _ fun i hi=>?_
 match i,hi with
 | 0,_=>
   simp[aK,aF,fM,J8,List.range_succ]
   omega
 | 1,_=>simp[aK,aF,fM,J8,bE,List.range_succ]
 | 2,_=>simp[aK,aF,fM,J8,bE,List.range_succ]
 | 3,_=>simp[aK,aF,fM,J8,bE,List.range_succ]
theorem OM (key nonce:List Int) (counter:Int) (hkb:aE key) (hrb:aE nonce) (hc0:0≤counter) (hc1:counter<4294967296):bC (kX key counter (bE nonce 3)):=by
 rw[IC key nonce counter hc0 hc1]
 exact zP hkb (bI (yZ _) hrb)
set_option maxRecDepth 10000 in
set_option maxHeartbeats 2000000 in
theorem zG (key nonce:List Int) (counter:Int) (w:World) (hk:key.length=32) (hr:nonce.length=12) (hkb:aE key) (hrb:aE nonce) (hc0:0≤counter) (hc1:counter<4294967296)
 (Bf:List Int) (HBF:Hid (gW (kX key counter (bE nonce 3)) (bK (kX key counter (bE nonce 3)) 10)=Bf)):
 Calls prog 81 #[.agg (Iv .u8 key),.int .u32 counter,.agg (Iv .u8 nonce)] w fun e w'=>e=.returned (.agg (Iv .u8 Bf))∧Below w.heap.size w w':=by
 have hzv:∀W,(zeroValue 147).run prog W=.ok (.agg (Iv .u8 (aA 64))) W:=(zero_of_info (n:=64) (by kernel_rfl)).1
 go_enter func81,ntmps81
 go_wp2_with fail
 obtain⟨W,hW,g0,g1,g2,hs,hb⟩:=oW w (.cells (Iv .u8 key) 22) (.cells (Iv .u8 nonce) 24) (.cells (Iv .u8 (aA 64)) 147)
 rw[hW]
 clear hW
 refine wD (ops:=nV) (qI key nonce counter w.heap.size W (bE nonce 3)) (by kernel_rfl) ?_ ?_ ?_
 ·exact⟨undef,undef,undef,undef,undef,undef,undef,undef,rfl,{ size:=rfl,bel:=bDr (Below.refl _ _) 1,p0:=fun h=>(by cases h),p1:=fun h=>(by cases h),p3:=fun h=>(by cases h),p2:=fun h=>(by cases h),p4:=fun h=>(by cases h),p5:=fun h=>(by cases h),p6:=fun h=>(by cases h),p8:=fun h=>(by cases h),p7:=fun h=>(by cases h) }⟩
 ·rintro listed a w1 ⟨x7,x14,x15,x16,x17,x18,x19,x20,rfl,h⟩ hready
  obtain⟨l7,l8⟩:=WY h.size hready
  obtain⟨g7,rfl,hg7,hrow,hdis⟩:=h.p7 l7
  rw[l8,if_pos rfl]at hrow
  have hbel:=h.bel
  clear h hready l7 l8 hdis listed
  have hst:=vV key counter (bE nonce 3)
  have h32:bC (kX key counter (bE nonce 3)):=OM key nonce counter hkb hrb hc0 hc1
  generalize kX key counter (bE nonce 3)=st at*
  have hzt:∀W,(zeroValue 177).run prog W=.ok (.agg (Iv .u32 (aA 16))) W:=(zero_of_info (n:=16) (by kernel_rfl)).1
  have hik:∀l:List Int,l.length=16→(prog.info? 177).map (·.size)=some (Iv .u32 l).size:=fun l hl=>by rw[aC,hl];exact PN
  have HIK:Hid _:=hik
  have HR7:Hid _:=hrow
  have HZ64:=(hbel.block _ (show w.heap.size+1+1<W.heap.size by omega)).trans g2
  have HOUT:Hid _:=HZ64
  have HBW:Hid (Below w.heap.size w w1):=hb.trans (hbel.mono (by omega))
  have hsz1:=hbel.size
  have hlt7:g7<w1.heap.size:=(Array.getElem?_eq_some_iff.1 hrow).1
  clear hik hrow HZ64 g0 g1 g2
  unfold GJ
  go_wp2_with(refine wpLr rfl 177 _ rfl g7 rfl _ (Iv .u32 st) _ _ HR7.out underlying177 rfl (HIK.out st hst) ?_)
  refine(JH st w1 hst h32).mono ?_
  rintro e w2 ⟨rfl,hb2⟩
  have hmx:(bK st 10).length=16:=(gF st 10).trans hst
  have hm32:bC (bK st 10):=pM h32 10
  generalize bK st 10=mx at*
  have HR7b:Hid _:=(hb2.block _ hlt7).trans HR7.out
  have HOUTb:Hid _:=(hb2.block _ (show w.heap.size+1+1<w1.heap.size by omega)).trans HOUT.out
  have HBWb:Hid _:=HBW.out.trans (hb2.mono HBW.out.size)
  have hlt2:g7<w2.heap.size:=nJ hlt7 hb2.size
  have hlo2:w.heap.size+1+1<w2.heap.size:=by have:=hb2.size;omega
  clear hb2 HR7 HOUT HBW hbel hsz1 hlt7
  have HT:Hid ((w2.alloc (.cells (Iv .u32 (aA 16)) 177)).heap[w2.heap.size]? =some (.cells (Iv .u32 (aA 16)) 177)):=hAN _ _
  have HS:Hid ((Iv .u32 (aA 16)).size=(Iv .u32 mx).size):=by show _=_;rw[aC,aC,hmx];rfl
  go_wp2_with(refine wpPr rfl 177 _ _ rfl w2.heap.size (Iv .u32 mx) rfl rfl _ _ HT.out (HIK.out mx hmx) HS.out (aH _ _) ?_)
  intro w3 hP3
  have R8:=hP3.here
  have R7:=(hP3.far g7 (by omega)).trans ((hAO _ _ hlt2).trans HR7b.out)
  have RO:=(hP3.far (w.heap.size+1+1) (by omega)).trans ((hAO _ _ hlo2).trans HOUTb.out)
  have RB:Below w.heap.size w w3:=hP3.below _ _ (HBWb.out.alloc HBWb.out.size _) HBWb.out.size
  have hs3:w3.heap.size=w2.heap.size+1:=by rw[hP3.size];simp
  obtain⟨g8,hg8⟩:∃g,g=w2.heap.size:=⟨_,rfl⟩
  rw[←hg8]at R8 hs3 hlt2 hlo2⊢
  clear hP3 HT HS HR7b HOUTb HBWb hg8
  have K8:Hid _:=R8
  have K7:Hid _:=R7
  have KO:Hid _:=RO
  have KB:Hid _:=RB
  clear R8 R7 RO RB
  go_wp2_with fail
  have hs3g:w3.heap.size=g8+1:=hs3
  go_loopw [9,24] (fun x i wr=>∃k:Nat,k≤16∧i=.int .i64 k∧bX .u32 23 w3.heap.size wr x (uK st mx k)∧Below w3.heap.size w3 wr) (fun _ i _=>16 - (intOf i).toNat)
  case atStart=>
   refine⟨0,Nat.zero_le _,rfl,?_,(Below.refl _ _).alloc (nQ _) _⟩
   have:=bX.nil (k:=.u32) (e:=23) (base:=w3.heap.size) w3 (nQ _)
   rw[hs3g]at this⊢
   exact this
  case round=>
   obtain⟨k,hk,rfl,hown,hbel⟩:=hrel
   have hszr:=hbel.size
   by_cases hlt:k<16
   ·have c8:wr.cell? ⟨g8,k,none⟩=some (.int .u32 (aK mx k)):=by
     rw[cell_of_row _ _ _ _ _ _ ((hbel.block g8 (by omega)).trans K8.out),cT .u32 _ k (by omega)]
     simp[aK,hmx,hlt]
    have c7:wr.cell? ⟨g7,k,none⟩=some (.int .u32 (aK st k)):=by
     rw[cell_of_row _ _ _ _ _ _ ((hbel.block g7 (by omega)).trans K7.out),cT .u32 _ k (by omega)]
     simp[aK,hst,hlt]
    have hlS:(uK st mx k).length=k:=AH st mx k
    have HSS:Hid _:=SX st mx k
    have b8:=hm32 k
    have b7:=h32 k
    have b8':0≤aK mx k∧aK mx k<4294967296:=b8
    have b7':0≤aK st k∧aK st k<4294967296:=b7
    clear b8 b7
    generalize aK mx k=y8 at*
    generalize aK st k=y7 at*
    obtain⟨b80,b81⟩:=b8'
    obtain⟨b70,b71⟩:=b7'
    have HOW:Hid _:=hown
    have HBE:Hid _:=hbel
    clear hown hbel
    obtain⟨WX,hWX⟩:∃X,X=wr:=⟨_,rfl⟩
    rw[←hWX]at c8 c7 HOW HBE hszr⊢
    clear hWX
    go_wp2_with fail
    refine wRl 8 (fun _=>True) [(.held,[0,1,2,4,5]),(.exact,[3,6]),(.held,[7]),(.tail,[8]),(.tail,[9]),(.tail,[10])] (by kernel_rfl) (by kernel_rfl) trivial ?_
    simp only[iO,oS]
    repeat(go_big_quiet_step (fail))
    refine wqN ?_
    repeat(go_big_quiet_step (fail))
    refine wqN ?_
    repeat(go_big_quiet_step (fail))
    refine wqN ?_
    go_wp2_with fail
    refine⟨trivial,?_⟩
    refine cI .u32 102 23 4 underlying102 sA (by decide) rfl (.tmp 27) (.tmp 35) rfl w3.heap.size w3 WX.drew _ (uK st mx k) _ rfl rfl HOW.out (bDr HBE.out 1) hszr (by rw[hlS];omega) ?_
    intro v' w' ho hb' _ _
    simp only[pS]
    go_wp2_with fail
    refine⟨trivial,?_⟩
    go_wp2_with fail
    refine⟨trivial,dM ?_⟩
    go_wp2
    go_roundw
    case rel=>
     refine⟨k+1,by omega,by go_num,?_,hb'⟩
     rw[HSS.out]
     exact lR ho rfl
    case measure=>simp[intOf];omega
   ·obtain rfl:k=16:=by omega
    have hSl:(uK st mx 16).length=16:=AH st mx 16
    have hS32:bC (uK st mx 16):=V7 st mx 16
    have HFIN:Hid (dR (uK st mx 16) (4*16)=Bf):=(TU st mx).trans HBF.out
    clear HBF
    generalize uK st mx 16=S at*
    have HOW:Hid _:=hown
    have HBW:Hid (Below w.heap.size w wr):=KB.out.trans (hbel.mono (by omega))
    have HRES:Hid _:=(hbel.block (w.heap.size+1+1) (by omega)).trans KO.out
    have hsr:w.heap.size+1+1<wr.heap.size:=by omega
    clear hown hbel K8 K7 KO KB hszr hzt HIK
    have HT:Hid ((wr.alloc (.cells (Iv .u8 (aA 64)) 147)).heap[wr.heap.size]? =some (.cells (Iv .u8 (aA 64)) 147)):=hAN _ _
    have hi64:Hid (∀l:List Int,l.length=64→(prog.info? 147).map (·.size)=some (Iv .u8 l).size):=fun l hl=>by rw[aC,hl];exact PJ
    go_wp2_with(refine wpPr rfl 147 _ _ rfl wr.heap.size (Iv .u8 (aA 64)) rfl rfl _ _ HT.out (hi64.out _ (by simp[aA])) rfl (aH _ _) ?_)
    intro w4 hP4
    have hb4:Below wr.heap.size wr w4:=hP4.below _ _ ((Below.refl _ _).alloc (nQ _) _) (nQ _)
    have o4:=bX.later HOW.out hb4
    obtain⟨a9,n9,c9,rfl,hn9,hrd9⟩:=o4.rdk
    rw[hSl]at hn9
    subst hn9
    have RO:=hP4.here
    have hs4:wr.heap.size<w4.heap.size:=by rw[hP4.size];simp
    have RB:=HBW.out.trans (hb4.mono HBW.out.size)
    have RR:=(hb4.block (w.heap.size+1+1) (by omega)).trans HRES.out
    obtain⟨gO,hgO⟩:∃g,g=wr.heap.size:=⟨_,rfl⟩
    rw[←hgO]at RO hs4 hsr⊢
    have HC:Hid _:=yW S 16 hSl hS32 (by omega) a9 c9 w4 hrd9
    have MO:Hid _:=RO
    have MB:Hid _:=RB
    have MR:Hid _:=RR
    clear RO RB RR hP4 hb4 o4 hrd9 HOW HBW HRES HT hgO
    go_wp2_with fail
    refine Calls.mono HC.out ?_
    rintro e w5 ⟨v5,rfl,o5,b5⟩
    have hBl:(dR S (4*16)).length=64:=jR _ _
    obtain⟨_,hbad⟩|⟨a3,c3,rfl,ha3,hb3,_,_,hcv,_⟩:=o5.at
    ·exact absurd (congrArg List.length hbad) (by rw[hBl];simp)
    rw[hBl]at hcv⊢
    generalize dR S (4*16)=B at*
    have r1:=(b5.block gO hs4).trans MO.out
    have r0:=(b5.block (w.heap.size+1+1) (by omega)).trans MR.out
    have hbw:=MB.out.trans (b5.mono MB.out.size)
    have y3:∀j,j<64→w5.cell? ⟨a3,j,none⟩=some (.int .u8 (B.getD j 0)):=hcv
    have hn3:a3≠gO:=by omega
    clear o5 b5 MO MB MR hcv HC ha3 hb3
    go_wp2_with fail
    have hlen:=hBl
    go_loopw [42] (fun i wr=>∃k:Nat,k≤64∧i=.int .i64 k∧wr.heap[gO]? =some (.cells (Iv .u8 (cX B 64 k)) 147)∧wr.heap[w.heap.size+1+1]? =some (.cells (Iv .u8 (aA 64)) 147)∧(∀j,j<64→wr.cell? ⟨a3,j,none⟩=some (.int .u8 (B.getD j 0)))∧Below w.heap.size w wr) (fun i _=>64 - (intOf i).toNat)
    case atStart=>exact⟨0,Nat.zero_le _,rfl,r1,r0,y3,hbw⟩
    case round=>
     obtain⟨k,hk,rfl,q1,q0,qL,qB⟩:=hrel
     by_cases hlt:k<64
     ·have cB:=qL k hlt
      have cO:∃v,wr.cell? ⟨gO,k,none⟩=some v:=by
       rw[cell_of_row _ _ _ _ _ _ q1]
       exact lK _ _ _ (by rw[xR _ _ _ hlen (by omega)];omega)
      obtain⟨v,hv⟩:=cO
      have fO:wr.frozen? ⟨gO,k,none⟩=false:=frozen_of_row _ _ _ _ _ q1
      have hgd:B.getD k 0=B[k]:=by rw[List.getD_eq_getElem?_getD,List.getElem?_eq_getElem (by omega)];rfl
      rw[hgd]at cB
      clear hgd
      have Q1:Hid _:=q1
      have Q0:Hid _:=q0
      have QL:Hid _:=qL
      have QB:Hid _:=qB
      clear q1 q0 qL qB r1 r0 y3 hbw
      go_wp2
      go_roundw
      case rel=>
       refine⟨k+1,by omega,by go_num,?_,?_,?_,?_⟩
       ·rw[heap_setCell_same _ _ _ _ _ _ Q1.out,bR]
        unfold cX
        exact congrArg (fun z=>some (Obj.cells (Iv .u8 z) 147)) (uG B 64 k hlen hlt 0)
       ·rw[heap_setCell_other _ _ _ _ (by show w.heap.size+1+1≠gO;omega)]
        exact Q0.out
       ·intro j hj
        rw[World.cell?_setCell_other _ _ _ _ (by intro e;cases e;exact hn3 rfl)]
        exact QL.out j hj
       ·exact QB.out.setCell (p:=⟨gO,k,none⟩) (by show w.heap.size≤gO;omega) _
      case measure=>simp[intOf];omega
     ·obtain rfl:k=64:=by omega
      rw[GH B 64 hlen]at q1
      have G2:Hid _:=q1
      have G1:Hid _:=q0
      have GB:Hid _:=qB
      clear q1 q0 qL qB r1 r0 y3 hbw
      go_wp2_with(first
       | refine wpLr rfl 147 _ rfl gO rfl _ (Iv .u8 B) _ _ G2.out underlying147 rfl (hi64.out B hlen) ?_
       | refine wpPr rfl 147 _ _ rfl (w.heap.size+1+1) (Iv .u8 B) rfl rfl _ _ G1.out (hi64.out B hlen) ?hs (aH _ _) ?_)
      case hs=>rw[aC,aC,hlen];rfl
      intro W9 hP9
      go_wp2
      exact bodyPost_ret (v:=.agg (Iv .u8 B)) (results_cell_row rfl _ _ _ _ (Iv .u8 B) _ _ rfl hP9.here underlying147 rfl (hi64.out B hlen)) rfl ⟨by rw[HFIN.out],hP9.below _ _ GB.out (by omega)⟩
 ·rintro listed i a w1 ⟨x7,x14,x15,x16,x17,x18,x19,x20,rfl,h⟩ hi
  have hwl:(bE nonce 3).length=3:=by simp[bE]
  match i,hi with
  | 0,hi=>exact aX rfl (ZP h hi hk g0 (by omega))
  | 1,hi=>exact aX rfl (ZQ h hi)
  | 2,hi=>exact aX rfl (ZR h hi)
  | 3,hi=>exact aX rfl (ZS h hi)
  | 4,hi=>exact aX rfl (ZT h hi hr hrb g1 (by omega) rfl)
  | 5,hi=>exact aX rfl (ZU h hi hwl)
  | 6,hi=>exact aX rfl (ZV h hi hk hkb hwl)
  | 7,hi=>exact aX rfl (ZW h hi)
  | 8,hi=>exact aX rfl (aaA h hi (vV _ _ _))
  | n+9,hi=>
    obtain⟨_,o,ho,_⟩:=mem_ready.1 hi
    exact absurd (Array.getElem?_eq_some_iff.1 ho).1 (by show¬n+9<9;omega)
theorem zF (key nonce:List Int) (counter:Int) (w:World) (hk:key.length=32) (hr:nonce.length=12) (hkb:aE key) (hrb:aE nonce) (hc0:0≤counter) (hc1:counter<4294967296):
 Calls prog 81 #[.agg (Iv .u8 key),.int .u32 counter,.agg (Iv .u8 nonce)] w fun e w'=>e=.returned (.agg (Iv .u8 (gW (iY key (fM counter nonce)) (bK (iY key (fM counter nonce)) 10))))∧Below w.heap.size w w':=by
 rw[←IC key nonce counter hc0 hc1]
 exact zG key nonce counter w hk hr hkb hrb hc0 hc1 _ rfl
end Go.Proofs.YtgcepckaolkeoaaGreatDoor
