import Derived.Test.YtgcepckaolkeoaaGreatDoorMZ22
namespace Go.Proofs.YtgcepckaolkeoaaGreatDoor
open Go.RowKit
open Go.Proofs.Tryz
open Go renaming wpQuiet_nil → wqN
open List renaming drop_succ_cons → dJ, drop_zero → dY, length_append → lQ, length_set → lJ, nil_append → nA, replicate → rQ, set_cons_zero → sY, take_succ_cons → tU, take_zero → tJ
open Nat renaming le_refl → nQ
set_option linter.unusedVariables false
def dV (d:List Int):Nat→List Int
 | 0=>gE d 40
 | k+1=>gE (qY (dV d k)) 40
theorem kB (d:List Int):∀k,(dV d k).length=40
 | 0=>iT _ _
 | _+1=>iT _ _
theorem lA (d:List Int):∀k,aE (dV d k)
 | 0=>nK _ _
 | _+1=>nK _ _
def lP (D:List Int):List Int:=gE (D.set 0 (D.getD 0 0+5)) 40
def oE (d:List Int):List Int:=if 4≤(lP (dV d 4)).getD 16 0 then((lP (dV d 4)).set 16 ((lP (dV d 4)).getD 16 0 - 4)).take 17 else(dV d 4).take 17
theorem DN {D:List Int} (hb:aE D) (hl:D.length=40):jN (D.set 0 (D.getD 0 0+5)):=by
 intro i
 rw[pA _ _ _ _ (by omega)]
 have h0:=hb 0
 have hi:=hb i
 split<;>omega
theorem GY (D:List Int):aE (lP D):=nK _ _
theorem wQ (D:List Int):(lP D).length=40:=iT _ _
theorem pI (l:List Int) (n:Nat) (h:n≤l.length):aT l=aT (l.take n)+256^n*aT (l.drop n):=by
 have:=fB (l.take n) (l.drop n)
 rw[List.take_append_drop,List.length_take,Nat.min_eq_left h]at this
 exact this
theorem AC (l:List Int) (h:aE l):0≤aT l:=(nC l h).1
theorem tX (l:List Int) (j:Nat) (y:Int) (h:j<l.length):aT (l.set j y)=aT l+256^j*(y - l.getD j 0):=by
 rw[pI l j (by omega),pI (l.set j y) j (by rw[lJ];omega)]
 rw[List.take_set_of_le (nQ j),List.drop_set,if_neg (by omega),Nat.sub_self]
 have hd:l.drop j=l.getD j 0::l.drop (j+1):=by
  rw[List.drop_eq_getElem_cons h]
  simp[h]
 rw[hd]
 simp only[sY,aT,Int.mul_add,Int.mul_sub]
 omega
theorem PV:(256:Int)^16=340282366920938463463374607431768211456:=by decide
theorem acU:(256:Int)^17=87112285931760246646623899502532662132736:=by decide
theorem LZ:(256:Int)^40=2135987035920910082395021706169552114602704522356652769947041607822219725780640550022962086936576:=by decide
theorem uZ (D:List Int) (hb:aE D) (hl:D.length=40):aT (gE (qY D) 40)=aT D%1361129467683753853853498429727072845824+5*(aT D / 1361129467683753853853498429727072845824):=by
 have hin:=nC D hb
 rw[hl,LZ]at hin
 have hf:=NM D hb (by omega)
 rw[wK (qY D) (zV D hb) 40 (by rw[zW D hl];decide) (by rw[hf];omega) (by rw[hf,LZ];omega),hf]
theorem ad4 (d:List Int) (hd:jN d) (hl:d.length≤40) (h0:0≤aT d) (h:aT d<256^40):
 ∃q,aT (dV d 4)=aT d - gP*q∧0≤aT (dV d 4)∧aT (dV d 4)<1361129467683753853853498429727072845824:=by
 have e0:aT (dV d 0)=aT d:=wK d hd 40 hl h0 h
 have e1:=uZ (dV d 0) (lA d 0) (kB d 0)
 have e2:=uZ (dV d 1) (lA d 1) (kB d 1)
 have e3:=uZ (dV d 2) (lA d 2) (kB d 2)
 have e4:=uZ (dV d 3) (lA d 3) (kB d 3)
 rw[show gE (qY (dV d 0)) 40=dV d 1 from rfl]at e1
 rw[show gE (qY (dV d 1)) 40=dV d 2 from rfl]at e2
 rw[show gE (qY (dV d 2)) 40=dV d 3 from rfl]at e3
 rw[show gE (qY (dV d 3)) 40=dV d 4 from rfl]at e4
 rw[LZ]at h
 rw[e0]at e1
 generalize aT (dV d 1)=n1 at*
 generalize aT (dV d 2)=n2 at*
 generalize aT (dV d 3)=n3 at*
 generalize aT (dV d 4)=n4 at*
 generalize aT d=n0 at*
 refine⟨n0 / 1361129467683753853853498429727072845824+n1 / 1361129467683753853853498429727072845824+n2 / 1361129467683753853853498429727072845824+n3 / 1361129467683753853853498429727072845824,?_⟩
 unfold gP
 omega
theorem V9 (F:List Int) (hb:aE F) (hl:F.length=40) (N:Int) (hN:aT F=N) (h:N<87112285931760246646623899502532662132736):aT (F.take 17)=N∧F.getD 16 0=N / 340282366920938463463374607431768211456:=by
 have h17:=pI F 17 (by omega)
 have hb17:=AC _ (dC hb 17)
 have ht:=AC _ (eM hb 17)
 rw[acU,hN]at h17
 have h16:=pI F 16 (by omega)
 have hd:F.drop 16=F.getD 16 0::F.drop 17:=by
  rw[List.drop_eq_getElem_cons (by omega)]
  simp[show 16<F.length by omega]
 have ht16:=nC (F.take 16) (eM hb 16)
 rw[List.length_take,hl,Nat.min_eq_left (by omega),PV]at ht16
 rw[hd,PV,hN]at h16
 simp only[aT]at h16
 omega
theorem GW (d:List Int) (hd:jN d) (hl:d.length≤40) (h0:0≤aT d) (h:aT d<256^40):
 aT (oE d)=aT d%gP∧aE (oE d)∧(oE d).length=17:=by
 obtain⟨q,hq,hq0,hq1⟩:=ad4 d hd hl h0 h
 have hDb:=lA d 4
 have hDl:=kB d 4
 unfold oE
 generalize dV d 4=D at*
 have hset:aT (D.set 0 (D.getD 0 0+5))=aT D+5:=by
  rw[tX D 0 _ (by omega)]
  simp
  omega
 have hF:aT (lP D)=aT D+5:=by
  unfold lP
  rw[wK _ (DN hDb hDl) 40 (by rw[lJ];omega) (by rw[hset];omega) (by rw[hset,LZ];omega),hset]
 have hFb:=GY D
 have hFl:=wQ D
 generalize lP D=F at*
 have tD:=V9 D hDb hDl (aT D) rfl (by omega)
 have tF:=V9 F hFb hFl (aT D+5) hF (by omega)
 have b16:=hFb 16
 by_cases h4:4≤F.getD 16 0
 ·rw[if_pos h4]
  have hlen:((F.set 16 (F.getD 16 0 - 4)).take 17).length=17:=by rw[List.length_take,lJ,hFl];rfl
  refine⟨?_,?_,hlen⟩
  ·have e:(F.set 16 (F.getD 16 0 - 4)).take 17=(F.take 17).set 16 (F.getD 16 0 - 4):=by rw[List.take_set]
   have hg:(F.take 17).getD 16 0=F.getD 16 0:=by rw[cN,if_pos (by decide)]
   rw[e,tX _ _ _ (by rw[List.length_take,hFl];decide),tF.1,hg,PV]
   unfold gP at*
   omega
  ·intro i
   rw[cN]
   split
   ·rw[pA _ _ _ _ (by omega)]
    have hi:=hFb i
    split<;>omega
   ·omega
 ·rw[if_neg h4]
  refine⟨?_,eM hDb 17,by rw[List.length_take,hDl];rfl⟩
  rw[tD.1]
  unfold gP at*
  omega
theorem zC:prog.follows .mixedOrders=true:=by kernel_rfl
theorem xN (d:List Int) (m n:Nat) (z:Int) (hz:z=n) (hm:d.length=m) (hd:jN d) (hn:n≤40) (a:Option Addr) (cap:Nat) (w:World) (hr:Rd w a d) (hm2:m≤1000):
 Calls prog 104 #[.slice a m cap,.int .i64 z] w fun e w'=>∃v,e=.returned v∧bX .i64 3 w.heap.size w' v (gE d n)∧Below w.heap.size w w':=by
 subst hz
 exact QW d m n hm hd hn a cap w hr hm2
theorem bX.held {k:IntKind} {e:TypeId} {base:Nat} {w:World} {v:Value} {l:List Int} (h:bX k e base w v l) (n:Nat) (hn:l.length=n) (h0:0<n):
 ∃g cap,v=.slice (some ⟨g,0,none⟩) n cap∧base≤g∧g<w.heap.size∧n≤cap∧cap≤9223372036854775807∧(∀i,i<n→w.cell? ⟨g,i,none⟩=some (.int k (l.getD i 0)))∧(∀i,w.frozen? ⟨g,i,none⟩=false):=by
 subst hn
 rcases h.at with ⟨_,hl⟩|h
 ·rw[hl]at h0;simp at h0
 ·exact h
theorem bX.rd {base:Nat} {w:World} {g n cap:Nat} {l:List Int} (h:bX .i64 3 base w (.slice (some ⟨g,0,none⟩) n cap) l):n=l.length∧Rd w (some ⟨g,0,none⟩) l:=by
 rcases h.at with ⟨hv,_⟩|⟨g',cap',hv,_,_,_,_,hc,_⟩
 ·cases hv
 ·simp at hv
  obtain⟨rfl,rfl,rfl⟩:=hv
  exact⟨rfl,fun i hi=>⟨g,0,rfl,by rw[Nat.zero_add];exact hc i hi⟩⟩
set_option maxRecDepth 100000 in
set_option maxHeartbeats 8000000 in
theorem PP (d:List Int) (m:Nat) (hm:d.length=m) (hd:jN d) (a:Option Addr) (cap:Nat) (w:World) (hr:Rd w a d) (hm2:m≤40):
 Calls prog 103 #[.slice a m cap] w fun e w'=>∃v,e=.returned v∧bX .i64 3 w.heap.size w' v (oE d)∧Below w.heap.size w w':=by
 go_enter func103,ntmps103
 go_wp2_with fail
 refine(xN d m 40 40 rfl hm hd (by decide) a cap w hr (by omega)).mono ?_
 rintro e w1 ⟨v1,rfl,hown1,hbel1⟩
 clear hr hd
 go_wp2
 go_loopw [0,3] (fun v i wr=>∃k:Nat,k≤4∧i=.int .i64 k∧bX .i64 3 w.heap.size wr v (dV d k)∧Below w.heap.size w wr) (fun _ i _=>4 - (intOf i).toNat)
 case atStart=>exact⟨0,by omega,rfl,hown1,hbel1⟩
 case round=>
  obtain⟨k,hk,rfl,hown,hbel⟩:=hrel
  have hDl:=kB d k
  have hDb:=lA d k
  have modB:∀i,0≤(dV d k).getD i 0∧(dV d k).getD i 0≤255:=hDb
  have HF:Hid (dV d (k+1)=gE (qY (dV d k)) 40):=rfl
  have hD4:∀D,D=dV d k→k=4→oE d=if 4≤(lP D).getD 16 0 then((lP D).set 16 ((lP D).getD 16 0 - 4)).take 17 else D.take 17:=by
   intro D hD h4
   subst h4
   rw[hD]
   rfl
  have HMD:Hid (k=4→oE d=if 4≤(lP (dV d k)).getD 16 0 then((lP (dV d k)).set 16 ((lP (dV d k)).getD 16 0 - 4)).take 17 else(dV d k).take 17):=hD4 _ rfl
  clear hD4
  generalize dV d k=D at*
  rcases hown.at with ⟨hv,hl⟩|⟨g,cap,rfl,hg,hgs,hcap,hcap2,hc,hf⟩
  ·rw[hl]at hDl;simp at hDl
  have HDL:Hid (D.length=40):=hDl
  rw[hDl]at hcap hc hown⊢
  clear hDl
  by_cases hlt:k<4
  ·have c16:=hc 16 (by omega)
   have b16:=hDb 16
   obtain⟨b0,b1⟩:=b16
   have HC:Hid (∀i,i<40→wr.cell? ⟨g,i,none⟩=some (.int .i64 (D.getD i 0))):=hc
   have HO:Hid (bX .i64 3 wr.heap.size (wr.alloc (.cells #[] 3)) (.slice (some ⟨wr.heap.size,0,none⟩) 0 0) []):=bX.nil wr (nQ _)
   have HB:Hid (Below wr.heap.size wr (wr.alloc (.cells #[] 3))):=(Below.refl _ _).alloc (nQ _) _
   have HN:Hid (∀j,j<17→(wr.alloc (.cells #[] 3)).cell? ⟨g,0+j,none⟩=some (.int .i64 ((D.take 17).getD j 0))):=by
    intro j hj
    rw[World.cell?_alloc_past _ _ _ hgs,Nat.zero_add,HC.out j (by omega),cN,if_pos hj]
   have HL:Hid ((D.take 17).length=17):=by show _=_;rw[List.length_take,HDL.out];rfl
   generalize hx16:D.getD 16 0=x16 at*
   have HX16:Hid (D.getD 16 0=x16):=hx16
   clear hx16
   clear hc hDb
   go_wp2_with(at_builtin;refine cU .i64 180 3 8 underlying180 pD (by decide) rfl (.tmp 16) (.tmp 18) rfl wr.heap.size wr _ _ [] g 0 17 _ (D.take 17) HL.out rfl rfl HO.out HB.out (by simp) (by simp) HN.out ?_;intro v2 w2 hown2 hbel2 _ _;obtain⟨g2,cap2,rfl,q1,q2,q3,q4,q5,q6⟩:=hown2.held 17 (by exact HL.out) (by decide);have c16b:=(hbel2.cell (p:=⟨g,16,none⟩) hgs).trans c16;have l16:=q5 16 (by decide);have f16:=q6 16;have HQ:Hid (∀i,i<17→w2.cell? ⟨g2,i,none⟩=some (.int .i64 (([]++D.take 17).getD i 0))):=q5;have HF2:Hid (∀i,w2.frozen? ⟨g2,i,none⟩=false):=q6;clear q5 q6)
   have HLs:Hid (([]++D.take 17).set 16 (x16%4)=D.take 16++[x16%4]):=OQ D HDL.out _
   have hlow:bX .i64 3 wr.heap.size (w2.setCell ⟨g2,16,none⟩ (.int .i64 (x16%4))) (.slice (some ⟨g2,0,none⟩) 17 cap2) (D.take 16++[x16%4]):=by
    have:=hown2.set 16 (x16%4)
    rw[HLs.out]at this
    exact this
   have hgr3:=AO w2 g2 16 (.int .i64 (x16%4))
   have hb3:Below wr.heap.size wr (w2.setCell ⟨g2,16,none⟩ (.int .i64 (x16%4))):=hbel2.setCell (by exact q1) _
   have hcD:∀i,i<40→(w2.setCell ⟨g2,16,none⟩ (.int .i64 (x16%4))).cell? ⟨g,i,none⟩=some (.int .i64 (D.getD i 0)):=fun i hi=>(hb3.cell (p:=⟨g,i,none⟩) hgs).trans (HC.out i hi)
   have hs3:(w2.setCell ⟨g2,16,none⟩ (.int .i64 (x16%4))).heap.size=w2.heap.size:=by simp
   have hs2:=hbel2.size
   generalize w2.setCell ⟨g2,16,none⟩ (.int .i64 (x16%4))=W3 at*
   have HcD:Hid (∀i,i<40→W3.cell? ⟨g,i,none⟩=some (.int .i64 (D.getD i 0))):=hcD
   have Hlow:Hid (bX .i64 3 wr.heap.size W3 (.slice (some ⟨g2,0,none⟩) 17 cap2) (D.take 16++[x16%4])):=hlow
   have HS3:Hid (W3.heap.size=w2.heap.size):=hs3
   have hq2:g2<W3.heap.size:=by omega
   have hgW:g<W3.heap.size:=by omega
   rw[←hs3]
   clear hcD hlow hs3 c16b l16 f16 HQ HF2 hgr3 hown2 hbel2 c16 HN HO HB
   have HSH:Hid (∀j,j<24→(nX (D.drop 16)).getD j 0=D.getD (16+j) 0 / 4+(D.getD (16+j+1) 0%4)*64):=by
    intro j hj
    rw[DT _ _ (by rw[List.length_drop,HDL.out];omega)]
    simp only[List.getD_eq_getElem?_getD,List.getElem?_drop]
    rfl
   have HSL:Hid ((nX (D.drop 16)).length=24):=by
    have h:=qG (D.drop 16)
    rw[List.length_drop,HDL.out]at h
    exact h
   have HDB:Hid (∀i,0≤D.getD i 0∧D.getD i 0≤255):=modB
   have HD40:Hid (D.getD 40 0=0):=by
    have hle:D.length≤40:=Nat.le_of_eq HDL.out
    show D.getD 40 0=0
    rw[List.getD_eq_getElem?_getD,List.getElem?_eq_none hle]
    rfl
   clear modB
   go_loopw [5,6] (fun v i wx=>∃j:Nat,j≤24∧i=.int .i64 ((16+j:Nat):Int)∧bX .i64 3 W3.heap.size wx v ((nX (D.drop 16)).take j)∧Below W3.heap.size W3 wx) (fun _ i _=>40 - (intOf i).toNat)
   case atStart=>exact⟨0,by omega,rfl,bX.nil W3 (nQ _),(Below.refl _ _).alloc (nQ _) _⟩
   case round=>
    obtain⟨j,hj,rfl,hownH,hbelH⟩:=hrel
    have hsx:=hbelH.size
    by_cases hj24:j<24
    ·have cj:=(hbelH.cell (p:=⟨g,16+j,none⟩) hgW).trans (HcD.out (16+j) (by omega))
     have bj:=HDB.out (16+j)
     have bj1:=HDB.out (16+j+1)
     have hval:=HSH.out j hj24
     have HTP:Hid ((nX (D.drop 16)).take (j+1)=(nX (D.drop 16)).take j++[D.getD (16+j) 0 / 4+(D.getD (16+j+1) 0%4)*64]):=by
      show _=_
      rw[u9 _ _ (by rw[HSL.out];exact hj24),hval]
     have HTL:Hid (((nX (D.drop 16)).take j).length≤100000000):=by show _≤_;rw[List.length_take];omega
     obtain⟨p0,p1⟩:=bj
     obtain⟨p2,p3⟩:=bj1
     clear hval
     by_cases hlast:16+j+1<40
     ·have cj1:=(hbelH.cell (p:=⟨g,16+j+1,none⟩) hgW).trans (HcD.out (16+j+1) (by omega))
      generalize D.getD (16+j) 0=x at*
      generalize D.getD (16+j+1) 0=y at*
      go_wp2_with(at_builtin;refine cI .i64 180 3 8 underlying180 pD (by decide) rfl (.tmp 44) (.tmp 53) rfl W3.heap.size W3 _ _ ((nX (D.drop 16)).take j) _ rfl rfl hownH hbelH hsx HTL.out ?_;intro v' w' hown' hbel' _ _)
      go_roundw
      case rel=>exact⟨j+1,by omega,by go_num,by rw[HTP.out];exact hown',hbel'⟩
      case measure=>simp[intOf];omega
     ·obtain rfl:j=23:=by omega
      have hy:D.getD (16+23+1) 0=0:=HD40.out
      rw[hy]at HTP p2 p3
      generalize D.getD (16+23) 0=x at*
      go_wp2_with(at_builtin;refine cI .i64 180 3 8 underlying180 pD (by decide) rfl (.tmp 44) (.tmp 53) rfl W3.heap.size W3 _ _ ((nX (D.drop 16)).take 23) _ rfl rfl hownH hbelH hsx HTL.out ?_;intro v' w' hown' hbel' _ _)
      go_roundw
      case rel=>exact⟨24,by omega,by go_num,by rw[HTP.out,show x / 4+0%4*64=x / 4 by omega];exact hown',hbel'⟩
      case measure=>simp[intOf]
    ·obtain rfl:j=24:=by omega
     rw[show((16+24:Nat):Int)=40 from rfl]
     rw[List.take_of_length_le (by rw[HSL.out];exact nQ _)]at hownH
     obtain⟨g5,cap5,rfl,t1,t2,t3,t4,t5,t6⟩:=hownH.held 24 HSL.out (by decide)
     have HH5:Hid (∀i,i<24→wr.cell? ⟨g5,i,none⟩=some (.int .i64 ((nX (D.drop 16)).getD i 0))):=t5
     have hlow4:bX .i64 3 w.heap.size wr (.slice (some ⟨g2,0,none⟩) 17 cap2) (D.take 16++[x16%4]):=(Hlow.out.later hbelH).mono (by have:=hbel.size;omega)
     have hbel4:Below w.heap.size w wr:=(hbel.trans (hb3.mono hbel.size)).trans (hbelH.mono (by have:=hbel.size;omega))
     have HHin:Hid (∀i,0≤(nX (D.drop 16)).getD i 0∧(nX (D.drop 16)).getD i 0≤255):=P7 (D.drop 16) (dC HDB.out 16)
     have HLin:Hid (∀i,0≤(D.take 16++[x16%4]).getD i 0∧(D.take 16++[x16%4]).getD i 0≤255):=by
      rw[←HX16.out]
      exact U3 D HDB.out
     have HLL:Hid ((D.take 16++[x16%4]).length=17):=by
      show _=_
      rw[lQ,List.length_take,HDL.out]
      rfl
     have HFD:Hid (qY D=jP (D.take 16++[x16%4]) (nX (D.drop 16))):=by rw[←HX16.out];rfl
     have HFg:Hid (jN (qY D)∧(qY D).length=24):=⟨zV D HDB.out,zW D HDL.out⟩
     have HG5:Hid (g2≠g5):=by show g2≠g5;omega
     generalize nX (D.drop 16)=H at*
     generalize D.take 16++[x16%4]=L at*
     clear t5 t6 hownH hbelH
     go_wp2
     go_loopw [4,57] (fun v i wy=>∃j:Nat,j≤24∧i=.int .i64 j∧bX .i64 3 w.heap.size wy v (jP L (H.take j))∧v.ownBlock≠some g5∧g5<wy.heap.size∧(∀i,i<24→wy.cell? ⟨g5,i,none⟩=some (.int .i64 (H.getD i 0)))∧Below w.heap.size w wy) (fun _ i _=>24 - (intOf i).toNat)
     case atStart=>
      refine⟨0,by omega,rfl,?_,?_,t2,HH5.out,hbel4⟩
      ·have:jP L (H.take 0)=L:=by simp[jP]
       rw[this]
       exact hlow4
      ·intro h
       simp[Value.ownBlock]at h
       exact HG5.out h
     case round=>
      obtain⟨j,hj,rfl,hownL,hneL,hg5,hcH,hbelL⟩:=hrel
      have hsy:=hbelL.size
      by_cases hj24:j<24
      ·have cH:=hcH j hj24
       have bH:=HHin.out j
       have bL:=HLin.out j
       obtain⟨p0,p1⟩:=bH
       obtain⟨p2,p3⟩:=bL
       have HcH:Hid (∀i,i<24→wr.cell? ⟨g5,i,none⟩=some (.int .i64 (H.getD i 0))):=hcH
       by_cases h17:j<17
       ·have hlen:(jP L (H.take j)).length=17:=by rw[eU,HLL.out,List.length_take];omega
        obtain⟨g4,cap4,rfl,o1,o2,o3,o4,o5,o6⟩:=hownL.held 17 hlen (by decide)
        have cL:=o5 j h17
        have fL:=o6 j
        rw[nF,cN,if_neg (by omega),Int.mul_zero,Int.add_zero]at cL
        have HST:Hid (jP L (H.take (j+1))=(jP L (H.take j)).set j (L.getD j 0+5*H.getD j 0)):=TM L H j (by rw[HLL.out];exact h17) (by rw[HSL.out];exact hj24)
        have hne4:g4≠g5:=fun h=>hneL (by rw[h];rfl)
        generalize H.getD j 0=x at*
        generalize L.getD j 0=y at*
        clear o5 o6 hlen hcH
        go_wp2
        refine wRh 11 zC (by kernel_rfl) ?_
        simp only[tU,tJ,dJ,dY]
        repeat(go_big_quiet_step (fail))
        refine wqN ?_
        go_wp2
        go_roundw
        case rel=>
         refine⟨j+1,by omega,by go_num,?_,hneL,by simpa using hg5,?_,?_⟩
         ·rw[HST.out]
          exact(bX.set (w:=wr.drew) hownL j (y+5*x))
         ·intro i hi
          show(wr.setCell ⟨g4,j,none⟩ (.int .i64 (y+5*x))).cell? _=_
          rw[World.cell?_setCell_other _ _ _ _ (by intro h;injection h with h1 h2 h3;exact hne4 h1)]
          exact HcH.out i hi
         ·exact hbelL.drew.setCell (by exact o1) _
        case measure=>simp[intOf];omega
       ·have hlen:(jP L (H.take j)).length=j:=by rw[eU,HLL.out,List.length_take,HSL.out];omega
        have HST:Hid (jP L (H.take (j+1))=jP L (H.take j)++[5*H.getD j 0]):=QJ L H j (by rw[HLL.out];omega) (by rw[HSL.out];exact hj24)
        have HLN:Hid ((jP L (H.take j)).length≤100000000):=by show _≤_;omega
        generalize H.getD j 0=x at*
        clear hlen hcH
        go_wp2_with(at_builtin;refine cI .i64 180 3 8 underlying180 pD (by decide) rfl (.tmp 73) (.tmp 79) rfl w.heap.size w _ _ (jP L (H.take j)) _ rfl rfl hownL hbelL hsy HLN.out ?_;intro v' w' hown' hbel' hgr' hbl')
        go_roundw
        case rel=>
         refine⟨j+1,by omega,by go_num,by rw[HST.out];exact hown',?_,?_,?_,hbel'⟩
         ·rcases hbl' with h|h
          ·rw[h];exact hneL
          ·rw[h];intro h';simp at h';omega
         ·have:=hgr'.size;omega
         ·intro i hi
          rw[←HcH.out i hi]
          exact World.cell?_of_block (hgr'.block g5 hg5 (fun h=>hneL h.symm))
        case measure=>simp[intOf];omega
      ·obtain rfl:j=24:=by omega
       rw[List.take_of_length_le (by rw[HSL.out];exact nQ _),←HFD.out]at hownL
       obtain⟨g4,cap4,rfl,o1,o2,o3,o4,o5,o6⟩:=hownL.held 24 HFg.out.2 (by decide)
       clear o5 o6 hcH
       go_wp2_with fail
       refine(xN (qY D) 24 40 40 rfl HFg.out.2 HFg.out.1 (by decide) _ cap4 wr hownL.rd.2 (by decide)).mono ?_
       rintro e w9 ⟨v9,rfl,hown9,hbel9⟩
       go_wp2
       go_roundw
       case rel=>exact⟨k+1,by omega,by go_num,by rw[HF.out];exact hown9.mono hsy,hbelL.trans (hbel9.mono hsy)⟩
       case measure=>show 4 - ((k:Int)+1).toNat<4 - (k:Int).toNat;omega
  ·obtain rfl:k=4:=by omega
   have HM:Hid (oE d=if 4≤(lP D).getD 16 0 then((lP D).set 16 ((lP D).getD 16 0 - 4)).take 17 else D.take 17):=HMD.out rfl
   have c0:=hc 0 (by omega)
   have HC:Hid (∀i,i<40→wr.cell? ⟨g,i,none⟩=some (.int .i64 (D.getD i 0))):=hc
   have HDB:Hid (aE D):=hDb
   have HO:Hid (bX .i64 3 wr.heap.size (wr.alloc (.cells #[] 3)) (.slice (some ⟨wr.heap.size,0,none⟩) 0 0) []):=bX.nil wr (nQ _)
   have HB:Hid (Below wr.heap.size wr (wr.alloc (.cells #[] 3))):=(Below.refl _ _).alloc (nQ _) _
   have HN:Hid (∀j,j<40→(wr.alloc (.cells #[] 3)).cell? ⟨g,0+j,none⟩=some (.int .i64 (D.getD j 0))):=by
    intro j hj
    rw[World.cell?_alloc_past _ _ _ hgs,Nat.zero_add,HC.out j hj]
   have hsw:=hbel.size
   have bD:=hDb 0
   obtain⟨b0,b1⟩:=bD
   clear hc hDb modB hown1 hbel1
   obtain⟨z,hz⟩:∃z,z=D.getD 0 0:=⟨_,rfl⟩
   have HZ:Hid (z=D.getD 0 0):=hz
   rw[←hz]at b0 b1 c0
   clear hz
   go_wp2_with(at_builtin;refine cU .i64 180 3 8 underlying180 pD (by decide) rfl (.tmp 84) (.tmp 85) rfl wr.heap.size wr _ _ [] g 0 40 _ D HDL.out rfl rfl HO.out HB.out (by simp) (by simp) HN.out ?_;intro v2 w2 hown2 hbel2 _ _;rw[nA]at hown2;obtain⟨g2,cap2,rfl,q1,q2,q3,q4,q5,q6⟩:=hown2.held 40 (by exact HDL.out) (by decide);have l0:=q5 0 (by decide);rw[←HZ.out]at l0;have f0:=q6 0;clear q5 q6)
   rw[HZ.out]
   have hbW:Below wr.heap.size wr (w2.setCell ⟨g2,0,none⟩ (.int .i64 (D.getD 0 0+5))):=hbel2.setCell (by exact q1) _
   refine(xN (D.set 0 (D.getD 0 0+5)) 40 40 40 rfl (by rw[lJ];exact HDL.out) (DN HDB.out HDL.out) (by decide) _ cap2 _ (hown2.set 0 (D.getD 0 0+5)).rd.2 (by decide)).mono ?_
   rintro e w3 ⟨v3,rfl,hown3,hbel3⟩
   have hbW3:Below wr.heap.size wr w3:=hbW.trans (hbel3.mono (by have:=hbW.size;omega))
   have hownD:bX .i64 3 w.heap.size w3 (.slice (some ⟨g,0,none⟩) 40 cap) D:=hown.later hbW3
   have hbw3:Below w.heap.size w w3:=hbel.trans (hbW3.mono hsw)
   have hsz3:w.heap.size≤(w2.setCell ⟨g2,0,none⟩ (.int .i64 (D.getD 0 0+5))).heap.size:=by have:=hbW.size;omega
   have hown3':bX .i64 3 w.heap.size w3 v3 (lP D):=hown3.mono hsz3
   obtain⟨g3,cap3,rfl,s1,s2,s3,s4,s5,s6⟩:=hown3'.held 40 (wQ D) (by decide)
   have l16:=s5 16 (by decide)
   have f16:=s6 16
   have b16:=GY D 16
   obtain⟨b2,b3⟩:=b16
   have hoff:=wQ D
   generalize lP D=F at*
   by_cases h4:4≤F.getD 16 0
   ·generalize hx:F.getD 16 0=x at*
    clear s5 s6 hx
    go_wp2
    go_ret
    refine⟨_,rfl,?_,?_⟩
    ·rw[HM.out,if_pos h4]
     exact(hown3'.set 16 (x - 4)).take 17 (by decide)
    ·exact hbw3.setCell (by exact s1) _
   ·generalize hx:F.getD 16 0=x at*
    clear s5 s6 hx
    go_wp2
    go_ret
    refine⟨_,rfl,?_,hbw3⟩
    rw[HM.out,if_neg (by omega)]
    exact hownD.take 17 (by decide)
def fC (l ys:List Int):Nat→List Int
 | 0=>l
 | n+1=>(fC l ys n).set n ((fC l ys n).getD n 0+ys.getD n 0)
theorem jW (l ys:List Int):∀n,(fC l ys n).length=l.length
 | 0=>rfl
 | n+1=>by simp[fC,jW l ys n]
theorem mN (l ys:List Int):∀n i,n≤i→n≤l.length→(fC l ys n).getD i 0=l.getD i 0
 | 0,i,_,_=>rfl
 | n+1,i,h,hl=>by
   rw[fC,pA _ _ _ _ (by rw[jW];omega),if_neg (by omega)]
   exact mN l ys n i (by omega) (by omega)
theorem tE (l ys:List Int):∀n,n≤l.length→n≤ys.length→aT (fC l ys n)=aT l+aT (ys.take n)
 | 0,_,_=>by simp[fC,aT]
 | n+1,hl,hy=>by
   rw[fC,tX _ _ _ (by rw[jW];omega),tE l ys n (by omega) (by omega),u9 ys n (by omega),fB,List.length_take,Nat.min_eq_left (by omega)]
   simp only[aT,Int.mul_zero,Int.add_zero]
   rw[show(fC l ys n).getD n 0+ys.getD n 0 - (fC l ys n).getD n 0=ys.getD n 0 by omega]
   omega
theorem BG {l ys:List Int} {B:Int} (hB:0≤B) (hl:∀i,0≤l.getD i 0∧l.getD i 0≤B) (hy:aE ys):∀n,n≤l.length→∀i,0≤(fC l ys n).getD i 0∧(fC l ys n).getD i 0≤B+255
 | 0,_,i=>by have:=hl i;simp only[fC];omega
 | n+1,h,i=>by
   rw[fC,pA _ _ _ _ (by rw[jW];omega)]
   split
   ·rw[mN l ys n n (nQ _) (by omega)]
    have h1:=hl n
    have h2:=hy n
    omega
   ·exact BG hB hl hy n (by omega) i
def fT (P S R:List Int) (i:Nat):Nat→List Int
 | 0=>P
 | j+1=>(fT P S R i j).set (i+j) ((fT P S R i j).getD (i+j) 0+S.getD i 0*R.getD j 0)
def cG (S R:List Int):Nat→List Int
 | 0=>rQ 40 0
 | i+1=>fT (cG S R i) S R i 16
theorem kC (P S R:List Int) (i:Nat):∀j,(fT P S R i j).length=P.length
 | 0=>rfl
 | j+1=>by simp[fT,kC P S R i j]
theorem dX (S R:List Int):∀i,(cG S R i).length=40
 | 0=>by simp[cG]
 | i+1=>by rw[cG,kC,dX S R i]
theorem AD (P S R:List Int) (i:Nat) (hP:P.length=40):∀j,j≤R.length→i+j≤40→aT (fT P S R i j)=aT P+256^i*S.getD i 0*aT (R.take j)
 | 0,_,_=>by simp[fT,aT]
 | j+1,h,hij=>by
   rw[fT,tX _ _ _ (by rw[kC];omega),AD P S R i hP j (by omega) (by omega),u9 R j (by omega),fB,List.length_take,Nat.min_eq_left (by omega)]
   simp only[aT,Int.mul_zero,Int.add_zero]
   rw[show(fT P S R i j).getD (i+j) 0+S.getD i 0*R.getD j 0 - (fT P S R i j).getD (i+j) 0=S.getD i 0*R.getD j 0 by omega]
   rw[Int.mul_add,Int.add_assoc,Int.pow_add]
   congr 2
   rw[Int.mul_assoc,Int.mul_assoc,Int.mul_left_comm (256^j)]
theorem tZ (S R:List Int) (hR:R.length=16):∀i,i≤S.length→i≤24→aT (cG S R i)=aT (S.take i)*aT R
 | 0,_,_=>by
   simp only[cG,tJ,aT,Int.zero_mul]
   decide
 | i+1,h,h24=>by
   rw[cG,AD _ S R i (dX S R i) 16 (by omega) (by omega),tZ S R hR i (by omega) (by omega),u9 S i (by omega),fB,List.length_take,Nat.min_eq_left (by omega)]
   rw[show R.take 16=R from List.take_of_length_le (by omega)]
   simp only[aT,Int.mul_zero,Int.add_zero,Int.add_mul]
theorem yI {P S R:List Int} {B:Int} (i:Nat) (hP:P.length=40) (h:∀x,0≤P.getD x 0∧P.getD x 0≤B) (hS:∀x,0≤S.getD x 0∧S.getD x 0≤511) (hR:aE R):∀j:Nat,i+j≤40→∀x,0≤(fT P S R i j).getD x 0∧(fT P S R i j).getD x 0≤B+130305*j
 | 0,_,x=>by have:=h x;simp only[fT];omega
 | j+1,hij,x=>by
   rw[fT,pA _ _ _ _ (by rw[kC];omega)]
   have ih:=yI i hP h hS hR j (by omega)
   have h1:=ih (i+j)
   have h2:=ih x
   have hs:=hS i
   have hr:=hR j
   have hm0:0≤S.getD i 0*R.getD j 0:=Int.mul_nonneg hs.1 hr.1
   have hm1:S.getD i 0*R.getD j 0≤130305:=by
    have:S.getD i 0*R.getD j 0≤511*R.getD j 0:=Int.mul_le_mul_of_nonneg_right hs.2 hr.1
    omega
   split<;>omega
theorem tY {S R:List Int} (hS:∀x,0≤S.getD x 0∧S.getD x 0≤511) (hR:aE R):∀i:Nat,i≤24→∀x,0≤(cG S R i).getD x 0∧(cG S R i).getD x 0≤2084880*i
 | 0,_,x=>by
   simp only[cG,List.getD_eq_getElem?_getD,List.getElem?_replicate]
   split<;>simp
 | i+1,h,x=>by
   have:=yI (B:=2084880*i) i (dX S R i) (tY hS hR i (by omega)) hS hR 16 (by omega) x
   rw[cG]
   omega
theorem LP:∀(l r:List Int),aE l→aE r→l.length=r.length→aT l=aT r→l=r
 | [],[],_,_,_,_=>rfl
 | [],y::r,_,_,h,_=>by simp at h
 | x::l,[],_,_,h,_=>by simp at h
 | x::l,y::r,hl,hr,h,hn=>by
   have h0:0≤x∧x≤255:=hl 0
   have h1:0≤y∧y≤255:=hr 0
   simp only[aT]at hn
   have hxy:x=y:=by omega
   have:=LP l r (fun i=>by have:=hl (i+1);simpa using this) (fun i=>by have:=hr (i+1);simpa using this) (by simpa using h) (by omega)
   rw[hxy,this]
theorem RY (N a:Int) (ha:0<a):N%(a*256)=N%a+a*(N / a%256):=by
 have h1:=Int.mul_ediv_add_emod N a
 have h2:=Int.mul_ediv_add_emod (N / a) 256
 have hr:=Int.emod_nonneg N (show a≠0 by omega)
 have hr2:=Int.emod_lt_of_pos N ha
 have hq:=Int.emod_nonneg (N / a) (show(256:Int)≠0 by decide)
 have hq2:=Int.emod_lt_of_pos (N / a) (show(0:Int)<256 by decide)
 have e:N=(N%a+a*(N / a%256))+a*256*(N / a / 256):=by
  have h3:a*(N / a)=a*(256*(N / a / 256))+a*(N / a%256):=by rw[←Int.mul_add,h2]
  rw[←Int.mul_assoc]at h3
  omega
 have hlo:0≤a*(N / a%256):=Int.mul_nonneg (by omega) hq
 have hhi:a*(N / a%256)≤a*255:=Int.mul_le_mul_of_nonneg_left (by omega) (by omega)
 have e2:N%(a*256)=(N%a+a*(N / a%256))%(a*256):=by
  conv=>lhs;rw[e]
  exact Int.add_mul_emod_self_left _ _ _
 rw[e2]
 exact Int.emod_eq_of_lt (by omega) (by omega)
theorem FW (N:Int):∀n:Nat,aT ((List.range n).map fun i=>N / 256^i%256)=N%256^n
 | 0=>by simp[aT,Int.emod_one]
 | n+1=>by
   rw[List.range_succ,List.map_append,fB,FW N n,Int.pow_succ,RY N (256^n) (wV n)]
   simp[aT]
theorem vN (N:Int):aE (gG N):=by
 intro i
 simp only[gG,List.getD_eq_getElem?_getD,List.getElem?_map]
 by_cases h:i<16
 ·rw[List.getElem?_range h]
  simp only[Option.map_some,Option.getD_some]
  omega
 ·rw[List.getElem?_eq_none (by simp;omega)]
  simp
theorem QX (d:List Int) (hd:jN d) (hl:16≤d.length):gE d 16=gG (aT d):=by
 refine LP _ _ (nK d 16) (vN _) (by rw[iT];simp[gG]) ?_
 rw[FY d hd 16,wP,gG,FW,pI d 16 hl,Int.add_mul_emod_self_left]
def pX (key:List Int) (k:Nat):Int:=if k%4=3 then key.getD k 0%16 else if k%4=0∧0<k then key.getD k 0 - key.getD k 0%4 else key.getD k 0
def jK (key:List Int) (n:Nat):List Int:=(List.range n).map (pX key)
theorem sK (key:List Int) (n:Nat):(jK key n).length=n:=by simp[jK]
theorem OH (key:List Int) (n:Nat):jK key (n+1)=jK key n++[pX key n]:=by simp[jK,List.range_succ]
theorem MA {key:List Int} (hb:aE key) (n:Nat):aE (jK key n):=by
 intro i
 simp only[jK,List.getD_eq_getElem?_getD,List.getElem?_map]
 by_cases h:i<n
 ·rw[List.getElem?_range h]
  simp only[Option.map_some,Option.getD_some,pX]
  have:=hb i
  split
  ·omega
  ·split<;>omega
 ·rw[List.getElem?_eq_none (by simp;omega)]
  simp
theorem MD (key:List Int) (hb:aE key):aT (jK key 16)=kO key:=by
 have b0:=hb 0
 have b1:=hb 1
 have b2:=hb 2
 have b3:=hb 3
 have b4:=hb 4
 have b5:=hb 5
 have b6:=hb 6
 have b7:=hb 7
 have b8:=hb 8
 have b9:=hb 9
 have b10:=hb 10
 have b11:=hb 11
 have b12:=hb 12
 have b13:=hb 13
 have b14:=hb 14
 have b15:=hb 15
 have e:jK key 16=[pX key 0,pX key 1,pX key 2,pX key 3,pX key 4,pX key 5,pX key 6,pX key 7,pX key 8,pX key 9,pX key 10,pX key 11,pX key 12,pX key 13,pX key 14,pX key 15]:=rfl
 rw[e]
 simp only[aT,kO,aF,pX]
 simp[-List.getD_eq_getElem?_getD]
 omega
theorem OJ (key:List Int) (hb:aE key) (hl:key.length=32):aT ((key.drop 16).take 16)=YQ key:=by
 have h16:(key.drop 16).length=16:=by rw[List.length_drop,hl]
 have hbd:=dC hb 16
 rw[List.take_of_length_le (by omega)]
 unfold YQ
 generalize key.drop 16=s at*
 match s,h16 with
 | [z0,z1,z2,z3,z4,z5,z6,z7,z8,z9,z10,z11,z12,z13,z14,z15],_=>
   simp[aT,aF]
   omega
end Go.Proofs.YtgcepckaolkeoaaGreatDoor
