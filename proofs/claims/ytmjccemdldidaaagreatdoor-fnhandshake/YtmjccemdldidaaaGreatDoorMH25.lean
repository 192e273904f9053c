import Derived.Test.YtmjccemdldidaaaGreatDoorMH24
import Derived.Great.BuildSlice
namespace Go.Proofs.YtmjccemdldidaaaGreatDoor
open Go.RowKit
open Go.Proofs.Tryz
open Go renaming heap_alloc_new → hAN, heap_alloc_old → hAO, wpList_load_row → wpLr, wpQuiet_nil → wqN
open List renaming drop_succ_cons → dJ, drop_zero → dY, length_append → lQ, length_map → lU, length_replicate → rJ, replicate → rQ, set_cons_zero → sY, take_succ_cons → tU, take_zero → tJ
open Nat renaming le_refl → nQ, le_trans → nU
set_option linter.unusedVariables false
set_option maxHeartbeats 2000000
set_option maxRecDepth 10000
theorem GE:(prog.info? 149).map (·.size)=some 64:=by kernel_rfl
theorem sF:(prog.info? 25).map (·.size)=some 32:=by kernel_rfl
theorem uR:(prog.info? 30).map (·.size)=some 12:=by kernel_rfl
theorem GQ:∀W,(zeroValue 149).run prog W=.ok (.agg (Iv .u8 (aA 64))) W:=(zero_of_info (n:=64) (by kernel_rfl)).1
theorem aaG (n:Nat) (hn:n≤65536) (w:World):
 (Instr.makeSlice 22 (.int .i64 (n:Int)) (.int .i64 ((n:Int)+16))).run prog w=.ok (.slice (some ⟨w.heap.size,0,none⟩) n (n+16)) (w.alloc (.cells (Iv .u8 (rQ (n+16) 0)) 5)):=by
 obtain⟨i,hi,hz,hs,hby⟩:=info_parts pN
 have h:=run_make (P:=prog) w 22 5 i (.int .u8 0) underlying22 hi hz .i64 .i64 (n:Int) ((n:Int)+16) (by omega) (by omega) (by rw[hby];omega) (by omega)
 have e1:((n:Int)+16).toNat=n+16:=by omega
 rw[h,hs,e1]
 simp only[Int.toNat_natCast,Nat.mul_one]
 rw[show(Value.int .u8 0).cells=#[Value.int .u8 0]from rfl,MD]
def zW (B:Nat→LI) (text:LI) (n k:Nat):LI:=iW B text k++rQ (n - k) 0
theorem mX (B:Nat→LI) (text:LI) (n k:Nat) (hk:k≤n):(zW B text n k).length=n:=by simp[zW,eF];omega
theorem MZ (B:Nat→LI) (text:LI) (n k:Nat) (hk:k<n):(zW B text n k).set k (xb (text.getD k 0) ((B (1+k / 64)).getD (k%64) 0))=zW B text n (k+1):=by
 unfold zW
 rw[List.set_append,if_neg (by rw[eF];omega),eF,Nat.sub_self,MY,List.append_assoc]
 congr 1
 rw[show n - k=(n - (k+1))+1 by omega,List.replicate_succ,sY]
 rfl
theorem BS (key nonce:LI) (hk:key.length=32) (hr:nonce.length=12) (B:Nat→LI) (hB:∀i,(B i).length=64) (HC:Hid (AA 117 key nonce B gU)) (hBb:∀i,aC (B i))
 (text:LI) (n:Nat) (hn:text.length=n) (hn2:n≤65536) (htb:aC text) (tg to_ tcap:Nat) (w:World) (HS:Hid (Sl w tg to_ text)) (htc:n≤tcap) (htc2:tcap≤9223372036854775807) (HT:Hid (gU w)):
 Calls prog 102 #[.agg (Iv .u8 key),.agg (Iv .u8 nonce),.slice (some ⟨tg,to_,none⟩) n tcap] w fun e w'=>∃g,e=.returned (.slice (some ⟨g,0,none⟩) n (n+16))∧bM .u8 5 w.heap.size w' (.slice (some ⟨g,0,none⟩) n (n+16)) (iW B text n)∧Below w.heap.size w w':=by
 have hmk:=aaG n hn2
 have hzv:=GQ
 have hi32:Hid ((prog.info? 25).map (·.size)=some (Iv .u8 key).size):=by show _=_;rw[aD,hk];exact sF
 have hi12:Hid ((prog.info? 30).map (·.size)=some (Iv .u8 nonce).size):=by show _=_;rw[aD,hr];exact uR
 have hi64:Hid (∀l:LI,l.length=64→(prog.info? 149).map (·.size)=some (Iv .u8 l).size):=fun l hl=>by rw[aD,hl];exact GE
 have hs64:Hid (∀l m:LI,l.length=64→m.length=64→(Iv .u8 l).size=(Iv .u8 m).size):=fun l m hl hm=>by rw[aD,aD,hl,hm]
 have htg:=HS.out.1
 go_enter func102,ntmps102
 go_wp2
 obtain⟨W,hW,g0,g1,g2,g3,hs,hBW⟩:=sQ w (.cells (Iv .u8 key) 25) (.cells (Iv .u8 nonce) 30) (.cells (Iv .u8 (rQ (n+16) 0)) 5) (.cells (Iv .u8 (aA 64)) 149)
 rw[hW]
 clear hmk hzv hW
 have hown0:bM .u8 5 w.heap.size W (.slice (some ⟨w.heap.size+1+1,0,none⟩) n (n+16)) (zW B text n 0):=by
  refine⟨by rw[eT,mX _ _ _ _ (Nat.zero_le _)];omega,.inr ⟨w.heap.size+1+1,n+16,_,by rw[mX _ _ _ _ (Nat.zero_le _)],by omega,g2,by rw[mX _ _ _ _ (Nat.zero_le _)];omega,by unfold maxLen;omega,by simp[aD],?_⟩⟩
  rw[mX _ _ _ _ (Nat.zero_le _)]
  simp[Iv,iv,zW,iW,List.take_replicate]
 go_loopw [18] (fun i wr=>∃k:Nat,k≤n∧i=.int .i64 k∧aE wr w.heap.size .u8 key 25∧aE wr (w.heap.size+1) .u8 nonce 30∧(∃C,aE wr (w.heap.size+1+1+1) .u8 C 149∧C.length=64∧(0<k→C=B (1+(k - 1) / 64)))∧bM .u8 5 w.heap.size wr (.slice (some ⟨w.heap.size+1+1,0,none⟩) n (n+16)) (zW B text n k)∧Below w.heap.size w wr∧w.heap.size+1+1+1+1≤wr.heap.size) (fun i _=>n - (intOf i).toNat)
 case atStart=>exact⟨0,Nat.zero_le _,rfl,g0,g1,⟨aA 64,g3,by simp[aA],fun h=>absurd h (by omega)⟩,hown0,hBW,by omega⟩
 case round=>
  obtain⟨k,hkn,rfl,r0,r1,⟨C,r3,hCl,hCk⟩,hown,hbel,hsz⟩:=hrel
  have R0:Hid _:=r0
  have R1:Hid _:=r1
  have R3:Hid _:=r3
  have HO:Hid _:=hown
  have HBL:Hid _:=hbel
  have HCK:Hid _:=hCk
  clear r0 r1 r3 hown hbel hown0 g0 g1 g2 g3 hBW hCk hs
  by_cases hlt:k<n
  ·have hlti:(k:Int)<n:=by omega
   obtain⟨m,hm⟩:∃m,m=k%64:=⟨_,rfl⟩
   have hmi:(k:Int)%64=(m:Int):=by omega
   have hm64:m<64:=by omega
   have HM:Hid (m=k%64):=hm
   by_cases hk64:m=0
   ·have hm0:((m:Int)=0):=by omega
    have hm0':((k:Int)%64=0):=by omega
    have hcast:Hid ((1+(k:Int) / 64)=((1+k / 64:Nat):Int)):=by show _=_;omega
    clear hmi hm
    go_wp2_with(with_reducible refine aJ ?_;first
     | refine wpLr rfl 25 _ rfl w.heap.size rfl _ (Iv .u8 key) _ _ R0.out underlying25 rfl hi32.out ?_
     | refine wpLr rfl 30 _ rfl (w.heap.size+1) rfl _ (Iv .u8 nonce) _ _ R1.out underlying30 rfl hi12.out ?_)
    rw[hcast.out]
    refine(HC.out (1+k / 64) wr (by omega) (gU.later HT.out HBL.out (nQ _))).mono ?_
    rintro e w1 ⟨rfl,hb1⟩
    have Q3:Hid _:=(hb1.block _ (by omega)).trans R3.out
    go_wp2_with(with_reducible refine aJ ?_;refine wpPr rfl 149 _ _ rfl (w.heap.size+1+1+1) (Iv .u8 (B (1+k / 64))) rfl rfl _ _ Q3.out (hi64.out _ (hB _)) (hs64.out _ _ hCl (hB _)) (aG _ _) (fun X hX=>sH ?_))
    refine aH ?_
    have X3:Hid _:=hX.here
    have X0:Hid _:=(hX.far _ (by omega)).trans ((hb1.block _ (by omega)).trans R0.out)
    have X1:Hid _:=(hX.far _ (by omega)).trans ((hb1.block _ (by omega)).trans R1.out)
    have XB:Hid (Below w.heap.size w X):=hX.below _ _ (HBL.out.trans (hb1.mono (by omega))) (by omega)
    have XO:Hid _:=OQ (bM.later HO.out hb1) hX (by omega)
    have hXs:w.heap.size+1+1+1+1≤X.heap.size:=by rw[hX.size];have:=hb1.size;omega
    have hmi:(k:Int)%64=(m:Int):=by have:=HM.out;omega
    clear hk64 hm0 hm0' hcast hX hb1 Q3 R0 R1 R3 HO HBL
    have hcell:X.cell? ⟨w.heap.size+1+1+1,m,none⟩=some (.int .u8 ((B (1+k / 64)).getD m 0)):=by rw[cell_of_row _ _ _ _ _ _ X3.out];simp[Iv,hB,hm64]
    have htext:X.cell? ⟨tg,to_+k,none⟩=some (.int .u8 (text.getD k 0)):=(XB.out.cell (p:=⟨tg,to_+k,none⟩) htg).trans (HS.out.2 k (by omega))
    have hoc:=(Sl.of_own XO.out).2 k (by rw[mX _ _ _ _ hkn];exact hlt)
    rw[Nat.zero_add]at hoc
    have hof:X.frozen? ⟨w.heap.size+1+1,k,none⟩=false:=RH XO.out k
    have hbt:=htb k
    have hbb:=hBb (1+k / 64) m
    have HST:Hid ((zW B text n k).set k (xb (text.getD k 0) ((B (1+k / 64)).getD m 0))=zW B text n (k+1)):=by show _=_;rw[HM.out];exact MZ B text n k hlt
    have HOS:=bM.set XO.out k (xb (text.getD k 0) ((B (1+k / 64)).getD m 0))
    rw[HST.out]at HOS
    have HOS':Hid _:=HOS
    have HC2:Hid (B (1+k / 64)=B (1+(k+1 - 1) / 64)):=by show _=_;rw[Nat.add_sub_cancel]
    clear HST HOS
    generalize text.getD k 0=tz at*
    generalize(B (1+k / 64)).getD m 0=bz at*
    generalize(zW B text n k).getD k 0=oz at*
    go_wp2
    refine wRh 12 (by kernel_rfl) (by kernel_rfl) ?_
    simp only[tU,tJ,dJ,dY]
    repeat(go_big_quiet_step (fail))
    refine wqN ?_
    go_wp2
    go_roundw
    case rel=>
     refine⟨k+1,by omega,by go_num,?_,?_,⟨_,?_,hB (1+k / 64),fun _=>HC2.out⟩,bM.drews HOS'.out 1,bDr (XB.out.setCell (p:=⟨w.heap.size+1+1,k,none⟩) (by show w.heap.size≤w.heap.size+1+1;omega) _) 1,by simp;omega⟩
     ·exact(heap_setCell_other X.drew _ _ _ (by simp;try omega)).trans X0.out
     ·exact(heap_setCell_other X.drew _ _ _ (by simp;try omega)).trans X1.out
     ·exact(heap_setCell_other X.drew _ _ _ (by simp;try omega)).trans X3.out
    case measure=>simp[intOf];omega
   ·have hm0:(((m:Int)=0)=False):=by simp;omega
    have X:=wr
    have hC:=HCK.out (by omega)
    have hC2:1+(k - 1) / 64=1+k / 64:=by omega
    rw[hC2]at hC
    subst hC
    clear X
    obtain⟨X,hX⟩:∃X,X=wr:=⟨_,rfl⟩
    rw[←hX]at R0 R1 R3 HO HBL hsz⊢
    have X3:Hid _:=R3.out
    have X0:Hid _:=R0.out
    have X1:Hid _:=R1.out
    have XB:Hid (Below w.heap.size w X):=HBL.out
    have XO:Hid _:=HO.out
    have hXs:=hsz
    clear hX R0 R1 R3 HO HBL hC2 hm
    have hcell:X.cell? ⟨w.heap.size+1+1+1,m,none⟩=some (.int .u8 ((B (1+k / 64)).getD m 0)):=by rw[cell_of_row _ _ _ _ _ _ X3.out];simp[Iv,hB,hm64]
    have htext:X.cell? ⟨tg,to_+k,none⟩=some (.int .u8 (text.getD k 0)):=(XB.out.cell (p:=⟨tg,to_+k,none⟩) htg).trans (HS.out.2 k (by omega))
    have hoc:=(Sl.of_own XO.out).2 k (by rw[mX _ _ _ _ hkn];exact hlt)
    rw[Nat.zero_add]at hoc
    have hof:X.frozen? ⟨w.heap.size+1+1,k,none⟩=false:=RH XO.out k
    have hbt:=htb k
    have hbb:=hBb (1+k / 64) m
    have HST:Hid ((zW B text n k).set k (xb (text.getD k 0) ((B (1+k / 64)).getD m 0))=zW B text n (k+1)):=by show _=_;rw[HM.out];exact MZ B text n k hlt
    have HOS:=bM.set XO.out k (xb (text.getD k 0) ((B (1+k / 64)).getD m 0))
    rw[HST.out]at HOS
    have HOS':Hid _:=HOS
    have HC2:Hid (B (1+k / 64)=B (1+(k+1 - 1) / 64)):=by show _=_;rw[Nat.add_sub_cancel]
    clear HST HOS
    generalize text.getD k 0=tz at*
    generalize(B (1+k / 64)).getD m 0=bz at*
    generalize(zW B text n k).getD k 0=oz at*
    go_wp2
    refine wRh 12 (by kernel_rfl) (by kernel_rfl) ?_
    simp only[tU,tJ,dJ,dY]
    repeat(go_big_quiet_step (fail))
    refine wqN ?_
    go_wp2
    go_roundw
    case rel=>
     refine⟨k+1,by omega,by go_num,?_,?_,⟨_,?_,hB (1+k / 64),fun _=>HC2.out⟩,bM.drews HOS'.out 1,bDr (XB.out.setCell (p:=⟨w.heap.size+1+1,k,none⟩) (by show w.heap.size≤w.heap.size+1+1;omega) _) 1,by simp;omega⟩
     ·exact(heap_setCell_other X.drew _ _ _ (by simp;try omega)).trans X0.out
     ·exact(heap_setCell_other X.drew _ _ _ (by simp;try omega)).trans X1.out
     ·exact(heap_setCell_other X.drew _ _ _ (by simp;try omega)).trans X3.out
    case measure=>simp[intOf];omega
  ·obtain rfl:k=n:=by omega
   go_wp2
   go_ret
   refine⟨_,rfl,?_,HBL.out⟩
   have h:=HO.out
   unfold zW at h
   rw[Nat.sub_self,List.replicate_zero,List.append_nil]at h
   exact h
theorem ahP:prog.follows .mixedOrders=true:=by kernel_rfl
theorem IW (l:LI) (n:Nat) (hl:l.length=n) (hn:n≤1000000) (g o c:Nat) (w:World) (HS:Hid (Sl w g o l)):
 Calls prog 73 #[.slice (some ⟨g,o,none⟩) n c] w fun e w'=>∃v,e=.returned v∧bM .u8 5 w.heap.size w' v (iP l)∧v.ownBlock≠none∧Below w.heap.size w w':=by
 have HO:Hid (bM .u8 5 w.heap.size (w.alloc (.cells #[] 5)) (.slice (some ⟨w.heap.size,0,none⟩) 0 0) []):=bM.nil w (nQ _)
 have HW:Hid (Below w.heap.size w (w.alloc (.cells #[] 5))):=(Below.refl _ _).alloc (nQ _) _
 have HN:Hid (∀j,j<n→(w.alloc (.cells #[] 5)).cell? ⟨g,o+j,none⟩=some (.int .u8 (l.getD j 0))):=fun j hj=>(Sl.later HS.out HW.out HS.out.1).2 j (by omega)
 have HL:Hid (l.length=n):=hl
 clear hl
 go_enter func73,ntmps73
 go_wp2_with(at_builtin;refine bU .u8 22 5 1 underlying22 pN (by decide) rfl (.tmp 4) (.tmp 5) rfl w.heap.size w _ _ [] g o n c l HL.out rfl rfl HO.out HW.out HW.out.size (by simp;omega) HN.out ?_;intro v2 w2 hown2 hbel2 _ hd2;refine sH ?_)
 refine aH ?_
 have hne2:v2.ownBlock≠none:=AP (v:=.slice (some ⟨w.heap.size,0,none⟩) 0 0) (by simp[Value.ownBlock]) hd2
 have HO2:Hid _:=hown2
 have HB2:Hid _:=hbel2
 have HE2:Hid _:=hne2
 clear hown2 hbel2 hne2 hd2 HO HW HN
 go_wp2
 go_loopw [3] (fun v wr=>∃k:Nat,k≤nX n∧bM .u8 5 w.heap.size wr v (l++rQ k 0)∧v.ownBlock≠none∧Below w.heap.size w wr∧∃gg cc,v=.slice (some ⟨gg,0,none⟩) (n+k) cc) (fun v _=>2000000 - (match v with| .slice _ a _=>a|_=>0))
 case atStart=>
  obtain⟨gg,cc,hv,_⟩:=tX HO2.out HE2.out
  refine⟨0,Nat.zero_le _,by rw[List.replicate_zero,List.append_nil];exact HO2.out,HE2.out,HB2.out,gg,cc,?_⟩
  rw[hv]
  simp[HL.out]
 case round=>
  obtain⟨k,hk,hown,hne,hbel,gg,cc,rfl⟩:=hrel
  have hsz:=hbel.size
  have h16:=pB n
  have hfn:Hid (nX n=(16 - n%16)%16):=rfl
  by_cases hlt:k<nX n
  ·have hm:(((n:Int)+(k:Int))%16=0)=False:=by
    have:=hfn.out
    simp
    omega
   have hm2:(((n:Int)+(k:Int))%16 !=0)=true:=by have:=hfn.out;simp;omega
   have HS1:Hid (l++rQ (k+1) 0=l++rQ k 0++[0]):=by show _=_;rw[List.replicate_succ',List.append_assoc]
   have HLL:Hid ((l++rQ k 0).length≤100000000):=by show _≤_;have:=HL.out;simp;omega
   have HOO:Hid _:=hown
   have HNE:Hid _:=hne
   have HBB:Hid _:=hbel
   clear hown hne hbel
   go_wp2_with(at_builtin;refine cK .u8 22 5 1 underlying22 pN (by decide) rfl (.tmp 11) (.tmp 12) rfl w.heap.size w wr _ (l++rQ k 0) _ rfl rfl HOO.out HBB.out hsz HLL.out ?_;intro v1 w1 hown1 hbel1 _ hd1;refine sH ?_)
   refine aH ?_
   rw[←HS1.out]at hown1
   have hne1:v1.ownBlock≠none:=AP HNE.out hd1
   obtain⟨g1,c1,hv1,_⟩:=tX hown1 hne1
   have hln:(l++rQ (k+1) 0).length=n+(k+1):=by have:=HL.out;simp;omega
   rw[hln]at hv1
   have K1:Hid _:=hown1
   have K2:Hid _:=hbel1
   have K3:Hid _:=hne1
   clear hown1 hbel1 hne1 hd1 HOO HNE HBB hln
   subst hv1
   go_wp2
   go_roundw
   case rel=>exact⟨k+1,by omega,K1.out,K3.out,K2.out,g1,c1,rfl⟩
   case measure=>show 2000000 - (n+(k+1))<2000000 - (n+k);omega
  ·obtain rfl:k=nX n:=by omega
   have hm:((n:Int)+((nX n:Nat):Int))%16=0:=by
    have:=hfn.out
    omega
   have hm2:(((n:Int)+((nX n:Nat):Int))%16 !=0)=false:=by simp;omega
   go_wp2
   go_ret
   refine⟨_,rfl,?_,hne,hbel⟩
   unfold iP
   rw[HL.out]
   exact hown
theorem acM (ga oa ca gb ob cb:Nat) (la lb:LI) (n m:Nat) (hla:la.length=n) (hlb:lb.length=m) (hlen:n+m≤100000000) (w:World) (ha:Sl w ga oa la) (hb:Sl w gb ob lb):
 Calls prog 48 #[.slice (some ⟨ga,oa,none⟩) n ca,.slice (some ⟨gb,ob,none⟩) m cb] w fun e w'=>∃x,e=.returned x∧bM .u8 5 w.heap.size w' x (la++lb)∧Below w.heap.size w w':=by
 have HA:Hid (Sl w ga oa la):=ha
 have HB:Hid (Sl w gb ob lb):=hb
 have HO:Hid (bM .u8 5 w.heap.size (w.alloc (.cells #[] 5)) (.slice (some ⟨w.heap.size,0,none⟩) 0 0) []):=bM.nil w (nQ _)
 have HW:Hid (Below w.heap.size w (w.alloc (.cells #[] 5))):=(Below.refl _ _).alloc (nQ _) _
 have HS:Hid _:=HW.out.size
 have HN:Hid (∀j,j<n→(w.alloc (.cells #[] 5)).cell? ⟨ga,oa+j,none⟩=some (.int .u8 (la.getD j 0))):=fun j hj=>(ha.later HW.out ha.1).2 j (by omega)
 have HL:Hid (la.length=n):=hla
 have HM:Hid (lb.length=m):=hlb
 clear ha hb hla hlb
 go_enter func48,ntmps48
 go_wp2_with(first
  | (at_builtin;refine bU .u8 22 5 1 underlying22 pN (by decide) rfl (.tmp 6) (.tmp 7) rfl w.heap.size w _ _ [] ga oa n ca la HL.out rfl rfl HO.out HW.out HS.out (by simp;omega) HN.out ?_;intro v2 w2 hown2 hbel2 _ _
     have HN2:Hid (∀j,j<m→w2.cell? ⟨gb,ob+j,none⟩=some (.int .u8 (lb.getD j 0))):=fun j hj=>(HB.out.later hbel2 HB.out.1).2 j (by have:=HM.out;omega))
  | (at_builtin;refine bU .u8 22 5 1 underlying22 pN (by decide) rfl (.tmp 9) (.tmp 10) rfl w.heap.size w _ _ la gb ob m cb lb HM.out rfl rfl hown2 hbel2 hbel2.size (by have:=HL.out;omega) HN2.out ?_;intro v3 w3 hown3 hbel3 _ _))
 go_ret
 exact⟨_,rfl,hown3,hbel3⟩
def KE (n k:Nat):LI:=(List.range k).map fun i=>(n:Int) / 256^i%256
theorem aaA (n k:Nat):KE n (k+1)=KE n k++[(n:Int) / 256^k%256]:=by simp[KE,List.range_succ]
theorem EO (n:Nat) (hn:n≤1000000) (w:World):
 Calls prog 74 #[.int .i64 n] w fun e w'=>∃v,e=.returned v∧bM .u8 5 w.heap.size w' v (IX n)∧Below w.heap.size w w':=by
 go_enter func74,ntmps74
 go_wp2
 go_loopw [0,3,4] (fun x v i wr=>∃k:Nat,k≤8∧x=.int .i64 ((n / 256^k:Nat):Int)∧i=.int .i64 k∧bM .u8 5 w.heap.size wr v (KE n k)∧Below w.heap.size w wr) (fun _ _ i _=>8 - (intOf i).toNat)
 case atStart=>exact⟨0,Nat.zero_le _,by simp,rfl,bM.nil w (nQ _),(Below.refl _ _).alloc (nQ _) _⟩
 case round=>
  obtain⟨k,hk,rfl,rfl,hown,hbel⟩:=hrel
  have hsz:=hbel.size
  by_cases hlt:k<8
  ·have HS1:Hid (KE n (k+1)=KE n k++[((n / 256^k:Nat):Int)%256]):=by show _=_;rw[aaA];simp
   have HLL:Hid ((KE n k).length≤100000000):=by show _≤_;simp[KE];omega
   have HQ:Hid (((n / 256^(k+1):Nat):Int)=((n / 256^k:Nat):Int) / 256):=by show _=_;rw[Nat.pow_succ,←Nat.div_div_eq_div_mul];omega
   have hqb:n / 256^k≤1000000:=nU (Nat.div_le_self _ _) hn
   have HOO:Hid _:=hown
   have HBB:Hid _:=hbel
   clear hown hbel
   generalize n / 256^k=q at*
   generalize KE n k=L at*
   have hq2:((q:Int)%256)%256=(q:Int)%256:=by omega
   go_wp2_with(at_builtin;refine cK .u8 22 5 1 underlying22 pN (by decide) rfl (.tmp 10) (.tmp 14) rfl w.heap.size w wr _ L _ rfl rfl HOO.out HBB.out hsz HLL.out ?_;intro v1 w1 hown1 hbel1 _ _;refine sH ?_)
   refine aH ?_
   have K1:Hid (bM .u8 5 w.heap.size w1 v1 (KE n (k+1))):=by show bM _ _ _ _ _ _;rw[HS1.out];exact hown1
   have K2:Hid _:=hbel1
   clear hown1 hbel1 HOO HBB
   go_wp2
   go_roundw
   case rel=>exact⟨k+1,by omega,by rw[HQ.out],by go_num,K1.out,K2.out⟩
   case measure=>simp[intOf];omega
  ·obtain rfl:k=8:=by omega
   go_wp2
   go_ret
   exact⟨_,rfl,hown,hbel⟩
theorem WK {K:Act→World→Prop} {Q:Exit→Act→World→Prop} {a:Act} {w:World} (h:K a w):dX K Q .normal a w:=h
theorem OJ (key nonce:LI) (hk:key.length=32) (hr:nonce.length=12) (B:Nat→LI) (hB:∀i,(B i).length=64) (HC:Hid (AA 72 key nonce B (fun _=>True))) (hBb:∀i,aC (B i))
 (text:LI) (n:Nat) (hn:text.length=n) (hn2:n≤65536) (htb:aC text) (tg to_ tcap:Nat) (w:World) (HS:Hid (Sl w tg to_ text)) (htc:n≤tcap) (htc2:tcap≤9223372036854775807):
 Calls prog 51 #[.agg (Iv .u8 key),.agg (Iv .u8 nonce),.slice (some ⟨tg,to_,none⟩) n tcap] w fun e w'=>∃v,e=.returned v∧bM .u8 5 w.heap.size w' v (iW B text n)∧v.ownBlock≠none∧Below w.heap.size w w':=by
 have hi32:Hid ((prog.info? 25).map (·.size)=some (Iv .u8 key).size):=by show _=_;rw[aD,hk];exact sF
 have hi12:Hid ((prog.info? 30).map (·.size)=some (Iv .u8 nonce).size):=by show _=_;rw[aD,hr];exact uR
 have hi64:Hid (∀l:LI,l.length=64→(prog.info? 149).map (·.size)=some (Iv .u8 l).size):=fun l hl=>by rw[aD,hl];exact GE
 have hz64:Hid (∀l:LI,l.length=64→(Iv .u8 (aA 64)).size=(Iv .u8 l).size):=fun l hl=>by rw[aD,aD,hl];simp[aA]
 have htg:=HS.out.1
 obtain⟨W,hW,g0,g1,g2,hs,hBW⟩:=pL w (.cells (Iv .u8 key) 25) (.cells (Iv .u8 nonce) 30) (.cells #[] 5)
 have hown0:bM .u8 5 (w.heap.size+1+1) W (.slice (some ⟨w.heap.size+1+1,0,none⟩) 0 0) (iW B text 0):=⟨by simp[eT,iW],.inr ⟨w.heap.size+1+1,0,#[],by simp[iW],nQ _,g2,by simp[iW],by unfold maxLen;omega,rfl,by simp[iW,iv]⟩⟩
 have HO0:Hid _:=hown0
 have HW:Hid _:=hW
 have G0:Hid _:=g0
 have G1:Hid _:=g1
 have GB:Hid _:=hBW
 clear hown0 hW g0 g1 g2 hBW
 go_enter func51,ntmps51
 go_wp2
 rw[HW.out]
 go_loopw [7,8] (fun v i wr=>∃q:Nat,i=.int .i64 ((64*q:Nat):Int)∧64*q<n+64∧bM .u8 5 (w.heap.size+1+1) wr v (iW B text (min (64*q) n))∧v.ownBlock≠none∧aE wr w.heap.size .u8 key 25∧aE wr (w.heap.size+1) .u8 nonce 30∧Below w.heap.size w wr∧w.heap.size+1+1+1≤wr.heap.size) (fun _ i _=>n+64 - (intOf i).toNat)
 case atStart=>exact⟨0,rfl,by omega,by rw[show min (64*0) n=0 by omega];exact HO0.out,by simp[Value.ownBlock],G0.out,G1.out,GB.out,by omega⟩
 case round=>
  obtain⟨q,rfl,hq,hown,hne,r0,r1,hbel,hsz⟩:=hrel
  have R0:Hid _:=r0
  have R1:Hid _:=r1
  have HO:Hid _:=hown
  have HE:Hid _:=hne
  have HBL:Hid _:=hbel
  clear r0 r1 hown hne hbel HO0 G0 G1 GB HW
  by_cases hlt:64*q<n
  ·have hlti:((64*q:Nat):Int)<n:=by omega
   have hcast:Hid (∀x:Int,x=((64*q:Nat):Int)→1+x / 64=((1+q:Nat):Int)):=fun x hx=>by omega
   rw[show min (64*q) n=64*q+0 by omega]at HO
   obtain⟨a,ha⟩:∃a,a=64*q:=⟨_,rfl⟩
   rw[←ha]at HO hlti hcast⊢
   have ha2:a<n:=by omega
   have HA:Hid (a=64*q):=ha
   clear ha hlt hq
   go_wp2_with(with_reducible refine aJ ?_;first
    | refine wpLr rfl 25 _ rfl w.heap.size rfl _ (Iv .u8 key) _ _ R0.out underlying25 rfl hi32.out ?_
    | refine wpLr rfl 30 _ rfl (w.heap.size+1) rfl _ (Iv .u8 nonce) _ _ R1.out underlying30 rfl hi12.out ?_)
   rw[hcast.out _ rfl]
   have hq2:1+q≤2000:=by have:=HA.out;omega
   refine(HC.out (1+q) wr hq2 trivial).mono ?_
   rintro e w3 ⟨rfl,hb3⟩
   have hs3:=hb3.size
   have hzw:=GQ
   have K3:Hid ((w3.alloc (.cells (Iv .u8 (aA 64)) 149)).heap[w3.heap.size]? =some (.cells (Iv .u8 (aA 64)) 149)):=hAN _ _
   go_wp2_with(with_reducible refine aJ ?_;refine wpPr rfl 149 _ _ rfl w3.heap.size (Iv .u8 (B (1+q))) rfl rfl _ _ K3.out (hi64.out _ (hB _)) (hz64.out _ (hB _)) (aG _ _) (fun X hX=>sH ?_))
   refine aH ?_
   have xs:X.heap.size=w3.heap.size+1:=by rw[hX.size];simp
   have XR:Hid _:=hX.here
   have X0:Hid _:=(hX.far _ (by omega)).trans ((hAO _ _ (by omega)).trans ((hb3.block _ (by omega)).trans R0.out))
   have X1:Hid _:=(hX.far _ (by omega)).trans ((hAO _ _ (by omega)).trans ((hb3.block _ (by omega)).trans R1.out))
   have XB:Hid (Below w.heap.size w X):=hX.below _ _ ((HBL.out.trans (hb3.mono (by omega))).alloc (by omega) _) (by omega)
   obtain⟨go0,co0,rfl,hgo0,_,_,hgo1,hob0⟩:=tX HO.out HE.out
   have XO:Hid _:=OQ (bM.later (bM.later HO.out hb3) ((Below.refl _ _).alloc (nQ _) _)) hX (by omega)
   have XN:Hid ((Value.slice (some ⟨go0,0,none⟩) (iW B text (a+0)).length co0).ownBlock≠some w3.heap.size):=by show _≠_;rw[hob0];intro h;cases h;omega
   obtain⟨gb,egb⟩:∃x,x=w3.heap.size:=⟨_,rfl⟩
   rw[←egb]at XR xs hs3 XN⊢
   clear egb hX hb3 K3 R0 R1 HO HE HBL hzw
   generalize Value.slice (some ⟨go0,0,none⟩) (iW B text (a+0)).length co0=v0 at*
   go_wp2
   go_loopw [7,10] (fun v i wx=>∃k:Nat,k≤64∧a+k≤n∧i=.int .i64 k∧bM .u8 5 (w.heap.size+1+1) wx v (iW B text (a+k))∧v.ownBlock≠none∧v.ownBlock≠some gb∧aE wx gb .u8 (B (1+q)) 149∧aE wx w.heap.size .u8 key 25∧aE wx (w.heap.size+1) .u8 nonce 30∧Below w.heap.size w wx∧gb+1≤wx.heap.size) (fun _ i _=>64 - (intOf i).toNat)
   case atStart=>exact⟨0,by omega,by omega,rfl,XO.out,by rw[hob0];simp,XN.out,XR.out,X0.out,X1.out,XB.out,by omega⟩
   case round=>
    obtain⟨k,hk64,hkn,rfl,hown,hne,hngb,rr,r0,r1,hbel,hsz2⟩:=hrel
    have HO:Hid _:=hown
    have HE:Hid _:=hne
    have HG:Hid _:=hngb
    have RR:Hid _:=rr
    have R0:Hid _:=r0
    have R1:Hid _:=r1
    have HBL:Hid _:=hbel
    clear hown hne hngb rr r0 r1 hbel XO XR X0 X1 XB XN
    by_cases hkk:k<64
    ·by_cases hak:a+k<n
     ·have hki:(k:Int)<64:=by omega
      have haki:(a:Int)+(k:Int)<n:=by omega
      have hcell:wr.cell? ⟨gb,k,none⟩=some (.int .u8 ((B (1+q)).getD k 0)):=by rw[cell_of_row _ _ _ _ _ _ RR.out];simp[Iv,hB,hkk]
      have htext:wr.cell? ⟨tg,to_+(a+k),none⟩=some (.int .u8 (text.getD (a+k) 0)):=(HBL.out.cell (p:=⟨tg,to_+(a+k),none⟩) htg).trans (HS.out.2 (a+k) (by omega))
      have hbt:=htb (a+k)
      have hbb:=hBb (1+q) k
      have HST:Hid (iW B text (a+(k+1))=iW B text (a+k)++[xb (text.getD (a+k) 0) ((B (1+q)).getD k 0)]):=by
       show _=_
       have:=HA.out
       rw[←Nat.add_assoc,MY,show(a+k) / 64=q by omega,show(a+k)%64=k by omega]
      have HLL:Hid ((iW B text (a+k)).length≤100000000):=by show _≤_;rw[eF];omega
      have hsb:w.heap.size+1+1≤wr.heap.size:=by omega
      have HBX:Hid (Below (w.heap.size+1+1) wr.drew wr.drew):=Below.refl _ _
      generalize text.getD (a+k) 0=tz at*
      generalize(B (1+q)).getD k 0=bz at*
      generalize iW B text (a+k)=L at*
      go_wp2
      refine wRl 11 (fun _=>True) [(.held,[0]),(.exact,[1,2,3,4,5,6,7,8,9,10]),(.tail,[11]),(.tail,[12]),(.tail,[13])] ahP (by kernel_rfl) trivial ?_
      simp only[iX,oS]
      repeat(go_big_quiet_step (fail))
      refine wqN ?_
      repeat(go_big_quiet_step (fail))
      refine wqN ?_
      go_wp2_with fail
      refine⟨trivial,?_⟩
      go_wp2_with(at_builtin;refine cK .u8 22 5 1 underlying22 pN (by decide) rfl (.tmp 37) (.tmp 48) rfl (w.heap.size+1+1) wr.drew wr.drew _ L _ rfl rfl (bM.drews HO.out 1) HBX.out hsb HLL.out ?_;intro v1 w1 hown1 hbel1 hgr1 hd1;refine sH ?_)
      refine aH ?_
      have K1:Hid (bM .u8 5 (w.heap.size+1+1) w1 v1 (iW B text (a+(k+1)))):=by show bM _ _ _ _ _ _;rw[HST.out];exact hown1
      have K2:Hid (v1.ownBlock≠none):=AP HE.out hd1
      have K3:Hid (v1.ownBlock≠some gb):=by
       show _≠_
       rcases hd1 with h|h
       ·rw[h];exact HG.out
       ·rw[h];intro h2;have h3:wr.heap.size+1=gb:=by simpa using h2
        omega
      have K4:Hid _:=(hgr1.block gb (by show gb<wr.heap.size;omega) (fun e=>HG.out e.symm)).trans RR.out
      have K5:Hid _:=(hbel1.block _ (by omega)).trans R0.out
      have K6:Hid _:=(hbel1.block _ (by omega)).trans R1.out
      have K7:Hid _:=(bDr HBL.out 1).trans (hbel1.mono (by omega))
      have hs1:wr.heap.size≤w1.heap.size:=hbel1.size
      clear hown1 hbel1 hgr1 hd1 HO HE HG RR R0 R1 HBL
      go_wp2_with fail
      refine WK ?_
      go_wp2_with fail
      first
       | refine⟨trivial,dV ?_⟩
       | refine WK (dV ?_)
      go_wp2
      go_roundw
      case rel=>exact⟨k+1,by omega,by omega,by go_num,K1.out,K2.out,K3.out,K4.out,K5.out,K6.out,K7.out,by omega⟩
      case measure=>simp[intOf];omega
     ·have hki:(k:Int)<64:=by omega
      have haki:((a:Int)+(k:Int)<n)=False:=by simp;omega
      have hmin:Hid (min (64*(q+1)) n=a+k):=by show _=_;have:=HA.out;omega
      go_wp2
      go_roundw
      case rel=>exact⟨q+1,by have:=HA.out;rw[this];go_num,by have:=HA.out;omega,by rw[hmin.out];exact HO.out,HE.out,R0.out,R1.out,HBL.out,by omega⟩
      case measure=>simp[intOf];omega
    ·obtain rfl:k=64:=by omega
     have hmin:Hid (min (64*(q+1)) n=a+64):=by show _=_;have:=HA.out;omega
     go_wp2
     go_roundw
     case rel=>exact⟨q+1,by have:=HA.out;rw[this];go_num,by have:=HA.out;omega,by rw[hmin.out];exact HO.out,HE.out,R0.out,R1.out,HBL.out,by omega⟩
     case measure=>simp[intOf];omega
  ·have hlti:((64*(q:Int)<n)=False):=by simp;omega
   rw[show min (64*q) n=n by omega]at HO
   go_wp2
   go_ret
   exact⟨_,rfl,bM.mono HO.out (by omega),HE.out,HBL.out⟩
set_option linter.unusedSimpArgs false
theorem LA (k:IntKind) (m:Nat):Builtin.zeroCells (Value.int k 0).cells m=(rQ m (Value.int k 0)).toArray:=by
 apply Array.ext'
 simp only[Builtin.zeroCells,Value.cells,List.size_toArray,List.length_cons,List.length_nil,Nat.zero_add,Nat.mul_one,Nat.mod_one,Array.toList_map,Array.toList_range]
 apply List.ext_getElem
 ·simp
 ·intro i h1 h2
  simp
theorem vQ {P:Program} (w:World) (t ty e it:TypeId) (i:TypeInfo) (k:IntKind) (ht:P.underlying t=some (.slice e)) (hi:P.info? e=some i) (hz:i.zero=some (.int k 0)) (hs:i.size=1) (hby:i.bytes≤8)
 (hit:P.underlying it=some (.int .i64)) (base:Option Addr) (sLen sCap m c:Nat) (a:Addr) (hm:m≤1000) (hsl:sLen≤1000000000) (hfit:sCap<sLen+m→Builtin.nextslicecap (sLen+m) sCap*i.bytes≤281474976710656)
 (hzero:∀j,j<m→w.cell? (a.add j)=some (.int k 0)) (hold:∃cs,(Builtin.firstCells 1 sLen (.slice base sLen sCap)).run P w.drew=.ok cs w.drew):
 (Builtin.append_ #[t,it] ty #[.slice base sLen sCap,.int .i64 m]).run P w=(Builtin.append_ #[t,t] ty #[.slice base sLen sCap,.slice (some a) m c]).run P w:=by
 have hnews:∀j v,(rQ m (Value.int k 0))[j]? =some v→w.cell? (a.add j)=some v:=by
  intro j v hj
  have hj2:j<m:=by have:=(List.getElem?_eq_some_iff.1 hj).1;simpa using this
  rw[hzero j hj2]
  simp[List.getElem?_replicate,hj2]at hj
  rw[hj]
 have hl:(rQ m (Value.int k 0)).length=m*i.size:=by simp[hs]
 have hf0:=run_firstCells_some (P:=P) w i.size m a m c (rQ m (Value.int k 0)) hl hnews
 have hf1:=run_firstCells_some (P:=P) w.drew i.size m a m c (rQ m (Value.int k 0)) hl (by simpa using hnews)
 have hwr:IntKind.i64.wrap (m:Int)=m:=by
  have h1:(m:Int)%18446744073709551616=m:=by omega
  simp[IntKind.wrap,IntKind.bits,IntKind.signed,h1]
  try omega
 have hneg:¬((m:Int)<0):=by omega
 have hb48:¬(281474976710656<(m:Int)*(i.bytes:Int)):=by
  have h1:m*i.bytes≤1000*8:=Nat.mul_le_mul hm hby
  have h2:((m*i.bytes:Nat):Int)≤8000:=by omega
  rw[Int.natCast_mul]at h2
  omega
 have hzc:=LA k m
 rw[hs]at hf0 hf1
 obtain⟨cs,hcs⟩:=hold
 by_cases h0:m=0
 ·subst h0
  have hl0:∀w':World,(Builtin.firstCells 1 0 (.slice (some a) 0 c)).run P w'=.ok #[] w':=fun w'=>by simp[Builtin.firstCells,loadCells,loadCellsFrom]
  have hwr0:IntKind.i64.wrap 0=0:=by decide
  by_cases hroom:sLen≤sCap
  ·simp[Builtin.append_,run_underlying ht,run_underlying hit,sizeOf,typeInfo,zeroValue,hi,hz,Builtin.lenOf,hroom,hwr0,asInt,asIntOf,hs,hl0]
  ·have h63':¬(9223372036854775807<(sLen:Int)):=by omega
   have h48':¬(281474976710656<Builtin.nextslicecap sLen sCap*i.bytes):=by have:=hfit (by omega);simp only[Nat.add_zero]at this;omega
   simp[Builtin.append_,run_underlying ht,run_underlying hit,sizeOf,typeInfo,zeroValue,hi,hz,Builtin.lenOf,hroom,hwr0,asInt,asIntOf,hs,h63',h48',Question.forced,hl0,newRow,hcs]
 by_cases hroom:sLen+m≤sCap
 ·simp[Builtin.append_,run_underlying ht,run_underlying hit,sizeOf,typeInfo,zeroValue,hi,hz,Builtin.lenOf,hroom,hwr,hneg,hb48,asInt,asIntOf,h0,hs,hf0,hzc]
 ·have h63':¬(9223372036854775807<((sLen:Int)+(m:Int))):=by omega
  have h48':¬(281474976710656<Builtin.nextslicecap (sLen+m) sCap*i.bytes):=by have:=hfit (by omega);omega
  simp[Builtin.append_,run_underlying ht,run_underlying hit,sizeOf,typeInfo,zeroValue,hi,hz,Builtin.lenOf,hroom,hwr,hneg,hb48,asInt,asIntOf,h0,hs,h63',h48',Question.forced,hf1,hzc,newRow,hcs]
theorem abG {P:Program} {ops:Array Oper} {rest:List Oper} {o:Oper} {a:Act} {Q:Exit→Act→World→Prop} (k:IntKind) (t e it:TypeId) (bytes:Nat) (ht:P.underlying t=some (.slice e))
 (hinfo:(P.info? e).map (fun i=>(i.zero,i.size,i.bytes))=some (some (.int k 0),1,bytes)) (hby:bytes≤8) (hit:P.underlying it=some (.int .i64)) (hgd:o.guard=none) (s x:Operand) (ho:o.op=.call { callee:=.builtin .append,args:=#[s,x],argTypes:=#[t,it] })
 (base:Nat) (w0 wr:World) (v:Value) (l:LI) (b o' m:Nat) (hs:a.eval s=v) (hx:a.eval x=.int .i64 m) (hown:bM k e base wr v l) (hbel:Below base w0 wr) (hbase:base≤wr.heap.size) (hm:m≤1000) (hlen:l.length≤100000000)
 (hnews:∀j,j<m→wr.cell? ⟨b,o'+j,none⟩=some (.int k 0))
 (h:∀v' w',bM k e base w' v' (l++rQ m 0)→Below base w0 w'→wr.grownBy w' v.ownBlock→(v'.ownBlock=v.ownBlock∨v'.ownBlock=some wr.heap.size)→wpList P ops Q rest (a.put o.dst v') w'):wpList P ops Q (o::rest) a wr:=by
 obtain⟨i,hi,hz,hsz,hb⟩:=info_parts hinfo
 have hadd:∀j,(⟨b,o',none⟩:Addr).add j=⟨b,o'+j,none⟩:=fun j=>by unfold Addr.add;split<;>simp_all
 have g1:∀j u,(iv k (rQ m 0))[j]? =some u→wr.cell? ((⟨b,o',none⟩:Addr).add j)=some u:=by
  intro j u hj
  have hj':j<m:=by
   have:=(List.getElem?_eq_some_iff.1 hj).1
   rw[eT]at this
   simpa using this
  rw[hadd,hnews j hj']
  rw[IT]at hj
  simp[hj']at hj
  rw[hj]
 have g2:l.length+m≤maxLen:=by unfold maxLen;omega
 have g3:(l.length+m)*bytes≤140737488355328:=by
  have:(l.length+m)*bytes≤(l.length+m)*8:=Nat.mul_le_mul_left _ hby
  omega
 have g4:(iv k (rQ m 0)).length=m*1:=by rw[eT];simp
 obtain⟨v',w',hr,h1,h2,_⟩:=run_append_own (P:=P) wr base t o.type e i (.int k 0) 1 bytes ht hi hz hsz hb rfl (by decide) v l.length (iv k l) hown ⟨b,o',none⟩ m m (iv k (rQ m 0)) g4 g1 (OG k _) g2 g3 hbase
 have h4:=AC ht hi hz hsz hb rfl hown g4 g1 (OG k _) g2 g3 hr
 have hr2:(Builtin.append_ #[t,it] o.type #[v,.int .i64 m]).run P wr=.ok v' w':=by
  rw[←hr]
  obtain⟨_,⟨rfl,hl0⟩|⟨g,cap,cur,rfl,hbg,hg,hnc,hcm,hcs,htake⟩⟩:=hown
  ·exact vQ wr t o.type e it i k ht hi hz hsz (by rw[hb];exact hby) hit none 0 0 m m ⟨b,o',none⟩ hm (by omega) (fun _=>by
    have hn:Builtin.nextslicecap (0+m) 0≤0+m:=by unfold Builtin.nextslicecap;split<;>omega
    have:=Nat.mul_le_mul hn (show i.bytes≤8 by rw[hb];exact hby)
    omega) (fun j hj=>by rw[hadd];exact hnews j hj) ⟨#[],by simp[Builtin.firstCells]⟩
  ·have hold:∀j u,(iv k l)[j]? =some u→wr.drew.cell? ((⟨g,0,none⟩:Addr).add j)=some u:=by
    intro j u hj
    have:=World.ownsRow.cells (w:=wr) (base:=base) (e:=e) (size:=1) (v:=.slice (some ⟨g,0,none⟩) l.length cap) (n:=l.length) (xs:=iv k l) (g:=g) ⟨by simp[eT],.inr ⟨g,cap,cur,rfl,hbg,hg,hnc,hcm,hcs,htake⟩⟩ rfl j u hj
    simpa using this
   exact vQ wr t o.type e it i k ht hi hz hsz (by rw[hb];exact hby) hit (some ⟨g,0,none⟩) l.length cap m m ⟨b,o',none⟩ hm (by omega) (fun hlt=>growslice_fits (by omega) (by rw[hb];exact g3)) (fun j hj=>by rw[hadd];exact hnews j hj)
    ⟨_,run_firstCells_some (P:=P) wr.drew 1 l.length ⟨g,0,none⟩ l.length cap (iv k l) (by simp[eT]) hold⟩
 refine wpList_plain hgd fun K hK=>?_
 unfold Oper.wp execOp
 simp only[ho,resolve,invoke,builtin,Sem.run_bind,Sem.run_pure,Result.andThen_ok,List.map_toArray,List.map_cons,List.map_nil,hs,hx,hr2]
 refine hK _ _ (h v' w' ?_ (hbel.grown h2 hbase (fun g hg=>(bM.lt hown g hg).1)) h2 h4)
 unfold bM
 rw[LY,lQ,rJ]
 exact h1
def JD (P:Nat→LI):Nat→LI
 | 0=>[]
 | k+1=>JD P k++iP (P k)
theorem acZ {k:IntKind} {e:TypeId} {base:Nat} (w:World):bM k e base w (.slice none 0 0) []:=⟨by simp[eT],.inl ⟨rfl,rfl⟩⟩
theorem ZN (n:Int):bits .and .i64 n 15=n%16:=by
 have h15:(BitVec.ofInt 64 15).toNat=2^4 - 1:=by decide
 have key:(BitVec.ofInt 64 n&&& BitVec.ofInt 64 15).toNat=(n%((2^64:Nat):Int)).toNat%2^4:=by
  rw[BitVec.toNat_and,BitVec.toNat_ofInt,h15,Nat.and_two_pow_sub_one_eq_mod]
 show IntKind.i64.wrap ((BitVec.ofInt 64 n&&& BitVec.ofInt 64 15).toNat:Nat)=n%16
 rw[key,IntKind.wrap_i64]
 omega
theorem aaM (n:Nat) (h:n≤1000000):bits .and .i64 (-(n:Int)) 15=(nX n:Nat):=by
 rw[ZN]
 unfold nX
 omega
theorem VA (P:Nat→LI) (pl pg po pc:Nat→Nat) (hpl:∀k,k<3→(P k).length=pl k) (hps:∀k,k<3→pl k≤65536) (gp gz:Nat) (w:World) (hgp:gp<w.heap.size)
 (HP:Hid (∀k,k<3→w.cell? ⟨gp,k,none⟩=some (.slice (some ⟨pg k,po k,none⟩) (pl k) (pc k)))) (HS:Hid (∀k,k<3→Sl w (pg k) (po k) (P k))) (HZ:Hid (∀j,j<16→w.cell? ⟨gz,j,none⟩=some (.int .u8 0))) (hgz:gz<w.heap.size):
 Calls prog 119 #[.slice (some ⟨gp,0,none⟩) 3 3] w fun e w'=>∃v,e=.returned v∧bM .u8 5 w.heap.size w' v (JD P 3)∧Below w.heap.size w w':=by
 go_enter func119,ntmps119
 go_wp2
 go_loopw [3,8] (fun v i wr=>∃k:Nat,k≤3∧i=.int .i64 k∧bM .u8 5 w.heap.size wr v (JD P k)∧(JD P k).length≤k*65600∧Below w.heap.size w wr) (fun _ i _=>3 - (intOf i).toNat)
 case atStart=>exact⟨0,Nat.zero_le _,rfl,acZ w,nQ _,Below.refl _ _⟩
 case round=>
  obtain⟨k,hk,rfl,hown,hpl2,hbel⟩:=hrel
  have hsz:=hbel.size
  have HO:Hid _:=hown
  have HBL:Hid _:=hbel
  clear hown hbel
  by_cases hlt:k<3
  ·have hki:(k:Int)<3:=by omega
   have hc:wr.cell? ⟨gp,k,none⟩=some (.slice (some ⟨pg k,po k,none⟩) (pl k) (pc k)):=(HBL.out.cell (p:=⟨gp,k,none⟩) hgp).trans (HP.out k hlt)
   have HSk:Hid (Sl wr (pg k) (po k) (P k)):=Sl.later (HS.out k hlt) HBL.out (HS.out k hlt).1
   have HZ2:Hid (∀j,j<16→wr.cell? ⟨gz,j,none⟩=some (.int .u8 0)):=fun j hj=>(HBL.out.cell (p:=⟨gz,j,none⟩) hgz).trans (HZ.out j hj)
   have HL:Hid ((P k).length=pl k):=hpl k hlt
   have hps2:=hps k hlt
   have uF:Hid (JD P (k+1)=JD P k++(P k++rQ (nX (pl k)) 0)):=by show JD P k++iP (P k)=_;unfold iP;rw[hpl k hlt]
   have hf16:=pB (pl k)
   have HN:Hid _:=aaM (pl k) (by omega)
   clear hpl hps HP HS
   obtain⟨L,eL⟩:∃L,L=JD P k:=⟨_,rfl⟩
   rw[←eL]at HO hpl2 uF
   obtain⟨Pk,ePk⟩:∃x,x=P k:=⟨_,rfl⟩
   rw[←ePk]at HSk HL uF
   obtain⟨n,en⟩:∃x,x=pl k:=⟨_,rfl⟩
   rw[←en]at hc HL uF HN hps2 hf16
   obtain⟨g,eg⟩:∃x,x=pg k:=⟨_,rfl⟩
   rw[←eg]at hc HSk
   obtain⟨o,eo⟩:∃x,x=po k:=⟨_,rfl⟩
   rw[←eo]at hc HSk
   obtain⟨c,ec⟩:∃x,x=pc k:=⟨_,rfl⟩
   rw[←ec]at hc
   clear eL ePk en eg eo ec
   go_wp2_with(at_builtin;first
    | (refine bU .u8 22 5 1 underlying22 pN (by decide) rfl (.tmp 12) (.tmp 13) rfl w.heap.size w wr _ L g o n c Pk HL.out rfl rfl HO.out HBL.out hsz (by have:=HL.out;omega) (by have:=HL.out;intro j hj;exact HSk.out.2 j (by omega)) ?_;intro v1 w1 ho1 hb1 hg1 hd1;refine sH ?_))
   refine aH ?_
   have HO1:Hid _:=ho1
   have HB1:Hid _:=hb1
   have HZ3:Hid (∀j,j<16→w1.cell? ⟨gz,j,none⟩=some (.int .u8 0)):=fun j hj=>(hb1.cell (p:=⟨gz,j,none⟩) hgz).trans (HZ.out j hj)
   have hs1:=hb1.size
   clear ho1 hb1 hg1 hd1 HO HBL HSk HZ2 hc
   go_wp2_with(at_builtin;(refine abG .u8 22 5 3 1 underlying22 pN (by decide) underlying3 rfl (.tmp 15) (.tmp 19) rfl w.heap.size w w1 _ (L++Pk) gz 0 (nX n) rfl (congrArg (Value.int .i64) HN.out) HO1.out HB1.out hs1 (by omega) (by have:=HL.out;rw[lQ];omega) (fun j hj=>by rw[Nat.zero_add];exact HZ3.out j (by omega)) ?_;intro v2 w2 ho2 hb2 hg2 hd2;refine sH ?_))
   refine aH ?_
   rw[List.append_assoc,←uF.out]at ho2
   have HO2:Hid _:=ho2
   have HB2:Hid _:=hb2
   have hln:Hid ((JD P (k+1)).length≤(k+1)*65600):=by show _≤_;rw[uF.out];have:=HL.out;simp;omega
   clear ho2 hb2 hg2 hd2 HO1 HB1
   go_wp2
   go_roundw
   case rel=>exact⟨k+1,by omega,by go_num,HO2.out,hln.out,HB2.out⟩
   case measure=>simp[intOf];omega
  ·obtain rfl:k=3:=by omega
   go_wp2
   go_ret
   exact⟨_,rfl,HO.out,HBL.out⟩
theorem I8:prog.follows .mixedOrders=true:=by kernel_rfl
theorem AV:(prog.info? 35).map (·.size)=some 16:=by kernel_rfl
theorem GP:∀W,(zeroValue 35).run prog W=.ok (.agg (Iv .u8 (aA 16))) W:=(zero_of_info (n:=16) (by kernel_rfl)).1
theorem ae1 (n m:Nat):pF9 (pF9 (aA 16) 0 (fun i=>(n:Int) / 256^i%256) 8) 8 (fun i=>(m:Int) / 256^i%256) 8=IX n++IX m:=by
 simp[pF9,aA,IX,List.range_succ,List.range_zero]
def FF (A B C:LI):Nat→LI
 | 0=>A
 | 1=>B
 | _=>C
def JS (a b c:Nat):Nat→Nat
 | 0=>a
 | 1=>b
 | _=>c
theorem U9 (E H L:LI) (hL:L.length=16):JD (FF E H L) 3=iP E++(iP H++L):=by
 have:iP L=L:=by unfold iP nX;rw[hL];simp
 simp[JD,FF,this,List.append_assoc]
theorem aiO (n j:Nat) (h:j<n):(Iv .u8 (aA n))[j]? =some (.int .u8 0):=by simp[Iv,aA,h]
theorem qN (K zs:LI):(gQ K zs).length=16:=by simp[gQ,fY]
def GT (f:Nat):Prop:=∀(K zs:LI) (b cap:Nat) (W:World),K.length=32→aC K→aC zs→zs.length≤200000→zs.length≤cap→cap≤9223372036854775807→Sl W b 0 zs→
 Calls prog f #[.agg (Iv .u8 K),.slice (some ⟨b,0,none⟩) zs.length cap] W fun e w'=>e=.returned (.agg (Iv .u8 (gQ K zs)))∧Below W.heap.size W w'
theorem H8 (HPO:Hid (GT 118)) (key nonce:LI) (hk:key.length=32) (hr:nonce.length=12) (B:Nat→LI) (hB:∀i,(B i).length=64) (HC:Hid (AA 117 key nonce B gU)) (hBb:∀i,aC (B i))
 (H E:LI) (n m:Nat) (hn:H.length=n) (hm:E.length=m) (hn2:n≤65536) (hm2:m≤65536) (hHb:aC H) (hEb:aC E) (hg ho hc eg eo ec:Nat) (w:World) (HSH:Hid (Sl w hg ho H)) (HSE:Hid (Sl w eg eo E)) (HT:Hid (gU w))
 (T:LI) (hT:Hid (FY B E H=T)):
 Calls prog 103 #[.agg (Iv .u8 key),.agg (Iv .u8 nonce),.slice (some ⟨hg,ho,none⟩) n hc,.slice (some ⟨eg,eo,none⟩) m ec] w fun e w'=>e=.returned (.agg (Iv .u8 T))∧Below w.heap.size w w':=by
 have hzv:=GP
 have hzw:=GQ
 have hi32:Hid ((prog.info? 25).map (·.size)=some (Iv .u8 key).size):=by show _=_;rw[aD,hk];exact sF
 have hi12:Hid ((prog.info? 30).map (·.size)=some (Iv .u8 nonce).size):=by show _=_;rw[aD,hr];exact uR
 have hi64:Hid (∀l:LI,l.length=64→(prog.info? 149).map (·.size)=some (Iv .u8 l).size):=fun l hl=>by rw[aD,hl];exact GE
 have hi16:Hid (∀l:LI,l.length=16→(prog.info? 35).map (·.size)=some (Iv .u8 l).size):=fun l hl=>by rw[aD,hl];exact AV
 have hz64:Hid (∀l:LI,l.length=64→(Iv .u8 (aA 64)).size=(Iv .u8 l).size):=fun l hl=>by rw[aD,aD,hl];simp[aA]
 go_enter func103,ntmps103
 go_wp2_with fail
 obtain⟨W,hW,g0,g1,g2,g3,hs,hBW⟩:=sQ w (.cells (Iv .u8 key) 25) (.cells (Iv .u8 nonce) 30) (.cells (Iv .u8 (aA 16)) 35) (.cells (Iv .u8 (aA 16)) 35)
 rw[hW]
 clear hW
 refine(eE (w.heap.size+1+1+1) 0 8 16 35 (aA 16) m W g3 (by decide) (by decide) (by omega)).mono ?_
 rintro e W1 ⟨rfl,hW1⟩
 have q3:W1.heap[w.heap.size+1+1+1]? =some (.cells (Iv .u8 (pF9 (aA 16) 0 (fun i=>(m:Int) / 256^i%256) 8)) 35):=by rw[hW1];exact setRow_heap _ _ _ _ _ _ g3
 have q0:W1.heap[w.heap.size]? =some (.cells (Iv .u8 key) 25):=by rw[hW1,cG _ _ _ _ (by omega)];exact g0
 have q1:W1.heap[w.heap.size+1]? =some (.cells (Iv .u8 nonce) 30):=by rw[hW1,cG _ _ _ _ (by omega)];exact g1
 have q2:W1.heap[w.heap.size+1+1]? =some (.cells (Iv .u8 (aA 16)) 35):=by rw[hW1,cG _ _ _ _ (by omega)];exact g2
 have qs:W1.heap.size=w.heap.size+1+1+1+1:=by rw[hW1];simp[hs]
 have qB:Hid (Below w.heap.size w W1):=by show Below _ _ _;rw[hW1];exact aO hBW _ (by omega) _
 have Q3:Hid _:=q3
 clear hW1 g0 g1 g2 g3 hBW hs
 go_wp2_with fail
 refine(eE (w.heap.size+1+1+1) 8 8 8 35 _ n W1 Q3.out (by rw[aS _ _ _ _ (by simp[aA])];simp[aA]) (by decide) (by omega)).mono ?_
 rintro e W2 ⟨rfl,hW2⟩
 rw[ae1]at hW2
 have r3:W2.heap[w.heap.size+1+1+1]? =some (.cells (Iv .u8 (IX m++IX n)) 35):=by rw[hW2];exact setRow_heap _ _ _ _ _ _ Q3.out
 have r0:W2.heap[w.heap.size]? =some (.cells (Iv .u8 key) 25):=by rw[hW2,cG _ _ _ _ (by omega)];exact q0
 have r1:W2.heap[w.heap.size+1]? =some (.cells (Iv .u8 nonce) 30):=by rw[hW2,cG _ _ _ _ (by omega)];exact q1
 have r2:W2.heap[w.heap.size+1+1]? =some (.cells (Iv .u8 (aA 16)) 35):=by rw[hW2,cG _ _ _ _ (by omega)];exact q2
 have rs:W2.heap.size=w.heap.size+1+1+1+1:=by rw[hW2];simp[qs]
 have RB:Hid (Below w.heap.size w W2):=by show Below _ _ _;rw[hW2];exact aO qB.out _ (by omega) _
 have R0:Hid _:=r0
 have R1:Hid _:=r1
 have R2:Hid _:=r2
 have R3:Hid _:=r3
 clear hW2 q0 q1 q2 q3 Q3 qs qB r0 r1 r2 r3
 go_wp2_with(with_reducible refine aJ ?_;first
  | refine wpLr rfl 25 _ rfl w.heap.size rfl _ (Iv .u8 key) _ _ R0.out underlying25 rfl hi32.out ?_
  | refine wpLr rfl 30 _ rfl (w.heap.size+1) rfl _ (Iv .u8 nonce) _ _ R1.out underlying30 rfl hi12.out ?_)
 refine(HC.out 0 W2 (by decide) (gU.later HT.out RB.out (nQ _))).mono ?_
 rintro e w3 ⟨rfl,hb3⟩
 have hs3:=hb3.size
 have K3:Hid ((w3.alloc (.cells (Iv .u8 (aA 64)) 149)).heap[w3.heap.size]? =some (.cells (Iv .u8 (aA 64)) 149)):=hAN _ _
 go_wp2_with(with_reducible refine aJ ?_;refine wpPr rfl 149 _ _ rfl w3.heap.size (Iv .u8 (B 0)) rfl rfl _ _ K3.out (hi64.out _ (hB _)) (hz64.out _ (hB _)) (aG _ _) (fun X hX=>sH ?_))
 refine aH ?_
 have xs:X.heap.size=w3.heap.size+1:=by rw[hX.size];simp
 have X10:Hid _:=hX.here
 have X2:Hid _:=(hX.far _ (by omega)).trans ((hAO _ _ (by omega)).trans ((hb3.block _ (by omega)).trans R2.out))
 have X3:Hid _:=(hX.far _ (by omega)).trans ((hAO _ _ (by omega)).trans ((hb3.block _ (by omega)).trans R3.out))
 have XB:Hid (Below w.heap.size w X):=hX.below _ _ ((RB.out.trans (hb3.mono (by omega))).alloc (by omega) _) (by omega)
 obtain⟨gb,egb⟩:∃x,x=w3.heap.size:=⟨_,rfl⟩
 rw[←egb]at X10 xs hs3⊢
 clear egb hX hb3 K3 R0 R1 R2 R3 RB hzv hzw
 have S0:∃x:yM X.heap.size X,X.drew=x.w:=⟨⟨X.drew,bDr (Below.refl _ _) 1⟩,rfl⟩
 go_wp2_with fail
 refine wRt 9 (fun w'=>∃x:yM X.heap.size X,w'=x.w) (.held [0,1,2] (.held [3,4,5] (.tail 6 (.tail 7 (.tail 8 (.last 9 .done)))))) I8 (by kernel_rfl) S0 ?_
 simp only[bR,oS]
 obtain⟨K,eK⟩:∃K,K=(B 0).take 32:=⟨_,rfl⟩
 have hk32:K.length=32:=by rw[eK,List.length_take,hB];rfl
 have hKb:aC K:=by rw[eK];exact dB (hBb 0) 32
 have HT2:Hid (gQ K (vY E H)=T):=by show _=_;rw[eK];exact hT.out
 have HRG:Hid (∀W,(∃x:yM X.heap.size X,W=x.w)→W.rangeAt gb 0 (K.map (Value.int .u8))):=fun W hW=>by
  obtain⟨x,rfl⟩:=hW
  rw[eK]
  have h:=gZ (l:=(B 0).map (Value.int .u8)) ((x.bel.block _ (by omega)).trans X10.out) 0 32
  simpa[List.map_take]using h
 refine aB rfl (.slice (some ⟨gb,0,none⟩) 32 64) (fun w=>by kernel_rfl) ?_
 simp only[pS]
 refine aB rfl (.pointer (some ⟨gb,0,none⟩)) (fun w=>by kernel_rfl) ?_
 simp only[pS]
 refine wqLm rfl 25 _ rfl gb 0 rfl (K.map (Value.int .u8)) _ HRG.out underlying25 rfl (by rw[lU,hk32];exact sF) ?_
 rw[show(K.map (Value.int .u8)).toArray=Iv .u8 K from rfl]
 clear eK HRG
 simp only[pS]
 refine wqN ?_
 refine aB rfl (.slice (some ⟨eg,eo,none⟩) m ec) (fun w=>by kernel_rfl) ?_
 simp only[pS]
 refine aB rfl (.slice (some ⟨hg,ho,none⟩) n hc) (fun w=>by kernel_rfl) ?_
 simp only[pS]
 refine aB rfl (.slice (some ⟨w.heap.size+1+1+1,0,none⟩) 16 16) (fun w=>by kernel_rfl) ?_
 simp only[pS]
 refine wqN ?_
 go_wp2_with fail
 obtain⟨Y,hY⟩:∃Y,Y=(X.alloc (.cells #[.slice (some ⟨eg,eo,none⟩) m ec,.slice (some ⟨hg,ho,none⟩) n hc,.slice (some ⟨w.heap.size+1+1+1,0,none⟩) 16 16] 22)).drew:=⟨_,rfl⟩
 have hS1:Hid (Below X.heap.size X Y):=by show Below _ _ _;rw[hY];exact bDr ((Below.refl _ _).alloc (nQ _) _) 1
 have hgp:Hid (Y.heap[gb+1]? =some (.cells #[.slice (some ⟨eg,eo,none⟩) m ec,.slice (some ⟨hg,ho,none⟩) n hc,.slice (some ⟨w.heap.size+1+1+1,0,none⟩) 16 16] 22)):=by show _=_;rw[hY,←xs];exact hAN X _
 have hsx:gb+1<Y.heap.size:=by rw[hY];simp;omega
 rw[←hY]
 clear hY
 refine⟨⟨⟨_,hS1.out⟩,rfl⟩,?_⟩
 go_wp2_with fail
 have YB:Hid (Below w.heap.size w Y):=XB.out.trans (hS1.out.mono (by omega))
 have Y3:=Sl.of_row ((hS1.out.block _ (by omega)).trans X3.out)
 refine(VA (FF E H (IX m++IX n)) (JS m n 16) (JS eg hg (w.heap.size+1+1+1)) (JS eo ho 0) (JS ec hc 16) ?_ ?_ (gb+1) (w.heap.size+1+1) Y hsx ?_ ?_ ?_ (by omega)).mono ?_
 ·intro k hk;match k,hk with|0,_=>exact hm|1,_=>exact hn|2,_=>simp[FF,JS,fP]
 ·intro k hk;match k,hk with|0,_=>exact hm2|1,_=>exact hn2|2,_=>show(16:Nat)≤65536;decide
 ·show∀k,k<3→_
  intro k hk
  rw[cell_of_row _ _ _ _ _ _ hgp.out]
  match k,hk with|0,_=>rfl|1,_=>rfl|2,_=>rfl
 ·show∀k,k<3→_
  intro k hk
  match k,hk with|0,_=>exact Sl.later HSE.out YB.out HSE.out.1|1,_=>exact Sl.later HSH.out YB.out HSH.out.1|2,_=>exact Y3
 ·show∀j,j<16→_
  intro j hj
  rw[cell_of_row _ _ _ _ _ _ ((hS1.out.block _ (by omega)).trans X2.out)]
  exact aiO 16 j hj
 rintro e Y1 ⟨v,rfl,ho1,hb1⟩
 rw[U9 E H (IX m++IX n) (by simp[fP])]at ho1
 have hmac:iP E++(iP H++(IX m++IX n))=vY E H:=by unfold vY;rw[hn,hm]
 rw[hmac]at ho1
 have hml:(vY E H).length≤200000:=by rw[sG];have:=pB E.length;have:=pB H.length;omega
 have hml0:0<(vY E H).length:=by rw[sG];omega
 have hmb:=I5 hEb hHb
 have hT2:gQ K (vY E H)=T:=HT2.out
 clear hmac hT HT2
 obtain⟨D,hD⟩:∃D,D=vY E H:=⟨_,rfl⟩
 rw[←hD]at ho1 hml hml0 hmb hT2
 clear hD
 obtain⟨dl,hdl⟩:∃dl,dl=D.length:=⟨_,rfl⟩
 rw[←hdl]at hml hml0
 have HDL:Hid _:=hdl
 obtain⟨gd,cd,rfl,hgd,hcd,hcd2,hgd2,_⟩:∃g cap,v=.slice (some ⟨g,0,none⟩) dl cap∧Y.heap.size≤g∧dl≤cap∧cap≤9223372036854775807∧g<Y1.heap.size∧v.ownBlock=some g:=by
  obtain⟨_,⟨_,h0⟩|⟨g,cap,cur,rfl,hg,hh,hc,hmx,hs,ht⟩⟩:=ho1
  ·omega
  ·exact⟨g,cap,by rw[hdl],hg,by omega,by unfold maxLen at hmx;omega,(Array.getElem?_eq_some_iff.1 hh).1,rfl⟩
 clear hdl
 have KS:Hid (Sl Y1 gd 0 D):=Sl.of_own ho1
 have KB:Hid _:=hb1
 have KX:Hid _:=hS1.out.trans (hb1.mono (by have:=hS1.out.size;omega))
 have HKP:Hid _:=HPO.out K D gd cd Y1 hk32 hKb hmb (by rw[←HDL.out];exact hml) (by rw[←HDL.out];exact hcd) hcd2 KS.out
 rw[hT2,←HDL.out]at HKP
 have hTl:T.length=16:=by rw[←hT2];exact qN _ _
 clear ho1 hb1 hk32 hT2 hmb HDL KS
 go_wp2_with fail
 refine⟨⟨⟨_,KX.out⟩,rfl⟩,?_⟩
 go_wp2_with fail
 refine Calls.mono HKP.out ?_
 rintro e Y2 ⟨rfl,hb2⟩
 have KX2:Hid _:=KX.out.trans (hb2.mono KX.out.size)
 clear hb2 HKP
 go_wp2_with fail
 refine⟨⟨⟨_,KX2.out⟩,rfl⟩,?_⟩
 have Z2:Hid _:=(KX2.out.block (w.heap.size+1+1) (by omega)).trans X2.out
 have ZB:Hid _:=XB.out.trans (KX2.out.mono (by omega))
 refine wpPr rfl 35 (.tmp 8) (.tmp 32) rfl (w.heap.size+1+1) (Iv .u8 T) rfl rfl _ _ Z2.out (hi16.out T hTl) (by rw[aD,aD,hTl];simp[aA]) (aG _ _) ?_
 intro W9 hP9
 simp only[Act.put]
 have h9:=hP9.here
 have BW9:Below w.heap.size w W9:=hP9.below _ _ ZB.out (by omega)
 clear hP9 Z2 ZB KX2 KX KB
 have H9:Hid _:=h9
 have B9:Hid _:=BW9
 clear h9 BW9
 go_wp2_with fail
 refine oG ?_
 clear XB X2 X3 X10 S0 hS1 hgp YB Y3
 go_wp2
 exact bodyPost_ret (v:=.agg (Iv .u8 T)) (results_cell_row rfl _ _ _ _ (Iv .u8 T) _ _ rfl H9.out underlying35 rfl (hi16.out T hTl)) rfl ⟨rfl,B9.out⟩
end Go.Proofs.YtmjccemdldidaaaGreatDoor
