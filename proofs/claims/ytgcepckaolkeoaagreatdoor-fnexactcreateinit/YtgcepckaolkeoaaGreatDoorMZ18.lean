import Derived.Test.YtgcepckaolkeoaaGreatDoorMZ17
namespace Go.Proofs.YtgcepckaolkeoaaGreatDoor
open Go.RowKit
open Go.Proofs.Tryz
open Go renaming heap_alloc_new → hAN, heap_alloc_old → hAO, wpList_load_row → wpLr, wpQuiet_nil → wqN
open List renaming drop_succ_cons → dJ, drop_zero → dY, replicate → rQ, set_cons_zero → sY, take_succ_cons → tU, take_zero → tJ
open Nat renaming le_refl → nQ, le_trans → nU
set_option linter.unusedVariables false
theorem AV:(prog.info? 147).map (·.size)=some 64:=by kernel_rfl
theorem rY:(prog.info? 22).map (·.size)=some 32:=by kernel_rfl
theorem uU:(prog.info? 24).map (·.size)=some 12:=by kernel_rfl
theorem A6:∀W,(zeroValue 147).run prog W=.ok (.agg (Iv .u8 (aA 64))) W:=(zero_of_info (n:=64) (by kernel_rfl)).1
theorem RW (n:Nat) (hn:n≤65536) (w:World):
 (Instr.makeSlice 48 (.int .i64 (n:Int)) (.int .i64 ((n:Int)+16))).run prog w=.ok (.slice (some ⟨w.heap.size,0,none⟩) n (n+16)) (w.alloc (.cells (Iv .u8 (rQ (n+16) 0)) 5)):=by
 obtain⟨i,hi,hz,hs,hby⟩:=info_parts mS
 have h:=run_make (P:=prog) w 48 5 i (.int .u8 0) underlying48 hi hz .i64 .i64 (n:Int) ((n:Int)+16) (by omega) (by omega) (by rw[hby];omega) (by omega)
 have e1:((n:Int)+16).toNat=n+16:=by omega
 rw[h,hs,e1]
 simp only[Int.toNat_natCast,Nat.mul_one]
 rw[show(Value.int .u8 0).cells=#[Value.int .u8 0]from rfl,GT]
def uJ (B:Nat→List Int) (text:List Int) (n k:Nat):List Int:=lH B text k++rQ (n - k) 0
theorem lC (B:Nat→List Int) (text:List Int) (n k:Nat) (hk:k≤n):(uJ B text n k).length=n:=by simp[uJ,iR];omega
theorem IF (B:Nat→List Int) (text:List Int) (n k:Nat) (hk:k<n):(uJ B text n k).set k (xb (text.getD k 0) ((B (1+k / 64)).getD (k%64) 0))=uJ B text n (k+1):=by
 unfold uJ
 rw[List.set_append,if_neg (by rw[iR];omega),iR,Nat.sub_self,IE,List.append_assoc]
 congr 1
 rw[show n - k=(n - (k+1))+1 by omega,List.replicate_succ,sY]
 rfl
set_option maxRecDepth 10000 in
set_option maxHeartbeats 2000000 in
theorem JZ (key nonce:List Int) (hk:key.length=32) (hr:nonce.length=12) (B:Nat→List Int) (hB:∀i,(B i).length=64) (HC:Hid (zN 139 key nonce B jO)) (hBb:∀i,aE (B i))
 (text:List Int) (n:Nat) (hn:text.length=n) (hn2:n≤65536) (htb:aE text) (tg to_ tcap:Nat) (w:World) (HS:Hid (Sl w tg to_ text)) (htc:n≤tcap) (htc2:tcap≤9223372036854775807) (HT:Hid (jO w)):
 Calls prog 127 #[.agg (Iv .u8 key),.agg (Iv .u8 nonce),.slice (some ⟨tg,to_,none⟩) n tcap] w fun e w'=>∃g,e=.returned (.slice (some ⟨g,0,none⟩) n (n+16))∧bX .u8 5 w.heap.size w' (.slice (some ⟨g,0,none⟩) n (n+16)) (lH B text n)∧Below w.heap.size w w':=by
 have hmk:=RW n hn2
 have hzv:=A6
 have hi32:Hid ((prog.info? 22).map (·.size)=some (Iv .u8 key).size):=by show _=_;rw[aC,hk];exact rY
 have hi12:Hid ((prog.info? 24).map (·.size)=some (Iv .u8 nonce).size):=by show _=_;rw[aC,hr];exact uU
 have hi64:Hid (∀l:List Int,l.length=64→(prog.info? 147).map (·.size)=some (Iv .u8 l).size):=fun l hl=>by rw[aC,hl];exact AV
 have hs64:Hid (∀l m:List Int,l.length=64→m.length=64→(Iv .u8 l).size=(Iv .u8 m).size):=fun l m hl hm=>by rw[aC,aC,hl,hm]
 have htg:=HS.out.1
 go_enter func127,ntmps127
 go_wp2
 obtain⟨W,hW,g0,g1,g2,g3,hs,hBW⟩:=qJ w (.cells (Iv .u8 key) 22) (.cells (Iv .u8 nonce) 24) (.cells (Iv .u8 (rQ (n+16) 0)) 5) (.cells (Iv .u8 (aA 64)) 147)
 rw[hW]
 clear hmk hzv hW
 have hown0:bX .u8 5 w.heap.size W (.slice (some ⟨w.heap.size+1+1,0,none⟩) n (n+16)) (uJ B text n 0):=by
  refine⟨by rw[fW,lC _ _ _ _ (Nat.zero_le _)];omega,.inr ⟨w.heap.size+1+1,n+16,_,by rw[lC _ _ _ _ (Nat.zero_le _)],by omega,g2,by rw[lC _ _ _ _ (Nat.zero_le _)];omega,by unfold maxLen;omega,by simp[aC],?_⟩⟩
  rw[lC _ _ _ _ (Nat.zero_le _)]
  simp[Iv,iv,uJ,lH,List.take_replicate]
 go_loopw [18] (fun i wr=>∃k:Nat,k≤n∧i=.int .i64 k∧aB wr w.heap.size .u8 key 22∧aB wr (w.heap.size+1) .u8 nonce 24∧(∃C,aB wr (w.heap.size+1+1+1) .u8 C 147∧C.length=64∧(0<k→C=B (1+(k - 1) / 64)))∧bX .u8 5 w.heap.size wr (.slice (some ⟨w.heap.size+1+1,0,none⟩) n (n+16)) (uJ B text n k)∧Below w.heap.size w wr∧w.heap.size+1+1+1+1≤wr.heap.size) (fun i _=>n - (intOf i).toNat)
 case atStart=>exact⟨0,Nat.zero_le _,rfl,g0,g1,⟨aA 64,g3,by simp[aA],fun h=>absurd h (by omega)⟩,hown0,hBW,by omega⟩
 case round=>
  obtain⟨k,hkn,rfl,r0,r1,⟨C,r3,hCl,hCk⟩,hown,hbel,hsz⟩:=hrel
  have R0:Hid _:=r0
  have R1:Hid _:=r1
  have R3:Hid _:=r3
  have HO:Hid _:=hown
  have HBL:Hid _:=hbel
  have HCK:Hid _:=hCk
  clear r0 r1 r3 hown hbel hown0 g0 g1 g2 g3 hBW hCk hs
  by_cases hlt:k<n
  ·have hlti:(k:Int)<n:=by omega
   obtain⟨m,hm⟩:∃m,m=k%64:=⟨_,rfl⟩
   have hmi:(k:Int)%64=(m:Int):=by omega
   have hm64:m<64:=by omega
   have HM:Hid (m=k%64):=hm
   by_cases hk64:m=0
   ·have hm0:((m:Int)=0):=by omega
    have hm0':((k:Int)%64=0):=by omega
    have hcast:Hid ((1+(k:Int) / 64)=((1+k / 64:Nat):Int)):=by show _=_;omega
    clear hmi hm
    go_wp2_with(with_reducible refine aI ?_;first
     | refine wpLr rfl 22 _ rfl w.heap.size rfl _ (Iv .u8 key) _ _ R0.out underlying22 rfl hi32.out ?_
     | refine wpLr rfl 24 _ rfl (w.heap.size+1) rfl _ (Iv .u8 nonce) _ _ R1.out underlying24 rfl hi12.out ?_)
    rw[hcast.out]
    refine(HC.out (1+k / 64) wr (by omega) (jO.later HT.out HBL.out (nQ _))).mono ?_
    rintro e w1 ⟨rfl,hb1⟩
    have Q3:Hid _:=(hb1.block _ (by omega)).trans R3.out
    go_wp2_with(with_reducible refine aI ?_;refine wpPr rfl 147 _ _ rfl (w.heap.size+1+1+1) (Iv .u8 (B (1+k / 64))) rfl rfl _ _ Q3.out (hi64.out _ (hB _)) (hs64.out _ _ hCl (hB _)) (aH _ _) (fun X hX=>sH ?_))
    refine aG ?_
    have X3:Hid (X.heap[w.heap.size+1+1+1]? =some (.cells (Iv .u8 (B (1+k / 64))) 147)):=hX.here
    have X0:Hid (X.heap[w.heap.size]? =some (.cells (Iv .u8 key) 22)):=(hX.far _ (by omega)).trans ((hb1.block _ (by omega)).trans R0.out)
    have X1:Hid (X.heap[w.heap.size+1]? =some (.cells (Iv .u8 nonce) 24)):=(hX.far _ (by omega)).trans ((hb1.block _ (by omega)).trans R1.out)
    have XB:Hid (Below w.heap.size w X):=hX.below _ _ (HBL.out.trans (hb1.mono (by omega))) (by omega)
    have XO:Hid (bX .u8 5 w.heap.size X (.slice (some ⟨w.heap.size+1+1,0,none⟩) n (n+16)) (uJ B text n k)):=AY (bX.later HO.out hb1) hX (by omega)
    have hXs:w.heap.size+1+1+1+1≤X.heap.size:=by rw[hX.size];have:=hb1.size;omega
    have hmi:(k:Int)%64=(m:Int):=by have:=HM.out;omega
    clear hk64 hm0 hm0' hcast hX hb1 Q3 R0 R1 R3 HO HBL
    have hcell:X.cell? ⟨w.heap.size+1+1+1,m,none⟩=some (.int .u8 ((B (1+k / 64)).getD m 0)):=by rw[cell_of_row _ _ _ _ _ _ X3.out];simp[Iv,hB,hm64]
    have htext:X.cell? ⟨tg,to_+k,none⟩=some (.int .u8 (text.getD k 0)):=(XB.out.cell (p:=⟨tg,to_+k,none⟩) htg).trans (HS.out.2 k (by omega))
    have hoc:=(Sl.of_own XO.out).2 k (by rw[lC _ _ _ _ hkn];exact hlt)
    rw[Nat.zero_add]at hoc
    have hof:X.frozen? ⟨w.heap.size+1+1,k,none⟩=false:=LU XO.out k
    have hbt:=htb k
    have hbb:=hBb (1+k / 64) m
    have HST:Hid ((uJ B text n k).set k (xb (text.getD k 0) ((B (1+k / 64)).getD m 0))=uJ B text n (k+1)):=by show _=_;rw[HM.out];exact IF B text n k hlt
    have HOS:=bX.set XO.out k (xb (text.getD k 0) ((B (1+k / 64)).getD m 0))
    rw[HST.out]at HOS
    have HOS':Hid _:=HOS
    have HC2:Hid (B (1+k / 64)=B (1+(k+1 - 1) / 64)):=by show _=_;rw[Nat.add_sub_cancel]
    clear HST HOS
    generalize text.getD k 0=tz at*
    generalize(B (1+k / 64)).getD m 0=bz at*
    generalize(uJ B text n k).getD k 0=oz at*
    go_wp2
    refine wRh 12 (by kernel_rfl) (by kernel_rfl) ?_
    simp only[tU,tJ,dJ,dY]
    repeat(go_big_quiet_step (fail))
    refine wqN ?_
    go_wp2
    go_roundw
    case rel=>
     refine⟨k+1,by omega,by go_num,?_,?_,⟨_,?_,hB (1+k / 64),fun _=>HC2.out⟩,bX.drews HOS'.out 1,bDr (XB.out.setCell (p:=⟨w.heap.size+1+1,k,none⟩) (by show w.heap.size≤w.heap.size+1+1;omega) _) 1,by simp;omega⟩
     ·exact(heap_setCell_other X.drew _ _ _ (by simp;try omega)).trans X0.out
     ·exact(heap_setCell_other X.drew _ _ _ (by simp;try omega)).trans X1.out
     ·exact(heap_setCell_other X.drew _ _ _ (by simp;try omega)).trans X3.out
    case measure=>simp[intOf];omega
   ·have hm0:(((m:Int)=0)=False):=by simp;omega
    have X:=wr
    have hC:=HCK.out (by omega)
    have hC2:1+(k - 1) / 64=1+k / 64:=by omega
    rw[hC2]at hC
    subst hC
    clear X
    obtain⟨X,hX⟩:∃X,X=wr:=⟨_,rfl⟩
    rw[←hX]at R0 R1 R3 HO HBL hsz⊢
    have X3:Hid (X.heap[w.heap.size+1+1+1]? =some (.cells (Iv .u8 (B (1+k / 64))) 147)):=R3.out
    have X0:Hid (X.heap[w.heap.size]? =some (.cells (Iv .u8 key) 22)):=R0.out
    have X1:Hid (X.heap[w.heap.size+1]? =some (.cells (Iv .u8 nonce) 24)):=R1.out
    have XB:Hid (Below w.heap.size w X):=HBL.out
    have XO:Hid (bX .u8 5 w.heap.size X (.slice (some ⟨w.heap.size+1+1,0,none⟩) n (n+16)) (uJ B text n k)):=HO.out
    have hXs:=hsz
    clear hX R0 R1 R3 HO HBL hC2 hm
    have hcell:X.cell? ⟨w.heap.size+1+1+1,m,none⟩=some (.int .u8 ((B (1+k / 64)).getD m 0)):=by rw[cell_of_row _ _ _ _ _ _ X3.out];simp[Iv,hB,hm64]
    have htext:X.cell? ⟨tg,to_+k,none⟩=some (.int .u8 (text.getD k 0)):=(XB.out.cell (p:=⟨tg,to_+k,none⟩) htg).trans (HS.out.2 k (by omega))
    have hoc:=(Sl.of_own XO.out).2 k (by rw[lC _ _ _ _ hkn];exact hlt)
    rw[Nat.zero_add]at hoc
    have hof:X.frozen? ⟨w.heap.size+1+1,k,none⟩=false:=LU XO.out k
    have hbt:=htb k
    have hbb:=hBb (1+k / 64) m
    have HST:Hid ((uJ B text n k).set k (xb (text.getD k 0) ((B (1+k / 64)).getD m 0))=uJ B text n (k+1)):=by show _=_;rw[HM.out];exact IF B text n k hlt
    have HOS:=bX.set XO.out k (xb (text.getD k 0) ((B (1+k / 64)).getD m 0))
    rw[HST.out]at HOS
    have HOS':Hid _:=HOS
    have HC2:Hid (B (1+k / 64)=B (1+(k+1 - 1) / 64)):=by show _=_;rw[Nat.add_sub_cancel]
    clear HST HOS
    generalize text.getD k 0=tz at*
    generalize(B (1+k / 64)).getD m 0=bz at*
    generalize(uJ B text n k).getD k 0=oz at*
    go_wp2
    refine wRh 12 (by kernel_rfl) (by kernel_rfl) ?_
    simp only[tU,tJ,dJ,dY]
    repeat(go_big_quiet_step (fail))
    refine wqN ?_
    go_wp2
    go_roundw
    case rel=>
     refine⟨k+1,by omega,by go_num,?_,?_,⟨_,?_,hB (1+k / 64),fun _=>HC2.out⟩,bX.drews HOS'.out 1,bDr (XB.out.setCell (p:=⟨w.heap.size+1+1,k,none⟩) (by show w.heap.size≤w.heap.size+1+1;omega) _) 1,by simp;omega⟩
     ·exact(heap_setCell_other X.drew _ _ _ (by simp;try omega)).trans X0.out
     ·exact(heap_setCell_other X.drew _ _ _ (by simp;try omega)).trans X1.out
     ·exact(heap_setCell_other X.drew _ _ _ (by simp;try omega)).trans X3.out
    case measure=>simp[intOf];omega
  ·obtain rfl:k=n:=by omega
   go_wp2
   go_ret
   refine⟨_,rfl,?_,HBL.out⟩
   have h:=HO.out
   unfold uJ at h
   rw[Nat.sub_self,List.replicate_zero,List.append_nil]at h
   exact h
theorem aaU:prog.follows .mixedOrders=true:=by kernel_rfl
set_option maxHeartbeats 1000000 in
theorem DA (l:List Int) (n:Nat) (hl:l.length=n) (hn:n≤1000000) (g o c:Nat) (w:World) (HS:Hid (Sl w g o l)):
 Calls prog 82 #[.slice (some ⟨g,o,none⟩) n c] w fun e w'=>∃v,e=.returned v∧bX .u8 5 w.heap.size w' v (gN l)∧v.ownBlock≠none∧Below w.heap.size w w':=by
 have HO:Hid (bX .u8 5 w.heap.size (w.alloc (.cells #[] 5)) (.slice (some ⟨w.heap.size,0,none⟩) 0 0) []):=bX.nil w (nQ _)
 have HW:Hid (Below w.heap.size w (w.alloc (.cells #[] 5))):=(Below.refl _ _).alloc (nQ _) _
 have HN:Hid (∀j,j<n→(w.alloc (.cells #[] 5)).cell? ⟨g,o+j,none⟩=some (.int .u8 (l.getD j 0))):=fun j hj=>(Sl.later HS.out HW.out HS.out.1).2 j (by omega)
 have HL:Hid (l.length=n):=hl
 clear hl
 go_enter func82,ntmps82
 go_wp2_with(at_builtin;refine cU .u8 48 5 1 underlying48 mS (by decide) rfl (.tmp 4) (.tmp 5) rfl w.heap.size w _ _ [] g o n c l HL.out rfl rfl HO.out HW.out HW.out.size (by simp;omega) HN.out ?_;intro v2 w2 hown2 hbel2 _ hd2;refine sH ?_)
 refine aG ?_
 have hne2:v2.ownBlock≠none:=tM (v:=.slice (some ⟨w.heap.size,0,none⟩) 0 0) (by simp[Value.ownBlock]) hd2
 have HO2:Hid _:=hown2
 have HB2:Hid _:=hbel2
 have HE2:Hid _:=hne2
 clear hown2 hbel2 hne2 hd2 HO HW HN
 go_wp2
 go_loopw [3] (fun v wr=>∃k:Nat,k≤mH n∧bX .u8 5 w.heap.size wr v (l++rQ k 0)∧v.ownBlock≠none∧Below w.heap.size w wr∧∃gg cc,v=.slice (some ⟨gg,0,none⟩) (n+k) cc) (fun v _=>2000000 - (match v with| .slice _ a _=>a|_=>0))
 case atStart=>
  obtain⟨gg,cc,hv,_⟩:=pJ HO2.out HE2.out
  refine⟨0,Nat.zero_le _,by rw[List.replicate_zero,List.append_nil];exact HO2.out,HE2.out,HB2.out,gg,cc,?_⟩
  rw[hv]
  simp[HL.out]
 case round=>
  obtain⟨k,hk,hown,hne,hbel,gg,cc,rfl⟩:=hrel
  have hsz:=hbel.size
  have h16:=nL n
  have hfn:Hid (mH n=(16 - n%16)%16):=rfl
  by_cases hlt:k<mH n
  ·have hm:(((n:Int)+(k:Int))%16=0)=False:=by
    have:=hfn.out
    simp
    omega
   have hm2:(((n:Int)+(k:Int))%16 !=0)=true:=by have:=hfn.out;simp;omega
   have HS1:Hid (l++rQ (k+1) 0=l++rQ k 0++[0]):=by show _=_;rw[List.replicate_succ',List.append_assoc]
   have HLL:Hid ((l++rQ k 0).length≤100000000):=by show _≤_;have:=HL.out;simp;omega
   have HOO:Hid _:=hown
   have HNE:Hid _:=hne
   have HBB:Hid _:=hbel
   clear hown hne hbel
   go_wp2_with(at_builtin;refine cI .u8 48 5 1 underlying48 mS (by decide) rfl (.tmp 11) (.tmp 12) rfl w.heap.size w wr _ (l++rQ k 0) _ rfl rfl HOO.out HBB.out hsz HLL.out ?_;intro v1 w1 hown1 hbel1 _ hd1;refine sH ?_)
   refine aG ?_
   rw[←HS1.out]at hown1
   have hne1:v1.ownBlock≠none:=tM HNE.out hd1
   obtain⟨g1,c1,hv1,_⟩:=pJ hown1 hne1
   have hln:(l++rQ (k+1) 0).length=n+(k+1):=by have:=HL.out;simp;omega
   rw[hln]at hv1
   have K1:Hid _:=hown1
   have K2:Hid _:=hbel1
   have K3:Hid _:=hne1
   clear hown1 hbel1 hne1 hd1 HOO HNE HBB hln
   subst hv1
   go_wp2
   go_roundw
   case rel=>exact⟨k+1,by omega,K1.out,K3.out,K2.out,g1,c1,rfl⟩
   case measure=>show 2000000 - (n+(k+1))<2000000 - (n+k);omega
  ·obtain rfl:k=mH n:=by omega
   have hm:((n:Int)+((mH n:Nat):Int))%16=0:=by
    have:=hfn.out
    omega
   have hm2:(((n:Int)+((mH n:Nat):Int))%16 !=0)=false:=by simp;omega
   go_wp2
   go_ret
   refine⟨_,rfl,?_,hne,hbel⟩
   unfold gN
   rw[HL.out]
   exact hown
set_option maxHeartbeats 1000000 in
theorem UZ (ga oa ca gb ob cb:Nat) (la lb:List Int) (n m:Nat) (hla:la.length=n) (hlb:lb.length=m) (hlen:n+m≤100000000) (w:World) (ha:Sl w ga oa la) (hb:Sl w gb ob lb):
 Calls prog 52 #[.slice (some ⟨ga,oa,none⟩) n ca,.slice (some ⟨gb,ob,none⟩) m cb] w fun e w'=>∃x,e=.returned x∧bX .u8 5 w.heap.size w' x (la++lb)∧Below w.heap.size w w':=by
 have HA:Hid (Sl w ga oa la):=ha
 have HB:Hid (Sl w gb ob lb):=hb
 have HO:Hid (bX .u8 5 w.heap.size (w.alloc (.cells #[] 5)) (.slice (some ⟨w.heap.size,0,none⟩) 0 0) []):=bX.nil w (nQ _)
 have HW:Hid (Below w.heap.size w (w.alloc (.cells #[] 5))):=(Below.refl _ _).alloc (nQ _) _
 have HS:Hid (w.heap.size≤(w.alloc (.cells #[] 5)).heap.size):=HW.out.size
 have HN:Hid (∀j,j<n→(w.alloc (.cells #[] 5)).cell? ⟨ga,oa+j,none⟩=some (.int .u8 (la.getD j 0))):=fun j hj=>(ha.later HW.out ha.1).2 j (by omega)
 have HL:Hid (la.length=n):=hla
 have HM:Hid (lb.length=m):=hlb
 clear ha hb hla hlb
 go_enter func52,ntmps52
 go_wp2_with(first
  | (at_builtin;refine cU .u8 48 5 1 underlying48 mS (by decide) rfl (.tmp 6) (.tmp 7) rfl w.heap.size w _ _ [] ga oa n ca la HL.out rfl rfl HO.out HW.out HS.out (by simp;omega) HN.out ?_;intro v2 w2 hown2 hbel2 _ _
     have HN2:Hid (∀j,j<m→w2.cell? ⟨gb,ob+j,none⟩=some (.int .u8 (lb.getD j 0))):=fun j hj=>(HB.out.later hbel2 HB.out.1).2 j (by have:=HM.out;omega))
  | (at_builtin;refine cU .u8 48 5 1 underlying48 mS (by decide) rfl (.tmp 9) (.tmp 10) rfl w.heap.size w _ _ la gb ob m cb lb HM.out rfl rfl hown2 hbel2 hbel2.size (by have:=HL.out;omega) HN2.out ?_;intro v3 w3 hown3 hbel3 _ _))
 go_ret
 exact⟨_,rfl,hown3,hbel3⟩
def FE (n k:Nat):List Int:=(List.range k).map fun i=>(n:Int) / 256^i%256
theorem RP (n k:Nat):FE n (k+1)=FE n k++[(n:Int) / 256^k%256]:=by simp[FE,List.range_succ]
set_option maxHeartbeats 1000000 in
theorem zZ (n:Nat) (hn:n≤1000000) (w:World):
 Calls prog 83 #[.int .i64 n] w fun e w'=>∃v,e=.returned v∧bX .u8 5 w.heap.size w' v (AP n)∧Below w.heap.size w w':=by
 go_enter func83,ntmps83
 go_wp2
 go_loopw [0,3,4] (fun x v i wr=>∃k:Nat,k≤8∧x=.int .i64 ((n / 256^k:Nat):Int)∧i=.int .i64 k∧bX .u8 5 w.heap.size wr v (FE n k)∧Below w.heap.size w wr) (fun _ _ i _=>8 - (intOf i).toNat)
 case atStart=>exact⟨0,Nat.zero_le _,by simp,rfl,bX.nil w (nQ _),(Below.refl _ _).alloc (nQ _) _⟩
 case round=>
  obtain⟨k,hk,rfl,rfl,hown,hbel⟩:=hrel
  have hsz:=hbel.size
  by_cases hlt:k<8
  ·have HS1:Hid (FE n (k+1)=FE n k++[((n / 256^k:Nat):Int)%256]):=by show _=_;rw[RP];simp
   have HLL:Hid ((FE n k).length≤100000000):=by show _≤_;simp[FE];omega
   have HQ:Hid (((n / 256^(k+1):Nat):Int)=((n / 256^k:Nat):Int) / 256):=by show _=_;rw[Nat.pow_succ,←Nat.div_div_eq_div_mul];omega
   have hqb:n / 256^k≤1000000:=nU (Nat.div_le_self _ _) hn
   have HOO:Hid _:=hown
   have HBB:Hid _:=hbel
   clear hown hbel
   generalize n / 256^k=q at*
   generalize FE n k=L at*
   have hq2:((q:Int)%256)%256=(q:Int)%256:=by omega
   go_wp2_with(at_builtin;refine cI .u8 48 5 1 underlying48 mS (by decide) rfl (.tmp 10) (.tmp 14) rfl w.heap.size w wr _ L _ rfl rfl HOO.out HBB.out hsz HLL.out ?_;intro v1 w1 hown1 hbel1 _ _;refine sH ?_)
   refine aG ?_
   have K1:Hid (bX .u8 5 w.heap.size w1 v1 (FE n (k+1))):=by show bX _ _ _ _ _ _;rw[HS1.out];exact hown1
   have K2:Hid _:=hbel1
   clear hown1 hbel1 HOO HBB
   go_wp2
   go_roundw
   case rel=>exact⟨k+1,by omega,by rw[HQ.out],by go_num,K1.out,K2.out⟩
   case measure=>simp[intOf];omega
  ·obtain rfl:k=8:=by omega
   go_wp2
   go_ret
   exact⟨_,rfl,hown,hbel⟩
theorem O0 {K:Act→World→Prop} {Q:Exit→Act→World→Prop} {a:Act} {w:World} (h:K a w):dH K Q .normal a w:=h
set_option maxRecDepth 10000 in
set_option maxHeartbeats 2000000 in
theorem JI (key nonce:List Int) (hk:key.length=32) (hr:nonce.length=12) (B:Nat→List Int) (hB:∀i,(B i).length=64) (HC:Hid (zN 81 key nonce B (fun _=>True))) (hBb:∀i,aE (B i))
 (text:List Int) (n:Nat) (hn:text.length=n) (hn2:n≤65536) (htb:aE text) (tg to_ tcap:Nat) (w:World) (HS:Hid (Sl w tg to_ text)) (htc:n≤tcap) (htc2:tcap≤9223372036854775807):
 Calls prog 59 #[.agg (Iv .u8 key),.agg (Iv .u8 nonce),.slice (some ⟨tg,to_,none⟩) n tcap] w fun e w'=>∃v,e=.returned v∧bX .u8 5 w.heap.size w' v (lH B text n)∧v.ownBlock≠none∧Below w.heap.size w w':=by
 have hi32:Hid ((prog.info? 22).map (·.size)=some (Iv .u8 key).size):=by show _=_;rw[aC,hk];exact rY
 have hi12:Hid ((prog.info? 24).map (·.size)=some (Iv .u8 nonce).size):=by show _=_;rw[aC,hr];exact uU
 have hi64:Hid (∀l:List Int,l.length=64→(prog.info? 147).map (·.size)=some (Iv .u8 l).size):=fun l hl=>by rw[aC,hl];exact AV
 have hz64:Hid (∀l:List Int,l.length=64→(Iv .u8 (aA 64)).size=(Iv .u8 l).size):=fun l hl=>by rw[aC,aC,hl];simp[aA]
 have htg:=HS.out.1
 obtain⟨W,hW,g0,g1,g2,hs,hBW⟩:=oW w (.cells (Iv .u8 key) 22) (.cells (Iv .u8 nonce) 24) (.cells #[] 5)
 have hown0:bX .u8 5 (w.heap.size+1+1) W (.slice (some ⟨w.heap.size+1+1,0,none⟩) 0 0) (lH B text 0):=⟨by simp[fW,lH],.inr ⟨w.heap.size+1+1,0,#[],by simp[lH],nQ _,g2,by simp[lH],by unfold maxLen;omega,rfl,by simp[lH,iv]⟩⟩
 have HO0:Hid _:=hown0
 have HW:Hid _:=hW
 have G0:Hid _:=g0
 have G1:Hid _:=g1
 have GB:Hid _:=hBW
 clear hown0 hW g0 g1 g2 hBW
 go_enter func59,ntmps59
 go_wp2
 rw[HW.out]
 go_loopw [7,8] (fun v i wr=>∃q:Nat,i=.int .i64 ((64*q:Nat):Int)∧64*q<n+64∧bX .u8 5 (w.heap.size+1+1) wr v (lH B text (min (64*q) n))∧v.ownBlock≠none∧aB wr w.heap.size .u8 key 22∧aB wr (w.heap.size+1) .u8 nonce 24∧Below w.heap.size w wr∧w.heap.size+1+1+1≤wr.heap.size) (fun _ i _=>n+64 - (intOf i).toNat)
 case atStart=>exact⟨0,rfl,by omega,by rw[show min (64*0) n=0 by omega];exact HO0.out,by simp[Value.ownBlock],G0.out,G1.out,GB.out,by omega⟩
 case round=>
  obtain⟨q,rfl,hq,hown,hne,r0,r1,hbel,hsz⟩:=hrel
  have R0:Hid _:=r0
  have R1:Hid _:=r1
  have HO:Hid _:=hown
  have HE:Hid _:=hne
  have HBL:Hid _:=hbel
  clear r0 r1 hown hne hbel HO0 G0 G1 GB HW
  by_cases hlt:64*q<n
  ·have hlti:((64*q:Nat):Int)<n:=by omega
   have hcast:Hid (∀x:Int,x=((64*q:Nat):Int)→1+x / 64=((1+q:Nat):Int)):=fun x hx=>by omega
   rw[show min (64*q) n=64*q+0 by omega]at HO
   obtain⟨a,ha⟩:∃a,a=64*q:=⟨_,rfl⟩
   rw[←ha]at HO hlti hcast⊢
   have ha2:a<n:=by omega
   have HA:Hid (a=64*q):=ha
   clear ha hlt hq
   go_wp2_with(with_reducible refine aI ?_;first
    | refine wpLr rfl 22 _ rfl w.heap.size rfl _ (Iv .u8 key) _ _ R0.out underlying22 rfl hi32.out ?_
    | refine wpLr rfl 24 _ rfl (w.heap.size+1) rfl _ (Iv .u8 nonce) _ _ R1.out underlying24 rfl hi12.out ?_)
   rw[hcast.out _ rfl]
   have hq2:1+q≤2000:=by have:=HA.out;omega
   refine(HC.out (1+q) wr hq2 trivial).mono ?_
   rintro e w3 ⟨rfl,hb3⟩
   have hs3:=hb3.size
   have hzw:=A6
   have K3:Hid ((w3.alloc (.cells (Iv .u8 (aA 64)) 147)).heap[w3.heap.size]? =some (.cells (Iv .u8 (aA 64)) 147)):=hAN _ _
   go_wp2_with(with_reducible refine aI ?_;refine wpPr rfl 147 _ _ rfl w3.heap.size (Iv .u8 (B (1+q))) rfl rfl _ _ K3.out (hi64.out _ (hB _)) (hz64.out _ (hB _)) (aH _ _) (fun X hX=>sH ?_))
   refine aG ?_
   have xs:X.heap.size=w3.heap.size+1:=by rw[hX.size];simp
   have XR:Hid (X.heap[w3.heap.size]? =some (.cells (Iv .u8 (B (1+q))) 147)):=hX.here
   have X0:Hid (X.heap[w.heap.size]? =some (.cells (Iv .u8 key) 22)):=(hX.far _ (by omega)).trans ((hAO _ _ (by omega)).trans ((hb3.block _ (by omega)).trans R0.out))
   have X1:Hid (X.heap[w.heap.size+1]? =some (.cells (Iv .u8 nonce) 24)):=(hX.far _ (by omega)).trans ((hAO _ _ (by omega)).trans ((hb3.block _ (by omega)).trans R1.out))
   have XB:Hid (Below w.heap.size w X):=hX.below _ _ ((HBL.out.trans (hb3.mono (by omega))).alloc (by omega) _) (by omega)
   obtain⟨go0,co0,rfl,hgo0,_,_,hgo1,hob0⟩:=pJ HO.out HE.out
   have XO:Hid (bX .u8 5 (w.heap.size+1+1) X (.slice (some ⟨go0,0,none⟩) (lH B text (a+0)).length co0) (lH B text (a+0))):=AY (bX.later (bX.later HO.out hb3) ((Below.refl _ _).alloc (nQ _) _)) hX (by omega)
   have XN:Hid ((Value.slice (some ⟨go0,0,none⟩) (lH B text (a+0)).length co0).ownBlock≠some w3.heap.size):=by show _≠_;rw[hob0];intro h;cases h;omega
   obtain⟨gb,egb⟩:∃x,x=w3.heap.size:=⟨_,rfl⟩
   rw[←egb]at XR xs hs3 XN⊢
   clear egb hX hb3 K3 R0 R1 HO HE HBL hzw
   generalize Value.slice (some ⟨go0,0,none⟩) (lH B text (a+0)).length co0=v0 at*
   go_wp2
   go_loopw [7,10] (fun v i wx=>∃k:Nat,k≤64∧a+k≤n∧i=.int .i64 k∧bX .u8 5 (w.heap.size+1+1) wx v (lH B text (a+k))∧v.ownBlock≠none∧v.ownBlock≠some gb∧aB wx gb .u8 (B (1+q)) 147∧aB wx w.heap.size .u8 key 22∧aB wx (w.heap.size+1) .u8 nonce 24∧Below w.heap.size w wx∧gb+1≤wx.heap.size) (fun _ i _=>64 - (intOf i).toNat)
   case atStart=>exact⟨0,by omega,by omega,rfl,XO.out,by rw[hob0];simp,XN.out,XR.out,X0.out,X1.out,XB.out,by omega⟩
   case round=>
    obtain⟨k,hk64,hkn,rfl,hown,hne,hngb,rr,r0,r1,hbel,hsz2⟩:=hrel
    have HO:Hid _:=hown
    have HE:Hid _:=hne
    have HG:Hid _:=hngb
    have RR:Hid _:=rr
    have R0:Hid _:=r0
    have R1:Hid _:=r1
    have HBL:Hid _:=hbel
    clear hown hne hngb rr r0 r1 hbel XO XR X0 X1 XB XN
    by_cases hkk:k<64
    ·by_cases hak:a+k<n
     ·have hki:(k:Int)<64:=by omega
      have haki:(a:Int)+(k:Int)<n:=by omega
      have hcell:wr.cell? ⟨gb,k,none⟩=some (.int .u8 ((B (1+q)).getD k 0)):=by rw[cell_of_row _ _ _ _ _ _ RR.out];simp[Iv,hB,hkk]
      have htext:wr.cell? ⟨tg,to_+(a+k),none⟩=some (.int .u8 (text.getD (a+k) 0)):=(HBL.out.cell (p:=⟨tg,to_+(a+k),none⟩) htg).trans (HS.out.2 (a+k) (by omega))
      have hbt:=htb (a+k)
      have hbb:=hBb (1+q) k
      have HST:Hid (lH B text (a+(k+1))=lH B text (a+k)++[xb (text.getD (a+k) 0) ((B (1+q)).getD k 0)]):=by
       show _=_
       have:=HA.out
       rw[←Nat.add_assoc,IE,show(a+k) / 64=q by omega,show(a+k)%64=k by omega]
      have HLL:Hid ((lH B text (a+k)).length≤100000000):=by show _≤_;rw[iR];omega
      have hsb:w.heap.size+1+1≤wr.heap.size:=by omega
      have HBX:Hid (Below (w.heap.size+1+1) wr.drew wr.drew):=Below.refl _ _
      generalize text.getD (a+k) 0=tz at*
      generalize(B (1+q)).getD k 0=bz at*
      generalize lH B text (a+k)=L at*
      go_wp2
      refine wRl 11 (fun _=>True) [(.held,[0]),(.exact,[1,2,3,4,5,6,7,8,9,10]),(.tail,[11]),(.tail,[12]),(.tail,[13])] aaU (by kernel_rfl) trivial ?_
      simp only[iO,oS]
      repeat(go_big_quiet_step (fail))
      refine wqN ?_
      repeat(go_big_quiet_step (fail))
      refine wqN ?_
      go_wp2_with fail
      refine⟨trivial,?_⟩
      go_wp2_with(at_builtin;refine cI .u8 48 5 1 underlying48 mS (by decide) rfl (.tmp 37) (.tmp 48) rfl (w.heap.size+1+1) wr.drew wr.drew _ L _ rfl rfl (bX.drews HO.out 1) HBX.out hsb HLL.out ?_;intro v1 w1 hown1 hbel1 hgr1 hd1;refine sH ?_)
      refine aG ?_
      have K1:Hid (bX .u8 5 (w.heap.size+1+1) w1 v1 (lH B text (a+(k+1)))):=by show bX _ _ _ _ _ _;rw[HST.out];exact hown1
      have K2:Hid (v1.ownBlock≠none):=tM HE.out hd1
      have K3:Hid (v1.ownBlock≠some gb):=by
       show _≠_
       rcases hd1 with h|h
       ·rw[h];exact HG.out
       ·rw[h];intro h2;have h3:wr.heap.size+1=gb:=by simpa using h2
        omega
      have K4:Hid (w1.heap[gb]? =some (.cells (Iv .u8 (B (1+q))) 147)):=(hgr1.block gb (by show gb<wr.heap.size;omega) (fun e=>HG.out e.symm)).trans RR.out
      have K5:Hid (w1.heap[w.heap.size]? =some (.cells (Iv .u8 key) 22)):=(hbel1.block _ (by omega)).trans R0.out
      have K6:Hid (w1.heap[w.heap.size+1]? =some (.cells (Iv .u8 nonce) 24)):=(hbel1.block _ (by omega)).trans R1.out
      have K7:Hid (Below w.heap.size w w1):=(bDr HBL.out 1).trans (hbel1.mono (by omega))
      have hs1:wr.heap.size≤w1.heap.size:=hbel1.size
      clear hown1 hbel1 hgr1 hd1 HO HE HG RR R0 R1 HBL
      go_wp2_with fail
      refine O0 ?_
      go_wp2_with fail
      first
       | refine⟨trivial,dM ?_⟩
       | refine O0 (dM ?_)
      go_wp2
      go_roundw
      case rel=>exact⟨k+1,by omega,by omega,by go_num,K1.out,K2.out,K3.out,K4.out,K5.out,K6.out,K7.out,by omega⟩
      case measure=>simp[intOf];omega
     ·have hki:(k:Int)<64:=by omega
      have haki:((a:Int)+(k:Int)<n)=False:=by simp;omega
      have hmin:Hid (min (64*(q+1)) n=a+k):=by show _=_;have:=HA.out;omega
      go_wp2
      go_roundw
      case rel=>exact⟨q+1,by have:=HA.out;rw[this];go_num,by have:=HA.out;omega,by rw[hmin.out];exact HO.out,HE.out,R0.out,R1.out,HBL.out,by omega⟩
      case measure=>simp[intOf];omega
    ·obtain rfl:k=64:=by omega
     have hmin:Hid (min (64*(q+1)) n=a+64):=by show _=_;have:=HA.out;omega
     go_wp2
     go_roundw
     case rel=>exact⟨q+1,by have:=HA.out;rw[this];go_num,by have:=HA.out;omega,by rw[hmin.out];exact HO.out,HE.out,R0.out,R1.out,HBL.out,by omega⟩
     case measure=>simp[intOf];omega
  ·have hlti:((64*(q:Int)<n)=False):=by simp;omega
   rw[show min (64*q) n=n by omega]at HO
   go_wp2
   go_ret
   exact⟨_,rfl,bX.mono HO.out (by omega),HE.out,HBL.out⟩
end Go.Proofs.YtgcepckaolkeoaaGreatDoor
