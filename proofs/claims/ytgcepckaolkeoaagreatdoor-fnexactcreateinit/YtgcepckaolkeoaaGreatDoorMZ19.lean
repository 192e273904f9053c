import Derived.Test.YtgcepckaolkeoaaGreatDoorMZ18
import Derived.Great.BuildSlice
namespace Go.Proofs.YtgcepckaolkeoaaGreatDoor
open Go.RowKit
open Go.Proofs.Tryz
open Go renaming heap_alloc_new → hAN, heap_alloc_old → hAO, wpList_load_row → wpLr, wpQuiet_nil → wqN
open List renaming length_append → lQ, length_map → lU, length_replicate → rJ, replicate → rQ
open Nat renaming le_refl → nQ
set_option linter.unusedVariables false
set_option linter.unusedSimpArgs false
theorem FM (k:IntKind) (m:Nat):Builtin.zeroCells (Value.int k 0).cells m=(rQ m (Value.int k 0)).toArray:=by
 apply Array.ext'
 simp only[Builtin.zeroCells,Value.cells,List.size_toArray,List.length_cons,List.length_nil,Nat.zero_add,Nat.mul_one,Nat.mod_one,Array.toList_map,Array.toList_range]
 apply List.ext_getElem
 ·simp
 ·intro i h1 h2
  simp
theorem tG {P:Program} (w:World) (t ty e it:TypeId) (i:TypeInfo) (k:IntKind) (ht:P.underlying t=some (.slice e)) (hi:P.info? e=some i) (hz:i.zero=some (.int k 0)) (hs:i.size=1) (hby:i.bytes≤8)
 (hit:P.underlying it=some (.int .i64)) (base:Option Addr) (sLen sCap m c:Nat) (a:Addr) (hm:m≤1000) (hsl:sLen≤1000000000) (hfit:sCap<sLen+m→Builtin.nextslicecap (sLen+m) sCap*i.bytes≤281474976710656)
 (hzero:∀j,j<m→w.cell? (a.add j)=some (.int k 0)) (hold:∃cs,(Builtin.firstCells 1 sLen (.slice base sLen sCap)).run P w.drew=.ok cs w.drew):
 (Builtin.append_ #[t,it] ty #[.slice base sLen sCap,.int .i64 m]).run P w=(Builtin.append_ #[t,t] ty #[.slice base sLen sCap,.slice (some a) m c]).run P w:=by
 have hnews:∀j v,(rQ m (Value.int k 0))[j]? =some v→w.cell? (a.add j)=some v:=by
  intro j v hj
  have hj2:j<m:=by have:=(List.getElem?_eq_some_iff.1 hj).1;simpa using this
  rw[hzero j hj2]
  simp[List.getElem?_replicate,hj2]at hj
  rw[hj]
 have hl:(rQ m (Value.int k 0)).length=m*i.size:=by simp[hs]
 have hf0:=run_firstCells_some (P:=P) w i.size m a m c (rQ m (Value.int k 0)) hl hnews
 have hf1:=run_firstCells_some (P:=P) w.drew i.size m a m c (rQ m (Value.int k 0)) hl (by simpa using hnews)
 have hwr:IntKind.i64.wrap (m:Int)=m:=by
  have h1:(m:Int)%18446744073709551616=m:=by omega
  simp[IntKind.wrap,IntKind.bits,IntKind.signed,h1]
  try omega
 have hneg:¬((m:Int)<0):=by omega
 have hb48:¬(281474976710656<(m:Int)*(i.bytes:Int)):=by
  have h1:m*i.bytes≤1000*8:=Nat.mul_le_mul hm hby
  have h2:((m*i.bytes:Nat):Int)≤8000:=by omega
  rw[Int.natCast_mul]at h2
  omega
 have hzc:=FM k m
 rw[hs]at hf0 hf1
 obtain⟨cs,hcs⟩:=hold
 by_cases h0:m=0
 ·subst h0
  have hl0:∀w':World,(Builtin.firstCells 1 0 (.slice (some a) 0 c)).run P w'=.ok #[] w':=fun w'=>by simp[Builtin.firstCells,loadCells,loadCellsFrom]
  have hwr0:IntKind.i64.wrap 0=0:=by decide
  by_cases hroom:sLen≤sCap
  ·simp[Builtin.append_,run_underlying ht,run_underlying hit,sizeOf,typeInfo,zeroValue,hi,hz,Builtin.lenOf,hroom,hwr0,asInt,asIntOf,hs,hl0]
  ·have h63':¬(9223372036854775807<(sLen:Int)):=by omega
   have h48':¬(281474976710656<Builtin.nextslicecap sLen sCap*i.bytes):=by have:=hfit (by omega);simp only[Nat.add_zero]at this;omega
   simp[Builtin.append_,run_underlying ht,run_underlying hit,sizeOf,typeInfo,zeroValue,hi,hz,Builtin.lenOf,hroom,hwr0,asInt,asIntOf,hs,h63',h48',Question.forced,hl0,newRow,hcs]
 by_cases hroom:sLen+m≤sCap
 ·simp[Builtin.append_,run_underlying ht,run_underlying hit,sizeOf,typeInfo,zeroValue,hi,hz,Builtin.lenOf,hroom,hwr,hneg,hb48,asInt,asIntOf,h0,hs,hf0,hzc]
 ·have h63':¬(9223372036854775807<((sLen:Int)+(m:Int))):=by omega
  have h48':¬(281474976710656<Builtin.nextslicecap (sLen+m) sCap*i.bytes):=by have:=hfit (by omega);omega
  simp[Builtin.append_,run_underlying ht,run_underlying hit,sizeOf,typeInfo,zeroValue,hi,hz,Builtin.lenOf,hroom,hwr,hneg,hb48,asInt,asIntOf,h0,hs,h63',h48',Question.forced,hf1,hzc,newRow,hcs]
theorem TE {P:Program} {ops:Array Oper} {rest:List Oper} {o:Oper} {a:Act} {Q:Exit→Act→World→Prop} (k:IntKind) (t e it:TypeId) (bytes:Nat) (ht:P.underlying t=some (.slice e))
 (hinfo:(P.info? e).map (fun i=>(i.zero,i.size,i.bytes))=some (some (.int k 0),1,bytes)) (hby:bytes≤8) (hit:P.underlying it=some (.int .i64)) (hgd:o.guard=none) (s x:Operand) (ho:o.op=.call { callee:=.builtin .append,args:=#[s,x],argTypes:=#[t,it] })
 (base:Nat) (w0 wr:World) (v:Value) (l:List Int) (b o' m:Nat) (hs:a.eval s=v) (hx:a.eval x=.int .i64 m) (hown:bX k e base wr v l) (hbel:Below base w0 wr) (hbase:base≤wr.heap.size) (hm:m≤1000) (hlen:l.length≤100000000)
 (hnews:∀j,j<m→wr.cell? ⟨b,o'+j,none⟩=some (.int k 0))
 (h:∀v' w',bX k e base w' v' (l++rQ m 0)→Below base w0 w'→wr.grownBy w' v.ownBlock→(v'.ownBlock=v.ownBlock∨v'.ownBlock=some wr.heap.size)→wpList P ops Q rest (a.put o.dst v') w'):wpList P ops Q (o::rest) a wr:=by
 obtain⟨i,hi,hz,hsz,hb⟩:=info_parts hinfo
 have hadd:∀j,(⟨b,o',none⟩:Addr).add j=⟨b,o'+j,none⟩:=fun j=>by unfold Addr.add;split<;>simp_all
 have g1:∀j u,(iv k (rQ m 0))[j]? =some u→wr.cell? ((⟨b,o',none⟩:Addr).add j)=some u:=by
  intro j u hj
  have hj':j<m:=by
   have:=(List.getElem?_eq_some_iff.1 hj).1
   rw[fW]at this
   simpa using this
  rw[hadd,hnews j hj']
  rw[CX]at hj
  simp[hj']at hj
  rw[hj]
 have g2:l.length+m≤maxLen:=by unfold maxLen;omega
 have g3:(l.length+m)*bytes≤140737488355328:=by
  have:(l.length+m)*bytes≤(l.length+m)*8:=Nat.mul_le_mul_left _ hby
  omega
 have g4:(iv k (rQ m 0)).length=m*1:=by rw[fW];simp
 obtain⟨v',w',hr,h1,h2,_⟩:=run_append_own (P:=P) wr base t o.type e i (.int k 0) 1 bytes ht hi hz hsz hb rfl (by decide) v l.length (iv k l) hown ⟨b,o',none⟩ m m (iv k (rQ m 0)) g4 g1 (JG k _) g2 g3 hbase
 have h4:=xF ht hi hz hsz hb rfl hown g4 g1 (JG k _) g2 g3 hr
 have hr2:(Builtin.append_ #[t,it] o.type #[v,.int .i64 m]).run P wr=.ok v' w':=by
  rw[←hr]
  obtain⟨_,⟨rfl,hl0⟩|⟨g,cap,cur,rfl,hbg,hg,hnc,hcm,hcs,htake⟩⟩:=hown
  ·exact tG wr t o.type e it i k ht hi hz hsz (by rw[hb];exact hby) hit none 0 0 m m ⟨b,o',none⟩ hm (by omega) (fun _=>by
    have hn:Builtin.nextslicecap (0+m) 0≤0+m:=by unfold Builtin.nextslicecap;split<;>omega
    have:=Nat.mul_le_mul hn (show i.bytes≤8 by rw[hb];exact hby)
    omega) (fun j hj=>by rw[hadd];exact hnews j hj) ⟨#[],by simp[Builtin.firstCells]⟩
  ·have hold:∀j u,(iv k l)[j]? =some u→wr.drew.cell? ((⟨g,0,none⟩:Addr).add j)=some u:=by
    intro j u hj
    have:=World.ownsRow.cells (w:=wr) (base:=base) (e:=e) (size:=1) (v:=.slice (some ⟨g,0,none⟩) l.length cap) (n:=l.length) (xs:=iv k l) (g:=g) ⟨by simp[fW],.inr ⟨g,cap,cur,rfl,hbg,hg,hnc,hcm,hcs,htake⟩⟩ rfl j u hj
    simpa using this
   exact tG wr t o.type e it i k ht hi hz hsz (by rw[hb];exact hby) hit (some ⟨g,0,none⟩) l.length cap m m ⟨b,o',none⟩ hm (by omega) (fun hlt=>growslice_fits (by omega) (by rw[hb];exact g3)) (fun j hj=>by rw[hadd];exact hnews j hj)
    ⟨_,run_firstCells_some (P:=P) wr.drew 1 l.length ⟨g,0,none⟩ l.length cap (iv k l) (by simp[fW]) hold⟩
 refine wpList_plain hgd fun K hK=>?_
 unfold Oper.wp execOp
 simp only[ho,resolve,invoke,builtin,Sem.run_bind,Sem.run_pure,Result.andThen_ok,List.map_toArray,List.map_cons,List.map_nil,hs,hx,hr2]
 refine hK _ _ (h v' w' ?_ (hbel.grown h2 hbase (fun g hg=>(bX.lt hown g hg).1)) h2 h4)
 unfold bX
 rw[GL,lQ,rJ]
 exact h1
def DQ (P:Nat→List Int):Nat→List Int
 | 0=>[]
 | k+1=>DQ P k++gN (P k)
theorem U8 {k:IntKind} {e:TypeId} {base:Nat} (w:World):bX k e base w (.slice none 0 0) []:=⟨by simp[fW],.inl ⟨rfl,rfl⟩⟩
theorem RH (n:Int):bits .and .i64 n 15=n%16:=by
 have h15:(BitVec.ofInt 64 15).toNat=2^4 - 1:=by decide
 have key:(BitVec.ofInt 64 n&&& BitVec.ofInt 64 15).toNat=(n%((2^64:Nat):Int)).toNat%2^4:=by
  rw[BitVec.toNat_and,BitVec.toNat_ofInt,h15,Nat.and_two_pow_sub_one_eq_mod]
 show IntKind.i64.wrap ((BitVec.ofInt 64 n&&& BitVec.ofInt 64 15).toNat:Nat)=n%16
 rw[key,IntKind.wrap_i64]
 omega
theorem SE (n:Nat) (h:n≤1000000):bits .and .i64 (-(n:Int)) 15=(mH n:Nat):=by
 rw[RH]
 unfold mH
 omega
set_option maxRecDepth 10000 in
set_option maxHeartbeats 2000000 in
theorem OE (P:Nat→List Int) (pl pg po pc:Nat→Nat) (hpl:∀k,k<3→(P k).length=pl k) (hps:∀k,k<3→pl k≤65536) (gp gz:Nat) (w:World) (hgp:gp<w.heap.size)
 (HP:Hid (∀k,k<3→w.cell? ⟨gp,k,none⟩=some (.slice (some ⟨pg k,po k,none⟩) (pl k) (pc k)))) (HS:Hid (∀k,k<3→Sl w (pg k) (po k) (P k))) (HZ:Hid (∀j,j<16→w.cell? ⟨gz,j,none⟩=some (.int .u8 0))) (hgz:gz<w.heap.size):
 Calls prog 141 #[.slice (some ⟨gp,0,none⟩) 3 3] w fun e w'=>∃v,e=.returned v∧bX .u8 5 w.heap.size w' v (DQ P 3)∧Below w.heap.size w w':=by
 go_enter func141,ntmps141
 go_wp2
 go_loopw [3,8] (fun v i wr=>∃k:Nat,k≤3∧i=.int .i64 k∧bX .u8 5 w.heap.size wr v (DQ P k)∧(DQ P k).length≤k*65600∧Below w.heap.size w wr) (fun _ i _=>3 - (intOf i).toNat)
 case atStart=>exact⟨0,Nat.zero_le _,rfl,U8 w,nQ _,Below.refl _ _⟩
 case round=>
  obtain⟨k,hk,rfl,hown,hpl2,hbel⟩:=hrel
  have hsz:=hbel.size
  have HO:Hid _:=hown
  have HBL:Hid _:=hbel
  clear hown hbel
  by_cases hlt:k<3
  ·have hki:(k:Int)<3:=by omega
   have hc:wr.cell? ⟨gp,k,none⟩=some (.slice (some ⟨pg k,po k,none⟩) (pl k) (pc k)):=(HBL.out.cell (p:=⟨gp,k,none⟩) hgp).trans (HP.out k hlt)
   have HSk:Hid (Sl wr (pg k) (po k) (P k)):=Sl.later (HS.out k hlt) HBL.out (HS.out k hlt).1
   have HZ2:Hid (∀j,j<16→wr.cell? ⟨gz,j,none⟩=some (.int .u8 0)):=fun j hj=>(HBL.out.cell (p:=⟨gz,j,none⟩) hgz).trans (HZ.out j hj)
   have HL:Hid ((P k).length=pl k):=hpl k hlt
   have hps2:=hps k hlt
   have pV:Hid (DQ P (k+1)=DQ P k++(P k++rQ (mH (pl k)) 0)):=by show DQ P k++gN (P k)=_;unfold gN;rw[hpl k hlt]
   have hf16:=nL (pl k)
   have HN:Hid _:=SE (pl k) (by omega)
   clear hpl hps HP HS
   obtain⟨L,eL⟩:∃L,L=DQ P k:=⟨_,rfl⟩
   rw[←eL]at HO hpl2 pV
   obtain⟨Pk,ePk⟩:∃x,x=P k:=⟨_,rfl⟩
   rw[←ePk]at HSk HL pV
   obtain⟨n,en⟩:∃x,x=pl k:=⟨_,rfl⟩
   rw[←en]at hc HL pV HN hps2 hf16
   obtain⟨g,eg⟩:∃x,x=pg k:=⟨_,rfl⟩
   rw[←eg]at hc HSk
   obtain⟨o,eo⟩:∃x,x=po k:=⟨_,rfl⟩
   rw[←eo]at hc HSk
   obtain⟨c,ec⟩:∃x,x=pc k:=⟨_,rfl⟩
   rw[←ec]at hc
   clear eL ePk en eg eo ec
   go_wp2_with(at_builtin;first
    | (refine cU .u8 48 5 1 underlying48 mS (by decide) rfl (.tmp 12) (.tmp 13) rfl w.heap.size w wr _ L g o n c Pk HL.out rfl rfl HO.out HBL.out hsz (by have:=HL.out;omega) (by have:=HL.out;intro j hj;exact HSk.out.2 j (by omega)) ?_;intro v1 w1 ho1 hb1 hg1 hd1;refine sH ?_))
   refine aG ?_
   have HO1:Hid _:=ho1
   have HB1:Hid _:=hb1
   have HZ3:Hid (∀j,j<16→w1.cell? ⟨gz,j,none⟩=some (.int .u8 0)):=fun j hj=>(hb1.cell (p:=⟨gz,j,none⟩) hgz).trans (HZ.out j hj)
   have hs1:=hb1.size
   clear ho1 hb1 hg1 hd1 HO HBL HSk HZ2 hc
   go_wp2_with(at_builtin;(refine TE .u8 48 5 3 1 underlying48 mS (by decide) underlying3 rfl (.tmp 15) (.tmp 19) rfl w.heap.size w w1 _ (L++Pk) gz 0 (mH n) rfl (congrArg (Value.int .i64) HN.out) HO1.out HB1.out hs1 (by omega) (by have:=HL.out;rw[lQ];omega) (fun j hj=>by rw[Nat.zero_add];exact HZ3.out j (by omega)) ?_;intro v2 w2 ho2 hb2 hg2 hd2;refine sH ?_))
   refine aG ?_
   rw[List.append_assoc,←pV.out]at ho2
   have HO2:Hid _:=ho2
   have HB2:Hid _:=hb2
   have hln:Hid ((DQ P (k+1)).length≤(k+1)*65600):=by show _≤_;rw[pV.out];have:=HL.out;simp;omega
   clear ho2 hb2 hg2 hd2 HO1 HB1
   go_wp2
   go_roundw
   case rel=>exact⟨k+1,by omega,by go_num,HO2.out,hln.out,HB2.out⟩
   case measure=>simp[intOf];omega
  ·obtain rfl:k=3:=by omega
   go_wp2
   go_ret
   exact⟨_,rfl,HO.out,HBL.out⟩
theorem eD (g off n cap:Nat) (te:TypeId) (l:List Int) (x:Int) (w:World)
 (hg:w.heap[g]? =some (.cells (Iv .u8 l) te)) (hl:off+n≤l.length) (hn:n≤8) (hx:0≤x):
 Calls prog 138 #[.slice (some ⟨g,off,none⟩) n cap,.int .u64 x] w fun e w'=>
  e=.returned (.tuple #[])∧w'=w.setRow g (Iv .u8 (pF9 l off (fun i=>x / 256^i%256) n)):=by
 go_enter func138,ntmps138
 go_wp2
 go_loopw [7] (fun i wr=>∃k:Nat,k≤n∧i=.int .i64 k∧wr=w.setRow g (Iv .u8 (pF9 l off (fun i=>x / 256^i%256) k))) (fun i _=>n - (intOf i).toNat)
 case atStart=>
  refine⟨0,Nat.zero_le _,rfl,?_⟩
  rw[bV,gZ w g _ _ _ hg]
 case round=>
  obtain⟨k,hk,rfl,rfl⟩:=hrel
  by_cases hlt:k<n
  ·have ho:∃v,(w.setRow g (Iv .u8 (pF9 l off (fun i=>x / 256^i%256) k))).cell? ⟨g,off+k,none⟩=some v:=by
    rw[eN _ _ _ _ _ _ _ hg]
    exact lK _ _ _ (by rw[aR _ _ _ _ (by omega)];omega)
   obtain⟨v,hv⟩:=ho
   have hf:(w.setRow g (Iv .u8 (pF9 l off (fun i=>x / 256^i%256) k))).frozen? ⟨g,off+k,none⟩=false:=by rw[hU];exact frozen_of_row _ _ _ _ _ hg
   go_wp2
   go_roundw
   case rel=>exact⟨k+1,by omega,by go_num,by rw[aL,bR,acV,bJ l off (fun i=>x / 256^i%256) k (by omega)]⟩
   case measure=>simp[intOf];omega
  ·obtain rfl:k=n:=by omega
   go_wp2
   go_end0
   exact⟨rfl,rfl⟩
theorem aaT:prog.follows .mixedOrders=true:=by kernel_rfl
theorem AU:(prog.info? 27).map (·.size)=some 16:=by kernel_rfl
theorem A4:∀W,(zeroValue 27).run prog W=.ok (.agg (Iv .u8 (aA 16))) W:=(zero_of_info (n:=16) (by kernel_rfl)).1
theorem XW (n m:Nat):pF9 (pF9 (aA 16) 0 (fun i=>(n:Int) / 256^i%256) 8) 8 (fun i=>(m:Int) / 256^i%256) 8=AP n++AP m:=by
 simp[pF9,aA,AP,List.range_succ,List.range_zero]
def D3 (A B C:List Int):Nat→List Int
 | 0=>A
 | 1=>B
 | _=>C
def D4 (a b c:Nat):Nat→Nat
 | 0=>a
 | 1=>b
 | _=>c
theorem OD (E H L:List Int) (hL:L.length=16):DQ (D3 E H L) 3=gN E++(gN H++L):=by
 have:gN L=L:=by unfold gN mH;rw[hL];simp
 simp[DQ,D3,this,List.append_assoc]
theorem abV (n j:Nat) (h:j<n):(Iv .u8 (aA n))[j]? =some (.int .u8 0):=by simp[Iv,aA,h]
theorem rK (K zs:List Int):(hJ K zs).length=16:=by simp[hJ,gG]
def FP (f:Nat):Prop:=∀(K zs:List Int) (b cap:Nat) (W:World),K.length=32→aE K→aE zs→zs.length≤200000→zs.length≤cap→cap≤9223372036854775807→Sl W b 0 zs→
 Calls prog f #[.agg (Iv .u8 K),.slice (some ⟨b,0,none⟩) zs.length cap] W fun e w'=>e=.returned (.agg (Iv .u8 (hJ K zs)))∧Below W.heap.size W w'
set_option maxRecDepth 10000 in
set_option maxHeartbeats 1000000 in
theorem MX (HPO:Hid (FP 140)) (key nonce:List Int) (hk:key.length=32) (hr:nonce.length=12) (B:Nat→List Int) (hB:∀i,(B i).length=64) (HC:Hid (zN 139 key nonce B jO)) (hBb:∀i,aE (B i))
 (H E:List Int) (n m:Nat) (hn:H.length=n) (hm:E.length=m) (hn2:n≤65536) (hm2:m≤65536) (hHb:aE H) (hEb:aE E) (hg ho hc eg eo ec:Nat) (w:World) (HSH:Hid (Sl w hg ho H)) (HSE:Hid (Sl w eg eo E)) (HT:Hid (jO w))
 (T:List Int) (hT:Hid (OP B E H=T)):
 Calls prog 128 #[.agg (Iv .u8 key),.agg (Iv .u8 nonce),.slice (some ⟨hg,ho,none⟩) n hc,.slice (some ⟨eg,eo,none⟩) m ec] w fun e w'=>e=.returned (.agg (Iv .u8 T))∧Below w.heap.size w w':=by
 have hzv:=A4
 have hzw:=A6
 have hi32:Hid ((prog.info? 22).map (·.size)=some (Iv .u8 key).size):=by show _=_;rw[aC,hk];exact rY
 have hi12:Hid ((prog.info? 24).map (·.size)=some (Iv .u8 nonce).size):=by show _=_;rw[aC,hr];exact uU
 have hi64:Hid (∀l:List Int,l.length=64→(prog.info? 147).map (·.size)=some (Iv .u8 l).size):=fun l hl=>by rw[aC,hl];exact AV
 have hi16:Hid (∀l:List Int,l.length=16→(prog.info? 27).map (·.size)=some (Iv .u8 l).size):=fun l hl=>by rw[aC,hl];exact AU
 have hz64:Hid (∀l:List Int,l.length=64→(Iv .u8 (aA 64)).size=(Iv .u8 l).size):=fun l hl=>by rw[aC,aC,hl];simp[aA]
 go_enter func128,ntmps128
 go_wp2_with fail
 obtain⟨W,hW,g0,g1,g2,g3,hs,hBW⟩:=qJ w (.cells (Iv .u8 key) 22) (.cells (Iv .u8 nonce) 24) (.cells (Iv .u8 (aA 16)) 27) (.cells (Iv .u8 (aA 16)) 27)
 rw[hW]
 clear hW
 refine(eD (w.heap.size+1+1+1) 0 8 16 27 (aA 16) m W g3 (by decide) (by decide) (by omega)).mono ?_
 rintro e W1 ⟨rfl,hW1⟩
 have q3:W1.heap[w.heap.size+1+1+1]? =some (.cells (Iv .u8 (pF9 (aA 16) 0 (fun i=>(m:Int) / 256^i%256) 8)) 27):=by rw[hW1];exact setRow_heap _ _ _ _ _ _ g3
 have q0:W1.heap[w.heap.size]? =some (.cells (Iv .u8 key) 22):=by rw[hW1,cE _ _ _ _ (by omega)];exact g0
 have q1:W1.heap[w.heap.size+1]? =some (.cells (Iv .u8 nonce) 24):=by rw[hW1,cE _ _ _ _ (by omega)];exact g1
 have q2:W1.heap[w.heap.size+1+1]? =some (.cells (Iv .u8 (aA 16)) 27):=by rw[hW1,cE _ _ _ _ (by omega)];exact g2
 have qs:W1.heap.size=w.heap.size+1+1+1+1:=by rw[hW1];simp[hs]
 have qB:Hid (Below w.heap.size w W1):=by show Below _ _ _;rw[hW1];exact aO hBW _ (by omega) _
 have Q3:Hid _:=q3
 clear hW1 g0 g1 g2 g3 hBW hs
 go_wp2_with fail
 refine(eD (w.heap.size+1+1+1) 8 8 8 27 _ n W1 Q3.out (by rw[aR _ _ _ _ (by simp[aA])];simp[aA]) (by decide) (by omega)).mono ?_
 rintro e W2 ⟨rfl,hW2⟩
 rw[XW]at hW2
 have r3:W2.heap[w.heap.size+1+1+1]? =some (.cells (Iv .u8 (AP m++AP n)) 27):=by rw[hW2];exact setRow_heap _ _ _ _ _ _ Q3.out
 have r0:W2.heap[w.heap.size]? =some (.cells (Iv .u8 key) 22):=by rw[hW2,cE _ _ _ _ (by omega)];exact q0
 have r1:W2.heap[w.heap.size+1]? =some (.cells (Iv .u8 nonce) 24):=by rw[hW2,cE _ _ _ _ (by omega)];exact q1
 have r2:W2.heap[w.heap.size+1+1]? =some (.cells (Iv .u8 (aA 16)) 27):=by rw[hW2,cE _ _ _ _ (by omega)];exact q2
 have rs:W2.heap.size=w.heap.size+1+1+1+1:=by rw[hW2];simp[qs]
 have RB:Hid (Below w.heap.size w W2):=by show Below _ _ _;rw[hW2];exact aO qB.out _ (by omega) _
 have R0:Hid _:=r0
 have R1:Hid _:=r1
 have R2:Hid _:=r2
 have R3:Hid _:=r3
 clear hW2 q0 q1 q2 q3 Q3 qs qB r0 r1 r2 r3
 go_wp2_with(with_reducible refine aI ?_;first
  | refine wpLr rfl 22 _ rfl w.heap.size rfl _ (Iv .u8 key) _ _ R0.out underlying22 rfl hi32.out ?_
  | refine wpLr rfl 24 _ rfl (w.heap.size+1) rfl _ (Iv .u8 nonce) _ _ R1.out underlying24 rfl hi12.out ?_)
 refine(HC.out 0 W2 (by decide) (jO.later HT.out RB.out (nQ _))).mono ?_
 rintro e w3 ⟨rfl,hb3⟩
 have hs3:=hb3.size
 have K3:Hid ((w3.alloc (.cells (Iv .u8 (aA 64)) 147)).heap[w3.heap.size]? =some (.cells (Iv .u8 (aA 64)) 147)):=hAN _ _
 go_wp2_with(with_reducible refine aI ?_;refine wpPr rfl 147 _ _ rfl w3.heap.size (Iv .u8 (B 0)) rfl rfl _ _ K3.out (hi64.out _ (hB _)) (hz64.out _ (hB _)) (aH _ _) (fun X hX=>sH ?_))
 refine aG ?_
 have xs:X.heap.size=w3.heap.size+1:=by rw[hX.size];simp
 have X10:Hid (X.heap[w3.heap.size]? =some (.cells (Iv .u8 (B 0)) 147)):=hX.here
 have X2:Hid (X.heap[w.heap.size+1+1]? =some (.cells (Iv .u8 (aA 16)) 27)):=(hX.far _ (by omega)).trans ((hAO _ _ (by omega)).trans ((hb3.block _ (by omega)).trans R2.out))
 have X3:Hid (X.heap[w.heap.size+1+1+1]? =some (.cells (Iv .u8 (AP m++AP n)) 27)):=(hX.far _ (by omega)).trans ((hAO _ _ (by omega)).trans ((hb3.block _ (by omega)).trans R3.out))
 have XB:Hid (Below w.heap.size w X):=hX.below _ _ ((RB.out.trans (hb3.mono (by omega))).alloc (by omega) _) (by omega)
 obtain⟨gb,egb⟩:∃x,x=w3.heap.size:=⟨_,rfl⟩
 rw[←egb]at X10 xs hs3⊢
 clear egb hX hb3 K3 R0 R1 R2 R3 RB hzv hzw
 have S0:∃x:J9 X.heap.size X,X.drew=x.w:=⟨⟨X.drew,bDr (Below.refl _ _) 1⟩,rfl⟩
 go_wp2_with fail
 refine wRl2 6 9 (fun w'=>∃x:J9 X.heap.size X,w'=x.w) [(.held,[0,1,2]),(.exact,[3,4,5]),(.tail,[6]),(.tail,[7]),(.tail,[8]),(.last,[9])] aaT (by kernel_rfl) S0 ?_
 simp only[jM,oS]
 obtain⟨K,eK⟩:∃K,K=(B 0).take 32:=⟨_,rfl⟩
 have hk32:K.length=32:=by rw[eK,List.length_take,hB];rfl
 have hKb:aE K:=by rw[eK];exact eM (hBb 0) 32
 have HT2:Hid (hJ K (tR E H)=T):=by show _=_;rw[eK];exact hT.out
 have HRG:Hid (∀W,(∃x:J9 X.heap.size X,W=x.w)→W.rangeAt gb 0 (K.map (Value.int .u8))):=fun W hW=>by
  obtain⟨x,rfl⟩:=hW
  rw[eK]
  have h:=fE (l:=(B 0).map (Value.int .u8)) ((x.bel.block _ (by omega)).trans X10.out) 0 32
  simpa[List.map_take]using h
 refine aD rfl (.slice (some ⟨gb,0,none⟩) 32 64) (fun w=>by kernel_rfl) ?_
 simp only[pS]
 refine aD rfl (.pointer (some ⟨gb,0,none⟩)) (fun w=>by kernel_rfl) ?_
 simp only[pS]
 refine wqLm rfl 22 _ rfl gb 0 rfl (K.map (Value.int .u8)) _ HRG.out underlying22 rfl (by rw[lU,hk32];exact rY) ?_
 rw[show(K.map (Value.int .u8)).toArray=Iv .u8 K from rfl]
 clear eK HRG
 simp only[pS]
 refine wqN ?_
 repeat(go_big_quiet_step (fail))
 refine wqN ?_
 go_wp2_with fail
 obtain⟨Y,hY⟩:∃Y,Y=(X.alloc (.cells #[.slice (some ⟨eg,eo,none⟩) m ec,.slice (some ⟨hg,ho,none⟩) n hc,.slice (some ⟨w.heap.size+1+1+1,0,none⟩) 16 16] 48)).drew:=⟨_,rfl⟩
 have hS1:Hid (Below X.heap.size X Y):=by show Below _ _ _;rw[hY];exact bDr ((Below.refl _ _).alloc (nQ _) _) 1
 have hgp:Hid (Y.heap[gb+1]? =some (.cells #[.slice (some ⟨eg,eo,none⟩) m ec,.slice (some ⟨hg,ho,none⟩) n hc,.slice (some ⟨w.heap.size+1+1+1,0,none⟩) 16 16] 48)):=by show _=_;rw[hY,←xs];exact hAN X _
 have hsx:gb+1<Y.heap.size:=by rw[hY];simp;omega
 rw[←hY]
 clear hY
 refine⟨⟨⟨_,hS1.out⟩,rfl⟩,?_⟩
 go_wp2_with fail
 have YB:Hid (Below w.heap.size w Y):=XB.out.trans (hS1.out.mono (by omega))
 have Y3:=Sl.of_row ((hS1.out.block _ (by omega)).trans X3.out)
 refine(OE (D3 E H (AP m++AP n)) (D4 m n 16) (D4 eg hg (w.heap.size+1+1+1)) (D4 eo ho 0) (D4 ec hc 16) ?_ ?_ (gb+1) (w.heap.size+1+1) Y hsx ?_ ?_ ?_ (by omega)).mono ?_
 ·intro k hk;match k,hk with|0,_=>exact hm|1,_=>exact hn|2,_=>simp[D3,D4,fG]
 ·intro k hk;match k,hk with|0,_=>exact hm2|1,_=>exact hn2|2,_=>show(16:Nat)≤65536;decide
 ·show∀k,k<3→_
  intro k hk
  rw[cell_of_row _ _ _ _ _ _ hgp.out]
  match k,hk with|0,_=>rfl|1,_=>rfl|2,_=>rfl
 ·show∀k,k<3→_
  intro k hk
  match k,hk with|0,_=>exact Sl.later HSE.out YB.out HSE.out.1|1,_=>exact Sl.later HSH.out YB.out HSH.out.1|2,_=>exact Y3
 ·show∀j,j<16→_
  intro j hj
  rw[cell_of_row _ _ _ _ _ _ ((hS1.out.block _ (by omega)).trans X2.out)]
  exact abV 16 j hj
 rintro e Y1 ⟨v,rfl,ho1,hb1⟩
 rw[OD E H (AP m++AP n) (by simp[fG])]at ho1
 have hmac:gN E++(gN H++(AP m++AP n))=tR E H:=by unfold tR;rw[hn,hm]
 rw[hmac]at ho1
 have hml:(tR E H).length≤200000:=by rw[p9];have:=nL E.length;have:=nL H.length;omega
 have hml0:0<(tR E H).length:=by rw[p9];omega
 have hmb:=DG hEb hHb
 have hT2:hJ K (tR E H)=T:=HT2.out
 clear hmac hT HT2
 obtain⟨D,hD⟩:∃D,D=tR E H:=⟨_,rfl⟩
 rw[←hD]at ho1 hml hml0 hmb hT2
 clear hD
 obtain⟨dl,hdl⟩:∃dl,dl=D.length:=⟨_,rfl⟩
 rw[←hdl]at hml hml0
 have HDL:Hid _:=hdl
 obtain⟨gd,cd,rfl,hgd,hcd,hcd2,hgd2,_⟩:∃g cap,v=.slice (some ⟨g,0,none⟩) dl cap∧Y.heap.size≤g∧dl≤cap∧cap≤9223372036854775807∧g<Y1.heap.size∧v.ownBlock=some g:=by
  obtain⟨_,⟨_,h0⟩|⟨g,cap,cur,rfl,hg,hh,hc,hmx,hs,ht⟩⟩:=ho1
  ·omega
  ·exact⟨g,cap,by rw[hdl],hg,by omega,by unfold maxLen at hmx;omega,(Array.getElem?_eq_some_iff.1 hh).1,rfl⟩
 clear hdl
 have KS:Hid (Sl Y1 gd 0 D):=Sl.of_own ho1
 have KB:Hid (Below Y.heap.size Y Y1):=hb1
 have KX:Hid (Below X.heap.size X Y1):=hS1.out.trans (hb1.mono (by have:=hS1.out.size;omega))
 have HKP:Hid _:=HPO.out K D gd cd Y1 hk32 hKb hmb (by rw[←HDL.out];exact hml) (by rw[←HDL.out];exact hcd) hcd2 KS.out
 rw[hT2,←HDL.out]at HKP
 have hTl:T.length=16:=by rw[←hT2];exact rK _ _
 clear ho1 hb1 hk32 hT2 hmb HDL KS
 go_wp2_with fail
 refine⟨⟨⟨_,KX.out⟩,rfl⟩,?_⟩
 go_wp2_with fail
 refine Calls.mono HKP.out ?_
 rintro e Y2 ⟨rfl,hb2⟩
 have KX2:Hid (Below X.heap.size X Y2):=KX.out.trans (hb2.mono KX.out.size)
 clear hb2 HKP
 go_wp2_with fail
 refine⟨⟨⟨_,KX2.out⟩,rfl⟩,?_⟩
 have Z2:Hid _:=(KX2.out.block (w.heap.size+1+1) (by omega)).trans X2.out
 have ZB:Hid (Below w.heap.size w Y2):=XB.out.trans (KX2.out.mono (by omega))
 refine wpPr rfl 27 (.tmp 8) (.tmp 32) rfl (w.heap.size+1+1) (Iv .u8 T) rfl rfl _ _ Z2.out (hi16.out T hTl) (by rw[aC,aC,hTl];simp[aA]) (aH _ _) ?_
 intro W9 hP9
 simp only[Act.put]
 have h9:=hP9.here
 have BW9:Below w.heap.size w W9:=hP9.below _ _ ZB.out (by omega)
 clear hP9 Z2 ZB KX2 KX KB
 have H9:Hid _:=h9
 have B9:Hid _:=BW9
 clear h9 BW9
 go_wp2_with fail
 refine mV ?_
 clear XB X2 X3 X10 S0 hS1 hgp YB Y3
 go_wp2
 exact bodyPost_ret (v:=.agg (Iv .u8 T)) (results_cell_row rfl _ _ _ _ (Iv .u8 T) _ _ rfl H9.out underlying27 rfl (hi16.out T hTl)) rfl ⟨rfl,B9.out⟩
set_option maxRecDepth 10000 in
set_option maxHeartbeats 2000000 in
theorem RN (HPO:Hid (FP 84)) (key nonce:List Int) (hk:key.length=32) (hr:nonce.length=12) (B:Nat→List Int) (hB:∀i,(B i).length=64) (HC:Hid (zN 81 key nonce B (fun _=>True))) (hBb:∀i,aE (B i))
 (H E:List Int) (n m:Nat) (hn:H.length=n) (hm:E.length=m) (hn2:n≤65536) (hm2:m≤65536) (hHb:aE H) (hEb:aE E) (hg ho hc eg eo ec:Nat) (w:World) (HSH:Hid (Sl w hg ho H)) (HSE:Hid (Sl w eg eo E))
 (T:List Int) (hT:Hid (OP B E H=T)):
 Calls prog 60 #[.agg (Iv .u8 key),.agg (Iv .u8 nonce),.slice (some ⟨hg,ho,none⟩) n hc,.slice (some ⟨eg,eo,none⟩) m ec] w fun e w'=>e=.returned (.agg (Iv .u8 T))∧Below w.heap.size w w':=by
 have hzv:=A4
 have hzw:=A6
 have hi32:Hid ((prog.info? 22).map (·.size)=some (Iv .u8 key).size):=by show _=_;rw[aC,hk];exact rY
 have hi12:Hid ((prog.info? 24).map (·.size)=some (Iv .u8 nonce).size):=by show _=_;rw[aC,hr];exact uU
 have hi64:Hid (∀l:List Int,l.length=64→(prog.info? 147).map (·.size)=some (Iv .u8 l).size):=fun l hl=>by rw[aC,hl];exact AV
 have hi16:Hid (∀l:List Int,l.length=16→(prog.info? 27).map (·.size)=some (Iv .u8 l).size):=fun l hl=>by rw[aC,hl];exact AU
 have hz64:Hid (∀l:List Int,l.length=64→(Iv .u8 (aA 64)).size=(Iv .u8 l).size):=fun l hl=>by rw[aC,aC,hl];simp[aA]
 have hz16:Hid (∀l:List Int,l.length=16→(Iv .u8 (aA 16)).size=(Iv .u8 l).size):=fun l hl=>by rw[aC,aC,hl];simp[aA]
 obtain⟨W,hW,g0,g1,g2,hs,hBW⟩:=oW w (.cells (Iv .u8 key) 22) (.cells (Iv .u8 nonce) 24) (.cells (Iv .u8 (aA 16)) 27)
 have HW:Hid _:=hW
 have G0:Hid _:=g0
 have G1:Hid _:=g1
 have G2:Hid _:=g2
 have GB:Hid _:=hBW
 clear hW g0 g1 g2 hBW
 go_enter func60,ntmps60
 go_wp2_with(rw[HW.out];refine sH ?_)
 refine aG ?_
 clear hzv HW
 go_wp2_with(with_reducible refine aI ?_;first
  | refine wpLr rfl 22 _ rfl w.heap.size rfl _ (Iv .u8 key) _ _ G0.out underlying22 rfl hi32.out ?_
  | refine wpLr rfl 24 _ rfl (w.heap.size+1) rfl _ (Iv .u8 nonce) _ _ G1.out underlying24 rfl hi12.out ?_)
 refine(HC.out 0 W (by decide) trivial).mono ?_
 rintro e w3 ⟨rfl,hb3⟩
 have hs3:=hb3.size
 have K3:Hid ((w3.alloc (.cells (Iv .u8 (aA 64)) 147)).heap[w3.heap.size]? =some (.cells (Iv .u8 (aA 64)) 147)):=hAN _ _
 go_wp2_with(with_reducible refine aI ?_;refine wpPr rfl 147 _ _ rfl w3.heap.size (Iv .u8 (B 0)) rfl rfl _ _ K3.out (hi64.out _ (hB _)) (hz64.out _ (hB _)) (aH _ _) (fun X hX=>sH ?_))
 refine aG ?_
 have xs:X.heap.size=w3.heap.size+1:=by rw[hX.size];simp
 have X10:Hid (X.heap[w3.heap.size]? =some (.cells (Iv .u8 (B 0)) 147)):=hX.here
 have X2:Hid (X.heap[w.heap.size+1+1]? =some (.cells (Iv .u8 (aA 16)) 27)):=(hX.far _ (by omega)).trans ((hAO _ _ (by omega)).trans ((hb3.block _ (by omega)).trans G2.out))
 have XB:Hid (Below w.heap.size w X):=hX.below _ _ ((GB.out.trans (hb3.mono (by omega))).alloc (by omega) _) (by omega)
 obtain⟨gb,egb⟩:∃x,x=w3.heap.size:=⟨_,rfl⟩
 rw[←egb]at X10 xs hs3⊢
 clear egb hX hb3 K3 G0 G1 G2 GB hzw
 have XE:Hid _:=Sl.later HSE.out XB.out HSE.out.1
 have XH:Hid _:=Sl.later HSH.out XB.out HSH.out.1
 have hxw:=XB.out.size
 go_wp2_with fail
 refine(DA E m hm (by omega) eg eo ec X XE).mono ?_
 rintro e w4 ⟨v4,rfl,o4,n4,b4⟩
 obtain⟨g4,c4,rfl,hg4,_,_,hl4,_⟩:=pJ o4 n4
 have S4:Hid _:=Sl.of_own o4
 have B4:Hid (Below X.heap.size X w4):=b4
 have XH4:Hid _:=Sl.later XH.out b4 XH.out.1
 clear o4 n4 b4
 rw[iU,hm]
 go_wp2_with fail
 refine(DA H n hn (by omega) hg ho hc w4 XH4).mono ?_
 rintro e w5 ⟨v5,rfl,o5,n5,b5⟩
 obtain⟨g5,c5,rfl,hg5,_,_,hl5,_⟩:=pJ o5 n5
 have S5:Hid _:=Sl.of_own o5
 have S4':Hid _:=Sl.later S4.out b5 hl4
 have B5:Hid (Below X.heap.size X w5):=B4.out.trans (b5.mono B4.out.size)
 clear o5 n5 b5 S4 B4 XH4
 rw[iU,hn]
 go_wp2_with fail
 have hfm:=nL m
 have hfn:=nL n
 refine(UZ g4 0 c4 g5 0 c5 (gN E) (gN H) (m+mH m) (n+mH n) (by rw[iU,hm]) (by rw[iU,hn]) (by omega) w5 S4'.out S5.out).mono ?_
 rintro e w6 ⟨v6,rfl,o6,b6⟩
 have O6:Hid (bX .u8 5 X.heap.size w6 v6 (gN E++gN H)):=bX.mono o6 B5.out.size
 have B6:Hid (Below X.heap.size X w6):=B5.out.trans (b6.mono B5.out.size)
 clear o6 b6 S4' S5 B5
 go_wp2_with fail
 refine(zZ m (by omega) w6).mono ?_
 rintro e w7 ⟨v7,rfl,o7,b7⟩
 obtain⟨g7,c7,rfl,hg7,_,_,hl7,_⟩:=DP o7 (by rw[fG];decide)
 have S7:Hid _:=Sl.of_own o7
 have O7:Hid _:=bX.later O6.out b7
 have B7:Hid (Below X.heap.size X w7):=B6.out.trans (b7.mono B6.out.size)
 have hs7:=B7.out.size
 clear o7 b7 O6 B6
 rw[fG]
 have hlF:Hid ((gN E++gN H).length≤200000):=by show _≤_;rw[lQ,iU,iU,hm,hn];omega
 go_wp2_with(at_builtin;refine cU .u8 48 5 1 underlying48 mS (by decide) rfl (.tmp 19) (.tmp 22) rfl X.heap.size X w7 _ (gN E++gN H) g7 0 8 c7 (AP m) (fG m) rfl rfl O7.out B7.out hs7 (by have:=hlF.out;omega) (fun j hj=>S7.out.2 j (by rw[fG];exact hj)) ?_;intro v8 w8 o8 b8 _ _;refine sH ?_)
 refine aG ?_
 have O8:Hid _:=o8
 have B8:Hid _:=b8
 have hs8:=b8.size
 clear o8 b8 O7 B7 S7
 go_wp2_with fail
 refine(zZ n (by omega) w8).mono ?_
 rintro e w9 ⟨v9,rfl,o9,b9⟩
 obtain⟨g9,c9,rfl,hg9,_,_,hl9,_⟩:=DP o9 (by rw[fG];decide)
 have S9:Hid _:=Sl.of_own o9
 have O9:Hid _:=bX.later O8.out b9
 have B9:Hid (Below X.heap.size X w9):=B8.out.trans (b9.mono B8.out.size)
 have hs9:=B9.out.size
 clear o9 b9 O8 B8
 rw[fG]
 have hlG:Hid ((gN E++gN H++AP m).length≤200100):=by show _≤_;rw[lQ,fG];have:=hlF.out;omega
 go_wp2_with(at_builtin;refine cU .u8 48 5 1 underlying48 mS (by decide) rfl (.tmp 24) (.tmp 27) rfl X.heap.size X w9 _ (gN E++gN H++AP m) g9 0 8 c9 (AP n) (fG n) rfl rfl O9.out B9.out hs9 (by have:=hlG.out;omega) (fun j hj=>S9.out.2 j (by rw[fG];exact hj)) ?_;intro v10 w10 o10 b10 _ _;refine sH ?_)
 refine aG ?_
 have hmac:gN E++gN H++AP m++AP n=tR E H:=by unfold tR;rw[hn,hm];simp[List.append_assoc]
 rw[hmac]at o10
 have hml:(tR E H).length≤200000:=by rw[p9];have:=nL E.length;have:=nL H.length;omega
 have hml0:0<(tR E H).length:=by rw[p9];omega
 have hmb:=DG hEb hHb
 obtain⟨K,eK⟩:∃K,K=(B 0).take 32:=⟨_,rfl⟩
 have hk32:K.length=32:=by rw[eK,List.length_take,hB];rfl
 have hKb:aE K:=by rw[eK];exact eM (hBb 0) 32
 have hT2:hJ K (tR E H)=T:=by rw[eK];exact hT.out
 have hTl:T.length=16:=by rw[←hT2];exact rK _ _
 have SK:Hid (Sl w10 gb 0 K):=by show Sl _ _ _ _;rw[eK];exact Sl.take (Sl.of_row ((b10.block gb (by omega)).trans X10.out)) 32
 clear hmac hT eK
 obtain⟨D,hD⟩:∃D,D=tR E H:=⟨_,rfl⟩
 rw[←hD]at o10 hml hml0 hmb hT2
 clear hD
 obtain⟨gd,cd,rfl,hgd,hcd,hcd2,hgd2,_⟩:=DP o10 hml0
 have SD:Hid _:=Sl.of_own o10
 have B10:Hid _:=b10
 have hs10:=b10.size
 obtain⟨dl,hdl⟩:∃dl,dl=D.length:=⟨_,rfl⟩
 rw[←hdl]at hml hml0 hcd⊢
 have HDL:Hid _:=hdl
 clear hdl o10 b10 O9 B9 S9
 go_wp2_with fail
 refine(CZ K hk32 gb 0 64 w10 SK.out.1 (fun j hj=>SK.out.2 j (by rw[hk32];exact hj))).mono ?_
 rintro e w11 ⟨rfl,b11⟩
 have SD11:Hid (Sl w11 gd 0 D):=Sl.later SD.out b11 SD.out.1
 have B11:Hid (Below X.heap.size X w11):=B10.out.trans (b11.mono B10.out.size)
 clear b11 SD B10 SK
 have HKP:Hid _:=HPO.out K D gd cd w11 hk32 hKb hmb (by rw[←HDL.out];exact hml) (by rw[←HDL.out];exact hcd) hcd2 SD11.out
 rw[hT2,←HDL.out]at HKP
 clear hT2 hmb HDL SD11
 go_wp2_with fail
 refine Calls.mono HKP.out ?_
 rintro e w12 ⟨rfl,b12⟩
 have B12:Below X.heap.size X w12:=B11.out.trans (b12.mono B11.out.size)
 have Z2:Hid _:=(B12.block (w.heap.size+1+1) (by omega)).trans X2.out
 have ZB:Hid (Below w.heap.size w w12):=XB.out.trans (B12.mono (by omega))
 clear B12 b12 HKP
 go_wp2_with(with_reducible refine aI ?_;refine wpPr rfl 27 _ _ rfl (w.heap.size+1+1) (Iv .u8 T) rfl rfl _ _ Z2.out (hi16.out T hTl) (hz16.out T hTl) (aH _ _) (fun W9 hP9=>sH ?_))
 refine aG ?_
 have H9:Hid _:=hP9.here
 have BW9:Hid (Below w.heap.size w W9):=hP9.below _ _ ZB.out (by omega)
 clear hP9 Z2 ZB X2 X10 XB XE XH
 go_wp2
 exact bodyPost_ret (v:=.agg (Iv .u8 T)) (results_cell_row rfl _ _ _ _ (Iv .u8 T) _ _ rfl H9.out underlying27 rfl (hi16.out T hTl)) rfl ⟨rfl,BW9.out⟩
end Go.Proofs.YtgcepckaolkeoaaGreatDoor
