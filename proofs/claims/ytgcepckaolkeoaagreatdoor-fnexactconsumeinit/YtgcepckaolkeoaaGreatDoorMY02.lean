import Derived.Test.YtgcepckaolkeoaaGreatDoorMY01
import Derived.ShutString
import Derived.ChangeOld
import Derived.Below
namespace Go.Proofs.YtgcepckaolkeoaaGreatDoor
open Go.RowKit
open Go.Proofs.Tryz
open Go.ChangeShapes Go.WideShapes Go.ChangeAt Go.RowKit
open Go renaming heap_alloc_new → hAN, heap_alloc_old → hAO, rounds_succ → rdS, wpList_load_row → wpLr, wpQuiet_nil → wqN
open List renaming drop_succ_cons → dJ, drop_zero → dY, length_append → lQ, length_map → lU, length_set → lJ, replicate → rQ, take_succ_cons → tU, take_zero → tJ
open Nat renaming le_refl → nQ, le_trans → nU, lt_of_lt_of_le → nJ
set_option linter.unusedVariables false
theorem acX:prog.follows .mixedOrders=true:=by kernel_rfl
theorem abT (a:Option Addr) (cap:Nat) (w:World):Calls prog 142 #[.slice a 0 cap] w fun e w'=>e=.returned (.int .u32 0)∧w'=w:=by
 go_enter func142,ntmps142
 go_wp2
 go_ret
 exact⟨rfl,rfl⟩
theorem afM (b o cap:Nat) (z0:Int) (w:World) (h0:0≤z0) (g0:z0≤255) (c0:w.cell? ⟨b,o,none⟩=some (.int .u8 z0)):
 Calls prog 142 #[.slice (some ⟨b,o,none⟩) 1 cap] w fun e w'=>e=.returned (.int .u32 z0)∧w'=w:=by
 have h1:bits .or .u32 0 z0=z0:=by rw[qQ 0 0 z0 (by decide) h0 (by omega) (by omega) (by omega) (by decide)];omega
 go_enter func142,ntmps142
 go_wp2
 go_ret
 exact⟨rfl,rfl⟩
theorem afN (b o cap:Nat) (z0 z1:Int) (w:World) (h0:0≤z0) (g0:z0≤255) (h1:0≤z1) (g1:z1≤255) (c0:w.cell? ⟨b,o,none⟩=some (.int .u8 z0)) (c1:w.cell? ⟨b,o+1,none⟩=some (.int .u8 z1)):
 Calls prog 142 #[.slice (some ⟨b,o,none⟩) 2 cap] w fun e w'=>e=.returned (.int .u32 (z0+256*z1))∧w'=w:=by
 have e1:bits .or .u32 0 (z1*256)=z1*256:=by rw[qQ 0 0 _ (by decide) (by omega) (by omega) (by omega) (by omega) (by decide)];omega
 have e0:bits .or .u32 (z1*256) z0=z0+256*z1:=by rw[xB 8 (z1*256) z0 (by decide) (by omega) (by omega) (by omega) (by omega) (by omega)];omega
 go_enter func142,ntmps142
 go_wp2
 go_ret
 exact⟨rfl,rfl⟩
theorem afO (b o cap:Nat) (z0 z1 z2:Int) (w:World) (h0:0≤z0) (g0:z0≤255) (h1:0≤z1) (g1:z1≤255) (h2:0≤z2) (g2:z2≤255) (c0:w.cell? ⟨b,o,none⟩=some (.int .u8 z0)) (c1:w.cell? ⟨b,o+1,none⟩=some (.int .u8 z1)) (c2:w.cell? ⟨b,o+2,none⟩=some (.int .u8 z2)):
 Calls prog 142 #[.slice (some ⟨b,o,none⟩) 3 cap] w fun e w'=>e=.returned (.int .u32 (z0+256*z1+65536*z2))∧w'=w:=by
 have e2:bits .or .u32 0 (z2*65536)=z2*65536:=by rw[qQ 0 0 _ (by decide) (by omega) (by omega) (by omega) (by omega) (by decide)];omega
 have e1:bits .or .u32 (z2*65536) (z1*256)=z2*65536+z1*256:=xB 16 (z2*65536) (z1*256) (by decide) (by omega) (by omega) (by omega) (by omega) (by omega)
 have e0:bits .or .u32 (z2*65536+z1*256) z0=z0+256*z1+65536*z2:=by rw[xB 8 (z2*65536+z1*256) z0 (by decide) (by omega) (by omega) (by omega) (by omega) (by omega)];omega
 go_enter func142,ntmps142
 go_wp2
 go_ret
 exact⟨rfl,rfl⟩
theorem OC (ys:List Int) (m:Nat) (hm:ys.length=m) (hy:m≤3) (hz:aE ys) (b o cap:Nat) (w:World) (hc:∀i,i<m→w.cell? ⟨b,o+i,none⟩=some (.int .u8 (ys.getD i 0))):
 Calls prog 142 #[.slice (some ⟨b,o,none⟩) m cap] w fun e w'=>e=.returned (.int .u32 (aF ys 0))∧w'=w:=by
 have b0:=hz 0
 have b1:=hz 1
 have b2:=hz 2
 match ys,hm with
 | [],hm=>subst hm;exact abT _ _ _
 | [z0],hm=>
   subst hm
   have:=afM b o cap z0 w b0.1 b0.2 (hc 0 (by simp))
   simpa[aF]using this
 | [z0,z1],hm=>
   subst hm
   have:=afN b o cap z0 z1 w b0.1 b0.2 b1.1 b1.2 (hc 0 (by simp)) (hc 1 (by simp))
   simpa[aF]using this
 | [z0,z1,z2],hm=>
   subst hm
   have:=afO b o cap z0 z1 z2 w b0.1 b0.2 b1.1 b1.2 b2.1 b2.2 (hc 0 (by simp)) (hc 1 (by simp)) (hc 2 (by simp))
   simpa[aF]using this
 | _::_::_::_::_,hm=>simp at hm;omega
theorem GW (g off n cap:Nat) (te:TypeId) (l:List Int) (b o cap2:Nat) (zs:List Int) (w:World)
 (hg:w.heap[g]? =some (.cells (Iv .u32 l) te)) (hl:off+n≤l.length) (hn:n≤1000) (hbg:b≠g) (hz:aE zs) (hzn:zs.length≤4*n) (hpos:0<zs.length)
 (hc:∀i,i<zs.length→w.cell? ⟨b,o+i,none⟩=some (.int .u8 (zs.getD i 0))) (hcap:zs.length≤cap2) (hcap2:cap2≤9223372036854775807):
 Calls prog 130 #[.slice (some ⟨g,off,none⟩) n cap,.slice (some ⟨b,o,none⟩) zs.length cap2] w fun e w'=>
  e=.returned (.tuple #[])∧∃d,w'=(w.setRow g (Iv .u32 (pF9 l off (aF zs) (min (zs.length / 4+1) n)))).drewN d:=by
 have hwhole:zs.length / 4≤n:=by omega
 go_enter func130,ntmps130
 go_wp2
 go_loopw [10] (fun i wr=>∃k d:Nat,k≤zs.length / 4∧i=.int .i64 k∧wr=(w.setRow g (Iv .u32 (pF9 l off (aF zs) k))).drewN d) (fun i _=>zs.length / 4 - (intOf i).toNat)
 case atStart=>
  refine⟨0,0,Nat.zero_le _,rfl,?_⟩
  rw[bZ,iD w g _ _ _ hg]
  rfl
 case round=>
  obtain⟨k,d,hk,rfl,rfl⟩:=hrel
  by_cases hlt:k<zs.length / 4
  ·have d0:=hc (4*k) (by omega)
   have d1:=hc (4*k+1) (by omega)
   have d2:=hc (4*k+2) (by omega)
   have d3:=hc (4*k+3) (by omega)
   have hz0:=hz (4*k)
   have hz1:=hz (4*k+1)
   have hz2:=hz (4*k+2)
   have hz3:=hz (4*k+3)
   have hword:aF zs k=_:=rfl
   have HW:Hid (aF zs k=zs.getD (4*k) 0+256*zs.getD (4*k+1) 0+65536*zs.getD (4*k+2) 0+16777216*zs.getD (4*k+3) 0):=rfl
   clear hword
   generalize zs.getD (4*k) 0=z0 at*
   generalize zs.getD (4*k+1) 0=z1 at*
   generalize zs.getD (4*k+2) 0=z2 at*
   generalize zs.getD (4*k+3) 0=z3 at*
   have c0:(w.setRow g (Iv .u32 (pF9 l off (aF zs) k))).cell? ⟨b,o+4*k,none⟩=some (.int .u8 z0):=by rw[aZ _ _ _ _ hbg];exact d0
   have c1:(w.setRow g (Iv .u32 (pF9 l off (aF zs) k))).cell? ⟨b,o+(4*k+1),none⟩=some (.int .u8 z1):=by rw[aZ _ _ _ _ hbg];exact d1
   have c2:(w.setRow g (Iv .u32 (pF9 l off (aF zs) k))).cell? ⟨b,o+(4*k+2),none⟩=some (.int .u8 z2):=by rw[aZ _ _ _ _ hbg];exact d2
   have c3:(w.setRow g (Iv .u32 (pF9 l off (aF zs) k))).cell? ⟨b,o+(4*k+3),none⟩=some (.int .u8 z3):=by rw[aZ _ _ _ _ hbg];exact d3
   have hw:=Y8 z0 z1 z2 z3 hz0.1 hz0.2 hz1.1 hz1.2 hz2.1 hz2.2 hz3.1 hz3.2
   rw[←HW.out]at hw
   have HW2:Hid (_=_):=hw
   obtain⟨x0,y0⟩:=hz0
   obtain⟨x1,y1⟩:=hz1
   obtain⟨x2,y2⟩:=hz2
   obtain⟨x3,y3⟩:=hz3
   have ho:∃v,(w.setRow g (Iv .u32 (pF9 l off (aF zs) k))).cell? ⟨g,off+k,none⟩=some v:=by
    rw[eO _ _ _ _ _ _ _ hg]
    exact jW _ _ _ (by rw[aP _ _ _ _ (by omega)];omega)
   obtain⟨v,hv⟩:=ho
   have hf:(w.setRow g (Iv .u32 (pF9 l off (aF zs) k))).frozen? ⟨g,off+k,none⟩=false:=by rw[iF];exact frozen_of_row _ _ _ _ _ hg
   clear hw d0 d1 d2 d3 hc hz
   go_wp2
   refine wRh 36 acX (by kernel_rfl) ?_
   simp only[tU,tJ,dJ,dY]
   repeat(go_big_quiet_step (fail))
   refine wqN ?_
   go_wp2
   go_roundw
   case rel=>exact⟨k+1,d+1,by omega,by go_num,by rw[HW2.out,rL,aL,bN,bJ _ _ _ _ (by omega)]⟩
   case measure=>simp[intOf];omega
  ·obtain rfl:k=zs.length / 4:=by omega
   have hmin:min (zs.length / 4+1) n=if zs.length / 4<n then zs.length / 4+1 else zs.length / 4:=by split<;>omega
   have HM:Hid (_=_):=hmin
   clear hmin
   by_cases hm:zs.length / 4<n
   ·have ho:∃v,(w.setRow g (Iv .u32 (pF9 l off (aF zs) (zs.length / 4)))).cell? ⟨g,off+zs.length / 4,none⟩=some v:=by
     rw[eO _ _ _ _ _ _ _ hg]
     exact jW _ _ _ (by rw[aP _ _ _ _ (by omega)];omega)
    obtain⟨v,hv⟩:=ho
    have hf:(w.setRow g (Iv .u32 (pF9 l off (aF zs) (zs.length / 4)))).frozen? ⟨g,off+zs.length / 4,none⟩=false:=by rw[iF];exact frozen_of_row _ _ _ _ _ hg
    have hcd:∀i,i<zs.length - 4*(zs.length / 4)→(w.setRow g (Iv .u32 (pF9 l off (aF zs) (zs.length / 4)))).cell? ⟨b,o+4*(zs.length / 4)+i,none⟩=some (.int .u8 ((zs.drop (4*(zs.length / 4))).getD i 0)):=by
     intro i hi
     rw[aZ _ _ _ _ hbg]
     have:=hc (4*(zs.length / 4)+i) (by omega)
     rw[Nat.add_assoc,this]
     simp only[List.getD_eq_getElem?_getD,List.getElem?_drop]
    have HC:Hid (∀i,_):=hcd
    have HZ:Hid (aE _):=cE hz (4*(zs.length / 4))
    clear hc hz hcd
    go_wp2_with fail
    ·refine(OC [] (zs.length - 4*(zs.length / 4)) (by simp<;>omega) (by omega) (by intro i;simp) b o 0 _ (by intro i hi;omega)).mono ?_
     rintro e w1 ⟨rfl,rfl⟩
     have hnil:zs.drop (4*(zs.length / 4))=[]:=List.drop_eq_nil_of_le (by omega)
     have hw0:aF [] 0=aF zs (zs.length / 4):=by rw[←BL zs,hnil]
     rw[hw0]
     clear hw0 hnil
     go_wp2
     go_end0
     refine⟨rfl,d,?_⟩
     rw[HM.out,if_pos hm,rL,aL,bN,bJ _ _ _ _ (by omega)]
    ·refine(OC (zs.drop (4*(zs.length / 4))) _ (by simp) (by omega) HZ.out b (o+4*(zs.length / 4)) _ _ (by exact HC.out)).mono ?_
     rintro e w1 ⟨rfl,rfl⟩
     rw[BL]
     go_wp2
     go_end0
     refine⟨rfl,d,?_⟩
     rw[HM.out,if_pos hm,rL,aL,bN,bJ _ _ _ _ (by omega)]
   ·go_wp2
    go_end0
    exact⟨rfl,d,by rw[HM.out,if_neg hm]⟩
theorem iY (m:Nat) (g off n cap:Nat) (te:TypeId) (l:List Int) (b o cap2:Nat) (zs:List Int) (w:World) (hm:zs.length=m)
 (hg:w.heap[g]? =some (.cells (Iv .u32 l) te)) (hl:off+n≤l.length) (hn:n≤1000) (hbg:b≠g) (hz:aE zs) (hzn:m≤4*n) (hpos:0<m)
 (hc:∀i,i<m→w.cell? ⟨b,o+i,none⟩=some (.int .u8 (zs.getD i 0))) (hcap:m≤cap2) (hcap2:cap2≤9223372036854775807):
 Calls prog 130 #[.slice (some ⟨g,off,none⟩) n cap,.slice (some ⟨b,o,none⟩) m cap2] w fun e w'=>
  e=.returned (.tuple #[])∧∃d,w'=(w.setRow g (Iv .u32 (pF9 l off (aF zs) (min (m / 4+1) n)))).drewN d:=by
 subst hm
 exact GW g off n cap te l b o cap2 zs w hg hl hn hbg hz hzn hpos hc hcap hcap2
theorem GA:∀W,(zeroValue 184).run prog W=.ok (.agg (dD (aA 8) 0 (aA 64) 0)) W:=fun W=>by kernel_rfl
theorem abH:∀W,(zeroValue 177).run prog W=.ok (.agg (Iv .u32 (aA 16))) W:=fun W=>by kernel_rfl
theorem EW (g n cap:Nat) (te:TypeId) (l:List Int) (b o cap2:Nat) (w:World) (hg:w.heap[g]? =some (.cells (Iv .u32 l) te)) (hl:n≤l.length) (hn:0<n) (hcap2:cap2≤9223372036854775807):
 Calls prog 130 #[.slice (some ⟨g,0,none⟩) n cap,.slice (some ⟨b,o,none⟩) 0 cap2] w fun e w'=>e=.returned (.tuple #[])∧w'=w.setRow g (Iv .u32 (l.set 0 0)):=by
 have c0:w.cell? ⟨g,0,none⟩=some (.int .u32 (l.getD 0 0)):=aC.cell hg 0 (by omega)
 have f0:w.frozen? ⟨g,0,none⟩=false:=frozen_of_row _ _ _ _ _ hg
 have hn1:(0:Int)<n:=by omega
 have HG:Hid _:=hg
 clear hg
 go_enter func130,ntmps130
 go_wp2
 refine wp_loop_rounds 1 ?_
 rw[rdS]
 go_wp2_with fail
 refine(abT _ _ _).mono ?_
 rintro e w1 ⟨rfl,rfl⟩
 go_wp2
 go_end0
 refine⟨rfl,?_⟩
 rw[setCell_eq_setRow _ _ _ _ _ _ _ HG.out,bN]
theorem GV (g:Nat) (te:TypeId) (b0 o cap2 f:Nat) (zs:List Int) (w:World) (hzl:zs.length=f) (hf:f≤64) (hg:w.heap[g]? =some (.cells (Iv .u32 (aA 16)) te)) (hbg:b0≠g) (hz:aE zs)
 (hc:∀i,i<f→w.cell? ⟨b0,o+i,none⟩=some (.int .u8 (zs.getD i 0))) (hcap:f≤cap2) (hcap2:cap2≤9223372036854775807):
 Calls prog 130 #[.slice (some ⟨g,0,none⟩) 16 16,.slice (some ⟨b0,o,none⟩) f cap2] w fun e w'=>e=.returned (.tuple #[])∧∃d,w'=(w.setRow g (Iv .u32 (gU zs))).drewN d:=by
 by_cases h0:f=0
 ·subst h0
  obtain rfl:zs=[]:=List.length_eq_zero_iff.1 hzl
  refine(EW g 16 16 te (aA 16) b0 o cap2 w hg (by simp[aA]) (by decide) hcap2).mono ?_
  rintro e w' ⟨rfl,rfl⟩
  exact⟨rfl,0,rfl⟩
 ·refine(iY f g 0 16 16 te (aA 16) b0 o cap2 zs w hzl hg (by simp[aA]) (by decide) hbg hz (by omega) (by omega) hc hcap hcap2).mono ?_
  rintro e w' ⟨rfl,d,rfl⟩
  refine⟨rfl,d,?_⟩
  rw[←QV zs f hzl hf]
  rfl
def lB (h R:List Int) (j:Nat):List Int:=(List.range j).map (lR h R)++h.drop j
theorem yT (h R:List Int) (j:Nat) (hh:h.length=8) (hj:j≤8):(lB h R j).length=8:=by simp[lB,hh];omega
theorem MM (h R:List Int) (j:Nat) (hh:h.length=8) (hj:j<8):aK (lB h R j) j=aK h j:=by
 simp only[aK,lB,List.getD_eq_getElem?_getD,List.getElem?_append,lU,List.length_range]
 rw[if_neg (by omega),Nat.sub_self,List.getElem?_drop,Nat.add_zero]
theorem D8 (h R:List Int) (j:Nat) (hh:h.length=8) (hj:j<8):(lB h R j).set j (lR h R j)=lB h R (j+1):=by
 unfold lB
 rw[List.set_append,if_neg (by simp),lU,List.length_range,Nat.sub_self,List.range_succ,List.map_append,List.append_assoc]
 congr 1
 rw[List.drop_eq_getElem_cons (by omega)]
 rfl
theorem D7 (h R:List Int) (hh:h.length=8):lB h R 8=(List.range 8).map (lR h R):=by
 unfold lB
 rw[List.drop_eq_nil_of_le (by omega),List.append_nil]
set_option maxRecDepth 10000 in
set_option maxHeartbeats 2000000 in
theorem yQ (h b:List Int) (t f:Nat) (last:Bool) (w:World) (hh:h.length=8) (hb:b.length=64) (h32:bF h) (hbb:aE (b.take f)) (hf:f≤64) (ht63:t+f<9223372036854775808) (ht:dR w) (Bf:List Int) (HBF:Hid (jL h (gU (b.take f)) (t+f) last=Bf)) (hBf:Bf.length=8):
 Calls prog 120 #[.agg (dD h t b f),.bool last] w fun e w'=>e=.returned (.agg (dD Bf ((t+f:Nat):Int) b 0))∧Below w.heap.size w w':=by
 have hzv:=GA
 have hzw:=abH
 have hc8:=IU h t b f hh
 have hc73:=nW h t b f hh hb
 have HS8:Hid ((dD h t b f).setIfInBounds 8 (.int .u64 ((t:Int)+f))=dD h ((t+f:Nat):Int) b f):=by
  show _=_
  rw[Int.natCast_add]
  exact KK h t b f hh _
 have ht0:(0:Int)≤t:=by omega
 have ht1:(t:Int)+f<9223372036854775808:=by omega
 have hfi:(f:Int)≤64:=by omega
 have HT:Hid _:=ht
 clear ht
 go_enter func120,ntmps120
 go_wp2_with fail
 obtain⟨W,hW,g0,g1,g2,hs,hB⟩:=oF w (.cells (dD h ((t+f:Nat):Int) b f) 184) (.cells (dD (aA 8) 0 (aA 64) 0) 184) (.cells (Iv .u32 (aA 16)) 177)
 rw[HS8.out,hW]
 clear hW HS8 hc8 hc73 ht0 ht1
 generalize hTdef:t+f=tt at*
 have HTD:Hid (t+f=tt):=hTdef
 clear hTdef
 have cf:W.cell? ⟨w.heap.size,73,none⟩=some (.int .i64 f):=by rw[cell_of_row _ _ _ _ _ _ g0,nW h tt b f hh hb]
 have HC:Hid (∀i,i<f→W.drew.cell? ⟨w.heap.size,9+i,none⟩=some (.int .u8 ((b.take f).getD i 0))):=fun i hi=>by
  show W.cell? _=_
  rw[cell_of_row _ _ _ _ _ _ g0,XU h tt b f hh hb i (by omega),cT,if_pos hi]
 have HZL:Hid ((b.take f).length=f):=by show _=_;simp[hb];omega
 have HM:Hid ((gU (b.take f)).length=16∧bF (gU (b.take f))):=⟨xH _,JT hbb⟩
 have G0:Hid _:=g0
 have G1:Hid _:=g1
 have G2:Hid _:=g2
 have HB:Hid _:=hB
 clear g0 g1 g2 hB
 refine wRh 5 uO (by kernel_rfl) ?_
 simp only[tU,tJ,dJ,dY]
 repeat(go_big_quiet_step (fail))
 refine wqN ?_
 go_wp2_with fail
 refine(GV (w.heap.size+1+1) 177 w.heap.size 9 64 f (b.take f) W.drew HZL.out hf G2.out (by omega) hbb HC.out (by omega) (by decide)).mono ?_
 rintro e w1 ⟨rfl,d,hw1⟩
 generalize gU (b.take f)=M at*
 have K0:Hid (w1.heap[w.heap.size]? =some (.cells (dD h tt b f) 184)):=by show _=_;rw[hw1];exact(cG W.drew _ _ _ (by omega)).trans G0.out
 have K1:Hid (w1.heap[w.heap.size+1]? =some (.cells (dD (aA 8) 0 (aA 64) 0) 184)):=by show _=_;rw[hw1];exact(cG W.drew _ _ _ (by omega)).trans G1.out
 have K2:Hid (aC w1 (w.heap.size+1+1) .u32 M 177):=by show aC _ _ _ _ _;rw[hw1];exact aC.put (w:=W.drew) G2.out _ d
 have KB:Hid (Below w.heap.size w w1):=by show Below _ _ _;rw[hw1];exact bDr (aM (bDr HB.out 1) _ (by omega) _) d
 have hs1:w1.heap.size=w.heap.size+1+1+1:=by rw[hw1];simpa using hs
 clear hw1 G0 G1 G2 HB HC hs cf HZL
 have hiS:Hid (∀(h':List Int) (t' f':Int),h'.length=8→(prog.info? 184).map (·.size)=some (dD h' t' b f').size):=fun h' t' f' hh'=>by rw[eU h' t' b f' hh' hb];exact zZ
 go_wp2_with(refine wpLr rfl 184 _ rfl w.heap.size rfl _ (dD h tt b f) _ _ K0.out underlying184 rfl (hiS.out h tt f hh) ?_)
 obtain⟨V0,hV0⟩:∃x,tX h tt last=x:=⟨_,rfl⟩
 have HV:Hid (V0.length=16∧bF V0):=⟨by rw[←hV0,zQ h tt last hh],by rw[←hV0];exact OG h32 tt last⟩
 refine(IB h b tt f last w1 hh hb (by omega) (HT.out.later KB.out (nQ _)) V0 hV0 HV.out.1).mono ?_
 rintro e w2 ⟨rfl,hb2⟩
 have L0:Hid (w2.heap[w.heap.size]? =some (.cells (dD h tt b f) 184)):=(hb2.block _ (by omega)).trans K0.out
 have L1:Hid (w2.heap[w.heap.size+1]? =some (.cells (dD (aA 8) 0 (aA 64) 0) 184)):=(hb2.block _ (by omega)).trans K1.out
 have L2:Hid (w2.heap[w.heap.size+1+1]? =some (.cells (Iv .u32 M) 177)):=(hb2.block _ (by omega)).trans K2.out
 have LB:Hid (Below w.heap.size w w2):=KB.out.trans (hb2.mono (by omega))
 have hs2:w.heap.size+1+1+1≤w2.heap.size:=by have:=hb2.size;omega
 clear hb2 K0 K1 K2 KB hs1
 have HBF2:Hid (∀R,cZ V0 M 10=R→(List.range 8).map (lR h R)=Bf):=fun R hR=>by
  rw[←HBF.out,←hR,←hV0]
  rfl
 clear HBF hV0
 have hi16:Hid (∀L:List Int,L.length=16→(prog.info? 177).map (·.size)=some (Iv .u32 L).size):=fun L hL=>by rw[aD,hL];exact yY
 have HTN:Hid ((w2.alloc (.cells (Iv .u32 (aA 16)) 177)).heap[w2.heap.size]? =some (.cells (Iv .u32 (aA 16)) 177)):=hAN _ _
 have hz16:Hid (∀L:List Int,L.length=16→(Iv .u32 (aA 16)).size=(Iv .u32 L).size):=fun L hL=>by rw[aD,aD,hL];rfl
 go_wp2_with(refine wpPr rfl 177 _ _ rfl w2.heap.size (Iv .u32 V0) rfl rfl _ _ HTN.out (hi16.out V0 HV.out.1) (hz16.out V0 HV.out.1) (aG _ _) ?_)
 intro w3 hP3
 have M0:=(hP3.far w.heap.size (by omega)).trans ((hAO w2 (.cells (Iv .u32 (aA 16)) 177) (by omega)).trans L0.out)
 have M1:=(hP3.far (w.heap.size+1) (by omega)).trans ((hAO w2 (.cells (Iv .u32 (aA 16)) 177) (by omega)).trans L1.out)
 have M2:=(hP3.far (w.heap.size+1+1) (by omega)).trans ((hAO w2 (.cells (Iv .u32 (aA 16)) 177) (by omega)).trans L2.out)
 have M3:=hP3.here
 have MB:Below w.heap.size w w3:=hP3.below _ _ (LB.out.alloc (by omega) _) (by omega)
 clear hP3 HTN L0 L1 L2 LB
 generalize w2.heap.size=gv at*
 have N0:Hid _:=M0
 have N1:Hid _:=M1
 have N2:Hid _:=M2
 have N3:Hid _:=M3
 have NB:Hid _:=MB
 clear M0 M1 M2 M3 MB
 go_wp2_with fail
 go_loopw [25] (fun i wr=>∃k:Nat,k≤10∧i=.int .i64 k∧wr.heap[w.heap.size]? =some (.cells (dD h tt b f) 184)∧wr.heap[w.heap.size+1]? =some (.cells (dD (aA 8) 0 (aA 64) 0) 184)∧wr.heap[w.heap.size+1+1]? =some (.cells (Iv .u32 M) 177)∧wr.heap[gv]? =some (.cells (Iv .u32 (cZ V0 M k)) 177)∧Below w.heap.size w wr) (fun i _=>10 - (intOf i).toNat)
 case atStart=>exact⟨0,by omega,rfl,N0.out,N1.out,N2.out,N3.out,NB.out⟩
 case round=>
  obtain⟨k,hk,rfl,M0,M1,M2,M3,MB⟩:=hrel
  clear N0 N1 N2 N3 NB
  by_cases hlt:k<10
  ·have HL:Hid (∀L,cZ V0 M k=L→cZ V0 M (k+1)=jH L M k 8):=fun L hL=>by rw[cZ,hL]
   have hLl:(cZ V0 M k).length=16:=by rw[jQ,HV.out.1]
   have hLa:Hid (bF (cZ V0 M k)):=sO HV.out.2 M k
   have HLN:=HL.out _ rfl
   generalize cZ V0 M k=L at*
   have HLN':Hid (∀x,x=jH L M k 8→cZ V0 M (k+1)=x):=fun x hx=>by rw[hx,HLN]
   clear HL HLN
   have hgl:=(Array.getElem?_eq_some_iff.1 M3).1
   have N0:Hid _:=M0
   have N1:Hid _:=M1
   have N2:Hid _:=M2
   have N3:Hid _:=M3
   have NB:Hid _:=MB
   clear M0 M1 M2 M3 MB
   go_wp2_with(first
    | refine wpLr rfl 177 _ rfl gv rfl _ (Iv .u32 L) _ _ N3.out underlying177 rfl (hi16.out L hLl) ?_
    | refine wpLr rfl 177 _ rfl (w.heap.size+1+1) rfl _ (Iv .u32 M) _ _ N2.out underlying177 rfl (hi16.out M HM.out.1) ?_)
   obtain⟨X,hX⟩:∃x,jH L M k 8=x:=⟨_,rfl⟩
   have hXl:X.length=16:=by rw[←hX,jY,hLl]
   have HX:Hid (cZ V0 M (k+1)=X):=HLN'.out X hX.symm
   refine(DQ L M k wr hLl hLa.out HM.out.1 HM.out.2 hlt (HT.out.later NB.out (nQ _)) X (fun y e=>e.symm.trans hX)).mono ?_
   rintro e w4 ⟨rfl,hb4⟩
   have P0:Hid _:=(hb4.block w.heap.size (by have:=NB.out.size;have:=(Array.getElem?_eq_some_iff.1 N1.out).1;omega)).trans N0.out
   have P1:Hid _:=(hb4.block (w.heap.size+1) (Array.getElem?_eq_some_iff.1 N1.out).1).trans N1.out
   have P2:Hid _:=(hb4.block (w.heap.size+1+1) (Array.getElem?_eq_some_iff.1 N2.out).1).trans N2.out
   have P3:Hid _:=(hb4.block gv hgl).trans N3.out
   have PB:Hid (Below w.heap.size w w4):=NB.out.trans (hb4.mono NB.out.size)
   clear hb4 N0 N1 N2 N3 NB hX HLN'
   go_wp2_with(refine wpPr rfl 177 _ _ rfl gv (Iv .u32 X) rfl rfl _ _ P3.out (hi16.out X hXl) ?hs (aG _ _) ?_)
   case hs=>rw[aD,aD,hLl,hXl]
   intro w5 hP5
   have T0:Hid _:=(hP5.far w.heap.size (by omega)).trans P0.out
   have T1:Hid _:=(hP5.far (w.heap.size+1) (by omega)).trans P1.out
   have T2:Hid _:=(hP5.far (w.heap.size+1+1) (by omega)).trans P2.out
   have T3:Hid _:=hP5.here
   have TB:Hid (Below w.heap.size w w5):=hP5.below _ _ PB.out (by omega)
   clear hP5 P0 P1 P2 P3 PB
   go_wp2
   go_roundw
   case rel=>exact⟨k+1,by omega,by go_num,T0.out,T1.out,T2.out,by rw[HX.out];exact T3.out,TB.out⟩
   case measure=>simp[intOf];omega
  ·obtain rfl:k=10:=by omega
   have hRl:(cZ V0 M 10).length=16:=by rw[jQ,HV.out.1]
   obtain⟨R,hR⟩:∃x,cZ V0 M 10=x:=⟨_,rfl⟩
   have HBF3:Hid ((List.range 8).map (lR h R)=Bf):=HBF2.out R hR
   rw[hR]at M3 hRl
   clear hR HBF2
   have N0:Hid _:=M0
   have N1:Hid _:=M1
   have N3:Hid _:=M3
   have NB:Hid _:=MB
   clear M0 M1 M2 M3 MB
   have NF:Hid (wr.heap[w.heap.size]? =some (.cells (dD (lB h R 0) tt b f) 184)):=N0.out
   obtain⟨WR,rfl⟩:∃X,X=wr:=⟨_,rfl⟩
   go_wp2_with fail
   go_loopw [33] (fun i wr=>∃j:Nat,j≤8∧i=.int .i64 j∧wr.heap[w.heap.size]? =some (.cells (dD (lB h R j) tt b f) 184)∧wr.heap[w.heap.size+1]? =some (.cells (dD (aA 8) 0 (aA 64) 0) 184)∧wr.heap[gv]? =some (.cells (Iv .u32 R) 177)∧Below w.heap.size w wr) (fun i _=>8 - (intOf i).toNat)
   case atStart=>exact⟨0,by omega,rfl,NF.out,N1.out,N3.out,NB.out⟩
   case round=>
    obtain⟨j,hj,rfl,M0,M1,M3,MB⟩:=hrel
    clear N0 N1 N3 NB NF
    have hFl:=yT h R j hh hj
    by_cases hlt:j<8
    ·have HFS:Hid (∀x,x=lR h R j→(lB h R j).set j x=lB h R (j+1)):=fun x hx=>by rw[hx,D8 h R j hh hlt]
     have HFA:Hid (lR h R j=xr (aK h j) (xr (aK R j) (aK R (j+8)))):=rfl
     have cs:wr.cell? ⟨w.heap.size,j,none⟩=some (.int .u32 (aK h j)):=by rw[cell_of_row _ _ _ _ _ _ M0,ED _ tt b f hFl j hlt,MM h R j hh hlt]
     have fs:wr.frozen? ⟨w.heap.size,j,none⟩=false:=frozen_of_row _ _ _ _ _ M0
     have c0:wr.cell? ⟨gv,j,none⟩=some (.int .u32 (aK R j)):=aC.cell (show aC wr gv .u32 R _ from M3) j (by omega)
     have c8:wr.cell? ⟨gv,j+8,none⟩=some (.int .u32 (aK R (j+8))):=aC.cell (show aC wr gv .u32 R _ from M3) (j+8) (by omega)
     generalize lB h R j=F at*
     generalize lR h R j=fx at*
     generalize aK h j=x at*
     generalize aK R j=y at*
     generalize aK R (j+8)=z at*
     have i8:(j:Int)+8<16:=by omega
     have N0:Hid _:=M0
     have N1:Hid _:=M1
     have N3:Hid _:=M3
     have NB:Hid _:=MB
     clear M0 M1 M3 MB
     go_wp2_with fail
     refine wRh 15 uO (by kernel_rfl) ?_
     simp only[tU,tJ,dJ,dY]
     repeat(go_big_quiet_step (fail))
     refine wqN ?_
     go_wp2_with fail
     go_roundw
     case rel=>
      refine⟨j+1,by omega,by go_num,?_,?_,?_,?_⟩
      ·rw[←HFS.out (xr x (xr y z)) HFA.out.symm,←AX F tt b f hFl j hlt]
       exact heap_setCell_same _ _ _ _ _ _ N0.out
      ·exact(heap_setCell_other _ _ _ _ (by simp)).trans N1.out
      ·exact(heap_setCell_other _ _ _ _ (by simp;omega)).trans N3.out
      ·exact bDr (Below.setCell NB.out (by simp) _) 1
     case measure=>simp[intOf];omega
    ·obtain rfl:j=8:=by omega
     rw[D7 h R hh,HBF3.out]at M0
     have hS:Hid ((dD Bf tt b f).setIfInBounds 73 (.int .i64 0)=dD Bf tt b 0):=uI Bf tt b f hBf hb 0
     have N0:Hid _:=M0
     have N1:Hid _:=M1
     have NB:Hid _:=MB
     have c73:∃v,wr.cell? ⟨w.heap.size,73,none⟩=some v:=⟨_,by rw[cell_of_row _ _ _ _ _ _ M0,nW Bf tt b f hBf hb]⟩
     obtain⟨v73,hv73⟩:=c73
     have f73:wr.frozen? ⟨w.heap.size,73,none⟩=false:=frozen_of_row _ _ _ _ _ M0
     clear M0 M1 M3 MB HBF3
     have T0:Hid ((wr.setCell ⟨w.heap.size,73,none⟩ (.int .i64 0)).heap[w.heap.size]? =some (.cells (dD Bf tt b 0) 184)):=by
      show _=_
      rw[←hS.out]
      exact heap_setCell_same _ _ _ _ _ _ N0.out
     have T1:Hid ((wr.setCell ⟨w.heap.size,73,none⟩ (.int .i64 0)).heap[w.heap.size+1]? =some (.cells (dD (aA 8) 0 (aA 64) 0) 184)):=by
      show _=_
      rw[heap_setCell_other _ _ _ _ (by simp)]
      exact N1.out
     have TB:Hid (Below w.heap.size w (wr.setCell ⟨w.heap.size,73,none⟩ (.int .i64 0))):=Below.setCell NB.out (by simp) _
     go_wp2_with(first
      | refine wpLr rfl 184 _ rfl w.heap.size rfl _ (dD Bf tt b 0) _ _ T0.out underlying184 rfl (hiS.out Bf tt 0 hBf) ?_
      | refine wpPr rfl 184 _ _ rfl (w.heap.size+1) (dD Bf tt b 0) rfl rfl _ _ T1.out (hiS.out Bf tt 0 hBf) ?hs (pA _ _ _ _) ?_)
     case hs=>rw[eU _ _ _ _ hBf hb];rfl
     intro W9 hP9
     go_wp2
     exact bodyPost_ret (v:=.agg (dD Bf tt b 0)) (results_cell_row rfl _ _ _ _ (dD Bf tt b 0) _ _ rfl hP9.here underlying184 rfl (hiS.out Bf tt 0 hBf)) rfl ⟨by rw[HTD.out],hP9.below _ _ TB.out (by omega)⟩
def iv (k:IntKind) (l:List Int):List Value:=l.map (Value.int k)
theorem fW (k:IntKind) (l:List Int):(iv k l).length=l.length:=by simp[iv]
theorem EI (k:IntKind) (l:List Int) (i:Nat):(iv k l)[i]? =l[i]?.map (Value.int k):=by simp[iv]
theorem IW (k:IntKind) (l r:List Int):iv k (l++r)=iv k l++iv k r:=by simp[iv]
theorem acN (k:IntKind) (l:List Int) (i:Nat) (y:Int):iv k (l.set i y)=(iv k l).set i (.int k y):=by simp[iv]
theorem KT (k:IntKind) (l:List Int):∀u∈iv k l,u.oneCell'=true:=ints_oneCell k l
def cC (k:IntKind) (e:TypeId) (base:Nat) (w:World) (v:Value) (l:List Int):Prop:=w.ownsRow base e 1 v l.length (iv k l)
theorem GP {w w1 w2:World} {row:Option Nat} (h:w.grownBy w1 row) (g:w1.grownBy w2 row):w.grownBy w2 row:=
 ⟨g.os.trans h.os,g.tape.trans h.tape,g.output.trans h.output,nU h.size g.size,fun k hk hne=>(g.block k (nJ hk h.size) hne).trans (h.block k hk hne)⟩
theorem cC.at {k:IntKind} {e:TypeId} {base:Nat} {w:World} {v:Value} {l:List Int} (h:cC k e base w v l):
 (v=.slice none 0 0∧l=[])∨∃g cap,v=.slice (some ⟨g,0,none⟩) l.length cap∧base≤g∧g<w.heap.size∧l.length≤cap∧cap≤9223372036854775807∧(∀i,i<l.length→w.cell? ⟨g,i,none⟩=some (.int k (l.getD i 0)))∧(∀i,w.frozen? ⟨g,i,none⟩=false):=by
 have h':=h
 obtain⟨hl,⟨hv,hn⟩|⟨g,cap,cur,hv,hg,hh,hc,hm,hs,ht⟩⟩:=h
 ·exact .inl ⟨hv,List.length_eq_zero_iff.1 hn⟩
 ·refine .inr ⟨g,cap,hv,hg,(Array.getElem?_eq_some_iff.1 hh).1,hc,by unfold maxLen at hm;omega,?_,?_⟩
  ·intro i hi
   subst hv
   have:=World.ownsRow.cellAt h' i (by omega)
   rw[this,EI]
   simp[hi]
  ·intro i
   exact frozen_of_row _ _ _ _ _ hh
theorem cC.nil {k:IntKind} {e:TypeId} {base:Nat} (w:World) (hb:base≤w.heap.size):cC k e base (w.alloc (.cells #[] e)) (.slice (some ⟨w.heap.size,0,none⟩) 0 0) []:=
 World.ownsRow_made w #[] 0 hb (by unfold maxLen;omega) rfl
theorem cC.kept {k:IntKind} {e:TypeId} {base:Nat} {w w':World} {v:Value} {l:List Int} {row:Option Nat} (h:cC k e base w v l) (hg:w.grownBy w' row) (hne:v.ownBlock=none∨v.ownBlock≠row):cC k e base w' v l:=World.ownsRow.kept h hg hne
theorem cC.lt {k:IntKind} {e:TypeId} {base:Nat} {w:World} {v:Value} {l:List Int} (h:cC k e base w v l):∀g,v.ownBlock=some g→base≤g∧g<w.heap.size:=World.ownsRow.lt h
theorem yJ {P:Program} {w:World} {base:Nat} {t ty e:TypeId} {i:TypeInfo} {z:Value} {bytes:Nat} (ht:P.underlying t=some (.slice e)) (hi:P.info? e=some i) (hz:i.zero=some z)
 (hsize:i.size=1) (hby:i.bytes=bytes) (hzs:z.cells.size=1)
 {v:Value} {n:Nat} {xs:List Value} (hown:w.ownsRow base e 1 v n xs)
 {a:Addr} {m c:Nat} {news:List Value} (hl:news.length=m*1) (hnews:∀j u,news[j]? =some u→w.cell? (a.add j)=some u) (h1:∀u∈news,u.oneCell'=true)
 (h63:n+m≤maxLen) (hbytes:(n+m)*bytes≤140737488355328) {v':Value} {w':World} (hr:(Builtin.append_ #[t,t] ty #[v,.slice (some a) m c]).run P w=.ok v' w'):
 v'.ownBlock=v.ownBlock∨v'.ownBlock=some w.heap.size:=by
 subst hby
 have hsmall:n+m≤9223372036854775807:=by simp only[maxLen]at h63;omega
 rw[←hsize]at hl
 rcases hown.2 with ⟨rfl,rfl⟩|⟨g,cap,cur,rfl,hbg,hg,hnc,hcm,hcs,htake⟩
 ·by_cases hm:m=0
  ·subst hm
   have hn:news=[]:=List.eq_nil_of_length_eq_zero (by simpa using hl)
   subst hn
   left
   have h2:(Builtin.append_ #[t,t] ty #[.slice none 0 0,.slice (some a) 0 c]).run P w=.ok (.slice none 0 0) w:=by
    simp[Builtin.append_,run_underlying ht,sizeOf,typeInfo,hi,Builtin.lenOf,Builtin.firstCells,loadCells,loadCellsFrom]
   rw[h2]at hr
   cases hr
   rfl
  ·have h2:=run_append_nil (P:=P) w t ty e i z ht hi hz a m c news hl hnews (by omega) (by omega) (by have hb:=hbytes;simp only[Nat.zero_add]at hb;omega)
   rw[h2]at hr
   cases hr
   exact .inr rfl
 ·by_cases hroom:n+m≤cap
  ·have hfit:n*i.size+news.length≤cur.size:=by rw[hl,hcs,hsize];omega
   have h2:=run_append_room (P:=P) w t ty e i ht hi g n cap cur hg a m c news hl hnews h1 hroom hfit
   rw[h2]at hr
   cases hr
   exact .inl rfl
  ·have holds:∀j u,xs[j]? =some u→w.cell? ((⟨g,0,none⟩:Addr).add j)=some u:=hown.cells (g:=g) rfl
   have h2:=run_append_grow (P:=P) w t ty e i z ht hi hz ⟨g,0,none⟩ n cap xs (by rw[hsize];exact hown.1) holds a m c news hl hnews (by omega) (by omega) (growslice_fits (by omega) hbytes)
   rw[h2]at hr
   cases hr
   exact .inr rfl
theorem dG {P:Program} {ops:Array Oper} {rest:List Oper} {o:Oper} {a:Act} {Q:Exit→Act→World→Prop} (k:IntKind) (t e:TypeId) (bytes:Nat) (ht:P.underlying t=some (.slice e))
 (hinfo:(P.info? e).map (fun i=>(i.zero,i.size,i.bytes))=some (some (.int k 0),1,bytes)) (hby:bytes≤8) (hgd:o.guard=none) (s x:Operand) (ho:o.op=.call { callee:=.builtin .append,args:=#[s,x],argTypes:=#[t,t] })
 (base:Nat) (w0 wr:World) (v:Value) (l:List Int) (b o' m c:Nat) (news:List Int) (hm:news.length=m) (hs:a.eval s=v) (hx:a.eval x=.slice (some ⟨b,o',none⟩) m c) (hown:cC k e base wr v l) (hbel:Below base w0 wr) (hbase:base≤wr.heap.size) (hlen:l.length+m≤1000000000)
 (hnews:∀j,j<m→wr.cell? ⟨b,o'+j,none⟩=some (.int k (news.getD j 0)))
 (h:∀v' w',cC k e base w' v' (l++news)→Below base w0 w'→wr.grownBy w' v.ownBlock→(v'.ownBlock=v.ownBlock∨v'.ownBlock=some wr.heap.size)→wpList P ops Q rest (a.put o.dst v') w'):wpList P ops Q (o::rest) a wr:=by
 obtain⟨i,hi,hz,hsz,hb⟩:=info_parts hinfo
 have g1:∀j u,(iv k news)[j]? =some u→wr.cell? ((⟨b,o',none⟩:Addr).add j)=some u:=by
  intro j u hj
  have hj':j<m:=by
   have:=(List.getElem?_eq_some_iff.1 hj).1
   rw[fW]at this
   omega
  have hadd:(⟨b,o',none⟩:Addr).add j=⟨b,o'+j,none⟩:=by unfold Addr.add;split<;>simp_all
  rw[hadd,hnews j hj']
  rw[EI]at hj
  rw[←hj]
  simp[show j<news.length by omega]
 have g2:l.length+m≤maxLen:=by unfold maxLen;omega
 have g3:(l.length+m)*bytes≤140737488355328:=by
  have:(l.length+m)*bytes≤(l.length+m)*8:=Nat.mul_le_mul_left _ hby
  omega
 have g4:(iv k news).length=m*1:=by rw[fW];omega
 obtain⟨v',w',hr,h1,h2,_⟩:=run_append_own (P:=P) wr base t o.type e i (.int k 0) 1 bytes ht hi hz hsz hb rfl (by decide) v l.length (iv k l) hown ⟨b,o',none⟩ m c (iv k news) g4 g1 (KT k news) g2 g3 hbase
 have h4:=yJ ht hi hz hsz hb rfl hown g4 g1 (KT k news) g2 g3 hr
 refine wpList_plain hgd fun K hK=>?_
 unfold Oper.wp execOp
 simp only[ho,resolve,invoke,builtin,Sem.run_bind,Sem.run_pure,Result.andThen_ok,List.map_toArray,List.map_cons,List.map_nil,hs,hx,hr]
 refine hK _ _ (h v' w' ?_ (hbel.grown h2 hbase (fun g hg=>(cC.lt hown g hg).1)) h2 h4)
 unfold cC
 rw[IW,lQ,hm]
 exact h1
theorem cM {P:Program} {ops:Array Oper} {rest:List Oper} {o:Oper} {a:Act} {Q:Exit→Act→World→Prop} (k:IntKind) (t e:TypeId) (bytes:Nat) (ht:P.underlying t=some (.slice e))
 (hinfo:(P.info? e).map (fun i=>(i.zero,i.size,i.bytes))=some (some (.int k 0),1,bytes)) (hby:bytes≤8) (hgd:o.guard=none) (s x:Operand) (ho:o.op=.call { callee:=.builtin .append,args:=#[s,x],argTypes:=#[t,t] })
 (base:Nat) (w0 wr:World) (v:Value) (l:List Int) (y:Int) (hs:a.eval s=v) (hx:a.eval x=.slice (some ⟨wr.heap.size,0,none⟩) 1 1) (hown:cC k e base wr v l) (hbel:Below base w0 wr) (hbase:base≤wr.heap.size) (hlen:l.length≤100000000)
 (h:∀v' w',cC k e base w' v' (l++[y])→Below base w0 w'→wr.grownBy w' v.ownBlock→(v'.ownBlock=v.ownBlock∨v'.ownBlock=some (wr.heap.size+1))→wpList P ops Q rest (a.put o.dst v') w'):wpList P ops Q (o::rest) a (wr.alloc (.cells #[.int k y] e)):=by
 refine dG k t e bytes ht hinfo hby hgd s x ho base w0 _ v l wr.heap.size 0 1 1 [y] rfl hs hx (World.ownsRow.alloc hown _) (hbel.alloc hbase _) (by simp;omega) (by omega) ?_ ?_
 ·intro j hj
  obtain rfl:j=0:=by omega
  simp
 ·intro v' w' h1 h2 h3 h4
  refine h v' w' h1 h2 (GP (World.grownBy_alloc wr (.cells #[.int k y] e) v.ownBlock) h3) ?_
  simpa using h4
theorem BY (w:World) (g i:Nat) (v:Value):w.grownBy (w.setCell ⟨g,i,none⟩ v) (some g):=
 ⟨rfl,rfl,rfl,by simp,fun k hk hne=>heap_setCell_other w ⟨g,i,none⟩ k v (fun e=>hne (by rw[e]))⟩
theorem cC.set {k:IntKind} {e:TypeId} {base:Nat} {w:World} {g n cap:Nat} {l:List Int} (h:cC k e base w (.slice (some ⟨g,0,none⟩) n cap) l) (j:Nat) (y:Int):
 cC k e base (w.setCell ⟨g,j,none⟩ (.int k y)) (.slice (some ⟨g,0,none⟩) n cap) (l.set j y):=by
 have hn:n=l.length:=by
  obtain⟨_,⟨hv,_⟩|⟨g',cap',cur,hv,_⟩⟩:=h
  ·cases hv
  ·simp at hv;exact hv.2.1
 subst hn
 unfold cC at*
 rw[acN,lJ]
 exact(World.ownsRow.stored h j (.int k y)).1
theorem cC.drews {k:IntKind} {e:TypeId} {base:Nat} {w:World} {v:Value} {l:List Int} (h:cC k e base w v l) (n:Nat):cC k e base (w.drewN n) v l:=h
theorem cC.later {k:IntKind} {e:TypeId} {base:Nat} {w w':World} {v:Value} {l:List Int} (h:cC k e base w v l) (hb:Below w.heap.size w w'):cC k e base w' v l:=
 h.kept (row:=none) ⟨hb.os,hb.tape,hb.output,hb.size,fun j hj _=>hb.block j hj⟩ (by cases hv:v.ownBlock with|none=>exact .inl rfl|some _=>exact .inr (by simp))
def ZK (k:IntKind) (w:World) (a:Option Addr) (d:List Int):Prop:=∀i,i<d.length→∃b o,a=some ⟨b,o,none⟩∧w.cell? ⟨b,o+i,none⟩=some (.int k (d.getD i 0))
theorem cC.made {k:IntKind} {e:TypeId} {base:Nat} (w:World) (n:Nat) (hb:base≤w.heap.size) (hn:n≤1000000):cC k e base (w.alloc (.cells (Iv k (rQ n 0)) e)) (.slice (some ⟨w.heap.size,0,none⟩) n n) (rQ n 0):=by
 refine⟨by simp[fW],.inr ⟨w.heap.size,n,Iv k (rQ n 0),by simp,hb,hAN w _,by simp,by unfold maxLen;omega,by simp[aD],?_⟩⟩
 simp[Iv,iv]
theorem cC.take {k:IntKind} {e:TypeId} {base:Nat} {w:World} {g n cap:Nat} {l:List Int} (h:cC k e base w (.slice (some ⟨g,0,none⟩) n cap) l) (m:Nat) (hm:m≤n):cC k e base w (.slice (some ⟨g,0,none⟩) m cap) (l.take m):=by
 obtain⟨hl,⟨hv,_⟩|⟨g',cap',cur,hv,hg,hh,hc,hmx,hs,ht⟩⟩:=h
 ·cases hv
 ·simp at hv
  obtain⟨rfl,rfl,rfl⟩:=hv
  have hlen:(l.take m).length=m:=by rw[List.length_take];omega
  refine⟨by simp[fW],.inr ⟨g,cap,cur,by rw[hlen],hg,hh,by omega,hmx,hs,?_⟩⟩
  rw[hlen,Nat.mul_one]at*
  have:(cur.toList.take l.length).take m=(iv k l).take m:=by rw[ht]
  rw[List.take_take,Nat.min_eq_left hm]at this
  rw[this]
  simp[iv]
theorem cC.mono {k:IntKind} {e:TypeId} {base base':Nat} {w:World} {v:Value} {l:List Int} (h:cC k e base w v l) (hb:base'≤base):cC k e base' w v l:=by
 obtain⟨hl,⟨hv,hn⟩|⟨g',cap',cur,hv,hg,hh,hc,hmx,hs,ht⟩⟩:=h
 ·exact⟨hl,.inl ⟨hv,hn⟩⟩
 ·exact⟨hl,.inr ⟨g',cap',cur,hv,by omega,hh,hc,hmx,hs,ht⟩⟩
def IV:Value→Int
 | .int _ n=>n
 | _=>0
theorem tW {H:Type} {enc:TypeId×Value→H} {P:Program} {w:World} {base b0 n:Nat} {spare:Nat→Bool} {held:Bool} {r:Reach} {t e:TypeId} {k:IntKind} {v:Value} {d:DataW H} {p:List MemPlace}
 (ht:P.underlying t=some (.array n e)) (he:P.underlying e=some (.int k)) (hce:P.cellsOf e=1) (hn:P.cellsOf t=n) (hv:Value.okWide P w r b0 t v) (h:DataW.Trod enc P w base spare held t v d p):
 ∃l:List Int,v=.agg (Iv k l)∧l.length=n∧∀i,i<n→(Lit.int k (l.getD i 0)).wf=true:=by
 simp only[Value.okWide,ht]at hv
 obtain⟨cs,rfl,hsz,_⟩:=hv
 obtain⟨fuel,hf⟩:=h
 obtain⟨xs,m,_,_,hlen,hxl,hx⟩:=DataW.trod_array ht hf
 simp only[Value.cells]at hlen hx
 have hsize:cs.size=n:=by rw[←hn];simpa using hlen
 have hcell:∀i,i<n→∃a,cs[i]? =some (.int k a)∧(Lit.int k a).wf=true:=by
  intro i hi
  have h1:=hx i hi
  rw[hce,Nat.mul_one,List.getElem?_eq_getElem (show i<xs.length by omega)]at h1
  obtain⟨a,ea,_,wa⟩:=DataW.trod_int he h1
  have hd:(cs.toList.drop i).take 1=[cs[i]'(by omega)]:=by
   rw[List.drop_eq_getElem_cons (by simp;omega)]
   simp
  rw[hd]at ea
  simp only[List.cons.injEq,and_true]at ea
  exact⟨a,by rw[Array.getElem?_eq_getElem (by omega),ea],wa⟩
 refine⟨cs.toList.map IV,?_,by simp[hsize],?_⟩
 ·congr 1
  apply Array.ext
  ·simp[aD]
  ·intro i h1 h2
   obtain⟨a,ha,_⟩:=hcell i (by omega)
   rw[Array.getElem?_eq_getElem h1]at ha
   simp only[Option.some.injEq]at ha
   simp[Iv,ha,IV]
 ·intro i hi
  obtain⟨a,ha,wa⟩:=hcell i hi
  simp[ha,IV,wa]
theorem nR {l:List Int} (h:∀i,i<l.length→(Lit.int .u8 (l.getD i 0)).wf=true):aE l:=by
 intro i
 by_cases hi:i<l.length
 ·have:=h i hi
  simp only[Lit.wf,IntKind.min,IntKind.max,IntKind.signed,IntKind.bits]at this
  simp at this
  simpa using this
 ·simp[List.getD_eq_getElem?_getD,List.getElem?_eq_none (show l.length≤i by omega)]
theorem aY {a b:List Int} (ha:aE a) (hb:aE b):aE (a++b):=by
 intro i
 have h1:=ha i
 have h2:=hb (i - a.length)
 simp only[List.getD_eq_getElem?_getD,List.getElem?_append]at*
 split
 ·exact h1
 ·exact h2
def lenOf:Value→Nat
 | .slice _ n _=>n
 | _=>0
theorem KM:(prog.info? 5).map (·.size)=some 1:=by kernel_rfl
set_option maxRecDepth 10000 in
set_option maxHeartbeats 2000000 in
theorem BS (h0 D P:List Int) (k t fn:Nat) (h b:List Int) (htk:Hid (t=64*k)) (s:qO h0 D k fn h b) (hk:0<fn∨k=0) (hh0:h0.length=8) (h032:bF h0) (hD:aE D) (hP:aE P) (n cap:Nat) (hn:P.length=n) (hcap:n≤cap) (hcap2:cap≤9223372036854775807) (hlen:D.length+n≤1000000000000) (bb oo:Nat) (w:World)
 (hc:∀j,j<n→w.cell? ⟨bb,oo+j,none⟩=some (.int .u8 (P.getD j 0))) (hbb:0<n→bb<w.heap.size) (ht:dR w):
 Calls prog 119 #[.agg (dD h t b fn),.slice (some ⟨bb,oo,none⟩) n cap] w fun e w'=>∃(k' t' fn':Nat) (h' b':List Int),e=.returned (.agg (dD h' t' b' fn'))∧t'=64*k'∧qO h0 (D++P) k' fn' h' b'∧(0<fn'∨k'=0)∧Below w.heap.size w w':=by
 have hzv:=GA
 have HT:Hid _:=ht
 have HC:Hid _:=hc
 have HS:Hid _:=s
 have HK:Hid _:=hk
 clear ht hc s hk
 go_enter func119,ntmps119
 go_wp2_with fail
 go_loopw [1] (fun v wr=>∃(j k' t' fn':Nat) (h' b':List Int) (a':Option Addr),j≤n∧v=.slice a' (n - j) (cap - j)∧(j<n→a'=some ⟨bb,oo+j,none⟩)∧t'=64*k'∧qO h0 (D++P.take j) k' fn' h' b'∧(0<fn'∨k'=0)∧wr.heap[w.heap.size]? =some (.cells (dD h' t' b' fn') 184)∧wr.heap[w.heap.size+1]? =some (.cells (dD (aA 8) 0 (aA 64) 0) 184)∧Below w.heap.size w wr) (fun v _=>lenOf v)
 case atStart=>
  obtain⟨W,hW,g0,g1,hs,hb⟩:=kX w (.cells (dD h t b fn) 184) (.cells (dD (aA 8) 0 (aA 64) 0) 184)
  subst hW
  exact⟨0,k,t,fn,h,b,_,Nat.zero_le _,rfl,fun _=>rfl,htk.out,by simpa using HS.out,HK.out,g0,g1,hb⟩
 case round=>
  obtain⟨j,k1,t1,fn1,h1,b1,a1,hj,rfl,ha,ht1,s1,hk1,M0,M1,MB⟩:=hrel
  have hh1:h1.length=8:=by rw[s1.words];exact iK h0 _ hh0 k1
  have h132:Hid (bF h1):=by show bF h1;rw[s1.words];exact AI h032 _ k1
  have hb1:=s1.blk
  have hf1:=s1.fill
  have hl1:D.length+j=64*k1+fn1:=by have:=s1.len;rw[lQ,List.length_take]at this;omega
  have hiS:Hid (∀(h':List Int) (t' f':Int) (b':List Int),h'.length=8→b'.length=64→(prog.info? 184).map (·.size)=some (dD h' t' b' f').size):=fun h' t' f' b' hh' hb'=>by rw[eU h' t' b' f' hh' hb'];exact zZ
  clear HS HK htk
  have S1:Hid _:=s1
  clear s1
  by_cases hlt:j<n
  ·obtain rfl:=ha hlt
   have hnj:(0:Int)<((n - j:Nat):Int):=by omega
   have HBY:Hid (aE (b1.take fn1)):=qO.bytes S1.out (aY hD (dB hP j))
   have HCJ:Hid (∀i,i<n - j→wr.cell? ⟨bb,oo+j+i,none⟩=some (.int .u8 ((P.drop j).getD i 0))):=fun i hi=>by
    have hlo:=hbb (by omega)
    rw[MB.cell (p:=⟨bb,oo+j+i,none⟩) hlo,show oo+j+i=oo+(j+i) by omega,HC.out (j+i) (by omega)]
    simp[List.getD_eq_getElem?_getD,List.getElem?_drop]
   by_cases hfull:fn1=64
   ·subst hfull
    have cf:wr.cell? ⟨w.heap.size,73,none⟩=some (.int .i64 64):=by rw[cell_of_row _ _ _ _ _ _ M0,nW h1 _ b1 _ hh1 hb1];rfl
    have hlw:w.heap.size+1<wr.heap.size:=(Array.getElem?_eq_some_iff.1 M1).1
    have HSQ:Hid _:=qO.squeezed S1.out
    have hq1:t1+64<9223372036854775808:=by omega
    have HT1:Hid _:=ht1
    have N0:Hid _:=M0
    have N1:Hid _:=M1
    have NB:Hid _:=MB
    clear M0 M1 MB ht1
    go_wp2_with(refine wpLr rfl 184 _ rfl w.heap.size rfl _ (dD h1 t1 b1 (64:Nat)) _ _ N0.out underlying184 rfl (hiS.out h1 _ _ b1 hh1 hb1) ?_)
    obtain⟨h2,hh2d⟩:∃x,jL h1 (gU (b1.take 64)) (t1+64) false=x:=⟨_,rfl⟩
    have hh2:h2.length=8:=by rw[←hh2d];exact qH _ _ _ _
    have S2:Hid (qO h0 (D++P.take j) (k1+1) 0 h2 b1):=by
     show qO _ _ _ _ _ _
     rw[←hh2d,HT1.out]
     exact HSQ.out
    refine(yQ h1 b1 t1 64 false wr hh1 hb1 h132.out HBY.out (nQ _) hq1 (HT.out.later NB.out (nQ _)) h2 hh2d hh2).mono ?_
    obtain⟨t2,ht2'⟩:∃x,x=t1+64:=⟨_,rfl⟩
    rw[←ht2']
    have HT2:Hid (t2=64*(k1+1)):=by show _=_;rw[ht2',HT1.out];omega
    have hq2:t2≤2000000000000:=by have:=HT1.out;omega
    rintro e w1 ⟨rfl,hb4⟩
    have P0:Hid (w1.heap[w.heap.size]? =some (.cells (dD h1 t1 b1 (64:Nat)) 184)):=(hb4.block w.heap.size (by omega)).trans N0.out
    have P1:Hid _:=(hb4.block (w.heap.size+1) (by omega)).trans N1.out
    have PB:Hid (Below w.heap.size w w1):=NB.out.trans (hb4.mono NB.out.size)
    have HCJ1:Hid (∀i,i<n - j→w1.cell? ⟨bb,oo+j+i,none⟩=some (.int .u8 ((P.drop j).getD i 0))):=fun i hi=>(hb4.cell (p:=⟨bb,oo+j+i,none⟩) (by have:=hbb (by omega);have:=NB.out.size;show bb<_;omega)).trans (HCJ.out i hi)
    clear hb4 N0 N1 NB hh2d HSQ HT1 ht2' cf
    go_wp2_with(refine wpPr rfl 184 _ _ rfl w.heap.size (dD h2 t2 b1 0) rfl rfl _ _ P0.out (hiS.out h2 _ _ b1 hh2 hb1) ?hs (pA _ _ _ _) ?_)
    case hs=>rw[eU _ _ _ _ hh1 hb1,eU _ _ _ _ hh2 hb1]
    intro w2 hP2
    obtain⟨f2,hf2⟩:∃f:Nat,f=0:=⟨_,rfl⟩
    have Q0:Hid (w2.heap[w.heap.size]? =some (.cells (HV h2 t2 b1 f2).toArray 184)):=by show _=_;rw[hf2];exact hP2.here
    have S2':=S2.out
    rw[←hf2]at S2'
    clear S2
    have S2:Hid _:=S2'
    clear S2'
    have Q1:Hid _:=(hP2.far (w.heap.size+1) (by omega)).trans P1.out
    have QB:Hid (Below w.heap.size w w2):=hP2.below _ _ PB.out (nQ _)
    have HCJ2:Hid (∀i,i<n - j→w2.cell? ⟨bb,oo+j+i,none⟩=some (.int .u8 ((P.drop j).getD i 0))):=fun i hi=>by
     have hne:bb≠w.heap.size:=by have:=hbb (by omega);omega
     have e:=hP2.far bb hne
     rw[←HCJ1.out i hi]
     unfold World.cell?
     rw[e]
    clear hP2 P0 P1 PB HCJ1
    generalize hk2:k1+1=k2 at*
    have hf2l:f2<64:=by omega
    have HL2:Hid (D.length+j=64*k2+f2):=by show _=_;omega
    clear hl1 hk1 hf1 hk2 hq1 hf2
    obtain⟨m,hm⟩:∃x,x=min (n - j) (64 - f2):=⟨_,rfl⟩
    have hm1:m≤n - j:=by omega
    have hm2:m≤64 - f2:=by omega
    have hm3:0<m:=by omega
    have hm4:m=n - j∨m=64 - f2:=by omega
    clear hm
    have HX:Hid (((P.drop j).take m).length=m):=by show _=_;simp[hn];omega
    have HCM:Hid (∀i,i<m→w2.cell? ⟨bb,oo+j+i,none⟩=some (.int .u8 (((P.drop j).take m).getD i 0))):=fun i hi=>by rw[HCJ2.out i (by omega),cT,if_pos hi]
    have HPUT:Hid ((HV h2 t2 b1 f2).take (9+f2)++(((P.drop j).take m).map (Value.int .u8)++(HV h2 t2 b1 f2).drop (9+f2+(((P.drop j).take m).map (Value.int .u8)).length))=HV h2 t2 (b1.take f2++((P.drop j).take m++b1.drop (f2+m))) f2):=by
     have e:=WI h2 t2 b1 f2 hh2 hb1 f2 ((P.drop j).take m) (by rw[HX.out];omega)
     rw[HX.out]at e
     exact e
    have S3:Hid (qO h0 (D++P.take (j+m)) k2 (f2+m) h2 (b1.take f2++((P.drop j).take m++b1.drop (f2+m)))):=by
     have e:=qO.copied S2.out ((P.drop j).take m) m HX.out (by omega)
     rw[List.append_assoc,←List.take_add]at e
     exact e
    obtain⟨b3,hb3⟩:∃x,b1.take f2++((P.drop j).take m++b1.drop (f2+m))=x:=⟨_,rfl⟩
    rw[hb3]at HPUT S3
    have hb3l:b3.length=64:=S3.out.blk
    generalize(P.drop j).take m=X at*
    clear hb3 S2 HCJ HCJ2
    have c73:w2.cell? ⟨w.heap.size,73,none⟩=some (.int .i64 f2):=by rw[cell_of_row _ _ _ _ _ _ Q0.out];exact nW h2 _ b1 _ hh2 hb1
    have if2:(f2:Int)<64:=by omega
    have if2':(f2:Int)≤64:=by omega
    have nf2:(f2=64)=False:=by simp;omega
    have nfi:((f2:Int)=64)=False:=by simp;omega
    have HMN:Hid (m=Nat.min (n - j) (64 - f2)):=by show m=min (n - j) (64 - f2);omega
    go_wp2_with(refine IQ .u8 rfl (.tmp 17) (.tmp 18) 48 48 rfl 5 underlying48 KM w.heap.size (9+f2) (64 - f2) (64 - f2) bb (oo+j) (n - j) (cap - j) rfl rfl (HV h2 t2 b1 f2) X (HV h2 t2 b3 f2) m 184 Q0.out HX.out HMN.out HCM.out ?hfit HPUT.out ?_)
    case hfit=>rw[zW _ _ _ _ hh2 hb1];omega
    intro w3 hP3
    have hcf:(dD h2 t2 b3 f2)[73]? =some (.int .i64 f2):=nW h2 _ b3 _ hh2 hb3l
    have R0:=hP3.here
    have c73':w3.cell? ⟨w.heap.size,73,none⟩=some (.int .i64 f2):=by rw[cell_of_row _ _ _ _ _ _ R0];exact hcf
    have f73':w3.frozen? ⟨w.heap.size,73,none⟩=false:=frozen_of_row _ _ _ _ _ R0
    have HR0:Hid (w3.heap[w.heap.size]? =some (.cells (dD h2 t2 b3 f2) 184)):=R0
    have HR1:Hid _:=(hP3.far (w.heap.size+1) (by omega)).trans Q1.out
    have HRB:Hid (Below w.heap.size w w3):=hP3.below _ _ QB.out (nQ _)
    clear hP3 R0 hcf Q0 Q1 QB c73 HPUT HCM HX
    have im:(m:Int)≤((n - j:Nat):Int):=by omega
    have im2:(m:Int)≤((cap - j:Nat):Int):=by omega
    have im3:((n - j:Nat):Int)≤((cap - j:Nat):Int):=by omega
    have HFIN:Hid ((dD h2 t2 b3 f2).setIfInBounds 73 (.int .i64 ((f2:Int)+m))=dD h2 t2 b3 ((f2+m:Nat):Int)):=by
     show _=_
     rw[Int.natCast_add]
     exact uI h2 t2 b3 f2 hh2 hb3l _
    have HU0:Hid ((w3.setCell ⟨w.heap.size,73,none⟩ (.int .i64 ((f2:Int)+m))).heap[w.heap.size]? =some (.cells (dD h2 t2 b3 ((f2+m:Nat):Int)) 184)):=by
     show _=_
     rw[←HFIN.out]
     exact heap_setCell_same _ _ _ _ _ _ HR0.out
    have HU1:Hid ((w3.setCell ⟨w.heap.size,73,none⟩ (.int .i64 ((f2:Int)+m))).heap[w.heap.size+1]? =some (.cells (dD (aA 8) 0 (aA 64) 0) 184)):=(heap_setCell_other _ _ _ _ (by simp)).trans HR1.out
    have HUB:Hid (Below w.heap.size w (w3.setCell ⟨w.heap.size,73,none⟩ (.int .i64 ((f2:Int)+m)))):=Below.setCell HRB.out (by simp) _
    by_cases hend:cap - j=m
    ·have hendp:(cap - j=m)=True:=by simp[hend]
     go_wp2
     go_roundw
     case rel=>exact⟨j+m,k2,t2,f2+m,h2,b3,_,by omega,by rw[show n - (j+m)=n - j - m by omega,show cap - (j+m)=0 by omega],fun hh=>by omega,HT2.out,S3.out,.inl (by omega),HU0.out,HU1.out,HUB.out⟩
     case measure=>simp only[lenOf];omega
    ·have hendp:(cap - j=m)=False:=by simp[hend]
     go_wp2
     go_roundw
     case rel=>exact⟨j+m,k2,t2,f2+m,h2,b3,_,by omega,by rw[show n - (j+m)=n - j - m by omega,show cap - (j+m)=cap - j - m by omega],fun hh=>by simp[Nat.add_assoc],HT2.out,S3.out,.inl (by omega),HU0.out,HU1.out,HUB.out⟩
     case measure=>simp only[lenOf];omega
   ·obtain⟨w2,rfl⟩:∃X,X=wr:=⟨_,rfl⟩
    obtain⟨h2,rfl⟩:∃X,X=h1:=⟨_,rfl⟩
    obtain⟨t2,rfl⟩:∃X,X=t1:=⟨_,rfl⟩
    obtain⟨k2,rfl⟩:∃X,X=k1:=⟨_,rfl⟩
    obtain⟨f2,rfl⟩:∃X,X=fn1:=⟨_,rfl⟩
    have hh2:=hh1
    have HT2:Hid _:=ht1
    have hq2:t2≤2000000000000:=by omega
    have S2:Hid _:=S1.out
    have HCJ2:Hid _:=HCJ.out
    have Q0:Hid (w2.heap[w.heap.size]? =some (.cells (HV h2 t2 b1 f2).toArray 184)):=M0
    have Q1:Hid _:=M1
    have QB:Hid _:=MB
    have hf2l:f2<64:=by omega
    have HL2:Hid (D.length+j=64*k2+f2):=hl1
    clear hl1 hk1 hf1 M0 M1 MB ht1 hh1
    obtain⟨m,hm⟩:∃x,x=min (n - j) (64 - f2):=⟨_,rfl⟩
    have hm1:m≤n - j:=by omega
    have hm2:m≤64 - f2:=by omega
    have hm3:0<m:=by omega
    have hm4:m=n - j∨m=64 - f2:=by omega
    clear hm
    have HX:Hid (((P.drop j).take m).length=m):=by show _=_;simp[hn];omega
    have HCM:Hid (∀i,i<m→w2.cell? ⟨bb,oo+j+i,none⟩=some (.int .u8 (((P.drop j).take m).getD i 0))):=fun i hi=>by rw[HCJ2.out i (by omega),cT,if_pos hi]
    have HPUT:Hid ((HV h2 t2 b1 f2).take (9+f2)++(((P.drop j).take m).map (Value.int .u8)++(HV h2 t2 b1 f2).drop (9+f2+(((P.drop j).take m).map (Value.int .u8)).length))=HV h2 t2 (b1.take f2++((P.drop j).take m++b1.drop (f2+m))) f2):=by
     have e:=WI h2 t2 b1 f2 hh2 hb1 f2 ((P.drop j).take m) (by rw[HX.out];omega)
     rw[HX.out]at e
     exact e
    have S3:Hid (qO h0 (D++P.take (j+m)) k2 (f2+m) h2 (b1.take f2++((P.drop j).take m++b1.drop (f2+m)))):=by
     have e:=qO.copied S2.out ((P.drop j).take m) m HX.out (by omega)
     rw[List.append_assoc,←List.take_add]at e
     exact e
    obtain⟨b3,hb3⟩:∃x,b1.take f2++((P.drop j).take m++b1.drop (f2+m))=x:=⟨_,rfl⟩
    rw[hb3]at HPUT S3
    have hb3l:b3.length=64:=S3.out.blk
    generalize(P.drop j).take m=X at*
    clear hb3 S2 HCJ HCJ2
    have c73:w2.cell? ⟨w.heap.size,73,none⟩=some (.int .i64 f2):=by rw[cell_of_row _ _ _ _ _ _ Q0.out];exact nW h2 _ b1 _ hh2 hb1
    have if2:(f2:Int)<64:=by omega
    have if2':(f2:Int)≤64:=by omega
    have nf2:(f2=64)=False:=by simp;omega
    have nfi:((f2:Int)=64)=False:=by simp;omega
    have HMN:Hid (m=Nat.min (n - j) (64 - f2)):=by show m=min (n - j) (64 - f2);omega
    go_wp2_with(refine IQ .u8 rfl (.tmp 17) (.tmp 18) 48 48 rfl 5 underlying48 KM w.heap.size (9+f2) (64 - f2) (64 - f2) bb (oo+j) (n - j) (cap - j) rfl rfl (HV h2 t2 b1 f2) X (HV h2 t2 b3 f2) m 184 Q0.out HX.out HMN.out HCM.out ?hfit HPUT.out ?_)
    case hfit=>rw[zW _ _ _ _ hh2 hb1];omega
    intro w3 hP3
    have hcf:(dD h2 t2 b3 f2)[73]? =some (.int .i64 f2):=nW h2 _ b3 _ hh2 hb3l
    have R0:=hP3.here
    have c73':w3.cell? ⟨w.heap.size,73,none⟩=some (.int .i64 f2):=by rw[cell_of_row _ _ _ _ _ _ R0];exact hcf
    have f73':w3.frozen? ⟨w.heap.size,73,none⟩=false:=frozen_of_row _ _ _ _ _ R0
    have HR0:Hid (w3.heap[w.heap.size]? =some (.cells (dD h2 t2 b3 f2) 184)):=R0
    have HR1:Hid _:=(hP3.far (w.heap.size+1) (by omega)).trans Q1.out
    have HRB:Hid (Below w.heap.size w w3):=hP3.below _ _ QB.out (nQ _)
    clear hP3 R0 hcf Q0 Q1 QB c73 HPUT HCM HX
    have im:(m:Int)≤((n - j:Nat):Int):=by omega
    have im2:(m:Int)≤((cap - j:Nat):Int):=by omega
    have im3:((n - j:Nat):Int)≤((cap - j:Nat):Int):=by omega
    have HFIN:Hid ((dD h2 t2 b3 f2).setIfInBounds 73 (.int .i64 ((f2:Int)+m))=dD h2 t2 b3 ((f2+m:Nat):Int)):=by
     show _=_
     rw[Int.natCast_add]
     exact uI h2 t2 b3 f2 hh2 hb3l _
    have HU0:Hid ((w3.setCell ⟨w.heap.size,73,none⟩ (.int .i64 ((f2:Int)+m))).heap[w.heap.size]? =some (.cells (dD h2 t2 b3 ((f2+m:Nat):Int)) 184)):=by
     show _=_
     rw[←HFIN.out]
     exact heap_setCell_same _ _ _ _ _ _ HR0.out
    have HU1:Hid ((w3.setCell ⟨w.heap.size,73,none⟩ (.int .i64 ((f2:Int)+m))).heap[w.heap.size+1]? =some (.cells (dD (aA 8) 0 (aA 64) 0) 184)):=(heap_setCell_other _ _ _ _ (by simp)).trans HR1.out
    have HUB:Hid (Below w.heap.size w (w3.setCell ⟨w.heap.size,73,none⟩ (.int .i64 ((f2:Int)+m)))):=Below.setCell HRB.out (by simp) _
    by_cases hend:cap - j=m
    ·have hendp:(cap - j=m)=True:=by simp[hend]
     go_wp2
     go_roundw
     case rel=>exact⟨j+m,k2,t2,f2+m,h2,b3,_,by omega,by rw[show n - (j+m)=n - j - m by omega,show cap - (j+m)=0 by omega],fun hh=>by omega,HT2.out,S3.out,.inl (by omega),HU0.out,HU1.out,HUB.out⟩
     case measure=>simp only[lenOf];omega
    ·have hendp:(cap - j=m)=False:=by simp[hend]
     go_wp2
     go_roundw
     case rel=>exact⟨j+m,k2,t2,f2+m,h2,b3,_,by omega,by rw[show n - (j+m)=n - j - m by omega,show cap - (j+m)=cap - j - m by omega],fun hh=>by simp[Nat.add_assoc],HT2.out,S3.out,.inl (by omega),HU0.out,HU1.out,HUB.out⟩
     case measure=>simp only[lenOf];omega
  ·obtain rfl:j=n:=by omega
   rw[List.take_of_length_le (by omega)]at S1
   have HT2:Hid _:=ht1
   have N0:Hid _:=M0
   have N1:Hid _:=M1
   have NB:Hid _:=MB
   have hz0:Hid ((0:Nat)=j - j):=by show _=_;omega
   clear M0 M1 MB ht1
   go_wp2_with(first
    | refine wpLr rfl 184 _ rfl w.heap.size rfl _ (dD h1 t1 b1 fn1) _ _ N0.out underlying184 rfl (hiS.out _ _ _ _ hh1 hb1) ?_
    | refine wpPr rfl 184 _ _ rfl (w.heap.size+1) (dD h1 t1 b1 fn1) rfl rfl _ _ N1.out (hiS.out _ _ _ _ hh1 hb1) ?hs (pA _ _ _ _) ?_)
   case hs=>rw[eU _ _ _ _ hh1 hb1];rfl
   intro W9 hP9
   go_wp2
   exact bodyPost_ret (v:=.agg (dD h1 t1 b1 fn1)) (results_cell_row rfl _ _ _ _ (dD h1 t1 b1 fn1) _ _ rfl hP9.here underlying184 rfl (hiS.out _ _ _ _ hh1 hb1)) rfl ⟨k1,t1,fn1,h1,b1,rfl,HT2.out,S1.out,hk1,hP9.below _ _ NB.out (by omega)⟩
end Go.Proofs.YtgcepckaolkeoaaGreatDoor
