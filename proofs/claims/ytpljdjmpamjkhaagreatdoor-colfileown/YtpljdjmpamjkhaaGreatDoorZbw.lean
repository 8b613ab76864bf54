/- ColfileOwn, walked. The row's condition: the table of half bytes, as the program's text lays it. ColfileOwn: the row's closed facts. -/
import Derived.Test.YtpljdjmpamjkhaaGreatDoorZbv
import Derived.Test.YtpljdjmpamjkhaaGreatDoorZao
import Derived.Test.YtpljdjmpamjkhaaGreatDoorZbo
import Derived.Test.YtpljdjmpamjkhaaGreatDoorRows
import Derived.Test.YtpljdjmpamjkhaaGreatDoorCards
import Derived.Test.YtpljdjmpamjkhaaGreatDoorTie
import Derived.Test.YtpljdjmpamjkhaaGreatDoorZbi
import Derived.Test.YtpljdjmpamjkhaaGreatDoorZbj
import Derived.Test.YtpljdjmpamjkhaaGreatDoorZax
import Derived.Lib.LaidTab
import Derived.LaidMore
import Derived.JoinedOf
set_option linter.unusedVariables false
set_option linter.unusedSimpArgs false
set_option maxRecDepth 100000
set_option maxHeartbeats 8000000
namespace Go.Proofs.YtpljdjmpamjkhaaGreatDoor
namespace OwnLaw
open Go.RowKit Go.Lib
theorem fld25 (x:Int) (a:Option Addr) (n c:Nat) (w:World):(Instr.field 25 (.agg #[.int .u32 x,.slice a n c]) 1).run Tryz.prog w=.ok (.slice a n c) w:=by
 kernel_rfl
theorem inc8 (x:Nat):IntKind.u8.wrap ((x:Int)+1)=(((x+1) % 256:Nat):Int):=by rw [IntKind.wrap_u8];omega
theorem walk {w:World} (ht:Tab w) {fv v:Value} {fs:List Fd} {rs:List Row} (hs:Sf w fv fs) (ho:∀ f∈fs,Okf f) (id:Nat) (hid:id<4294967296) (hr:Sr w v rs) (hro:∀ x∈rs,∀ c∈x,Okc c) :
  Calls Tryz.prog 8 #[.agg #[.int .u32 (id:Int),fv],v] w fun e w'=>e=.returned (.bool true)/\Below w.heap.size w w':=by
 obtain ⟨fa,fc,rfl,_,_⟩:=hs.form
 obtain ⟨a,cap,rfl,_,_⟩:=hr.form
 have hb0:=below_one w (.cells #[.int .u32 (id:Int),.slice fa fs.length fc] 25)
 obtain ⟨x0,x1⟩:=cell_new2 w (.int .u32 (id:Int)) (.slice fa fs.length fc) 25
 have hz0:(w.alloc (.cells #[.int .u32 (id:Int),.slice fa fs.length fc] 25)).heap.size=w.heap.size+1:=World.size_alloc _ _
 have HTB:=hidden (ht.kept hb0)
 have HS:=hidden (hs.kept hb0)
 have HR:=hidden (hr.kept hb0)
 have HB0:=hidden hb0
 have HRO:=hidden hro
 have HO:=hidden ho
 have HZ0:=hidden hz0
 generalize hA:w.alloc (.cells #[.int .u32 (id:Int),.slice fa fs.length fc] 25)=A at *
 have HQ:Hid (∀ U,Below A.heap.size A U->U.cell? ⟨w.heap.size,0,none⟩=some (.int .u32 (id:Int))/\U.cell? ⟨w.heap.size,1,none⟩=some (.slice fa fs.length fc)):=hidden (fun U hU =>
  ⟨(hU.cell (p:=⟨w.heap.size,0,none⟩) (by show w.heap.size<_;omega)).trans x0,(hU.cell (p:=⟨w.heap.size,1,none⟩) (by show w.heap.size<_;omega)).trans x1⟩)
 have HAL:=hidden (alive10_any HTB.out)
 clear ht hs hr hb0 hro ho hz0 x0 x1
 go_enter Tryz.func8,Tryz.ntmps8
 go_wp2_with fail
 try rw [hA]
 clear hA
 refine HAL.out.mono ?_
 rintro e w1 ⟨rfl,hb1⟩
 have HB1:=hidden hb1
 obtain ⟨c0,c1⟩:=HQ.out w1 hb1
 have HG:=hidden (great_any (HS.out.kept hb1) id)
 clear hb1 HAL
 go_wp2_with fail
 refine HG.out.mono ?_
 rintro e w2 ⟨⟨gr,rfl,hgr⟩,hb2⟩
 have HB2:=hidden (below_then HB1.out hb2)
 have HGR:=hidden hgr
 clear hb2 hgr c0 c1 HG
 cases gr with
 | true =>
  go_wp2_with fail
  go_ret
  exact ⟨rfl,below_then HB0.out HB2.out⟩
 | false =>
 obtain ⟨hl100,hz5⟩:=HGR.out rfl
 obtain ⟨c0,c1⟩:=HQ.out w2 HB2.out
 have HCK:=hidden (refCheck_any (HS.out.kept HB2.out) id)
 clear HGR
 go_wp2_with fail
 refine HCK.out.mono ?_
 rintro e w3 ⟨rfl,hb3⟩
 have HB3:=hidden (below_then HB2.out hb3)
 clear hb3 c0 c1 HCK
 by_cases hck:chk id fs=0
 case neg =>
  have hckb:(((chk id fs:Nat):Int) != 0)=true:=by simp [hck]
  go_wp2_with fail
  go_ret
  exact ⟨rfl,below_then HB0.out HB3.out⟩
 have hckb:(((chk id fs:Nat):Int) != 0)=false:=by simp [hck]
 obtain ⟨c0,c1⟩:=HQ.out w3 HB3.out
 have HFI:=hidden (lawFit_any (HR.out.kept HB3.out) (HS.out.kept HB3.out) HRO.out id 20)
 have HCK:=hidden hck
 clear hck
 go_wp2_with fail
 refine HFI.out.mono ?_
 rintro e w4 ⟨⟨v4,l4,rfl,ho4,hf4⟩,hb4⟩
 have HB4:=hidden (below_then HB3.out hb4)
 have hfit:=hf4.fit
 have h20:(l4.map Prod.snd).length<=20:=by rw [List.length_map];exact hf4.2.1
 have hrl:∀ r∈l4.map Prod.snd,r.length<=20:=fun r hr=>by
  obtain ⟨x,hx,rfl⟩:=List.mem_map.1 hr
  exact (hf4.1.2 x hx).1
 have HS4:=hidden ho4.sr
 obtain ⟨a4,c4,rfl,_,_⟩:=HS4.out.form
 generalize l4.map Prod.snd=rows at *
 have HFIT:=hidden hfit
 have HRL:=hidden hrl
 clear hb4 ho4 hf4 hfit hrl c0 c1 HFI
 have HLR:=hidden (lrows_any HS4.out (fun r hr=>(HFIT.out r hr).2) (by omega) (fun r hr=>by have:=HRL.out r hr;omega))
 go_wp2_with fail
 refine HLR.out.mono ?_
 rintro e w5 ⟨⟨v5,l5,rfl,ho5,hsn5⟩,hb5⟩
 have hrv5:=ho5.rv
 rw [hsn5] at hrv5
 have HRV5:=hidden hrv5
 have HS5:=hidden (HS4.out.kept hb5)
 have HB5:=hidden (below_then HB4.out hb5)
 obtain ⟨a5,c5,rfl,_,_⟩:=hrv5.form
 obtain ⟨c0,c1⟩:=HQ.out w5 HB5.out
 clear hb5 ho5 hsn5 hrv5 HLR HS4
 have hwm:=writeM_small (g:=4) HO.out hid HCK.out (show rows.length<=60 by omega) (by omega) (by omega) HFIT.out
 have hop:=open_written (g:=4) HO.out hid (fun r hr=>(HFIT.out r hr).2) hwm
 have htl:=text_len (g:=4) HO.out hid HCK.out (show rows.length<=256 by omega) (by omega) (by omega) HFIT.out
 have hbs:Bs (sealM (textM id fs rows 4)):=htl.2.seal
 have hbl:(sealM (textM id fs rows 4)).length<=80000000:=by rw [sealM_len];have:=htl.1;omega
 have HW:=hidden (write10_any (HTB.out.kept HB5.out) (HS.out.kept HB5.out) HRV5.out HO.out hid (fun r hr=>(HFIT.out r hr).2) 4)
 have hall:=allR_grp fs (g:=4) (by omega) rows
 have hwm':writeM id fs rows (4:Int)=(sealM (textM id fs rows 4),0):=hwm
 rw [hwm'] at HW
 simp only at HW
 generalize ((List.range (nps 4 rows.length)).map fun i=>grp fs (prt 4 rows i))=gs at *
 generalize sealM (textM id fs rows 4)=b at *
 have HOPM:=hidden hop
 have HALL:=hidden hall
 have HBS:=hidden hbs
 have HBLN:=hidden hbl
 clear hwm hwm' hop htl hbs hbl hall
 go_wp2_with fail
 refine HW.out.mono ?_
 rintro e w6 ⟨⟨v6,rfl,o6⟩,hb6⟩
 have HO6:=hidden o6
 have HB6:=hidden (below_then HB5.out hb6)
 have HRV6:=hidden (HRV5.out.kept hb6)
 have HS6:=hidden (HS5.out.kept hb6)
 have HBB6:=hidden hb6
 have hsv:=o6.sv
 have hlt6:=o6.lt
 obtain ⟨a6,c6,rfl,_,_⟩:=own_form3 o6
 have HLT6:Hid (∀ k,(Value.slice a6 b.length c6).ownBlock=some k->k<w6.heap.size):=hidden (fun k hk=>(hlt6 k hk).2)
 have HOP:=hidden (open10_any (HTB.out.kept HB6.out) hsv HBS.out HBLN.out)
 clear o6 hb6 hsv hlt6 HW c0 c1 HRV5
 go_wp2_with fail
 refine HOP.out.mono ?_
 rintro e w7 ⟨⟨c,hc,_⟩ | ⟨id',fs',g',gs',fp,fv,ho',rfl,hfil,hof⟩,hb7⟩
 ·rw [HOPM.out] at hc;cases hc
 rw [HOPM.out] at ho'
 simp only [Except.ok.injEq,Prod.mk.injEq] at ho'
 obtain ⟨rfl,rfl,rfl,rfl⟩:=ho'
 have HFIL:=hidden hfil
 have HOF:=hidden hof
 have HB7:=hidden (below_then HB6.out hb7)
 have HB57:=hidden (HBB6.out.trans (hb7.mono HBB6.out.size))
 have HO7:=hidden (HO6.out.kept hb7)
 have HS7:=hidden (HS6.out.kept hb7)
 have HIS:=hidden (lis_any (HRV6.out.kept hb7) HS7.out (fun r hr=>(HFIT.out r hr).2) (fun r hr=>(HFIT.out r hr).2) (by omega) (fun r hr=>by have:=HRL.out r hr;omega))
 have hz67:=hb7.size
 simp only [decide_true] at HIS
 clear hfil hof hb7 HOP HO6 HS6 HRV6
 go_wp2_with fail
 refine HIS.out.mono ?_
 rintro e w8 ⟨rfl,hb8⟩
 have HB8:=hidden (below_then HB7.out hb8)
 have HF8:=hidden (HFIL.out.kept hb8)
 have HOF8:=hidden (HOF.out.kept hb8)
 have HO8:=hidden (HO7.out.kept hb8)
 have HB58:=hidden (HB57.out.trans (hb8.mono HB57.out.size))
 have hz78:=hb8.size
 clear hb8 HIS HFIL HOF HO7 HS7
 go_wp2_with fail
 go_loopw [11] (fun i wr=>∃ (k:Nat) (bs:List Nat),i=.int .i64 (k:Int)/\k<=b.length/\OwnB wr w5.heap.size (.slice a6 b.length c6) bs/\bs.length=b.length/\Fil wr w6.heap.size fp id fv gs/\OwnF wr w6.heap.size fv fs/\Below w5.heap.size w5 wr) (fun i _=>b.length-(intOf i).toNat)
 case atStart=>exact ⟨0,b,rfl,by omega,HO8.out,rfl,HF8.out,HOF8.out,HB58.out⟩
 case round =>
  obtain ⟨k,bs,rfl,hk,how,hbl,hfil,hof,hbel⟩:=hrel
  have HFIL:=hidden hfil
  have HOF:=hidden hof
  have HB:=hidden hbel
  have HOW:=hidden how
  clear hfil hof hbel
  by_cases hlt:k<b.length
  ·have hkb:k<bs.length:=by omega
   have hlt':(k:Int)<(b.length:Int):=by omega
   obtain ⟨g,cap2,hv,hBg,hgz⟩:=how.form (by omega)
   simp only [Value.slice.injEq] at hv
   obtain ⟨rfl,_,rfl⟩:=hv
   obtain ⟨hck,hfr⟩:=how.at hkb
   have hin:=inc8 bs[k]
   have HST:=hidden (how.stored k ((bs[k]+1) % 256))
   have HSL:Hid ((bs.set k ((bs[k]+1) % 256)).length=b.length):=hidden (by rw [List.length_set];exact hbl)
   have hg6:g<w6.heap.size:=HLT6.out g rfl
   have hfs:=(Fr.refl g wr.heap.size wr).set k (.int .u8 (((bs[k]+1) % 256:Nat):Int))
   have HF2:=hidden (HFIL.out.frp hfs hg6)
   have HOF2:Hid (OwnF (wr.setCell ⟨g,k,none⟩ (.int .u8 (((bs[k]+1) % 256:Nat):Int))) w6.heap.size fv fs):=hidden (hfs.own HOF.out hg6)
   have HB2:=hidden (HB.out.setCell (p:=⟨g,k,none⟩) hBg (.int .u8 (((bs[k]+1) % 256:Nat):Int)))
   generalize bs.set k ((bs[k]+1) % 256)=bs2 at *
   generalize (bs[k]+1) % 256=z at *
   generalize bs[k]=u at *
   clear how hbl hkb hfs
   go_wp2_with fail
   go_roundw
   case rel=>exact ⟨k+1,bs2,by go_num,by omega,HST.out,HSL.out,HF2.out,HOF2.out,HB2.out⟩
   case measure=>simp [intOf];omega
  ·have hge:¬ (k:Int)<(b.length:Int):=by omega
   obtain ⟨w9,hw9⟩:∃ w9,w9=wr:=⟨_,rfl⟩
   subst hw9
   have HB9:=hidden (below_then HB5.out HB.out)
   have HS9:=hidden (HS5.out.kept HB.out)
   have hal:=HALL.out
   have hra:∀ r∈allR gs,r.length<=1000:=fun r hr=>by rw [hal] at hr;have:=HRL.out r hr;omega
   have hrt:(allR gs).length<=1000:=by rw [hal];omega
   have HRA:=hidden hra
   have HRT:=hidden hrt
   have HA:=hidden (all10_any HFIL.out hra (by omega))
   have hfl:=(chk_szs HCK.out).2.2
   have hflen:=(chk_szs HCK.out).2.1
   have HRP:Hid (∀ r∈allR gs,0<r.length):=hidden (fun r hr=>by rw [hal] at hr;rw [fit_len (HFIT.out r hr).1];exact hfl)
   clear how hbl hal hra hrt
   go_wp2_with fail
   refine HA.out.mono ?_
   rintro e w10 ⟨⟨v10,l10,rfl,ho10,hsn10⟩,hb10⟩
   have HOW10:=hidden ho10
   have HB10:=hidden hb10
   obtain ⟨a10,c10,rfl,hl10,hm10,_⟩:=ho10.form
   have hm10':l10.length<=9223372036854775807:=by unfold maxLen at hm10;omega
   have HLEN10:Hid (∀ n∈l10.map (fun x=>x.2.length),0<n):=hidden (fun n hn=>by
    obtain ⟨x,hx,rfl⟩:=List.mem_map.1 hn
    exact HRP.out x.2 (by rw [← hsn10];exact List.mem_map.2 ⟨x,hx,rfl⟩))
   clear ho10 hb10 hsn10 HA HOW
   go_wp2_with fail
   go_loopw [13] (fun i wx=>∃ (k:Nat) (lx:List (Value×Row)),i=.int .i64 (k:Int)/\k<=l10.length/\Ow wx w9.heap.size (.slice a10 l10.length c10) lx/\lx.map (fun x=>x.2.length)=l10.map (fun x=>x.2.length)/\Below w9.heap.size w9 wx) (fun i _=>l10.length-(intOf i).toNat)
   case atStart=>exact ⟨0,l10,rfl,by omega,HOW10.out,rfl,HB10.out⟩
   case round =>
    obtain ⟨k,lx,rfl,hk,how,hmp,hbel⟩:=hrel
    have HOW:=hidden how
    have HB:=hidden hbel
    have HMP:=hidden hmp
    have hll:lx.length=l10.length:=by simpa using congrArg List.length hmp
    by_cases hlt:k<l10.length
    ·have hlt':(k:Int)<(l10.length:Int):=by omega
     obtain ⟨g10,rfl,hg10,hcell,hrow⟩:=how.at (k:=k) (by omega)
     have hk1:k+1<=l10.length:=hlt
     have hk2:l10.length-(k+1)<l10.length-k:=by omega
     have hlp:0<lx[k].2.length:=HLEN10.out _ (by rw [← hmp];exact List.mem_map.2 ⟨lx[k],List.getElem_mem _,rfl⟩)
     have hx0:(vvals lx[k].2)[0]?=some (valC lx[k].2[0]):=vvals_get hlp
     obtain ⟨ra,rc,hrv,hrc1,hrc2⟩:=own_form3 hrow
     rw [hrv] at hcell hrow
     obtain ⟨g2,rfl,hBg2,hg2,hc2⟩:=own_cell3 hrow hx0
     obtain ⟨_,_,cur,hcur⟩:=ownG_block hrow (k:=g2) rfl
     have hfr:wr.frozen? ⟨g2,0,none⟩=false:=by simp [World.frozen?,hcur]
     have hne:(Value.slice (some ⟨g10,0,none⟩) l10.length c10).ownBlock≠some g2:=fun e=>ownG_types hrow how.1 (by decide) (k:=g2) rfl e
     obtain ⟨lx',e1,e2,ho'⟩:=how.over hne (3,0,[111,116,104,101,114])
     have hvc:valC (3,0,[111,116,104,101,114])=.iface 9 (.string ⟨#[111,116,104,101,114]⟩):=rfl
     rw [hvc] at ho'
     have HO':=hidden ho'
     have HE2:=hidden (e2.trans hmp)
     have HB2:=hidden (hbel.setCell (p:=⟨g2,0,none⟩) hBg2 (.iface 9 (.string ⟨#[111,116,104,101,114]⟩)))
     have hn0:(0:Int)<(lx[k].2.length:Int):=by omega
     clear how hbel hmp hrow hx0 hrv hcur hne e1 e2 ho' hvc
     generalize valC (lx[k].2[0])=vv at *
     clear hlp
     generalize lx[k].2.length=n at *
     go_wp2_with fail
     go_roundw
     case rel=>exact ⟨k+1,lx',by go_num,hk1,HO'.out,HE2.out,HB2.out⟩
     case measure=>simp [intOf];first | exact hk2 | omega
    ·have hge2:¬ (k:Int)<(l10.length:Int):=by omega
     obtain ⟨w11,hw11⟩:∃ w11,w11=wr:=⟨_,rfl⟩
     subst hw11
     have HFIL11:=hidden (HFIL.out.kept HB.out)
     have HOF11:=hidden (HOF.out.kept HB.out)
     have HB11:=hidden (below_then HB9.out HB.out)
     have HS11:=hidden (HS9.out.kept HB.out)
     have HSC:=hidden (schema10_any HFIL11.out HOF11.out.sf (by omega))
     clear how hbel hmp
     go_wp2_with fail
     refine HSC.out.mono ?_
     rintro e w12 ⟨⟨v12,rfl,ho12⟩,hb12⟩
     obtain ⟨a12,c12,rfl,hc12,_⟩:=own_form3 ho12
     have hfl1:1<(fvals fs).length:=by rw [fvals_length];omega
     obtain ⟨g3,rfl,hBg3,hg3,hcn⟩:=own_cell3 ho12 (List.getElem?_eq_getElem hfl1)
     obtain ⟨_,_,cur,hcur⟩:=ownG_block ho12 (k:=g3) rfl
     have hfr3:w12.frozen? ⟨g3,1,none⟩=false:=by simp [World.frozen?,hcur]
     have hn3:(0:Int)<(fs.length:Int):=by omega
     have hB13:=(hb12.setCell (p:=⟨g3,1,none⟩) hBg3 (.string ⟨#[111,116,104,101,114]⟩))
     have HB13:=hidden hB13
     generalize (fvals fs)[1]=nm at *
     clear ho12 hcur hb12 HSC
     have hfd:∀ w,(Instr.field 25 (.agg #[.int .u32 (id:Int),.slice (some ⟨g3,0,none⟩) fs.length c12]) 1).run Tryz.prog w=.ok (.slice (some ⟨g3,0,none⟩) fs.length c12) w:=fld25 _ _ _ _
     go_upto_region 22 with fail
     clear hfd
     generalize w12.setCell ⟨g3,1,none⟩ (.string ⟨#[111,116,104,101,114]⟩)=Z at *
     have hBAZ:=below_then HB11.out hB13
     have hBFZ:=hB13
     have hfz:=HFIL11.out.kept hB13
     have hofz:=HOF11.out.kept hB13
     have hsz:=HS11.out.kept hB13
     have HBAZ:=hidden hBAZ
     have hal:=HALL.out
     have H23:Hid (∀ U,Below Z.heap.size Z U->Calls Tryz.prog 23 #[.pointer (some ⟨fp,0,none⟩)] U fun e w'=>∃ a c,e=.returned (.slice a rows.length c)/\Rv w' (.slice a rows.length c) rows/\Below Z.heap.size Z w'):=hidden (fun U hU=>by
      refine (all10_any (hfz.kept hU) HRA.out (by have:=HRT.out;omega)).mono ?_
      rintro e w' ⟨⟨v',l',rfl,how',hsn'⟩,hb'⟩
      have hrv':=how'.rv
      rw [hsn',hal] at hrv'
      obtain ⟨a',c',rfl,_⟩:=hrv'.form
      exact ⟨a',c',rfl,hrv',below_then hU hb'⟩)
     have H22:Hid (∀ U a' c',Below Z.heap.size Z U->Rv U (.slice a' rows.length c') rows->Calls Tryz.prog 22 #[.slice a' rows.length c',.slice a4 rows.length c4] U fun e w'=>e=.returned (.bool true)/\Below Z.heap.size Z w'):=hidden (fun U a' c' hU hrv'=>by
      refine (lis_any hrv' (hsz.kept hU) (fun r hr=>(HFIT.out r hr).2) (fun r hr=>(HFIT.out r hr).2) (by omega) (fun r hr=>by have:=HRL.out r hr;omega)).mono ?_
      rintro e w' ⟨rfl,hb'⟩
      exact ⟨by simp,below_then hU hb'⟩)
     have H19:Hid (∀ U,Below Z.heap.size Z U->Calls Tryz.prog 19 #[.pointer (some ⟨fp,0,none⟩)] U fun e w'=>∃ a c,e=.returned (.agg #[.int .u32 (id:Int),.slice a fs.length c])/\Sf w' (.slice a fs.length c) fs/\Below Z.heap.size Z w'/\w'.cell? ⟨w.heap.size,0,none⟩=some (.int .u32 (id:Int))/\w'.cell? ⟨w.heap.size,1,none⟩=some (.slice fa fs.length fc)):=hidden (fun U hU=>by
      refine (schema10_any (hfz.kept hU) (hofz.kept hU).sf (by omega)).mono ?_
      rintro e w' ⟨⟨v',rfl,how'⟩,hb'⟩
      obtain ⟨a',c',rfl,_,_⟩:=own_form3 how'
      have hb2:=below_then hU hb'
      obtain ⟨q0,q1⟩:=HQ.out w' (below_then HBAZ.out hb2)
      exact ⟨a',c',rfl,how'.sf,hb2,q0,q1⟩)
     have H18:Hid (∀ U a' c',Below Z.heap.size Z U->Sf U (.slice a' fs.length c') fs->Calls Tryz.prog 18 #[.agg #[.int .u32 (id:Int),.slice a' fs.length c'],.agg #[.int .u32 (id:Int),.slice fa fs.length fc]] U fun e w'=>e=.returned (.bool true)/\Below Z.heap.size Z w'):=hidden (fun U a' c' hU hsf'=>by
      refine (sameSch_any hsf' (HS.out.kept (below_then HBAZ.out hU)) id id).mono ?_
      rintro e w' ⟨rfl,hb'⟩
      exact ⟨by simp,below_then hU hb'⟩)
     have HQZ:Hid (∀ U,Below Z.heap.size Z U->U.cell? ⟨w.heap.size,0,none⟩=some (.int .u32 (id:Int))/\U.cell? ⟨w.heap.size,1,none⟩=some (.slice fa fs.length fc)):=hidden (fun U hU=>HQ.out U (below_then HBAZ.out hU))
     clear hBAZ hBFZ hfz hofz hsz hal hcn hfr3 hB13
     generalize rows.length=nr at *
     generalize fs.length=nf at *
     refine wp_region_noPanic ?_
     go_region_law (first
      | (go_simp;go_at_call 23;refine (H23.out _ ?_).mono ?_;exact below_drewN (Below.refl Z.heap.size Z) _;rintro e y1 ⟨aa,cc,rfl,hrv1,hbz1⟩;obtain ⟨q0,q1⟩:=HQZ.out y1 hbz1;have HRV1:=hidden hrv1;have HBZ1:=hidden hbz1;clear hrv1 hbz1;dsimp only)
      | (go_simp;go_at_call 22;refine (H22.out _ _ _ ?_ ?_).mono ?_;(first | exact HBZ1.out | exact below_drewN HBZ1.out _);(first | exact HRV1.out | exact HRV1.out.kept (below_drewN (Below.refl y1.heap.size y1) _));rintro e y2 ⟨rfl,hbz2⟩;obtain ⟨q0,q1⟩:=HQZ.out y2 hbz2;have HBZ2:=hidden hbz2;clear hbz2;dsimp only)
      | (go_simp;go_at_call 19;refine (H19.out _ ?_).mono ?_;(first | exact HBZ2.out | exact below_drewN HBZ2.out _);rintro e y3 ⟨aa3,cc3,rfl,hsf3,hbz3,q0,q1⟩;have HSF3:=hidden hsf3;have HBZ3:=hidden hbz3;clear hsf3 hbz3;dsimp only)
      | (go_simp;go_at_call 18;refine (H18.out _ _ _ ?_ ?_).mono ?_;(first | exact HBZ3.out | exact below_drewN HBZ3.out _);(first | exact HSF3.out | exact HSF3.out.kept (below_drewN (Below.refl y3.heap.size y3) _));rintro e y4 ⟨rfl,hbz4⟩;have HBZ4:=hidden hbz4;clear hbz4;dsimp only)
      | fail)
     all_goals refine NoPanic.normal ?_
     all_goals go_wp2_with fail
     all_goals go_ret
     all_goals exact ⟨rfl,below_then HB0.out (below_then HBAZ.out HBZ4.out)⟩
end OwnLaw
end Go.Proofs.YtpljdjmpamjkhaaGreatDoor
set_option linter.unusedVariables false
set_option linter.unusedSimpArgs false
namespace Go.Proofs.YtpljdjmpamjkhaaGreatDoor
open Go.RowKit Go.Lib
abbrev laid1 : List (String × DataW Unit) := [("catchment/crc.halves", Rows.laid_catchment_crc_halves)]
def tabZ:List Int:=[0,498536548,997073096,651767980,1994146192,1802195444,1303535960,1342533948,3988292384,4027552580,3604390888,3412177804,2607071920,2262029012,2685067896,3183342108]
theorem gHalves : Tryz.prog.globalNamed "catchment/crc.halves" = some 0 := by kernel_rfl
theorem tHalves:(Tryz.prog.globals[0]?).map (·.type)=some 245:=by kernel_rfl
theorem cells22:Tryz.prog.cellsOf 22=1:=by kernel_rfl
theorem cells245:Tryz.prog.cellsOf 245=16:=by kernel_rfl
theorem tab_is:∀ i,i<16->tabZ.getD i 0=((stpN 4 i:Nat):Int):=by decide +kernel
theorem of_laid {W:World} (h:laidMetH Tryz.prog laid1 W):Tab W:=by
 rw [MakeChecks.laidMetH_plain _ _ _ (by kernel_rfl)] at h
 have hT : TabIs Tryz.prog W "catchment/crc.halves" .u32 tabZ := tabIs_of_head gHalves tHalves Tryz.underlying245 Tryz.underlying22 cells22 cells245 h
 have hc:∀ i:Nat,i<16->W.cell? ⟨0,i,none⟩=some (.int .u32 ((stpN 4 i:Nat):Int)):=fun i hi=>by
  have:=hT.cell gHalves i (by simpa [tabZ] using hi)
  rw [this,tab_is i hi]
 refine ⟨?_,hc⟩
 have h0:=hc 0 (by omega)
 rcases Nat.eq_zero_or_pos W.heap.size with hz | hz
 ·exfalso
  unfold World.cell? at h0
  simp [hz] at h0
 ·exact hz
theorem door_met (os:Os) (args:Array Value):laidMetH Tryz.prog laid1 ((World.doorLaid Tryz.prog 400 os).forCall (fun _ _=>0) ⟨#[],args,[]⟩).memory :=
 laidMetH_of_parts3 (fuel:=8) (laidMet_of_run' 8 (by kernel_rfl) (by kernel_rfl)) (by kernel_rfl) (by kernel_rfl)
end Go.Proofs.YtpljdjmpamjkhaaGreatDoor
set_option linter.unusedVariables false
set_option maxHeartbeats 20000000
namespace Go.Proofs.YtpljdjmpamjkhaaGreatDoor
open Go
theorem closedColfileOwn:joinedFacts Tryz.prog 8 Tryz.f8 Rows.colfileOwnSpec Rows.colfileOwnRow=true:=by
 unfold joinedFacts
 simp only [Bool.and_eq_true]
 and_intros
 all_goals (as_aux_lemma=>kernel_rfl)
end Go.Proofs.YtpljdjmpamjkhaaGreatDoor
