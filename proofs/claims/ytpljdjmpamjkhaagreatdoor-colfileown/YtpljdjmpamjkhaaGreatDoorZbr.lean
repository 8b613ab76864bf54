/- Which predicates may be: Check. The laws' example: what it comes to; no program. Contracts: Schema; the laws' Two. Contracts: findIn. -/
import Derived.Test.YtpljdjmpamjkhaaGreatDoorZas
import Derived.Test.YtpljdjmpamjkhaaGreatDoorZbq
import Derived.Test.YtpljdjmpamjkhaaGreatDoorZbp
import Derived.Test.YtpljdjmpamjkhaaGreatDoorZbj
set_option linter.unusedVariables false
set_option linter.unusedSimpArgs false
set_option maxRecDepth 100000
set_option maxHeartbeats 4000000
namespace Go.Proofs.YtpljdjmpamjkhaaGreatDoor
open Go.RowKit Go.Lib
def kindAt (l:List Fd) (j:Nat):Nat:=match l[j]? with
 | none=>0
 | some f=>f.2.2.1
def fvM (op:Nat) (c:Cl) (k:Nat):Int:=if op=5 then (if c.1=0 then 0 else 90) else if c.1=0 then 10 else if c.1≠k then 10 else if op=4/\k≠3 then 10 else 0
def fltC (c:Cl):Int:=flt (c.1:Int) c.2.1 (bytesT c.2.2)
def ffM (l:List Fd) (op f:Nat) (c:Cl) (n:Nat):Int:=if 0<n then 90 else match place l f with
 | none=>81
 | some j=>if fltC c=0 then fvM op c (kindAt l j) else if fltC c=1 then 90 else fltC c
def fkM (op f:Nat) (c:Cl) (n:Nat):Int:=if f≠0 then 90 else if ¬ (c.1=0/\c.2.1=0/\(bytesT c.2.2).toList.isEmpty=true) then 90 else if op=8/\n≠1 then 90 else 0
def faultN (l:List Fd) (op f:Nat) (c:Cl) (n:Nat):Int:=if 1<=op/\op<=5 then ffM l op f c n else if 6<=op/\op<=8 then fkM op f c n else 90
 mutual
def firstM (l:List Fd):PT->Int
 | .node op f c ks=>if faultN l op f c ks.length≠0 then faultN l op f c ks.length else firstAll l ks
def firstAll (l:List Fd):List PT->Int
 | []=>0
 | k::ks=>if firstM l k≠0 then firstM l k else firstAll l ks
 end
theorem firstAll_end {l:List Fd} {ks:List PT}:firstAll l (ks.drop ks.length)=0:=by rw [List.drop_length];simp only [firstAll]
theorem faultOfValue_any {w:World} {b off op f:Nat} {c:Cl} {kv:Value} (hn:NodeAt w b off op f c kv) (k:Nat):Calls Tryz.prog 218 #[.pointer (some ⟨b,off,none⟩),.int .u8 (k:Int)] w fun e w'=>e=.returned (.int .i64 (fvM op c k))/\Below w.heap.size w w':=by
 obtain ⟨hb0,x0,x1,x2,x3,x4,x5⟩:=hn
 unfold fvM
 by_cases h5:op=5
 ·subst h5
  rw [if_pos rfl]
  by_cases h0:c.1=0
  ·rw [if_pos h0]
   have h0':((c.1:Int)==0)=true:=by rw [h0];rfl
   clear h0
   go_enter Tryz.func218,Tryz.ntmps218
   go_wp2_with fail
   go_ret
   exact ⟨rfl,Below.refl _ _⟩
  ·rw [if_neg h0]
   have h0':((c.1:Int)==0)=false:=beq_eq_false_iff_ne.2 (by omega)
   clear h0
   go_enter Tryz.func218,Tryz.ntmps218
   go_wp2_with fail
   go_ret
   exact ⟨rfl,Below.refl _ _⟩
 ·rw [if_neg h5]
  have n5:((op:Int)==5)=false:=beq_eq_false_iff_ne.2 (by omega)
  clear h5
  by_cases h0:c.1=0
  ·rw [if_pos h0]
   have h0':((c.1:Int)==0)=true:=by rw [h0];rfl
   clear h0
   go_enter Tryz.func218,Tryz.ntmps218
   go_wp2_with fail
   go_ret
   exact ⟨rfl,Below.refl _ _⟩
  ·rw [if_neg h0]
   have h0':((c.1:Int)==0)=false:=beq_eq_false_iff_ne.2 (by omega)
   clear h0
   by_cases hk:c.1≠k
   ·rw [if_pos hk]
    have hk':((c.1:Int) != (k:Int))=true:=by simp;omega
    clear hk
    go_enter Tryz.func218,Tryz.ntmps218
    go_wp2_with fail
    go_ret
    exact ⟨rfl,Below.refl _ _⟩
   ·rw [if_neg hk]
    have hk':((c.1:Int) != (k:Int))=false:=by simp;omega
    clear hk
    by_cases h4:op=4
    ·subst h4
     by_cases h3:k=3
     ·subst h3
      rw [if_neg (by simp)]
      go_enter Tryz.func218,Tryz.ntmps218
      go_wp2_with fail
      go_ret
      exact ⟨rfl,Below.refl _ _⟩
     ·rw [if_pos ⟨rfl,h3⟩]
      have h3':((k:Int) != 3)=true:=by simp;omega
      clear h3
      go_enter Tryz.func218,Tryz.ntmps218
      go_wp2_with fail
      go_ret
      exact ⟨rfl,Below.refl _ _⟩
    ·rw [if_neg (fun h=>h4 h.1)]
     have h4':((op:Int)==4)=false:=beq_eq_false_iff_ne.2 (by omega)
     clear h4
     go_enter Tryz.func218,Tryz.ntmps218
     go_wp2_with fail
     go_ret
     exact ⟨rfl,Below.refl _ _⟩
theorem faultOfField_any {w:World} {b off op f si:Nat} {c:Cl} {a:Option Addr} {n cap:Nat} {fv:Value} {l:List Fd} (hn:NodeAt w b off op f c (.slice a n cap)) (hs:Sf w fv l) (hok:Okc c):Calls Tryz.prog 190 #[.pointer (some ⟨b,off,none⟩),.agg #[.int .u32 (si:Int),fv]] w fun e w'=>e=.returned (.int .i64 (ffM l op f c n))/\Below w.heap.size w w':=by
 obtain ⟨fa,fcap,rfl,hfc,hfm⟩:=hs.form
 have hb1:=below_one w (.cells #[.int .u32 (si:Int),.slice fa l.length fcap] 25)
 have HB1:=hidden hb1
 obtain ⟨e0,e1⟩:=cell_new2 w (.int .u32 (si:Int)) (.slice fa l.length fcap) 25
 have hz:w.heap.size<(w.alloc (.cells #[.int .u32 (si:Int),.slice fa l.length fcap] 25)).heap.size:=by rw [World.size_alloc];omega
 have HS:=hidden (hs.kept hb1)
 have HN:=hidden (hn.kept hb1)
 have HO:=hidden hok
 generalize hA:w.alloc (.cells #[.int .u32 (si:Int),.slice fa l.length fcap] 25)=A at *
 clear hb1 hs hn hok
 obtain ⟨hb0,x0,x1,x2,x3,x4,x5⟩:=HN.out
 have HD:Hid (ffM l op f c n=if 0<n then 90 else match place l f with
  | none=>81
  | some j=>if fltC c=0 then fvM op c (kindAt l j) else if fltC c=1 then 90 else fltC c):=hidden rfl
 generalize ffM l op f c n=R at *
 by_cases hn0:0<n
 ·rw [if_pos hn0] at HD
  have hn0':(0:Int)<(n:Int):=by omega
  clear hn0
  go_enter Tryz.func190,Tryz.ntmps190
  go_wp2_with fail
  go_ret
  rw [HD.out]
  exact ⟨rfl,HB1.out⟩
 ·rw [if_neg hn0] at HD
  obtain rfl:n=0:=by omega
  clear hn0
  have HPL:=hidden (fun (U:World) (hU:Below A.heap.size A U)=>place_any (HS.out.kept hU) si f)
  have hr0:∀ s:SubW (fun x=>Below A.heap.size A x),s.w.cell? ⟨w.heap.size,0,none⟩=some (.int .u32 (si:Int)):=fun s=>(s.ok.cell (p:=⟨w.heap.size,0,none⟩) hz).trans e0
  have hr1:∀ s:SubW (fun x=>Below A.heap.size A x),s.w.cell? ⟨w.heap.size,1,none⟩=some (.slice fa l.length fcap):=fun s=>(s.ok.cell (p:=⟨w.heap.size,1,none⟩) hz).trans e1
  have hr2:∀ s:SubW (fun x=>Below A.heap.size A x),s.w.cell? ⟨b,off+1,none⟩=some (.int .u32 (f:Int)):=fun s=>(s.ok.cell (p:=⟨b,off+1,none⟩) hb0).trans x1
  haveI:Nonempty (SubW (fun x=>Below A.heap.size A x)):=⟨SubW.mk A (Below.refl _ _)⟩
  go_enter Tryz.func190,Tryz.ntmps190
  go_wp2_with fail
  refine wp_region_still (S:=fun x=>Below A.heap.size A x) (by kernel_rfl) (by kernel_rfl) (by first | exact (Below.refl _ _).drew | (rw [hA];exact (Below.refl _ _).drew)) ?_
  repeat (go_big_quiet_step ((go_at_call 193;exact (HPL.out _ (SubW.ok _)).mono (fun e w' h=>⟨h.1,SubW.mk w' (below_then (SubW.ok _) h.2),rfl⟩))))
  refine wpQuiet_nil ?_
  rintro _ ⟨s2,rfl⟩
  obtain ⟨w2,hw2⟩:∃ x,x=s2.w:=⟨_,rfl⟩
  have hb2:=s2.ok
  rw [← hw2] at hb2 ⊢
  have HB2:=hidden hb2
  have HS2:=hidden (HS.out.kept hb2)
  have HN2:=hidden (HN.out.kept hb2)
  have g0:=(hb2.cell (p:=⟨w.heap.size,0,none⟩) hz).trans e0
  have g1:=(hb2.cell (p:=⟨w.heap.size,1,none⟩) hz).trans e1
  have hz2:=Nat.lt_of_lt_of_le hz hb2.size
  clear hw2 hb2 hr0 hr1 hr2 x0 x1 x2 x3 x4 x5 HN HS e0 e1 hz hA hb0
  obtain ⟨hb0,x0,x1,x2,x3,x4,x5⟩:=HN2.out
  cases hp:place l f with
  | none =>
   rw [hp] at HD
   simp only [Option.isSome_none,Option.getD_none]
   clear hp
   go_wp2_with fail
   go_ret
   rw [HD.out]
   exact ⟨rfl,below_then HB1.out HB2.out⟩
  | some j =>
   rw [hp] at HD
   have hj:=place_lt hp
   simp only [Option.isSome_some,Option.getD_some]
   clear hp
   go_wp2_with fail
   refine (of_any HO.out _).mono ?_
   rintro e w3 ⟨rfl,hb3⟩
   have HB3:=hidden (below_then HB2.out hb3)
   have hN3:=HN2.out.kept hb3
   have k0:=(hb3.cell (p:=⟨w.heap.size,0,none⟩) hz2).trans g0
   have k1:=(hb3.cell (p:=⟨w.heap.size,1,none⟩) hz2).trans g1
   obtain ⟨gb,goff,rfl,hgb,y0,y1,y2,y3⟩:=(HS2.out.kept hb3).at hj
   clear hb3 x0 x1 x2 x3 x4 x5 g0 g1 hz2 hb0
   have HN3:=hidden hN3
   clear hN3
   have HKA:Hid (kindAt l j=l[j].2.2.1):=hidden (by unfold kindAt;rw [List.getElem?_eq_getElem hj])
   have hj':(j:Int)<(l.length:Int):=by omega
   have HE:Hid (fltC c=flt (c.1:Int) c.2.1 (bytesT c.2.2)):=hidden rfl
   rw [HKA.out] at HD
   generalize l[j].2.2.1=kd at *
   obtain ⟨fl,hfl⟩:∃ fl,fl=flt (c.1:Int) c.2.1 (bytesT c.2.2):=⟨_,rfl⟩
   rw [← hfl] at HE ⊢
   rw [HE.out] at HD
   clear hfl HE HKA
   by_cases h0:fl=0
   ·subst h0
    simp only [if_true] at HD
    go_wp2_with fail
    refine (faultOfValue_any HN3.out kd).mono ?_
    rintro e w4 ⟨rfl,hb4⟩
    have HB4:=hidden (below_then HB3.out hb4)
    clear hb4
    go_wp2_with fail
    go_ret
    rw [HD.out]
    exact ⟨rfl,below_then HB1.out HB4.out⟩
   ·have h0':(fl==0)=false:=beq_eq_false_iff_ne.2 h0
    simp only [if_neg h0] at HD
    by_cases h1:fl=1
    ·subst h1
     simp only [if_true] at HD
     clear h0
     go_wp2_with fail
     go_ret
     rw [HD.out]
     exact ⟨rfl,below_then HB1.out HB3.out⟩
    ·have h1':(fl==1)=false:=beq_eq_false_iff_ne.2 h1
     simp only [if_neg h1] at HD
     clear h0 h1
     go_wp2_with fail
     go_ret
     rw [HD.out]
     exact ⟨rfl,below_then HB1.out HB3.out⟩
def RoomPost (w:World) (t:PT) (m d:Nat) (e:Ending) (w':World):Prop:=(∃ n:Int,e=.returned (.int .i64 n)/\-1<=n/\n<100/\(∀ op f c,t=.node op f c []->0<m->0<d->n=(m:Int)-1))/\w'=w
def CheckPost (w:World) (l:List Fd) (t:PT) (e:Ending) (w':World):Prop:=(∃ n:Int,e=.returned (.int .i64 n)/\(∀ op f c,t=.node op f c []->n=firstM l t))/\Below w.heap.size w w'
end Go.Proofs.YtpljdjmpamjkhaaGreatDoor
set_option linter.unusedVariables false
set_option linter.unusedSimpArgs false
namespace Go.Proofs.YtpljdjmpamjkhaaGreatDoor
open Go.RowKit Go.Lib
def sId:ByteArray:=⟨#[105,100]⟩
def sName:ByteArray:=⟨#[110,97,109,101]⟩
def twoL:List Fd:=[(1,sId,1,true),(2,sName,3,false)]
def rA1:Row:=[(1,1,[]),(3,0,[97])]
def rA2:Row:=[(1,2,[]),(0,0,[])]
def rA:List Row:=[rA1,rA2]
def pA:PT:=.node 1 1 (1,2,[]) []
theorem chkA:chk 1 twoL=0:=by decide +kernel
theorem fitA1:fitM twoL rA1=0:=by decide +kernel
theorem fitA2:fitM twoL rA2=0:=by decide +kernel
theorem fine_iA {n:Int} (h:I64 n):Fine (1,n,[]):=Or.inr (Or.inl ⟨n,rfl,h⟩)
theorem fine_aA:Fine (3,0,[97]):=Or.inr (Or.inr (Or.inr ⟨[97],rfl,by decide,fun x hx=>by simp at hx;omega⟩))
theorem fine_nA:Fine (0,0,[]):=Or.inl rfl
theorem fineA1:∀ c∈rA1,Fine c:=fun c hc=>by
 rcases List.mem_cons.1 hc with rfl | hc
 ·exact fine_iA ⟨by omega,by omega⟩
 ·obtain rfl:c=(3,0,[97]):=by simpa using hc
  exact fine_aA
theorem fineA2:∀ c∈rA2,Fine c:=fun c hc=>by
 rcases List.mem_cons.1 hc with rfl | hc
 ·exact fine_iA ⟨by omega,by omega⟩
 ·obtain rfl:c=(0,0,[]):=by simpa using hc
  exact fine_nA
theorem fitAA:FitA twoL rA:=fun r hr=>by
 rcases List.mem_cons.1 hr with rfl | hr
 ·exact ⟨fitA1,fineA1⟩
 ·obtain rfl:r=rA2:=by simpa using hr
  exact ⟨fitA2,fineA2⟩
theorem okA:∀ f∈twoL,Okf f:=fun f hf=>by
 rcases List.mem_cons.1 hf with rfl | hf
 ·exact ⟨by decide,by decide⟩
 ·obtain rfl:f=(2,sName,3,false):=by simpa using hf
  exact ⟨by decide,by decide⟩
def bA:List Nat:=sealM (textM 1 twoL rA 1)
theorem writeA:writeM 1 twoL rA (1:Int)=(bA,0):=writeM_small (g:=1) okA (by omega) chkA (by decide) (by omega) (by omega) fitAA
theorem openA:openF bA=.ok (1,twoL,1,[grp twoL [rA1],grp twoL [rA2]]):=open_written (g:=1) okA (by omega) (fun r hr=>(fitAA r hr).2) writeA
theorem bsA:Bs bA:=(text_len okA (by omega) chkA (by decide) (by omega) (by omega) fitAA).2.seal
theorem lenA:5<bA.length/\bA.length<=70000:=by
 constructor
 ·unfold bA
  rw [sealM_len]
  unfold textM innM
  simp only [List.length_append,List.length_cons,List.length_nil,le4]
  omega
 ·have:=text_small okA (by omega) chkA (show rA.length<=60 by decide) (by omega) (show 1<=64 by omega) fitAA
  unfold bA
  omega
theorem turnA:openF (bA.set 5 (bA[5]'lenA.1 ^^^ 1))=.error 101:=by
 have h:=openM_turned (b:=textM 1 twoL rA 1) (j:=5) (y:=1) (text_len okA (by omega) chkA (by decide) (by omega) (by omega) fitAA).2 lenA.1 (by omega) (by omega)
 unfold openF
 have e:openM (bA.set 5 (bA[5]'lenA.1 ^^^ 1))=none:=h
 rw [e]
theorem firstA:firstM twoL pA=0:=by decide +kernel
theorem mayA1:getB (mayM twoL (grp twoL [rA1]).2 pA) 2=false:=by decide +kernel
theorem mayA2:getB (mayM twoL (grp twoL [rA2]).2 pA) 2=true:=by decide +kernel
theorem evalA2:evalM twoL rA2 pA=2:=by decide +kernel
end Go.Proofs.YtpljdjmpamjkhaaGreatDoor
set_option linter.unusedVariables false
set_option linter.unusedSimpArgs false
set_option maxRecDepth 100000
set_option maxHeartbeats 4000000
namespace Go.Proofs.YtpljdjmpamjkhaaGreatDoor
open Go.RowKit Go.Lib
theorem two_set {W:World} {q:Nat} {x y a b:Value} {t:TypeId} (h:W.heap[q]?=some (.cells #[x,y] t (0,0))):((W.setCell ⟨q,0,none⟩ a).setCell ⟨q,1,none⟩ b).heap[q]?=some (.cells #[a,b] t (0,0)):=by
 have h1:(W.setCell ⟨q,0,none⟩ a).heap[q]?=some (.cells #[a,y] t (0,0)):=by rw [heap_setC h];rfl
 rw [heap_setC h1]
 rfl
theorem schema10_any {w:World} {B fp id:Nat} {fv:Value} {gs:List Gr} {fs:List Fd} (h:Fil w B fp id fv gs) (hf:Sf w fv fs) (hl:fs.length<=1000) :
  Calls Tryz.prog 19 #[.pointer (some ⟨fp,0,none⟩)] w fun e w'=>(∃ v,e=.returned (.agg #[.int .u32 (id:Int),v])/\OwnF w' w.heap.size v fs)/\Below w.heap.size w w':=by
 obtain ⟨gv,xs,h1,_,_,_⟩:=h
 have hfp:=(Array.getElem?_eq_some_iff.1 h1).1
 obtain ⟨fa,fc,rfl,_,_⟩:=hf.form
 have hb1:=below_one w (.cells #[.int .u32 0,.slice none 0 0] 25)
 have hq:=heap_alloc_new w (.cells #[.int .u32 0,.slice none 0 0] 25)
 have hz:(w.alloc (.cells #[.int .u32 0,.slice none 0 0] 25)).heap.size=w.heap.size+1:=World.size_alloc _ _
 generalize hA:w.alloc (.cells #[.int .u32 0,.slice none 0 0] 25)=A at *
 have HT:Hid (∀ U,Below A.heap.size A U->U.cell? ⟨fp,0,none⟩=some (.int .u32 (id:Int))/\U.cell? ⟨fp,1,none⟩=some (.slice fa fs.length fc)):=hidden (fun U hU=>by
  have hfU:=(hU.block fp (by omega)).trans ((hb1.block fp hfp).trans h1)
  exact ⟨by rw [cell_block hfU];rfl,by rw [cell_block hfU];rfl⟩)
 have HQ:Hid (∀ U,Below A.heap.size A U->U.heap[w.heap.size]?=some (.cells #[.int .u32 0,.slice none 0 0] 25 (0,0))):=hidden (fun U hU=>(hU.block w.heap.size (by omega)).trans hq)
 have HCL:Hid (∀ U,Below A.heap.size A U->Calls Tryz.prog 55 #[.slice fa fs.length fc] U fun e w'=>∃ a c,e=.returned (.slice a fs.length c)/\OwnF w' A.heap.size (.slice a fs.length c) fs/\Below A.heap.size A w'/\w'.frozen? ⟨w.heap.size,0,none⟩=false/\w'.frozen? ⟨w.heap.size,1,none⟩=false/\w'.cell? ⟨w.heap.size,0,none⟩=some (.int .u32 0)/\w'.cell? ⟨w.heap.size,1,none⟩=some (.slice none 0 0)):=hidden (fun U hU=>by
  refine (cloneF_any (hf.kept (hb1.trans (hU.mono hb1.size))|>.kept (Below.refl _ _)) hl).mono ?_
  rintro e w' ⟨⟨v,rfl,ho⟩,hb⟩
  have hbU:=below_then hU hb
  have hqU:=HQ.out _ hbU
  obtain ⟨a,c,rfl,_,_⟩:=own_form3 ho
  exact ⟨a,c,rfl,ho.low hU.size,hbU,by simp [World.frozen?,hqU],by simp [World.frozen?,hqU],by rw [cell_block hqU];rfl,by rw [cell_block hqU];rfl⟩)
 have HB1:=hidden hb1
 have HZ:=hidden hz
 clear h1 hf hb1 hq hz
 obtain ⟨c0,c1⟩:=HT.out A (Below.refl _ _)
 go_enter Tryz.func19,Tryz.ntmps19
 go_wp2_with fail
 try rw [hA]
 clear hA
 refine wp_region_noPanic ?_
 go_region_law (first
  | (go_simp;go_at_call 55;refine (HCL.out _ ?_).mono ?_;exact below_drewN (Below.refl A.heap.size A) _;rintro e w5 ⟨a5,c5,rfl,ho5,hb5,fr0,fr1,q0,q1⟩;obtain ⟨d0,d1⟩:=HT.out w5 hb5;have HB5:=hidden hb5;have HO5:=hidden ho5;clear hb5 ho5;dsimp only)
  | fail)
 all_goals refine NoPanic.normal ?_
 all_goals go_wp2_with fail
 all_goals
  have hf5:=two_set (a:=.int .u32 (id:Int)) (b:=.slice a5 fs.length c5) (HQ.out w5 HB5.out)
  have ho6:OwnF ((w5.setCell ⟨w.heap.size,0,none⟩ (.int .u32 (id:Int))).setCell ⟨w.heap.size,1,none⟩ (.slice a5 fs.length c5)) A.heap.size (.slice a5 fs.length c5) fs:=ownG_same HO5.out fun k hk=>by
   have hk2:=(ownG_block HO5.out hk).1
   have hz2:=HZ.out
   rw [Below.heap_setCell _ _ _ _ (by show k≠w.heap.size;omega),Below.heap_setCell _ _ _ _ (by show k≠w.heap.size;omega)]
  have hb6:=((HB1.out.trans (HB5.out.mono HB1.out.size)).setCell (p:=⟨w.heap.size,0,none⟩) (Nat.le_refl _) (.int .u32 (id:Int))).setCell (p:=⟨w.heap.size,1,none⟩) (Nat.le_refl _) (.slice a5 fs.length c5)
  have t0:((w5.setCell ⟨w.heap.size,0,none⟩ (.int .u32 (id:Int))).setCell ⟨w.heap.size,1,none⟩ (.slice a5 fs.length c5)).cell? ⟨w.heap.size,0,none⟩=some (.int .u32 (id:Int)):=by rw [cell_block hf5];rfl
  have t1:((w5.setCell ⟨w.heap.size,0,none⟩ (.int .u32 (id:Int))).setCell ⟨w.heap.size,1,none⟩ (.slice a5 fs.length c5)).cell? ⟨w.heap.size,1,none⟩=some (.slice a5 fs.length c5):=by rw [cell_block hf5];rfl
  generalize (w5.setCell ⟨w.heap.size,0,none⟩ (.int .u32 (id:Int))).setCell ⟨w.heap.size,1,none⟩ (.slice a5 fs.length c5)=FW at *
  have hzw:w.heap.size<=A.heap.size:=by have:=HZ.out;omega
  refine bodyPost_ret (v:=.agg #[.int .u32 (id:Int),.slice a5 fs.length c5]) (by simp [results,Tryz.results19,go_sem,t0,t1]) rfl ⟨⟨_,rfl,ho6.low hzw⟩,hb6⟩
theorem two10_any (w:World):Calls Tryz.prog 35 #[] w fun e w'=>(∃ v',e=.returned (.agg #[.int .u32 1,v'])/\OwnF w' w.heap.size v' twoL)/\Below w.heap.size w w':=by
 have HL:Hid (∀ W:World,OwnF (W.alloc (.cells #[.int .u32 1,.string ⟨#[105,100]⟩,.int .u8 1,.bool true,.int .u32 2,.string ⟨#[110,97,109,101]⟩,.int .u8 3,.bool false] 81)) W.heap.size (.slice (some ⟨W.heap.size,0,none⟩) 2 2) twoL):=hidden (fun W=>lit_fields W twoL (by unfold maxLen;decide))
 have hb1:=below_one w (.cells #[.int .u32 0,.slice none 0 0] 25)
 have hsz:(w.alloc (.cells #[.int .u32 0,.slice none 0 0] 25)).heap.size=w.heap.size+1:=World.size_alloc _ _
 have HSZ:=hidden hsz
 clear hsz
 go_enter Tryz.func35,Tryz.ntmps35
 go_wp2
 refine bodyPost_ret (v:=.agg #[.int .u32 1,.slice (some ⟨w.heap.size+1,0,none⟩) 2 2]) (by simp [results,Tryz.results35,go_sem]) rfl ?_
 refine ⟨⟨_,rfl,?_⟩,?_⟩
 ·have h:=HL.out (w.alloc (.cells #[.int .u32 1,.slice (some ⟨w.heap.size+1,0,none⟩) 2 2] 25))
  rw [World.size_alloc] at h
  exact h.low (by omega)
 ·exact ((Below.refl _ _).alloc (Nat.le_refl _) _).alloc (by rw [World.size_alloc];omega) _
end Go.Proofs.YtpljdjmpamjkhaaGreatDoor
set_option linter.unusedVariables false
set_option linter.unusedSimpArgs false
set_option maxRecDepth 100000
set_option maxHeartbeats 4000000
namespace Go.Proofs.YtpljdjmpamjkhaaGreatDoor
open Go.RowKit Go.Lib
def hitM (fs:List Fd) (t:PT) (r:Row):Bool:=evalM fs r t==2
def hits (fs:List Fd) (t:PT) (rows:List Row):List Row:=rows.filter (hitM fs t)
theorem hits_take {fs:List Fd} {t:PT} {rows:List Row} {k:Nat} (h:k<rows.length):hits fs t (rows.take (k+1))=hits fs t (rows.take k)++(if hitM fs t rows[k]=true then [rows[k]] else []):=by
 unfold hits
 rw [List.take_succ_eq_append_getElem h,List.filter_append]
 simp [List.filter_cons]
theorem hits_len (fs:List Fd) (t:PT) (rows:List Row):(hits fs t rows).length<=rows.length:=List.length_filter_le _ _
theorem findIn10_any {w:World} {B fp id op f:Nat} {fv gv kv a b:Value} {fs:List Fd} {rows:List Row} {sts:List Stt} {c:Cl} {ks:List PT} (hblk:w.heap[fp]?=some (.cells #[.int .u32 (id:Int),fv,gv] 105 (0,0))) (hsf:Sf w fv fs) (hg:Gro w B (.agg #[a,b]) rows sts)
  (hk:Kids w kv ks) (heval:∀ U rv r,Below w.heap.size w U->Sv U rv (vvals r)->(∀ x∈r,Fine x)->Calls Tryz.prog 113 #[.agg #[.int .u8 (op:Int),.int .u32 (f:Int),.int .u8 (c.1:Int),.int .i64 c.2.1,.string (bytesT c.2.2),kv],.agg #[.int .u32 (id:Int),fv],rv] U fun e w'=>e=.returned (.int .u8 (evalM fs r (.node op f c ks):Int))/\Below U.heap.size U w') (hr:∀ r∈rows,r.length<=1000/\∀ x∈r,Fine x) (hl:rows.length<=1000) :
  Calls Tryz.prog 67 #[.pointer (some ⟨fp,0,none⟩),.agg #[a,b],.agg #[.int .u8 (op:Int),.int .u32 (f:Int),.int .u8 (c.1:Int),.int .i64 c.2.1,.string (bytesT c.2.2),kv]] w
   fun e w'=>(∃ v l,e=.returned v/\Ow w' w.heap.size v l/\l.map Prod.snd=hits fs (.node op f c ks) rows)/\Below w.heap.size w w':=by
 obtain ⟨R,rfl,hR1,hR2,hR3,hrow⟩:=hg.rows
 obtain ⟨fa,fc,rfl,_,_⟩:=hsf.form
 obtain ⟨ka,kc,rfl,_,_⟩:=hk.form
 have hfp:=(Array.getElem?_eq_some_iff.1 hblk).1
 have hb1:=below_one w (.cells #[.slice (some ⟨R,0,none⟩) rows.length rows.length,b] 109)
 obtain ⟨g0,g1⟩:=cell_new2 w (.slice (some ⟨R,0,none⟩) rows.length rows.length) b 109
 have hb2:=below_one (w.alloc (.cells #[.slice (some ⟨R,0,none⟩) rows.length rows.length,b] 109)) (.cells #[.int .u8 (op:Int),.int .u32 (f:Int),.int .u8 (c.1:Int),.int .i64 c.2.1,.string (bytesT c.2.2),.slice ka ks.length kc] 63)
 obtain ⟨p0,p1,p2,p3,p4,p5⟩:=cell_new6 (w.alloc (.cells #[.slice (some ⟨R,0,none⟩) rows.length rows.length,b] 109)) (.int .u8 (op:Int)) (.int .u32 (f:Int)) (.int .u8 (c.1:Int)) (.int .i64 c.2.1) (.string (bytesT c.2.2)) (.slice ka ks.length kc) 63
 have hz1:(w.alloc (.cells #[.slice (some ⟨R,0,none⟩) rows.length rows.length,b] 109)).heap.size=w.heap.size+1:=World.size_alloc _ _
 have hz2:((w.alloc (.cells #[.slice (some ⟨R,0,none⟩) rows.length rows.length,b] 109)).alloc (.cells #[.int .u8 (op:Int),.int .u32 (f:Int),.int .u8 (c.1:Int),.int .i64 c.2.1,.string (bytesT c.2.2),.slice ka ks.length kc] 63)).heap.size=w.heap.size+2:=by rw [World.size_alloc,World.size_alloc]
 have g0':=(hb2.cell (p:=⟨w.heap.size,0,none⟩) (by show w.heap.size<_;omega)).trans g0
 rw [hz1] at p0 p1 p2 p3 p4 p5
 have hbw:=below_then hb1 hb2
 generalize hA:(w.alloc (.cells #[.slice (some ⟨R,0,none⟩) rows.length rows.length,b] 109)).alloc (.cells #[.int .u8 (op:Int),.int .u32 (f:Int),.int .u8 (c.1:Int),.int .i64 c.2.1,.string (bytesT c.2.2),.slice ka ks.length kc] 63)=A at *
 have HT:Hid (∀ U,Below A.heap.size A U->U.cell? ⟨fp,0,none⟩=some (.int .u32 (id:Int))/\U.cell? ⟨fp,1,none⟩=some (.slice fa fs.length fc)/\U.cell? ⟨w.heap.size,0,none⟩=some (.slice (some ⟨R,0,none⟩) rows.length rows.length) /\
   U.cell? ⟨w.heap.size+1,0,none⟩=some (.int .u8 (op:Int))/\U.cell? ⟨w.heap.size+1,1,none⟩=some (.int .u32 (f:Int))/\U.cell? ⟨w.heap.size+1,2,none⟩=some (.int .u8 (c.1:Int))/\U.cell? ⟨w.heap.size+1,3,none⟩=some (.int .i64 c.2.1)/\U.cell? ⟨w.heap.size+1,4,none⟩=some (.string (bytesT c.2.2))/\U.cell? ⟨w.heap.size+1,5,none⟩=some (.slice ka ks.length kc)):=hidden (fun U hU=>by
  have hfU:=(hU.block fp (by omega)).trans ((hbw.block fp hfp).trans hblk)
  refine ⟨by rw [cell_block hfU];rfl,by rw [cell_block hfU];rfl,(hU.cell (p:=⟨w.heap.size,0,none⟩) (by show w.heap.size<_;omega)).trans g0',?_,?_,?_,?_,?_,?_⟩
  ·exact (hU.cell (p:=⟨w.heap.size+1,0,none⟩) (by show w.heap.size+1<_;omega)).trans p0
  ·exact (hU.cell (p:=⟨w.heap.size+1,1,none⟩) (by show w.heap.size+1<_;omega)).trans p1
  ·exact (hU.cell (p:=⟨w.heap.size+1,2,none⟩) (by show w.heap.size+1<_;omega)).trans p2
  ·exact (hU.cell (p:=⟨w.heap.size+1,3,none⟩) (by show w.heap.size+1<_;omega)).trans p3
  ·exact (hU.cell (p:=⟨w.heap.size+1,4,none⟩) (by show w.heap.size+1<_;omega)).trans p4
  ·exact (hU.cell (p:=⟨w.heap.size+1,5,none⟩) (by show w.heap.size+1<_;omega)).trans p5)
 have HROW:Hid (∀ U,Below A.heap.size A U->∀ i (h:i<rows.length),∃ ra rc,U.cell? ⟨R,i,none⟩=some (.slice ra rows[i].length rc)/\Sv U (.slice ra rows[i].length rc) (vvals rows[i])/\rows[i].length<=1000/\∀ x∈rows[i],Fine x):=hidden (fun U hU i hi=>by
  obtain ⟨rv,e1,e2⟩:=hrow i hi
  have fs':=e2.sv
  obtain ⟨ra,rc,rfl,_,_⟩:=fs'.form1
  rw [vvals_length] at *
  have hbU:=hbw.trans (hU.mono hbw.size)
  exact ⟨ra,rc,(hbU.cell (p:=⟨R,i,none⟩) hR2).trans e1,fs'.kept hbU,hr _ (List.getElem_mem hi)⟩)
 have HEV:Hid (∀ U ra n rc r,Below A.heap.size A U->Sv U (.slice ra n rc) (vvals r)->(∀ x∈r,Fine x)->Calls Tryz.prog 113 #[.agg #[.int .u8 (op:Int),.int .u32 (f:Int),.int .u8 (c.1:Int),.int .i64 c.2.1,.string (bytesT c.2.2),.slice ka ks.length kc],.agg #[.int .u32 (id:Int),.slice fa fs.length fc],.slice ra n rc] U
   fun e w'=>e=.returned (.int .u8 (evalM fs r (.node op f c ks):Int))/\Below U.heap.size U w'):=hidden (fun U ra n rc r hU hs hfi=>by
  have hbU:=hbw.trans (hU.mono hbw.size)
  exact heval U _ r hbU hs hfi)
 have HBW:=hidden hbw
 have HH0:=hidden (fun k (h:k<rows.length)=>hits_take (fs:=fs) (t:=.node op f c ks) h)
 have HHM:Hid (∀ r,hitM fs (.node op f c ks) r=(evalM fs r (.node op f c ks)==2)):=hidden (fun r=>rfl)
 have HHL:=hidden (fun k=>hits_len fs (.node op f c ks) (rows.take k))
 have HHA:Hid (hits fs (.node op f c ks) (rows.take rows.length)=hits fs (.node op f c ks) rows):=hidden (by rw [List.take_length])
 generalize (PT.node op f c ks)=T at *
 clear hblk hsf hg hk heval hr hrow hb1 hb2 g0 g1 p0 p1 p2 p3 p4 p5 g0' hbw
 obtain ⟨c0,c1,c2,d0,d1,d2,d3,d4,d5⟩:=HT.out A (Below.refl _ _)
 have HZ2:=hidden hz2
 clear hz2 hz1
 generalize c.1=k0 at *
 generalize c.2.1=k1 at *
 generalize bytesT c.2.2=k2 at *
 go_enter Tryz.func67,Tryz.ntmps67
 go_wp2_with fail
 try rw [hA]
 go_loopw [7,13] (fun o i wr=>∃ (j:Nat) (l:List (Value×Row)),j<=rows.length/\i=.int .i64 (j:Int)/\Ow wr A.heap.size o l/\l.map Prod.snd=hits fs T (rows.take j)/\Below A.heap.size A wr) (fun _ i _=>rows.length-(intOf i).toNat)
 case atStart=>exact ⟨0,[],by omega,rfl,Ow.nil _ _,rfl,Below.refl _ _⟩
 case round =>
  obtain ⟨j,l,hj,rfl,how,hsn,hbel⟩:=hrel
  have HO:=hidden how
  have HB:=hidden hbel
  have HSN:=hidden hsn
  have hzr:=hbel.size
  have hll:l.length<=rows.length:=by
   have h1:=congrArg List.length hsn
   have h2:=HHL.out j
   rw [List.length_map] at h1
   rw [List.length_take] at h2
   omega
  clear how hbel hsn
  obtain ⟨c0,c1,c2,d0,d1,d2,d3,d4,d5⟩:=HT.out wr HB.out
  obtain ⟨la,lc,rfl,hl1,hl2,_⟩:=HO.out.form
  by_cases hlt:j<rows.length
  ·have hlt':(j:Int)<(rows.length:Int):=by omega
   obtain ⟨ra,rc,hck,hsv,hrl,hfi⟩:=HROW.out wr HB.out j hlt
   have HSV:=hidden hsv
   have HNX:=hidden (HH0.out j hlt)
   have HHM2:=hidden (HHM.out rows[j])
   have HEVC:Hid (∀ U,Below wr.heap.size wr U->Calls Tryz.prog 113 #[.agg #[.int .u8 (op:Int),.int .u32 (f:Int),.int .u8 (k0:Int),.int .i64 k1,.string k2,.slice ka ks.length kc],.agg #[.int .u32 (id:Int),.slice fa fs.length fc],.slice ra rows[j].length rc] U
     fun e w'=>e=.returned (.int .u8 (evalM fs rows[j] T:Int))/\Below wr.heap.size wr w'):=hidden (fun U hU=>by
    refine (HEV.out U ra _ rc rows[j] (HB.out.trans (hU.mono hzr)) (hsv.kept hU) hfi).mono ?_
    rintro e w' ⟨rfl,hb⟩
    exact ⟨rfl,below_then hU hb⟩)
   obtain ⟨E,hE⟩:∃ E,evalM fs rows[j] T=E:=⟨_,rfl⟩
   rw [hE] at HEVC HHM2
   have HHM3:Hid (hitM fs T rows[j]=(E==2)):=hidden HHM2.out
   clear hE HHM2 hsv hfi
   generalize rows[j]=r at *
   go_upto_region 5 with fail
   go_cut [24] from 32 (fun v wx=>v=.bool ((E:Int)==2)/\Below wr.heap.size wr wx)
   case first =>
    refine wp_region_noPanic ?_
    go_region_law (first
     | (go_simp;go_at_call 113;refine (HEVC.out _ ?_).mono ?_;exact below_drewN (Below.refl wr.heap.size wr) _;rintro e w1 ⟨rfl,hb1⟩;have HB1:=hidden hb1;clear hb1;dsimp only)
     | fail)
    all_goals refine NoPanic.normal ?_
    all_goals go_wp2_with fail
    all_goals go_meet
    all_goals exact ⟨rfl,HB1.out⟩
   case rest =>
   obtain ⟨rfl,hcw⟩:=hcut
   obtain ⟨w1,hw1⟩:∃ w1,w1=wc:=⟨_,rfl⟩
   subst hw1
   have HB1:=hidden hcw
   clear hcw
   have HBW1:=hidden (HB.out.trans (HB1.out.mono hzr))
   have hz1:=HB1.out.size
   clear HEVC c0 c1 c2 d0 d1 d2 d3 d4 d5 hck
   by_cases hE2:E=2
   ·have hEq:((E:Int)==2)=true:=by rw [hE2];rfl
    have HNX2:Hid (hits fs T (rows.take (j+1))=hits fs T (rows.take j)++[r]):=hidden (by rw [HNX.out,HHM3.out,hE2];rfl)
    have HCL:=hidden (cloneV_any (HSV.out.kept HB1.out) hrl)
    have HO1:=hidden (HO.out.kept HB1.out)
    clear HNX HHM3 hE2 HO
    go_wp2_with fail
    refine HCL.out.mono ?_
    rintro e w2 ⟨⟨v2,rfl,ho2⟩,hb2⟩
    have HO2:=hidden (HO1.out.kept hb2)
    have HV2:=hidden ho2
    have HB2:=hidden (HBW1.out.trans (hb2.mono (by omega)))
    have hz2:=hb2.size
    obtain ⟨ra',rc',rfl,_,_⟩:=own_form3 ho2
    have HCN:=hidden (cell_new w2 (.slice ra' r.length rc') 79)
    clear hb2 ho2 HCL HO1
    go_wp2_with (first | (at_builtin;refine wpList_append_w rfl _ _ rfl A.heap.size _ _ l [(.slice ra' r.length rc',r)] rfl (HO2.out.kept (below_one _ _)) rfl (sv_lit1 HCN.out (by rw [World.size_alloc];omega)) ?c1 ?c2 ?c3 ?_))
    case c1 =>
     intro x hx
     rw [List.mem_singleton.1 hx]
     exact (HV2.out.kept (below_one _ _)).of_le (by omega)
    case c2=>simp only [List.length_singleton];omega
    case c3=>rw [World.size_alloc];omega
    intro v' w5 o5 b5
    have HO5:=hidden o5
    have HB5:=hidden ((HB2.out.alloc (by omega) _).trans b5)
    clear o5 b5
    go_wp2_with fail
    go_roundw
    case rel=>exact ⟨j+1,_,by omega,by go_num,HO5.out,by rw [HNX2.out,List.map_append,HSN.out];rfl,HB5.out⟩
    case measure=>simp [intOf];omega
   ·have hEq:((E:Int)==2)=false:=by simp;omega
    have HNX2:Hid (hits fs T (rows.take (j+1))=hits fs T (rows.take j)):=hidden (by
     have:(E==2)=false:=by simpa using hE2
     rw [HNX.out,HHM3.out,this]
     simp)
    have HO1:=hidden (HO.out.kept HB1.out)
    clear HNX HHM3 hE2 HO
    go_wp2_with fail
    go_roundw
    case rel=>exact ⟨j+1,l,by omega,by go_num,HO1.out,by rw [HNX2.out,HSN.out],HBW1.out⟩
    case measure=>simp [intOf];omega
  ·obtain rfl:j=rows.length:=by omega
   have hge:¬ ((rows.length:Nat):Int)<(rows.length:Int):=by omega
   have HSN2:Hid (l.map Prod.snd=hits fs T rows):=hidden (HSN.out.trans HHA.out)
   go_wp2_with fail
   go_ret
   have hzz:w.heap.size<=A.heap.size:=by have:=HZ2.out;omega
   first | exact ⟨⟨_,_,rfl,HO.out.low hzz,HSN2.out⟩,below_then HBW.out HB.out⟩ | exact ⟨⟨_,rfl,_,HO.out.low hzz,HSN2.out⟩,below_then HBW.out HB.out⟩
end Go.Proofs.YtpljdjmpamjkhaaGreatDoor
