/- Contracts: bound, flags. Contracts: Check. Contracts: isFull, Clone, Add. Contract: statistic. -/
import Derived.Test.YtpljdjmpamjkhaaGreatDoorZav
import Derived.Test.YtpljdjmpamjkhaaGreatDoorZat
import Derived.Test.YtpljdjmpamjkhaaGreatDoorZap
import Derived.Deep.AppendLies
import Derived.Lib.SliceRun
set_option linter.unusedVariables false
set_option linter.unusedSimpArgs false
set_option maxRecDepth 100000
set_option maxHeartbeats 4000000
namespace Go.Proofs.YtpljdjmpamjkhaaGreatDoor
open Go.RowKit Go.Lib
theorem bnd_whole {n:Int} (h:I64 n) (w:World):Calls Tryz.prog 133 #[.agg #[.int .u8 1,.int .i64 n,.string ⟨#[]⟩]] w (Told w (wv n)):=by
 have HV:=hidden (putInt_told h)
 obtain ⟨x0,x1,x2⟩:=cell_new3 w (.int .u8 1) (.int .i64 n) (.string ⟨#[]⟩) 52
 have HB0:=hidden (below_one w (.cells #[.int .u8 1,.int .i64 n,.string ⟨#[]⟩] 52))
 go_enter Tryz.func133,Tryz.ntmps133
 go_wp2_with fail
 refine (HV.out _).mono ?_
 rintro e w1 ⟨⟨v1,rfl,o1⟩,hb1⟩
 have HO:=hidden o1
 have HB:=hidden hb1
 clear o1 hb1
 go_wp2_with fail
 go_ret
 exact ⟨⟨_,rfl,own_low HO.out HB0.out.size⟩,below_then HB0.out HB.out⟩
theorem bnd_truth {n:Nat} (h:n<2) (w:World):Calls Tryz.prog 133 #[.agg #[.int .u8 2,.int .i64 (n:Int),.string ⟨#[]⟩]] w (Told w [n]):=by
 obtain ⟨x0,x1,x2⟩:=cell_new3 w (.int .u8 2) (.int .i64 (n:Int)) (.string ⟨#[]⟩) 52
 have hwr:IntKind.u8.wrap (n:Int)=(n:Int):=by rw [IntKind.wrap_u8];omega
 have HB0:=hidden (below_one w (.cells #[.int .u8 2,.int .i64 (n:Int),.string ⟨#[]⟩] 52))
 have HL:=hidden (lit_own (w.alloc (.cells #[.int .u8 2,.int .i64 (n:Int),.string ⟨#[]⟩] 52)) n)
 have HB1:=hidden (below_one (w.alloc (.cells #[.int .u8 2,.int .i64 (n:Int),.string ⟨#[]⟩] 52)) (.cells #[.int .u8 (n:Int)] 5))
 have hz:(w.alloc (.cells #[.int .u8 2,.int .i64 (n:Int),.string ⟨#[]⟩] 52)).heap.size=w.heap.size+1:=World.size_alloc _ _
 go_enter Tryz.func133,Tryz.ntmps133
 go_wp2_with fail
 go_ret
 have H1:=own_low HL.out HB0.out.size
 rw [hz] at H1
 exact ⟨⟨_,rfl,H1⟩,below_then HB0.out HB1.out⟩
theorem bnd_told {c:Cl} (h:Fine c) (w:World):Calls Tryz.prog 133 #[.agg #[.int .u8 (c.1:Int),.int .i64 c.2.1,.string (bytesT c.2.2)]] w (Told w (bndB c)):=by
 rcases h with rfl | ⟨n,rfl,h1⟩ | ⟨n,rfl,h1⟩ | ⟨s,rfl,h1,h2⟩
 ·have:=bnd_text (s:=[]) 0 0 (by decide) (by decide) (by simp) (fun x hx=>by simp at hx) w
  exact this
 ·have:=bnd_whole h1 w
  exact this
 ·have:=bnd_truth h1 w
  have e:bndB ((2,(n:Int),[]):Cl)=[n]:=by
   unfold bndB
   rw [if_neg (by simp),if_pos (by simp)]
   simp only
   congr 1
   omega
  rw [e]
  exact this
 ·have:=bnd_text (s:=s) 3 0 (by decide) (by decide) h1 h2 w
  exact this
theorem flags_any10 (st:Stt) (w:World):Calls Tryz.prog 132 #[aggS st] w fun e w'=>e=.returned (.int .u8 (flgB st:Int))/\Below w.heap.size w w':=by
 obtain ⟨r,n,so,hi,lo,hh⟩:=st
 unfold aggS flgB
 have hc:∀ i,i<10->(w.alloc (.cells #[.int .i64 r,.int .i64 n,.bool so,.bool hi,.int .u8 (lo.1:Int),.int .i64 lo.2.1,.string (bytesT lo.2.2),.int .u8 (hh.1:Int),.int .i64 hh.2.1,.string (bytesT hh.2.2)] 54)).cell? ⟨w.heap.size,i,none⟩=(celS ⟨r,n,so,hi,lo,hh⟩)[i]?:=fun i hi=>by
  rw [cell_block (heap_alloc_new w _)]
  simp [celS]
 have c2:=hc 2 (by omega)
 have c3:=hc 3 (by omega)
 simp only [celS,List.getElem?_cons_succ,List.getElem?_cons_zero] at c2 c3
 have HB:=hidden (below_one w (.cells #[.int .i64 r,.int .i64 n,.bool so,.bool hi,.int .u8 (lo.1:Int),.int .i64 lo.2.1,.string (bytesT lo.2.2),.int .u8 (hh.1:Int),.int .i64 hh.2.1,.string (bytesT hh.2.2)] 54))
 clear hc
 cases so<;>cases hi
 all_goals
  go_enter Tryz.func132,Tryz.ntmps132
  go_wp2_with fail
  go_ret
  exact ⟨by first | rfl | kernel_rfl,HB.out⟩
end Go.Proofs.YtpljdjmpamjkhaaGreatDoor
set_option linter.unusedVariables false
set_option linter.unusedSimpArgs false
set_option maxRecDepth 100000
set_option maxHeartbeats 4000000
namespace Go.Proofs.YtpljdjmpamjkhaaGreatDoor
open Go.RowKit Go.Lib
theorem check_sch {w:World} {v:Value} {l:List Fd} (hs:Sf w v l) (id:Nat):Calls Tryz.prog 77 #[.agg #[.int .u32 (id:Int),v]] w fun e w'=>e=.returned (.int .i64 (chk id l:Int))/\Below w.heap.size w w':=by
 obtain ⟨a,cap,rfl,hcap,hcm⟩:=hs.form
 have HB0:=hidden (below_one w (.cells #[.int .u32 (id:Int),.slice a l.length cap] 25))
 have HS:=hidden (hs.kept (below_one w (.cells #[.int .u32 (id:Int),.slice a l.length cap] 25)))
 obtain ⟨c0,c1⟩:=cell_new2 w (.int .u32 (id:Int)) (.slice a l.length cap) 25
 have hz:w.heap.size<(w.alloc (.cells #[.int .u32 (id:Int),.slice a l.length cap] 25)).heap.size:=by rw [World.size_alloc];omega
 clear hs
 by_cases h1:id=0∨l.length=0∨8<l.length
 ·have HR:Hid (chk id l=1):=hidden (if_pos h1)
  clear c0 c1 hz HS
  by_cases q1:id=0
  ·subst q1
   go_enter Tryz.func77,Tryz.ntmps77
   go_wp2_with fail
   go_ret
   rw [HR.out]
   exact ⟨rfl,HB0.out⟩
  ·have q1':((id:Int)==0)=false:=by simp [q1]
   by_cases q2:l.length=0
   ·have q2':((l.length:Int)==0)=true:=by simp [q2]
    clear h1 q1 q2
    go_enter Tryz.func77,Tryz.ntmps77
    go_wp2_with fail
    go_ret
    rw [HR.out]
    exact ⟨rfl,HB0.out⟩
   ·have q2':((l.length:Int)==0)=false:=by simp [q2]
    have q3:(l.length:Int) > 8:=by omega
    clear h1 q1 q2
    go_enter Tryz.func77,Tryz.ntmps77
    go_wp2_with fail
    go_ret
    rw [HR.out]
    exact ⟨rfl,HB0.out⟩
 ·have HR:Hid (chk id l=fe (l.take 0) (l.drop 0)):=hidden (if_neg h1)
  have q1':((id:Int)==0)=false:=beq_eq_false_iff_ne.2 (by omega)
  have q2':((l.length:Int)==0)=false:=beq_eq_false_iff_ne.2 (by omega)
  have q3:¬ (l.length:Int) > 8:=by omega
  have hl8:l.length<=8:=by omega
  clear h1
  generalize hW:w.alloc (.cells #[.int .u32 (id:Int),.slice a l.length cap] 25)=W at *
  go_enter Tryz.func77,Tryz.ntmps77
  go_wp2_with fail
  try rw [hW]
  clear hW
  go_loopw [24] (fun i wr=>∃ k:Nat,k<=l.length/\i=.int .i64 (k:Int)/\chk id l=fe (l.take k) (l.drop k)/\Below W.heap.size W wr) (fun i _=>l.length-(intOf i).toNat)
  case atStart=>exact ⟨0,by omega,rfl,HR.out,Below.refl _ _⟩
  case round =>
   obtain ⟨k,hk,rfl,hfe,hbel⟩:=hrel
   have HF:=hidden hfe
   have HB:=hidden hbel
   have hzr:=hbel.size
   clear hfe hbel HR
   by_cases hlt:k<l.length
   ·obtain ⟨b,off,rfl,hb,x0,x1,x2,x3⟩:=(HS.out.kept HB.out).at hlt
    have HT:=hidden (HF.out.trans (fe_step hlt))
    have hlt':(k:Int)<(l.length:Int):=by omega
    have hkc:(k:Int)<=(cap:Int):=by omega
    have hknn:(0:Int)<=(k:Int):=by omega
    have hktn:((k:Int)).toNat=k:=by omega
    have hdcap:¬ cap=0:=by omega
    have HST:=hidden (HS.out.take (k:=k) (by omega))
    generalize l[k]=f at *
    obtain ⟨f0,f1,f2,f3⟩:=f
    simp only at *
    have d1:=(HB.out.cell (p:=⟨w.heap.size,1,none⟩) hz).trans c1
    have hbn:=below_one wr (.cells #[.int .u32 (f0:Int),.string f1,.int .u8 (f2:Int),.bool f3] 81)
    have e1:=(hbn.cell (p:=⟨w.heap.size,1,none⟩) (Nat.lt_of_lt_of_le hz hzr)).trans d1
    obtain ⟨g0,g1,g2,g3⟩:=cell_new4 wr (.int .u32 (f0:Int)) (.string f1) (.int .u8 (f2:Int)) (.bool f3) 81
    have HB2:=hidden (HB.out.trans (hbn.mono hzr))
    have HFA:=hidden (fun m=>fault_anyE (sf_drewN ((HST.out.kept HB.out).kept hbn) m) (f0,f1,f2,f3))
    unfold aggF at HFA
    simp only at HFA
    generalize faultM (l.take k) (f0,f1,f2,f3)=R at *
    have hsz:(wr.alloc (.cells #[.int .u32 (f0:Int),.string f1,.int .u8 (f2:Int),.bool f3] 81)).heap.size=wr.heap.size+1:=World.size_alloc _ _
    clear hbn
    go_wp2_with fail
    generalize hV:wr.alloc (.cells #[.int .u32 (f0:Int),.string f1,.int .u8 (f2:Int),.bool f3] 81)=V at *
    clear hV x0 x1 x2 x3
    have HKEEP:Hid (∀ n W',Below V.heap.size (V.drewN n) W'->(W'.cell? ⟨w.heap.size,1,none⟩=some (.slice (some ⟨b,off,none⟩) l.length cap)/\W'.cell? ⟨wr.heap.size,0,none⟩=some (.int .u32 (f0:Int))/\W'.cell? ⟨wr.heap.size,1,none⟩=some (.string f1)/\W'.cell? ⟨wr.heap.size,2,none⟩=some (.int .u8 (f2:Int))/\W'.cell? ⟨wr.heap.size,3,none⟩=some (.bool f3))/\Below W.heap.size W W'):=hidden (fun n W' h=>by
     have hb':Below V.heap.size V W':=(below_drewN (Below.refl _ _) n).trans h
     exact ⟨⟨(hb'.cell (p:=⟨w.heap.size,1,none⟩) (show w.heap.size<_ by omega)).trans e1,(hb'.cell (p:=⟨wr.heap.size,0,none⟩) (show wr.heap.size<_ by omega)).trans g0,(hb'.cell (p:=⟨wr.heap.size,1,none⟩) (show wr.heap.size<_ by omega)).trans g1,(hb'.cell (p:=⟨wr.heap.size,2,none⟩) (show wr.heap.size<_ by omega)).trans g2,(hb'.cell (p:=⟨wr.heap.size,3,none⟩) (show wr.heap.size<_ by omega)).trans g3⟩,HB2.out.trans (hb'.mono HB2.out.size)⟩)
    go_region_held3 (fun w'=>w'.cell? ⟨w.heap.size,1,none⟩=some (.slice (some ⟨b,off,none⟩) l.length cap)/\w'.cell? ⟨wr.heap.size,0,none⟩=some (.int .u32 (f0:Int))/\w'.cell? ⟨wr.heap.size,1,none⟩=some (.string f1)/\w'.cell? ⟨wr.heap.size,2,none⟩=some (.int .u8 (f2:Int))/\w'.cell? ⟨wr.heap.size,3,none⟩=some (.bool f3)) (first | assumption | go_keep) (first | (go_at_call 116;refine (HFA.out _).mono ?_;rintro e w2 ⟨rfl,hb2⟩;obtain ⟨hkk,hbb⟩:=HKEEP.out _ _ hb2;have HBB:=hidden hbb;clear hbb hb2))
    clear hkk e1 g0 g1 g2 g3 d1 c0 c1
    by_cases hR:R=0
    ·rw [if_pos hR] at HT
     subst hR
     go_wp2_with fail
     go_roundw
     case rel=>exact ⟨k+1,by omega,by go_num,HT.out,HBB.out⟩
     case measure=>simp [intOf];omega
    ·rw [if_neg hR] at HT
     have hR':((R:Int) != 0)=true:=by simp [hR]
     clear hR
     go_wp2_with fail
     go_ret
     rw [HT.out]
     exact ⟨rfl,below_then HB0.out HBB.out⟩
   ·obtain rfl:k=l.length:=by omega
    have hge:¬ ((l.length:Nat):Int)<(l.length:Int):=by omega
    have HT:=hidden (HF.out.trans (fe_end l))
    clear HF
    go_wp2_with fail
    go_ret
    rw [HT.out]
    exact ⟨rfl,below_then HB0.out HB.out⟩
end Go.Proofs.YtpljdjmpamjkhaaGreatDoor
set_option linter.unusedVariables false
set_option linter.unusedSimpArgs false
set_option maxRecDepth 100000
set_option maxHeartbeats 4000000
namespace Go.Proofs.YtpljdjmpamjkhaaGreatDoor
open Go.RowKit Go.Lib
theorem cloneF_any {w:World} {v:Value} {l:List Fd} (hs:Sf w v l) (hl:l.length<=1000) :
  Calls Tryz.prog 55 #[v] w fun e w'=>(∃ v',e=.returned v'/\OwnF w' w.heap.size v' l)/\Below w.heap.size w w':=by
 have HS:=hidden hs
 obtain ⟨ad,cap,rfl,h1,h2,h3,_⟩:=hs
 cases ad with
 | none =>
  have hc:=h3 rfl
  subst hc
  have hl0:l=[]:=List.eq_nil_of_length_eq_zero (by omega)
  subst hl0
  have hq:(binOp .eql 23 (.slice none 0 0) (.slice none 0 0)).run Tryz.prog w=.ok (.bool true) w:=run_eql_slice_nil w 23 81 none 0 0 0 0 Tryz.underlying23
  go_enter Tryz.func55,Tryz.ntmps55
  go_wp2_with fail
  go_ret
  exact ⟨⟨_,rfl,OwnF.nil _ _⟩,Below.refl _ _⟩
 | some ad =>
  have HN:Hid (OwnF (w.alloc (.cells #[] 81)) w.heap.size (.slice (some ⟨w.heap.size,0,none⟩) 0 0) []):=hidden (lit_fields w [] (by unfold maxLen;simp))
  have HS2:=hidden (HS.out.kept (below_one w (.cells #[] 81)))
  clear h3
  have hq:(binOp .eql 23 (.slice (some ad) l.length cap) (.slice none 0 0)).run Tryz.prog w=.ok (.bool false) w:=run_eql_slice_nil w 23 81 (some ad) l.length cap 0 0 Tryz.underlying23
  go_enter Tryz.func55,Tryz.ntmps55
  go_wp2_with (first | (at_builtin;refine wpList_append_fs rfl _ _ rfl w.heap.size _ _ [] l rfl ?q1 rfl ?q2 ?c1 ?c2 ?_))
  case q1=>exact HN.out
  case q2=>exact HS2.out
  case c1=>simp;omega
  case c2=>rw [World.size_alloc];omega
  intro v3 w3 o3 hb3
  have HO3:=hidden o3
  have HB3:=hidden ((below_one w (.cells #[] 81)).trans hb3)
  clear o3 hb3
  go_wp2_with fail
  go_ret
  exact ⟨⟨_,rfl,HO3.out⟩,HB3.out⟩
theorem step_append_f {w:World} {ops:Array Oper} {o:Oper} {a:Act} {K:Act->World->Prop} {Q:Exit->Act->World->Prop} {E:Prop} (hgd:o.guard=none) (s x:Operand)
  (ho:o.op=.call { callee:=.builtin .append,args:=#[s,x],argTypes:=#[23,23] })
  (base B2:Nat) (v vx:Value) (l0 l:List Fd) (hs:a.eval s=v) (hown:OwnF w base v l0) (hx:a.eval x=vx) (hsl:OwnF w B2 vx l) (hp:0<l.length)
  (hbytes:l0.length+l.length<=100000) (hbase:base<=w.heap.size)
  (h:∀ v' w',OwnF w' base v' (l0++l)->Below base w w'->K (a.put o.dst v') w') :
  if Region.wanted o (yielded ops a.tmps)=true then Oper.wp Tryz.prog o a w K Q else E:=by
 obtain ⟨i0,hi,hz0,hz1',hz2⟩:=info_parts info81
 unfold OwnF at hsl
 obtain ⟨g,cap,rfl,hB,hg⟩:=World.ownsRow.form hsl hp
 have hc:∀ j u,(fvals l)[j]?=some u->w.cell? ((⟨g,0,none⟩:Addr).add j)=some u:=fun j u hj=>hsl.cells (g:=g) rfl j u hj
 unfold OwnF at hown
 refine step_append_lies (P:=Tryz.prog) w hgd s x 23 ho base 81 i0 (.agg #[.int .u32 0,.string ⟨#[]⟩,.int .u8 0,.bool false]) 4 32 Tryz.underlying23 hi hz0 hz1' hz2 rfl (by decide) v l0.length (fvals l0) hs hown ⟨g,0,none⟩ l.length cap (fvals l) hx (by rw [fvals_length]) hc (fvals_oneCell _) hp (by unfold maxLen;omega) (by omega) hbase _ rfl ?_
 intro g' cap' w' o1 g1 _ _
 refine h _ w' ?_ ((Below.refl base w).grown g1 hbase (fun k hk=>(hown.lt k hk).1))
 unfold OwnF
 rw [fvals_append,List.length_append]
 exact o1
theorem le_alloc {B:Nat} {w:World} (h:B<=w.heap.size) (o:Obj):B<=(w.alloc o).heap.size:=by rw [World.size_alloc];omega
theorem below_set2 {w w1:World} {B p:Nat} (h:Below B w w1) (hp:B<=p) (x y:Value):Below B w ((w1.setCell ⟨p,0,none⟩ x).setCell ⟨p,1,none⟩ y):=(h.setCell hp _).setCell hp _
theorem own_set2 {w1:World} {B p:Nat} {v:Value} {l:List Fd} (h:OwnF w1 B v l) (hp:p<B) (x y:Value):OwnF ((w1.setCell ⟨p,0,none⟩ x).setCell ⟨p,1,none⟩ y) B v l :=
 Fr.own (((Fr.refl p w1.heap.size w1).set 0 x).set 1 y) h hp
end Go.Proofs.YtpljdjmpamjkhaaGreatDoor
set_option linter.unusedVariables false
set_option linter.unusedSimpArgs false
set_option maxRecDepth 100000
set_option maxHeartbeats 8000000
namespace Go.Proofs.YtpljdjmpamjkhaaGreatDoor
open Go.RowKit Go.Lib
theorem bndB_len {c:Cl} (h:Fine c):(bndB c).length<=74:=by
 have hl:=h.size
 unfold bndB
 split
 ·rcases h with rfl | ⟨n,rfl,h1⟩ | ⟨n,rfl,h1⟩ | ⟨s,rfl,h1,h2⟩<;>first | (have:=wv_ten h1;unfold wv at this;simp only;omega) | (simp_all [nul])
 ·split
  ·simp
  ·have:=uv_ten (n:=c.2.2.length) (by omega)
   rw [List.length_append]
   omega
theorem flgB_lt (st:Stt):flgB st<4:=by unfold flgB;split<;>split<;>omega
theorem statistic_told {st:Stt} (h1:Fine st.lo) (h2:Fine st.hi) (hn:∃ n:Nat,st.nulls=(n:Int)/\n<=1000000) (w:World):Calls Tryz.prog 84 #[aggS st] w (Told w (statB st)):=by
 obtain ⟨n,hn,hn2⟩:=hn
 obtain ⟨r,nu,so,hi,lo,hh⟩:=st
 simp only at hn h1 h2
 subst hn
 have HC0:=hidden (count_told n (by omega))
 have HF0:=hidden (flags_any10 ⟨r,(n:Int),so,hi,lo,hh⟩)
 have HL0:=hidden (bnd_told h1)
 have HH0:=hidden (bnd_told h2)
 have hl1:=bndB_len h1
 have hl2:=bndB_len h2
 have hu:=uv_ten (n:=n) (by omega)
 have HE:Hid (statB ⟨r,(n:Int),so,hi,lo,hh⟩=uv n++[flgB ⟨r,(n:Int),so,hi,lo,hh⟩]++((if so=true then bndB lo else [])++(if hi=true then bndB hh else []))):=hidden (by unfold statB;rw [Int.toNat_natCast])
 unfold aggS at HF0 ⊢
 have HB0:=hidden (below_one w (.cells #[.int .i64 r,.int .i64 (n:Int),.bool so,.bool hi,.int .u8 (lo.1:Int),.int .i64 lo.2.1,.string (bytesT lo.2.2),.int .u8 (hh.1:Int),.int .i64 hh.2.1,.string (bytesT hh.2.2)] 54))
 have hz:w.heap.size<(w.alloc (.cells #[.int .i64 r,.int .i64 (n:Int),.bool so,.bool hi,.int .u8 (lo.1:Int),.int .i64 lo.2.1,.string (bytesT lo.2.2),.int .u8 (hh.1:Int),.int .i64 hh.2.1,.string (bytesT hh.2.2)] 54)).heap.size:=by rw [World.size_alloc];omega
 have hblk:=heap_alloc_new w (.cells #[.int .i64 r,.int .i64 (n:Int),.bool so,.bool hi,.int .u8 (lo.1:Int),.int .i64 lo.2.1,.string (bytesT lo.2.2),.int .u8 (hh.1:Int),.int .i64 hh.2.1,.string (bytesT hh.2.2)] 54)
 generalize hW:w.alloc (.cells #[.int .i64 r,.int .i64 (n:Int),.bool so,.bool hi,.int .u8 (lo.1:Int),.int .i64 lo.2.1,.string (bytesT lo.2.2),.int .u8 (hh.1:Int),.int .i64 hh.2.1,.string (bytesT hh.2.2)] 54)=W at *
 generalize lo.1=l0 at *
 generalize lo.2.1=l1 at *
 generalize bytesT lo.2.2=l2 at *
 generalize hh.1=h0 at *
 generalize hh.2.1=h1' at *
 generalize bytesT hh.2.2=h2' at *
 have HT:Hid (∀ U,Below W.heap.size W U->U.cell? ⟨w.heap.size,0,none⟩=some (.int .i64 r)/\U.cell? ⟨w.heap.size,1,none⟩=some (.int .i64 (n:Int))/\U.cell? ⟨w.heap.size,2,none⟩=some (.bool so)/\U.cell? ⟨w.heap.size,3,none⟩=some (.bool hi)/\U.cell? ⟨w.heap.size,4,none⟩=some (.int .u8 (l0:Int))/\U.cell? ⟨w.heap.size,5,none⟩=some (.int .i64 l1)/\U.cell? ⟨w.heap.size,6,none⟩=some (.string l2)/\U.cell? ⟨w.heap.size,7,none⟩=some (.int .u8 (h0:Int))/\U.cell? ⟨w.heap.size,8,none⟩=some (.int .i64 h1')/\U.cell? ⟨w.heap.size,9,none⟩=some (.string h2')):=hidden (fun U hb=>by
  have hU:=(hb.block w.heap.size hz).trans hblk
  refine ⟨?_,?_,?_,?_,?_,?_,?_,?_,?_,?_⟩<;>(rw [cell_block hU];rfl))
 clear hblk
 have HC:Hid (∀ U,Below W.heap.size W U->Calls Tryz.prog 81 #[.int .i64 (n:Int)] U fun e w'=>∃ v,e=.returned v/\OwnB w' W.heap.size v (uv n)/\Below U.heap.size U w'/\Below W.heap.size W w'/\(w'.cell? ⟨w.heap.size,0,none⟩=some (.int .i64 r)/\w'.cell? ⟨w.heap.size,1,none⟩=some (.int .i64 (n:Int))/\w'.cell? ⟨w.heap.size,2,none⟩=some (.bool so)/\w'.cell? ⟨w.heap.size,3,none⟩=some (.bool hi)/\w'.cell? ⟨w.heap.size,4,none⟩=some (.int .u8 (l0:Int))/\w'.cell? ⟨w.heap.size,5,none⟩=some (.int .i64 l1)/\w'.cell? ⟨w.heap.size,6,none⟩=some (.string l2)/\w'.cell? ⟨w.heap.size,7,none⟩=some (.int .u8 (h0:Int))/\w'.cell? ⟨w.heap.size,8,none⟩=some (.int .i64 h1')/\w'.cell? ⟨w.heap.size,9,none⟩=some (.string h2'))):=hidden (fun U hU=>by
  refine (HC0.out U).mono ?_
  rintro e w' ⟨⟨v,rfl,ho⟩,hb⟩
  have hb2:=below_then hU hb
  exact ⟨v,rfl,own_low ho hU.size,hb,hb2,HT.out _ hb2⟩)
 have HF:Hid (∀ U,Below W.heap.size W U->Calls Tryz.prog 132 #[.agg #[.int .i64 r,.int .i64 (n:Int),.bool so,.bool hi,.int .u8 (l0:Int),.int .i64 l1,.string l2,.int .u8 (h0:Int),.int .i64 h1',.string h2']] U fun e w'=>e=.returned (.int .u8 (flgB ⟨r,(n:Int),so,hi,lo,hh⟩:Int))/\Below U.heap.size U w'/\Below W.heap.size W w'/\(w'.cell? ⟨w.heap.size,0,none⟩=some (.int .i64 r)/\w'.cell? ⟨w.heap.size,1,none⟩=some (.int .i64 (n:Int))/\w'.cell? ⟨w.heap.size,2,none⟩=some (.bool so)/\w'.cell? ⟨w.heap.size,3,none⟩=some (.bool hi)/\w'.cell? ⟨w.heap.size,4,none⟩=some (.int .u8 (l0:Int))/\w'.cell? ⟨w.heap.size,5,none⟩=some (.int .i64 l1)/\w'.cell? ⟨w.heap.size,6,none⟩=some (.string l2)/\w'.cell? ⟨w.heap.size,7,none⟩=some (.int .u8 (h0:Int))/\w'.cell? ⟨w.heap.size,8,none⟩=some (.int .i64 h1')/\w'.cell? ⟨w.heap.size,9,none⟩=some (.string h2'))):=hidden (fun U hU=>by
  refine (HF0.out U).mono ?_
  rintro e w' ⟨rfl,hb⟩
  have hb2:=below_then hU hb
  exact ⟨rfl,hb,hb2,HT.out _ hb2⟩)
 clear HC0 HF0
 generalize flgB ⟨r,(n:Int),so,hi,lo,hh⟩=fg at *
 generalize uv n=P at *
 obtain ⟨x0,x1,x2,x3,x4,x5,x6,x7,x8,x9⟩:=HT.out W (Below.refl _ _)
 go_enter Tryz.func84,Tryz.ntmps84
 go_wp2_with fail
 try rw [hW]
 clear hW
 have hBW:Below W.heap.size W W:=Below.refl _ _
 go_region_held3 (fun w'=>w'.cell? ⟨w.heap.size,0,none⟩=some (.int .i64 r)/\w'.cell? ⟨w.heap.size,1,none⟩=some (.int .i64 (n:Int))/\w'.cell? ⟨w.heap.size,2,none⟩=some (.bool so)/\w'.cell? ⟨w.heap.size,3,none⟩=some (.bool hi)/\w'.cell? ⟨w.heap.size,4,none⟩=some (.int .u8 (l0:Int))/\w'.cell? ⟨w.heap.size,5,none⟩=some (.int .i64 l1)/\w'.cell? ⟨w.heap.size,6,none⟩=some (.string l2)/\w'.cell? ⟨w.heap.size,7,none⟩=some (.int .u8 (h0:Int))/\w'.cell? ⟨w.heap.size,8,none⟩=some (.int .i64 h1')/\w'.cell? ⟨w.heap.size,9,none⟩=some (.string h2')) (first | (refine ⟨?_,?_,?_,?_,?_,?_,?_,?_,?_,?_⟩<;>assumption) | go_keep) (first
  | (go_at_call 81;refine (HC.out _ ?_).mono ?_;(first | exact below_drewN hBW _ | exact below_drewN hbw3 _ | exact hbw3);rintro e w2 ⟨v2,rfl,ho2,hb2,hbw2,⟨y0,y1,y2,y3,y4,y5,y6,y7,y8,y9⟩⟩;have HO2:=hidden ho2;clear ho2)
  | (go_at_call 132;refine (HF.out _ ?_).mono ?_;(first | exact below_drewN hbw2 _ | exact hbw2);rintro e w3 ⟨rfl,hb3,hbw3,⟨z0,z1,z2,z3,z4,z5,z6,z7,z8,z9⟩⟩;have HO3:=hidden (HO2.out.kept hb3);clear HO2 hb3)
  | (go_at_call 132;refine (HF.out _ ?_).mono ?_;(first | exact below_drewN hBW _ | exact below_drewN hbw2 _ | exact hbw2);rintro e w3 ⟨rfl,hb3,hbw3,⟨z0,z1,z2,z3,z4,z5,z6,z7,z8,z9⟩⟩)
  | (refine step_append_sv (by rfl) _ _ (by rfl) W.heap.size _ _ P [fg] (by rfl) ?_ (by rfl) ?_ ?_ ?_ ?_;exact HO3.out.kept (below_one _ _);exact (lit_own _ fg).sv;(simp only [List.length_singleton];omega);exact Nat.le_trans hbw3.size (le_alloc (Nat.le_refl _) _);intro v4 w4 o4 b4 g4 e4;have hb4:=(hbw3.alloc hbw3.size _).trans b4;obtain ⟨q0,q1,q2,q3,q4,q5,q6,q7,q8,q9⟩:=HT.out _ hb4;have HO4:=hidden o4;have HB4:=hidden hb4;clear g4 e4 b4 hb4 o4)
  | fail)
 clear y0 y1 y2 y3 y4 y5 y6 y7 y8 y9 z0 z1 z2 z3 z4 z5 z6 z7 z8 z9 x0 x1 x2 x3 x4 x5 x6 x7 x8 x9 hb2 hbw2 hbw3 HC HF HO3
 have hPl:P.length<=10:=hu
 have HEND:Hid (∀ (so' hi':Bool) v' w',so=so'->hi=hi'->OwnB w' W.heap.size v' (P++[fg]++(if so'=true then bndB lo else [])++(if hi'=true then bndB hh else []))->Below W.heap.size W w'->Told w (statB ⟨r,(n:Int),so,hi,lo,hh⟩) (.returned v') w'):=hidden (fun so' hi' v' w' e1 e2 ho hb=>by
  rw [HE.out,e1,e2]
  refine ⟨⟨_,rfl,own_low ?_ HB0.out.size⟩,below_then HB0.out hb⟩
  have h9:=ho
  rw [List.append_assoc] at h9
  exact h9)
 have hx:(so=true∨so=false):=by cases so<;>simp
 rcases hx with hso | hso
 all_goals (have hy:(hi=true∨hi=false):=by cases hi<;>simp)
 all_goals rcases hy with hhi | hhi
 ·rw [hso] at q2
  rw [hhi] at q3
  go_wp2_with fail
  refine (HL0.out _).mono ?_
  rintro e w5 ⟨⟨v5,rfl,o5⟩,hb5⟩
  have HO5:=hidden (HO4.out.kept hb5)
  have HS5:=hidden o5.sv
  have HB5:=hidden (below_then HB4.out hb5)
  clear o5 hb5 q0 q1 q2 q3 q4 q5 q6 q7 q8 q9
  go_wp2_with (first | (at_builtin;refine wpList_append_g rfl _ _ rfl W.heap.size _ _ (P++[fg]) (bndB lo) rfl HO5.out rfl HS5.out ?d1a ?d1b ?_))
  case d1a=>simp only [List.length_append,List.length_singleton];omega
  case d1b=>exact HB5.out.size
  intro v6 w6 o6 b6 _ _
  have hb6:=HB5.out.trans b6
  obtain ⟨q0,q1,q2,q3,q4,q5,q6,q7,q8,q9⟩:=HT.out _ hb6
  have HO6:Hid (OwnB w6 W.heap.size v6 (P++[fg]++bndB lo)):=hidden (by simpa using o6)
  have HB6:=hidden hb6
  clear o6 b6 hb6
  rw [hhi] at q3
  go_wp2_with fail
  refine (HH0.out _).mono ?_
  rintro e w7 ⟨⟨v7,rfl,o7⟩,hb7⟩
  have HO7:=hidden (HO6.out.kept hb7)
  have HS7:=hidden o7.sv
  have HB7:=hidden (below_then HB6.out hb7)
  clear o7 hb7 q0 q1 q2 q3 q4 q5 q6 q7 q8 q9
  go_wp2_with (first | (at_builtin;refine wpList_append_g rfl _ _ rfl W.heap.size _ _ (P++[fg]++bndB lo) (bndB hh) rfl HO7.out rfl HS7.out ?d2a ?d2b ?_))
  case d2a=>simp only [List.length_append,List.length_singleton];omega
  case d2b=>exact HB7.out.size
  intro v8 w8 o8 b8 _ _
  have hb8:=HB7.out.trans b8
  obtain ⟨q0,q1,q2,q3,q4,q5,q6,q7,q8,q9⟩:=HT.out _ hb8
  have HO8:Hid (OwnB w8 W.heap.size v8 (P++[fg]++bndB lo++bndB hh)):=hidden (by simpa using o8)
  have HB8:=hidden hb8
  clear o8 b8 hb8
  go_wp2_with fail
  go_ret
  refine HEND.out true true _ _ hso hhi ?_ HB8.out
  have h9:=HO8.out
  simpa using h9
 ·rw [hso] at q2
  rw [hhi] at q3
  go_wp2_with fail
  refine (HL0.out _).mono ?_
  rintro e w5 ⟨⟨v5,rfl,o5⟩,hb5⟩
  have HO5:=hidden (HO4.out.kept hb5)
  have HS5:=hidden o5.sv
  have HB5:=hidden (below_then HB4.out hb5)
  clear o5 hb5 q0 q1 q2 q3 q4 q5 q6 q7 q8 q9
  go_wp2_with (first | (at_builtin;refine wpList_append_g rfl _ _ rfl W.heap.size _ _ (P++[fg]) (bndB lo) rfl HO5.out rfl HS5.out ?d3a ?d3b ?_))
  case d3a=>simp only [List.length_append,List.length_singleton];omega
  case d3b=>exact HB5.out.size
  intro v6 w6 o6 b6 _ _
  have hb6:=HB5.out.trans b6
  obtain ⟨q0,q1,q2,q3,q4,q5,q6,q7,q8,q9⟩:=HT.out _ hb6
  have HO6:Hid (OwnB w6 W.heap.size v6 (P++[fg]++bndB lo)):=hidden (by simpa using o6)
  have HB6:=hidden hb6
  clear o6 b6 hb6
  rw [hhi] at q3
  go_wp2_with fail
  go_ret
  refine HEND.out true false _ _ hso hhi ?_ HB6.out
  have h9:=HO6.out
  simpa using h9
 ·rw [hso] at q2
  rw [hhi] at q3
  go_wp2_with fail
  refine (HH0.out _).mono ?_
  rintro e w5 ⟨⟨v5,rfl,o5⟩,hb5⟩
  have HO5:=hidden (HO4.out.kept hb5)
  have HS5:=hidden o5.sv
  have HB5:=hidden (below_then HB4.out hb5)
  clear o5 hb5 q0 q1 q2 q3 q4 q5 q6 q7 q8 q9
  go_wp2_with (first | (at_builtin;refine wpList_append_g rfl _ _ rfl W.heap.size _ _ (P++[fg]) (bndB hh) rfl HO5.out rfl HS5.out ?d4a ?d4b ?_))
  case d4a=>simp only [List.length_append,List.length_singleton];omega
  case d4b=>exact HB5.out.size
  intro v6 w6 o6 b6 _ _
  have hb6:=HB5.out.trans b6
  obtain ⟨q0,q1,q2,q3,q4,q5,q6,q7,q8,q9⟩:=HT.out _ hb6
  have HO6:Hid (OwnB w6 W.heap.size v6 (P++[fg]++bndB hh)):=hidden (by simpa using o6)
  have HB6:=hidden hb6
  clear o6 b6 hb6
  go_wp2_with fail
  go_ret
  refine HEND.out false true _ _ hso hhi ?_ HB6.out
  have h9:=HO6.out
  simpa using h9
 ·rw [hso] at q2
  rw [hhi] at q3
  go_wp2_with fail
  go_ret
  refine HEND.out false false _ _ hso hhi ?_ HB4.out
  have h9:=HO4.out
  simpa using h9
end Go.Proofs.YtpljdjmpamjkhaaGreatDoor
