/- HasPrefix, Clean, and the document's Sign and Signs. -/
import Derived.Test.YtpljdjmpamjkhaaGreatDoorZab
set_option linter.unusedVariables false
set_option linter.unusedSimpArgs false
set_option maxRecDepth 100000
set_option maxHeartbeats 2000000
namespace Go.Proofs.YtpljdjmpamjkhaaGreatDoor
open Go.RowKit Go.Lib
theorem lb_inj {a b:ByteArray} (h:lb a=lb b):a=b:=by
 cases a;cases b
 simp [lb] at h
 subst h
 rfl
theorem lb_extract (s:ByteArray) (a e:Nat):lb (s.extract a e)=((lb s).drop a).take (e-a):=by
 simp [lb,ByteArray.data_extract,Array.toList_extract,List.extract_eq_take_drop]
theorem decode_lb (s:ByteArray) (p:Nat):Utf8.decode s p=unit ((lb s).drop p):=decode_unit s p
theorem ret_int {k:IntKind} {a b:Int} (h:a=b):Ending.returned (.int k a)=.returned (.int k b):=by rw [h]
theorem ret_bool {a b:Bool} (h:a=b):Ending.returned (.bool a)=.returned (.bool b):=by rw [h]
theorem toList_lb (s:ByteArray):s.toList=lb s:=ByteArray.toList_eq s
theorem prefix_take (b a:List UInt8):(a.take b.length==b)=b.isPrefixOf a:=by
 rw [Bool.eq_iff_iff]
 simp only [beq_iff_eq,List.isPrefixOf_iff_prefix]
 constructor
 ·intro h;rw [← h];exact List.take_prefix _ _
 ·rintro ⟨t,rfl⟩;simp
theorem litePrefix_any (a b:ByteArray) (w:World):Calls Tryz.prog 215 #[.string a,.string b] w fun e w'=>e=.returned (.bool ((lb b).isPrefixOf (lb a)))/\w'=w:=by
 have ha:=lb_size a
 have hb:=lb_size b
 by_cases h:(a.size:Int)>=b.size
 ·go_enter Tryz.func215,Tryz.ntmps215
  go_wp2
  go_ret
  refine ⟨ret_bool ?_,rfl⟩
  rw [toList_lb,toList_lb,lb_extract,← prefix_take]
  simp [hb]
 ·go_enter Tryz.func215,Tryz.ntmps215
  go_wp2
  go_ret
  refine ⟨ret_bool ?_,rfl⟩
  cases hp:(lb b).isPrefixOf (lb a) with
  | false=>rfl
  | true =>
   obtain ⟨y,hy⟩:=List.isPrefixOf_iff_prefix.1 hp
   have:=congrArg List.length hy
   simp at this
   omega
theorem hasPrefix_any (a b:ByteArray) (w:World):Calls Tryz.prog 183 #[.string a,.string b] w fun e w'=>e=.returned (.bool ((lb b).isPrefixOf (lb a)))/\w'=w:=by
 go_enter Tryz.func183,Tryz.ntmps183
 go_wp2_with fail
 refine (litePrefix_any _ _ _).mono ?_
 rintro e w1 ⟨rfl,rfl⟩
 go_wp2_with fail
 go_ret
 exact ⟨rfl,rfl⟩
theorem below_iter (w:World) (s:ByteArray) (p:Nat):Below w.heap.size w (w.iter s p):=(Below.refl _ _).alloc (Nat.le_refl _) _
theorem all_take_succ {l:List UInt8} {p k:Nat} (h:At l p k) (hp:p<l.length) (ha:((V l).take k).all ok=true):((V l).take (k+1)).all ok=ok (unit (l.drop p)):=by
 rw [take_all h hp,List.all_append,ha]
 simp
theorem all_of_take {u:List (Nat×Nat)} {k:Nat} (h:(u.take k).all ok=false):u.all ok=false:=by
 cases hu:u.all ok with
 | false=>rfl
 | true =>
  rw [List.all_eq_true] at hu
  rw [List.all_eq_false] at h
  obtain ⟨x,hx,hx2⟩:=h
  exact absurd (hu x (List.mem_of_mem_take hx)) hx2
theorem clean_any (s:ByteArray) (hs:s.size<=100000) (w:World) :
  Calls Tryz.prog 146 #[.string s] w fun e w'=>e=.returned (.bool (clean (lb s)))/\Below w.heap.size w w':=by
 have hL:=lb_size s
 go_enter Tryz.func146,Tryz.ntmps146
 go_wp2
 go_loopw [3] (fun i w'=>∃ p k:Nat,w'=w.iter s p/\At (lb s) p k/\((V (lb s)).take k).all ok=true) (fun _ w'=>s.size-w'.iterPos w.heap.size)
 case atStart=>exact ⟨0,0,rfl,At.zero _,rfl⟩
 case round =>
  obtain ⟨p,k,rfl,hat,hall⟩:=hrel
  by_cases hp:p<s.size
  ·have hnx:∀ ty,(Instr.next (.pointer (some ⟨w.heap.size,0,none⟩)) true ty).run Tryz.prog (w.iter s p)=_:=fun ty=>run_next_any w s p ty hp
   rw [decode_lb] at hnx
   have hw:=unit_width _ (drop_ne (l:=lb s) (p:=p) (by omega))
   have hn:=hat.next (by omega)
   have hal:=all_take_succ hat (by omega) hall
   have hst:=stray_prefix (l:=(lb s).drop p) (drop_ne (by omega))
   clear hat hall
   generalize (unit ((lb s).drop p))=u at *
   obtain ⟨c,wd⟩:=u
   simp only at *
   by_cases hc:c=65533
   ·subst hc
    have hs1:=hst rfl
    clear hst
    go_wp2_with fail
    refine (hasPrefix_any _ _ _).mono ?_
    rintro e w1 ⟨rfl,rfl⟩
    have hs2:(lb { data:=#[239,191,189] }).isPrefixOf (lb (s.extract p s.size))=ok (65533,wd):=by
     rw [← hs1,lb_extract,List.take_of_length_le (by simp;omega)]
     rfl
    rw [hs2]
    clear hs1 hs2
    cases ho:ok (65533,wd) with
    | true =>
     go_wp2_with fail
     go_roundw
     case rel=>exact ⟨_,k+1,rfl,hn,by rw [hal,ho]⟩
     case measure=>simp;omega
    | false =>
     go_wp2_with fail
     go_ret
     exact ⟨ret_bool (by rw [clean,all_of_take (k:=k+1)];rw [hal,ho]),below_iter _ _ _⟩
   ·have hcb:((c:Int)==65533)=false:=by simp;omega
    have ho:ok (c,wd)=true:=by simp [ok,hc]
    clear hst
    go_wp2_with fail
    go_roundw
    case rel=>exact ⟨_,k+1,rfl,hn,by rw [hal,ho]⟩
    case measure=>simp;omega
  ·have hnx:∀ ty,(Instr.next (.pointer (some ⟨w.heap.size,0,none⟩)) true ty).run Tryz.prog (w.iter s p)=_:=fun ty=>run_next_end w s p ty hp
   have HE:Hid (k=(V (lb s)).length/\p=(lb s).length):=hat.end (by omega)
   clear hat
   go_wp2_with fail
   go_ret
   refine ⟨ret_bool ?_,below_iter _ _ _⟩
   rw [HE.out.1,List.take_length] at hall
   exact hall.symm
def B (s:ByteArray) (k:Nat):Nat:=((lb s).getD k 0).toNat
theorem B_lt (s:ByteArray) (k:Nat):B s k<256:=UInt8.toNat_lt _
theorem B_get (s:ByteArray) (k:Nat) (h:k<s.size):(s[k]'h).toNat=B s k:=by
 unfold B
 have h2:k<(lb s).length:=h
 rw [List.getD_eq_getElem?_getD,List.getElem?_eq_getElem h2]
 rfl
theorem unit_B (s:ByteArray):unit (lb s)=Lib.decodeN s.size (B s 0) (B s 1) (B s 2) (B s 3):=rfl
theorem w64_byte (s:ByteArray) (k:Nat):wrap64 (B s k:Int)=B s k:=by
 have:=B_lt s k
 unfold wrap64;omega
def acc (s:ByteArray) (a:Int):Nat->Int
 | 0=>a
 | k+1=>if k=0 then a else acc s a k*64+B s k-128
theorem said_of {s:ByteArray} {c wd:Nat} {o:Bool} (h:unit (lb s)=(c,wd)) (ho:ok (c,wd)=o):Ending.returned (.tuple #[.int .i64 (c:Int),.int .i64 (wd:Int),.bool o])=Ending.returned (.tuple #[.int .i64 ((unit (lb s)).1:Int),.int .i64 ((unit (lb s)).2:Int),.bool (ok (unit (lb s)))]):=by
 rw [h,ho]
theorem said_int {s:ByteArray} {x:Int} {wd:Nat} {o:Bool} (h:unit (lb s)=(x.toNat,wd)) (hx:x=(x.toNat:Int)) (ho:ok (x.toNat,wd)=o):Ending.returned (.tuple #[.int .i64 x,.int .i64 wd,.bool o])=Ending.returned (.tuple #[.int .i64 ((unit (lb s)).1:Int),.int .i64 ((unit (lb s)).2:Int),.bool (ok (unit (lb s)))]):=by
 rw [h,ho]
 show _=Ending.returned (.tuple #[.int .i64 (x.toNat:Int),.int .i64 wd,.bool o])
 rw [← hx]
theorem sign_one (s:ByteArray) (h0:0<s.size) (hb:B s 0<128) (w:World) :
  Calls Tryz.prog 108 #[.string s] w fun e w'=>e=Ending.returned (.tuple #[.int .i64 ((unit (lb s)).1:Int),.int .i64 ((unit (lb s)).2:Int),.bool (ok (unit (lb s)))])/\w'=w:=by
 have hu:unit (lb s)=(B s 0,1):=by rw [unit_B];simp only [Lib.decodeN];rw [if_pos hb]
 have hg:=B_get s 0 h0
 have hw:=w64_byte s 0
 have HU:Hid (unit (lb s)=(B s 0,1)):=hu
 clear hu
 generalize B s 0=b at *
 have h1:(b:Int)<128:=by omega
 go_enter Tryz.func108,Tryz.ntmps108
 go_wp2_with fail
 go_ret3
 refine ⟨?_,rfl⟩
 exact said_of HU.out (by simp [ok];omega)
theorem sign_none (s:ByteArray) (h0:0<s.size) (hb:128<=B s 0) (hb2:B s 0<194∨245<=B s 0) (w:World) :
  Calls Tryz.prog 108 #[.string s] w fun e w'=>e=Ending.returned (.tuple #[.int .i64 ((unit (lb s)).1:Int),.int .i64 ((unit (lb s)).2:Int),.bool (ok (unit (lb s)))])/\w'=w:=by
 have hu:unit (lb s)=(65533,1):=by
  have:=B_lt s 0
  have:=B_lt s 1
  have:=B_lt s 2
  have:=B_lt s 3
  rw [unit_B];simp only [Lib.decodeN];rw [if_neg (by omega)]
  split
  ·rw [if_neg (by omega)]
  ·rw [if_neg (by omega)]
   split
   ·rw [if_neg (by omega)]
   ·rfl
 have hg:=B_get s 0 h0
 have hw:=w64_byte s 0
 have HU:Hid (unit (lb s)=(65533,1)):=hu
 clear hu
 generalize B s 0=b at *
 have h1:¬ (b:Int)<128:=by omega
 rcases hb2 with hb2 | hb2
 ·have h2:¬ (b:Int)>=194:=by omega
  have h3:¬ (b:Int)>=224:=by omega
  have h4:¬ (b:Int)>=240:=by omega
  go_enter Tryz.func108,Tryz.ntmps108
  go_wp2_with fail
  go_ret3
  exact ⟨said_of HU.out rfl,rfl⟩
 ·have h2:(b:Int)>=194:=by omega
  have h3:(b:Int)>=224:=by omega
  have h4:(b:Int)>=240:=by omega
  have h5:¬ (b:Int)<224:=by omega
  have h6:¬ (b:Int)<240:=by omega
  have h7:¬ (b:Int)<245:=by omega
  go_enter Tryz.func108,Tryz.ntmps108
  go_wp2_with fail
  go_ret3
  exact ⟨said_of HU.out rfl,rfl⟩
theorem unit_short2 (s:ByteArray) (hb:194<=B s 0) (hb2:B s 0<224) (hs:s.size<2):unit (lb s)=(65533,1):=by
 rw [unit_B];simp only [Lib.decodeN];rw [if_neg (by omega),if_neg (by omega),if_neg (by omega),if_neg (by omega)]
theorem unit_bad2 (s:ByteArray) (hb:194<=B s 0) (hb2:B s 0<224) (j:Nat) (h1:1<=j) (h2:j<2) (hj:B s j<128∨192<=B s j):unit (lb s)=(65533,1):=by
 have:=B_lt s 1
 have:=B_lt s 2
 have:=B_lt s 3
 have hc:(B s 1<128∨192<=B s 1):=by
  obtain rfl:j=1:=by omega
  exact hj
 rw [unit_B];simp only [Lib.decodeN];rw [if_neg (by omega),if_neg (by omega),if_neg (by omega),if_neg (by omega)]
theorem unit_out2 (s:ByteArray) (hb:194<=B s 0) (hb2:B s 0<224) (hj:∀ j,1<=j->j<2->128<=B s j/\B s j<192) (x:Int) (hx:x=acc s (B s 0-192) 2)
  (ho:x<128∨x > 1114111∨(x>=55296/\x<57344)):unit (lb s)=(65533,1):=by
 have:=hj 1 (by omega) (by omega)
 simp [acc] at hx
 rw [unit_B];simp only [Lib.decodeN];rw [if_neg (by omega)]
 split
 ·rw [if_neg (by omega)]
 ·split
  ·rw [if_neg (by omega)]
  ·split
   ·rw [if_neg (by omega)]
   ·rfl
theorem unit_in2 (s:ByteArray) (hb:194<=B s 0) (hb2:B s 0<224) (hs:2<=s.size) (hj:∀ j,1<=j->j<2->128<=B s j/\B s j<192) (x:Int) (hx:x=acc s (B s 0-192) 2)
  (h1:¬ x<128) (h2:¬ x > 1114111) (h3:¬ (x>=55296/\x<57344)):unit (lb s)=(x.toNat,2):=by
 have:=hj 1 (by omega) (by omega)
 simp [acc] at hx
 rw [unit_B];simp only [Lib.decodeN];rw [if_neg (by omega)]
 split
 ·first | (exfalso;omega) | (rw [if_pos (by omega)];congr 1;omega)
 ·split
  ·first | (exfalso;omega) | (rw [if_pos (by omega)];congr 1;omega)
  ·first | (exfalso;omega) | (rw [if_pos (by omega),if_pos (by omega)];congr 1;omega)
theorem acc_le2 (s:ByteArray) (hb:194<=B s 0) (hb2:B s 0<224) (k:Nat) (h1:1<=k) (h2:k<=2) (hj:∀ j,1<=j->j<k->128<=B s j/\B s j<192):0<=acc s (B s 0-192) k/\acc s (B s 0-192) k<=33554432:=by
 obtain rfl | rfl | rfl | rfl:k=1∨k=2∨k=3∨k=4:=by omega
 ·simp [acc];omega
 ·have:=hj 1 (by omega) (by omega)
  simp [acc];omega
 ·have:=hj 1 (by omega) (by omega)
  have:=hj 2 (by omega) (by omega)
  simp [acc];omega
 ·have:=hj 1 (by omega) (by omega)
  have:=hj 2 (by omega) (by omega)
  have:=hj 3 (by omega) (by omega)
  simp [acc];omega
theorem sign_2 (s:ByteArray) (h0:0<s.size) (hs:s.size<=100000) (hb:194<=B s 0) (hb2:B s 0<224) (w:World) :
  Calls Tryz.prog 108 #[.string s] w fun e w'=>e=Ending.returned (.tuple #[.int .i64 ((unit (lb s)).1:Int),.int .i64 ((unit (lb s)).2:Int),.bool (ok (unit (lb s)))])/\w'=w:=by
 have HS:Hid (∀ h:s.size<2,unit (lb s)=(65533,1)):=fun h=>unit_short2 s hb hb2 h
 have HBad:Hid (∀ (j:Nat) (h1:1<=j) (h2:j<2) (hj:B s j<128∨192<=B s j),unit (lb s)=(65533,1)):=unit_bad2 s hb hb2
 have HOut:Hid _:=unit_out2 s hb hb2
 have HIn:Hid _:=unit_in2 s hb hb2
 have HA:Hid _:=acc_le2 s hb hb2
 have hg:=B_get s 0 h0
 have hw:=w64_byte s 0
 have ha1:((B s 0:Int)-192)=acc s (B s 0-192) 1:=rfl
 generalize hA:acc s (B s 0-192)=A at *
 have HA2:Hid (acc s (B s 0-192)=A):=hA
 clear hA
 generalize hbb:B s 0=b at *
 clear hbb
 have h1:¬ (b:Int)<128:=by omega
 have t0:(b:Int)>=194:=by omega
 have t1:(b:Int)<224:=by omega
 by_cases hl:(s.size:Int)<2
 ·go_enter Tryz.func108,Tryz.ntmps108
  go_wp2_with fail
  go_ret3
  exact ⟨said_of (HS.out (by omega)) rfl,rfl⟩
 ·have hl2:2<=s.size:=by omega
  go_enter Tryz.func108,Tryz.ntmps108
  go_wp2_with fail
  go_loopw [8,9] (fun n i w'=>w'=w/\∃ k:Nat,i=.int .i64 k/\1<=k/\k<=2/\n=.int .i64 (A k)/\∀ j,1<=j->j<k->128<=B s j/\B s j<192) (fun _ i _=>2-(intOf i).toNat)
  case atStart=>exact ⟨rfl,1,rfl,by omega,by omega,rfl,fun j h1 h2=>by omega⟩
  case round =>
   obtain ⟨rfl,k,rfl,hk1,hk2,rfl,hj⟩:=hrel
   have hAk:=HA.out k hk1 hk2 hj
   clear ha1
   by_cases hlt:k<2
   ·have hgk:=B_get s k (by omega)
    have hwk:=w64_byte s k
    have hAs:A (k+1)=A k*64+B s k-128:=by
     rw [← HA2.out,acc,if_neg (by omega)]
    have hBk:=B_lt s k
    have HJ:Hid (∀ j,1<=j->j<k->128<=B s j/\B s j<192):=hj
    have HBk:Hid (B s k=B s k):=rfl
    clear hj
    by_cases hc1:(B s k:Int)<128
    ·have hbd:=HBad.out k hk1 hlt (by omega)
     have HU:Hid (unit (lb s)=(65533,1)):=hbd
     clear hbd hAs
     generalize B s k=bk at *
     go_wp2_with fail
     go_ret3
     exact ⟨said_of HU.out rfl,rfl⟩
    ·by_cases hc2:(B s k:Int)>=192
     ·have hbd:=HBad.out k hk1 hlt (by omega)
      have HU:Hid (unit (lb s)=(65533,1)):=hbd
      clear hbd hAs
      generalize B s k=bk at *
      go_wp2_with fail
      go_ret3
      exact ⟨said_of HU.out rfl,rfl⟩
     ·have HN:Hid (∀ j,1<=j->j<k+1->128<=B s j/\B s j<192):=by
       intro j h1 h2
       by_cases h3:j<k
       ·exact HJ.out j h1 h3
       ·obtain rfl:j=k:=by omega
        omega
      have HS2:Hid (A (k+1)=A k*64+B s k-128):=hAs
      clear hAs
      generalize B s k=bk at *
      go_wp2_with fail
      go_roundw
      case rel=>exact ⟨trivial,k+1,by go_num,by omega,by omega,by rw [HS2.out],HN.out⟩
      case measure=>simp [intOf];omega
   ·obtain rfl:k=2:=by omega
    have HX:Hid (∀ x:Int,x=A 2->∀ j,1<=j->j<2->128<=B s j/\B s j<192):=fun _ _=>hj
    have HO:=HOut.out hj (A 2) rfl
    have HI:=HIn.out hl2 hj (A 2) rfl
    have HO2:Hid _:=HO
    have HI2:Hid _:=HI
    clear HO HI hj
    generalize A 2=x at *
    by_cases t1:x<128
    ·go_wp2_with fail
     go_ret3
     exact ⟨said_of (HO2.out (Or.inl t1)) rfl,rfl⟩
    ·by_cases t2:x > 1114111
     ·go_wp2_with fail
      go_ret3
      exact ⟨said_of (HO2.out (Or.inr (Or.inl t2))) rfl,rfl⟩
     ·by_cases t3:x>=55296
      ·by_cases t4:x<57344
       ·go_wp2_with fail
        go_ret3
        exact ⟨said_of (HO2.out (Or.inr (Or.inr ⟨t3,t4⟩))) rfl,rfl⟩
       ·have hz:x=(x.toNat:Int):=by omega
        have HZ:Hid (x=(x.toNat:Int)):=hz
        clear hz
        go_wp2_with fail
        go_ret3
        exact ⟨said_int (wd:=2) (HI2.out t1 t2 (by omega)) HZ.out (ok_of_wide (by decide)),rfl⟩
      ·have hz:x=(x.toNat:Int):=by omega
       have HZ:Hid (x=(x.toNat:Int)):=hz
       clear hz
       go_wp2_with fail
       go_ret3
       exact ⟨said_int (wd:=2) (HI2.out t1 t2 (by omega)) HZ.out (ok_of_wide (by decide)),rfl⟩
theorem unit_short3 (s:ByteArray) (hb:224<=B s 0) (hb2:B s 0<240) (hs:s.size<3):unit (lb s)=(65533,1):=by
 rw [unit_B];simp only [Lib.decodeN];rw [if_neg (by omega),if_neg (by omega),if_neg (by omega),if_neg (by omega)]
theorem unit_bad3 (s:ByteArray) (hb:224<=B s 0) (hb2:B s 0<240) (j:Nat) (h1:1<=j) (h2:j<3) (hj:B s j<128∨192<=B s j):unit (lb s)=(65533,1):=by
 have:=B_lt s 1
 have:=B_lt s 2
 have:=B_lt s 3
 have hc:(B s 1<128∨192<=B s 1)∨(B s 2<128∨192<=B s 2):=by
  obtain rfl | rfl:j=1∨j=2:=by omega
  all_goals omega
 rw [unit_B];simp only [Lib.decodeN];rw [if_neg (by omega),if_neg (by omega),if_neg (by omega),if_neg (by omega)]
theorem unit_out3 (s:ByteArray) (hb:224<=B s 0) (hb2:B s 0<240) (hj:∀ j,1<=j->j<3->128<=B s j/\B s j<192) (x:Int) (hx:x=acc s (B s 0-224) 3)
  (ho:x<2048∨x > 1114111∨(x>=55296/\x<57344)):unit (lb s)=(65533,1):=by
 have:=hj 1 (by omega) (by omega)
 have:=hj 2 (by omega) (by omega)
 simp [acc] at hx
 rw [unit_B];simp only [Lib.decodeN];rw [if_neg (by omega)]
 split
 ·rw [if_neg (by omega)]
 ·split
  ·rw [if_neg (by omega)]
  ·split
   ·rw [if_neg (by omega)]
   ·rfl
theorem unit_in3 (s:ByteArray) (hb:224<=B s 0) (hb2:B s 0<240) (hs:3<=s.size) (hj:∀ j,1<=j->j<3->128<=B s j/\B s j<192) (x:Int) (hx:x=acc s (B s 0-224) 3)
  (h1:¬ x<2048) (h2:¬ x > 1114111) (h3:¬ (x>=55296/\x<57344)):unit (lb s)=(x.toNat,3):=by
 have:=hj 1 (by omega) (by omega)
 have:=hj 2 (by omega) (by omega)
 simp [acc] at hx
 rw [unit_B];simp only [Lib.decodeN];rw [if_neg (by omega)]
 split
 ·first | (exfalso;omega) | (rw [if_pos (by omega)];congr 1;omega)
 ·split
  ·first | (exfalso;omega) | (rw [if_pos (by omega)];congr 1;omega)
  ·first | (exfalso;omega) | (rw [if_pos (by omega),if_pos (by omega)];congr 1;omega)
theorem acc_le3 (s:ByteArray) (hb:224<=B s 0) (hb2:B s 0<240) (k:Nat) (h1:1<=k) (h2:k<=3) (hj:∀ j,1<=j->j<k->128<=B s j/\B s j<192):0<=acc s (B s 0-224) k/\acc s (B s 0-224) k<=33554432:=by
 obtain rfl | rfl | rfl | rfl:k=1∨k=2∨k=3∨k=4:=by omega
 ·simp [acc];omega
 ·have:=hj 1 (by omega) (by omega)
  simp [acc];omega
 ·have:=hj 1 (by omega) (by omega)
  have:=hj 2 (by omega) (by omega)
  simp [acc];omega
 ·have:=hj 1 (by omega) (by omega)
  have:=hj 2 (by omega) (by omega)
  have:=hj 3 (by omega) (by omega)
  simp [acc];omega
theorem sign_3 (s:ByteArray) (h0:0<s.size) (hs:s.size<=100000) (hb:224<=B s 0) (hb2:B s 0<240) (w:World) :
  Calls Tryz.prog 108 #[.string s] w fun e w'=>e=Ending.returned (.tuple #[.int .i64 ((unit (lb s)).1:Int),.int .i64 ((unit (lb s)).2:Int),.bool (ok (unit (lb s)))])/\w'=w:=by
 have HS:Hid (∀ h:s.size<3,unit (lb s)=(65533,1)):=fun h=>unit_short3 s hb hb2 h
 have HBad:Hid (∀ (j:Nat) (h1:1<=j) (h2:j<3) (hj:B s j<128∨192<=B s j),unit (lb s)=(65533,1)):=unit_bad3 s hb hb2
 have HOut:Hid _:=unit_out3 s hb hb2
 have HIn:Hid _:=unit_in3 s hb hb2
 have HA:Hid _:=acc_le3 s hb hb2
 have hg:=B_get s 0 h0
 have hw:=w64_byte s 0
 have ha1:((B s 0:Int)-224)=acc s (B s 0-224) 1:=rfl
 generalize hA:acc s (B s 0-224)=A at *
 have HA2:Hid (acc s (B s 0-224)=A):=hA
 clear hA
 generalize hbb:B s 0=b at *
 clear hbb
 have h1:¬ (b:Int)<128:=by omega
 have t0:(b:Int)>=194:=by omega
 have t1:¬ (b:Int)<224:=by omega
 have t2:(b:Int)>=224:=by omega
 have t3:(b:Int)<240:=by omega
 by_cases hl:(s.size:Int)<3
 ·go_enter Tryz.func108,Tryz.ntmps108
  go_wp2_with fail
  go_ret3
  exact ⟨said_of (HS.out (by omega)) rfl,rfl⟩
 ·have hl2:3<=s.size:=by omega
  go_enter Tryz.func108,Tryz.ntmps108
  go_wp2_with fail
  go_loopw [8,9] (fun n i w'=>w'=w/\∃ k:Nat,i=.int .i64 k/\1<=k/\k<=3/\n=.int .i64 (A k)/\∀ j,1<=j->j<k->128<=B s j/\B s j<192) (fun _ i _=>3-(intOf i).toNat)
  case atStart=>exact ⟨rfl,1,rfl,by omega,by omega,rfl,fun j h1 h2=>by omega⟩
  case round =>
   obtain ⟨rfl,k,rfl,hk1,hk2,rfl,hj⟩:=hrel
   have hAk:=HA.out k hk1 hk2 hj
   clear ha1
   by_cases hlt:k<3
   ·have hgk:=B_get s k (by omega)
    have hwk:=w64_byte s k
    have hAs:A (k+1)=A k*64+B s k-128:=by
     rw [← HA2.out,acc,if_neg (by omega)]
    have hBk:=B_lt s k
    have HJ:Hid (∀ j,1<=j->j<k->128<=B s j/\B s j<192):=hj
    have HBk:Hid (B s k=B s k):=rfl
    clear hj
    by_cases hc1:(B s k:Int)<128
    ·have hbd:=HBad.out k hk1 hlt (by omega)
     have HU:Hid (unit (lb s)=(65533,1)):=hbd
     clear hbd hAs
     generalize B s k=bk at *
     go_wp2_with fail
     go_ret3
     exact ⟨said_of HU.out rfl,rfl⟩
    ·by_cases hc2:(B s k:Int)>=192
     ·have hbd:=HBad.out k hk1 hlt (by omega)
      have HU:Hid (unit (lb s)=(65533,1)):=hbd
      clear hbd hAs
      generalize B s k=bk at *
      go_wp2_with fail
      go_ret3
      exact ⟨said_of HU.out rfl,rfl⟩
     ·have HN:Hid (∀ j,1<=j->j<k+1->128<=B s j/\B s j<192):=by
       intro j h1 h2
       by_cases h3:j<k
       ·exact HJ.out j h1 h3
       ·obtain rfl:j=k:=by omega
        omega
      have HS2:Hid (A (k+1)=A k*64+B s k-128):=hAs
      clear hAs
      generalize B s k=bk at *
      go_wp2_with fail
      go_roundw
      case rel=>exact ⟨trivial,k+1,by go_num,by omega,by omega,by rw [HS2.out],HN.out⟩
      case measure=>simp [intOf];omega
   ·obtain rfl:k=3:=by omega
    have HX:Hid (∀ x:Int,x=A 3->∀ j,1<=j->j<3->128<=B s j/\B s j<192):=fun _ _=>hj
    have HO:=HOut.out hj (A 3) rfl
    have HI:=HIn.out hl2 hj (A 3) rfl
    have HO2:Hid _:=HO
    have HI2:Hid _:=HI
    clear HO HI hj
    generalize A 3=x at *
    by_cases t1:x<2048
    ·go_wp2_with fail
     go_ret3
     exact ⟨said_of (HO2.out (Or.inl t1)) rfl,rfl⟩
    ·by_cases t2:x > 1114111
     ·go_wp2_with fail
      go_ret3
      exact ⟨said_of (HO2.out (Or.inr (Or.inl t2))) rfl,rfl⟩
     ·by_cases t3:x>=55296
      ·by_cases t4:x<57344
       ·go_wp2_with fail
        go_ret3
        exact ⟨said_of (HO2.out (Or.inr (Or.inr ⟨t3,t4⟩))) rfl,rfl⟩
       ·have hz:x=(x.toNat:Int):=by omega
        have HZ:Hid (x=(x.toNat:Int)):=hz
        clear hz
        go_wp2_with fail
        go_ret3
        exact ⟨said_int (wd:=3) (HI2.out t1 t2 (by omega)) HZ.out (ok_of_wide (by decide)),rfl⟩
      ·have hz:x=(x.toNat:Int):=by omega
       have HZ:Hid (x=(x.toNat:Int)):=hz
       clear hz
       go_wp2_with fail
       go_ret3
       exact ⟨said_int (wd:=3) (HI2.out t1 t2 (by omega)) HZ.out (ok_of_wide (by decide)),rfl⟩
theorem unit_short4 (s:ByteArray) (hb:240<=B s 0) (hb2:B s 0<245) (hs:s.size<4):unit (lb s)=(65533,1):=by
 rw [unit_B];simp only [Lib.decodeN];rw [if_neg (by omega),if_neg (by omega),if_neg (by omega),if_neg (by omega)]
theorem unit_bad4 (s:ByteArray) (hb:240<=B s 0) (hb2:B s 0<245) (j:Nat) (h1:1<=j) (h2:j<4) (hj:B s j<128∨192<=B s j):unit (lb s)=(65533,1):=by
 have:=B_lt s 1
 have:=B_lt s 2
 have:=B_lt s 3
 have hc:(B s 1<128∨192<=B s 1)∨(B s 2<128∨192<=B s 2)∨(B s 3<128∨192<=B s 3):=by
  obtain rfl | rfl | rfl:j=1∨j=2∨j=3:=by omega
  all_goals omega
 rw [unit_B];simp only [Lib.decodeN];rw [if_neg (by omega),if_neg (by omega),if_neg (by omega),if_neg (by omega)]
theorem unit_out4 (s:ByteArray) (hb:240<=B s 0) (hb2:B s 0<245) (hj:∀ j,1<=j->j<4->128<=B s j/\B s j<192) (x:Int) (hx:x=acc s (B s 0-240) 4)
  (ho:x<65536∨x > 1114111∨(x>=55296/\x<57344)):unit (lb s)=(65533,1):=by
 have:=hj 1 (by omega) (by omega)
 have:=hj 2 (by omega) (by omega)
 have:=hj 3 (by omega) (by omega)
 simp [acc] at hx
 rw [unit_B];simp only [Lib.decodeN];rw [if_neg (by omega)]
 split
 ·rw [if_neg (by omega)]
 ·split
  ·rw [if_neg (by omega)]
  ·split
   ·rw [if_neg (by omega)]
   ·rfl
theorem unit_in4 (s:ByteArray) (hb:240<=B s 0) (hb2:B s 0<245) (hs:4<=s.size) (hj:∀ j,1<=j->j<4->128<=B s j/\B s j<192) (x:Int) (hx:x=acc s (B s 0-240) 4)
  (h1:¬ x<65536) (h2:¬ x > 1114111) (h3:¬ (x>=55296/\x<57344)):unit (lb s)=(x.toNat,4):=by
 have:=hj 1 (by omega) (by omega)
 have:=hj 2 (by omega) (by omega)
 have:=hj 3 (by omega) (by omega)
 simp [acc] at hx
 rw [unit_B];simp only [Lib.decodeN];rw [if_neg (by omega)]
 split
 ·first | (exfalso;omega) | (rw [if_pos (by omega)];congr 1;omega)
 ·split
  ·first | (exfalso;omega) | (rw [if_pos (by omega)];congr 1;omega)
  ·first | (exfalso;omega) | (rw [if_pos (by omega),if_pos (by omega)];congr 1;omega)
theorem acc_le4 (s:ByteArray) (hb:240<=B s 0) (hb2:B s 0<245) (k:Nat) (h1:1<=k) (h2:k<=4) (hj:∀ j,1<=j->j<k->128<=B s j/\B s j<192):0<=acc s (B s 0-240) k/\acc s (B s 0-240) k<=33554432:=by
 obtain rfl | rfl | rfl | rfl:k=1∨k=2∨k=3∨k=4:=by omega
 ·simp [acc];omega
 ·have:=hj 1 (by omega) (by omega)
  simp [acc];omega
 ·have:=hj 1 (by omega) (by omega)
  have:=hj 2 (by omega) (by omega)
  simp [acc];omega
 ·have:=hj 1 (by omega) (by omega)
  have:=hj 2 (by omega) (by omega)
  have:=hj 3 (by omega) (by omega)
  simp [acc];omega
theorem sign_4 (s:ByteArray) (h0:0<s.size) (hs:s.size<=100000) (hb:240<=B s 0) (hb2:B s 0<245) (w:World) :
  Calls Tryz.prog 108 #[.string s] w fun e w'=>e=Ending.returned (.tuple #[.int .i64 ((unit (lb s)).1:Int),.int .i64 ((unit (lb s)).2:Int),.bool (ok (unit (lb s)))])/\w'=w:=by
 have HS:Hid (∀ h:s.size<4,unit (lb s)=(65533,1)):=fun h=>unit_short4 s hb hb2 h
 have HBad:Hid (∀ (j:Nat) (h1:1<=j) (h2:j<4) (hj:B s j<128∨192<=B s j),unit (lb s)=(65533,1)):=unit_bad4 s hb hb2
 have HOut:Hid _:=unit_out4 s hb hb2
 have HIn:Hid _:=unit_in4 s hb hb2
 have HA:Hid _:=acc_le4 s hb hb2
 have hg:=B_get s 0 h0
 have hw:=w64_byte s 0
 have ha1:((B s 0:Int)-240)=acc s (B s 0-240) 1:=rfl
 generalize hA:acc s (B s 0-240)=A at *
 have HA2:Hid (acc s (B s 0-240)=A):=hA
 clear hA
 generalize hbb:B s 0=b at *
 clear hbb
 have h1:¬ (b:Int)<128:=by omega
 have t0:(b:Int)>=194:=by omega
 have t1:¬ (b:Int)<224:=by omega
 have t2:(b:Int)>=224:=by omega
 have t3:¬ (b:Int)<240:=by omega
 have t4:(b:Int)>=240:=by omega
 have t5:(b:Int)<245:=by omega
 by_cases hl:(s.size:Int)<4
 ·go_enter Tryz.func108,Tryz.ntmps108
  go_wp2_with fail
  go_ret3
  exact ⟨said_of (HS.out (by omega)) rfl,rfl⟩
 ·have hl2:4<=s.size:=by omega
  go_enter Tryz.func108,Tryz.ntmps108
  go_wp2_with fail
  go_loopw [8,9] (fun n i w'=>w'=w/\∃ k:Nat,i=.int .i64 k/\1<=k/\k<=4/\n=.int .i64 (A k)/\∀ j,1<=j->j<k->128<=B s j/\B s j<192) (fun _ i _=>4-(intOf i).toNat)
  case atStart=>exact ⟨rfl,1,rfl,by omega,by omega,rfl,fun j h1 h2=>by omega⟩
  case round =>
   obtain ⟨rfl,k,rfl,hk1,hk2,rfl,hj⟩:=hrel
   have hAk:=HA.out k hk1 hk2 hj
   clear ha1
   by_cases hlt:k<4
   ·have hgk:=B_get s k (by omega)
    have hwk:=w64_byte s k
    have hAs:A (k+1)=A k*64+B s k-128:=by
     rw [← HA2.out,acc,if_neg (by omega)]
    have hBk:=B_lt s k
    have HJ:Hid (∀ j,1<=j->j<k->128<=B s j/\B s j<192):=hj
    have HBk:Hid (B s k=B s k):=rfl
    clear hj
    by_cases hc1:(B s k:Int)<128
    ·have hbd:=HBad.out k hk1 hlt (by omega)
     have HU:Hid (unit (lb s)=(65533,1)):=hbd
     clear hbd hAs
     generalize B s k=bk at *
     go_wp2_with fail
     go_ret3
     exact ⟨said_of HU.out rfl,rfl⟩
    ·by_cases hc2:(B s k:Int)>=192
     ·have hbd:=HBad.out k hk1 hlt (by omega)
      have HU:Hid (unit (lb s)=(65533,1)):=hbd
      clear hbd hAs
      generalize B s k=bk at *
      go_wp2_with fail
      go_ret3
      exact ⟨said_of HU.out rfl,rfl⟩
     ·have HN:Hid (∀ j,1<=j->j<k+1->128<=B s j/\B s j<192):=by
       intro j h1 h2
       by_cases h3:j<k
       ·exact HJ.out j h1 h3
       ·obtain rfl:j=k:=by omega
        omega
      have HS2:Hid (A (k+1)=A k*64+B s k-128):=hAs
      clear hAs
      generalize B s k=bk at *
      go_wp2_with fail
      go_roundw
      case rel=>exact ⟨trivial,k+1,by go_num,by omega,by omega,by rw [HS2.out],HN.out⟩
      case measure=>simp [intOf];omega
   ·obtain rfl:k=4:=by omega
    have HX:Hid (∀ x:Int,x=A 4->∀ j,1<=j->j<4->128<=B s j/\B s j<192):=fun _ _=>hj
    have HO:=HOut.out hj (A 4) rfl
    have HI:=HIn.out hl2 hj (A 4) rfl
    have HO2:Hid _:=HO
    have HI2:Hid _:=HI
    clear HO HI hj
    generalize A 4=x at *
    by_cases t1:x<65536
    ·go_wp2_with fail
     go_ret3
     exact ⟨said_of (HO2.out (Or.inl t1)) rfl,rfl⟩
    ·by_cases t2:x > 1114111
     ·go_wp2_with fail
      go_ret3
      exact ⟨said_of (HO2.out (Or.inr (Or.inl t2))) rfl,rfl⟩
     ·by_cases t3:x>=55296
      ·by_cases t4:x<57344
       ·go_wp2_with fail
        go_ret3
        exact ⟨said_of (HO2.out (Or.inr (Or.inr ⟨t3,t4⟩))) rfl,rfl⟩
       ·have hz:x=(x.toNat:Int):=by omega
        have HZ:Hid (x=(x.toNat:Int)):=hz
        clear hz
        go_wp2_with fail
        go_ret3
        exact ⟨said_int (wd:=4) (HI2.out t1 t2 (by omega)) HZ.out (ok_of_wide (by decide)),rfl⟩
      ·have hz:x=(x.toNat:Int):=by omega
       have HZ:Hid (x=(x.toNat:Int)):=hz
       clear hz
       go_wp2_with fail
       go_ret3
       exact ⟨said_int (wd:=4) (HI2.out t1 t2 (by omega)) HZ.out (ok_of_wide (by decide)),rfl⟩
theorem sign_any (s:ByteArray) (hs:s.size<=100000) (h0:0<s.size) (w:World) :
  Calls Tryz.prog 108 #[.string s] w fun e w'=>e=.returned (.tuple #[.int .i64 (unit (lb s)).1,.int .i64 (unit (lb s)).2,.bool (ok (unit (lb s)))])/\w'=w:=by
 by_cases h1:B s 0<128
 ·exact sign_one s h0 h1 w
 ·by_cases h2:B s 0<194
  ·exact sign_none s h0 (by omega) (Or.inl h2) w
  ·by_cases h3:B s 0<224
   ·exact sign_2 s h0 hs (by omega) h3 w
   ·by_cases h4:B s 0<240
    ·exact sign_3 s h0 hs (by omega) h4 w
    ·by_cases h5:B s 0<245
     ·exact sign_4 s h0 hs (by omega) h5 w
     ·exact sign_none s h0 (by omega) (Or.inr (by omega)) w
def sgn (u:List (Nat×Nat)) (k:Nat):List Value:=(u.take k).map fun x=>Value.int .i64 (x.1:Int)
def ats (u:List (Nat×Nat)) (k:Nat):List Value:=(List.range k).map fun j=>Value.int .i64 (offs u j:Int)
theorem sgn_succ {l:List UInt8} {p k:Nat} (h:At l p k) (hp:p<l.length):sgn (V l) (k+1)=sgn (V l) k++[.int .i64 ((unit (l.drop p)).1:Int)]:=by
 unfold sgn
 rw [take_all h hp]
 simp
theorem ats_succ {l:List UInt8} {p k:Nat} (h:At l p k):ats (V l) (k+1)=ats (V l) k++[.int .i64 (p:Int)]:=by
 unfold ats
 rw [List.range_succ,List.map_append,h.2.2.1]
 rfl
def Apart (a b:Value):Prop:=∀ g,a.ownBlock=some g->b.ownBlock≠some g
theorem Apart.symm {a b:Value} (h:Apart a b):Apart b a:=fun g hg h2=>h g h2 hg
theorem Apart.ne {a b:Value} (h:Apart a b):a.ownBlock=none∨a.ownBlock≠b.ownBlock:=by
 cases ha:a.ownBlock with
 | none=>exact Or.inl rfl
 | some g=>exact Or.inr (fun h2=>h g ha h2.symm)
theorem Apart.grow {a a' b:Value} {n:Nat} (h:Apart a b) (hn:a'.ownBlock=a.ownBlock∨a'.ownBlock=some n) (hb:∀ k,b.ownBlock=some k->k<n):Apart a' b:=by
 intro g hg h2
 rcases hn with hn | hn
 ·exact h g (hn ▸ hg) h2
 ·rw [hn] at hg
  have:=hb g h2
  have:=Option.some.inj hg
  omega
theorem info3:(Tryz.prog.info? 3).map (fun i=>(i.zero,i.size,i.bytes))=some (some (.int .i64 0),1,8):=by kernel_rfl
theorem signs_any (s:ByteArray) (hs:s.size<=100000) (w:World) :
  Calls Tryz.prog 60 #[.string s] w fun e w'=>(∃ a b,e=.returned (.tuple #[a,b,.bool (clean (lb s))])/\w'.ownsRow w.heap.size 3 1 a (V (lb s)).length (sgn (V (lb s)) (V (lb s)).length)/\w'.ownsRow w.heap.size 3 1 b (V (lb s)).length (ats (V (lb s)) (V (lb s)).length))/\Below w.heap.size w w':=by
 obtain ⟨i0,hi,hz0,hz1',hz2⟩:=info_parts info3
 have hL:=lb_size s
 have hV:=V_le (lb s)
 go_enter Tryz.func60,Tryz.ntmps60
 go_wp2_with fail
 go_loopw [5,6,7,8] (fun a b c i wr=>∃ p k:Nat,At (lb s) p k/\i=.int .i64 p/\c=.bool (((V (lb s)).take k).all ok)/\wr.ownsRow w.heap.size 3 1 a k (sgn (V (lb s)) k)/\wr.ownsRow w.heap.size 3 1 b k (ats (V (lb s)) k)/\Apart a b/\Below w.heap.size w wr) (fun _ _ _ i _=>s.size-(intOf i).toNat)
 case atStart=>exact ⟨0,0,At.zero _,rfl,rfl,World.ownsRow_nil _ _ _ _,World.ownsRow_nil _ _ _ _,(fun g hg=>by simp [Value.ownBlock] at hg),Below.refl _ _⟩
 case round =>
  obtain ⟨p,k,hat,rfl,rfl,hown,hown2,hap,hbel⟩:=hrel
  by_cases hp:p<s.size
  ·have hk:=hat.len (by omega)
   have hw:=unit_width _ (drop_ne (l:=lb s) (p:=p) (by omega))
   simp only [List.length_drop] at hw
   have HN:=hidden (hat.next (by omega))
   have HS:=hidden (sgn_succ hat (by omega))
   have HA:=hidden (ats_succ hat)
   have HT:=hidden (take_all hat (by omega))
   have HO:=hidden hown
   have HO2:=hidden hown2
   have HP:=hidden hap
   have HB:=hidden hbel
   have hzr:=hbel.size
   clear hat hown hown2 hap hbel
   have hex:lb (s.extract p s.size)=(lb s).drop p:=by rw [lb_extract,List.take_of_length_le (by simp;omega)]
   have hes:(s.extract p s.size).size=s.size-p:=by rw [← lb_size,hex];simp;omega
   have hc:=sign_any (s.extract p s.size) (by omega) (by omega)
   rw [hex] at hc
   have HC:=hidden hc
   clear hc hex hes
   generalize unit ((lb s).drop p)=u at *
   obtain ⟨c,wd⟩:=u
   simp only at *
   generalize hc1:((V (lb s)).take k).all ok=ck at *
   have HC1:=hidden hc1
   clear hc1
   go_wp2_with fail
   refine (HC.out _).mono ?_
   rintro e w1 ⟨rfl,rfl⟩
   go_wp2_with (first | (at_builtin;refine wpList_append_own_at _ rfl _ _ 114 rfl w.heap.size 3 i0 (.int .i64 0) 1 8 Tryz.underlying114 hi hz0 hz1' hz2 rfl (by decide) _ _ _ rfl (HO.out.alloc _) ⟨w1.heap.size,0,none⟩ 1 1 [.int .i64 (c:Int)] rfl rfl ?c1 ?c2 ?c3 ?c4 ?c5 ?_))
   case c1=>exact cell_one_new _ _ _
   case c2=>intro u hu;simp at hu;subst hu;rfl
   case c3=>unfold maxLen;omega
   case c4=>omega
   case c5=>simp;omega
   intro v1 w2 o1 g1 _ e1
   have hz2w:=g1.size
   simp at hz2w
   have HO1:=hidden o1
   have HO3:=hidden ((HO2.out.alloc (.cells #[.int .i64 (c:Int)] 3)).kept g1 HP.out.symm.ne)
   have HP1:=hidden (HP.out.grow e1 (fun k hk=>by have:=(HO2.out.lt k hk).2;simp;omega))
   have HB1:=hidden ((HB.out.alloc (by omega) _).grown g1 (by simp;omega) (fun k hk=>(HO.out.lt k hk).1))
   clear o1 g1 e1
   go_wp2_with (first | (at_builtin;refine wpList_append_own_at _ rfl _ _ 114 rfl w.heap.size 3 i0 (.int .i64 0) 1 8 Tryz.underlying114 hi hz0 hz1' hz2 rfl (by decide) _ _ _ rfl (HO3.out.alloc _) ⟨w2.heap.size,0,none⟩ 1 1 [.int .i64 (p:Int)] rfl rfl ?d1 ?d2 ?d3 ?d4 ?d5 ?_))
   case d1=>exact cell_one_new _ _ _
   case d2=>intro u hu;simp at hu;subst hu;rfl
   case d3=>unfold maxLen;omega
   case d4=>omega
   case d5=>simp;omega
   intro v2 w3 o2 g2 _ e2
   have HO4:=hidden o2
   have HO5:=hidden ((HO1.out.alloc (.cells #[.int .i64 (p:Int)] 3)).kept g2 HP1.out.ne)
   have HP2:=hidden (HP1.out.symm.grow e2 (fun k hk=>by have:=(HO1.out.lt k hk).2;simp;omega)).symm
   have HB2:=hidden ((HB1.out.alloc (by omega) _).grown g2 (by simp;omega) (fun k hk=>(HO3.out.lt k hk).1))
   clear o2 g2 e2
   cases ck
   all_goals
    go_wp2_with fail
    go_roundw
    case rel =>
     refine ⟨p+wd,k+1,HN.out,by go_num,?_,?_,?_,HP2.out,HB2.out⟩
     ·rw [HT.out,List.all_append,HC1.out];simp
     ·rw [HS.out];exact HO5.out
     ·rw [HA.out];exact HO4.out
    case measure=>simp [intOf];omega
  ·have he:=hat.end (by omega)
   have HE:=hidden he
   clear he hat
   go_wp2_with fail
   go_ret3
   obtain ⟨rfl,_⟩:=HE.out
   exact ⟨⟨_,_,(by rw [List.take_length];rfl),hown,hown2⟩,hbel⟩
theorem sgn_get {u:List (Nat×Nat)} {j:Nat} (h:j<u.length):(sgn u u.length)[j]?=some (.int .i64 (u[j].1:Int)):=by
 simp [sgn,h]
theorem offs_le {l:List UInt8}:∀ k,k<=(V l).length->At l (offs (V l) k) k:=by
 intro k
 induction k with
 | zero=>intro _;rw [offs_zero];exact At.zero l
 | succ k ih =>
  intro hk
  have h:=ih (by omega)
  have hlt:offs (V l) k<l.length:=by
   rcases Nat.lt_or_ge (offs (V l) k) l.length with h1 | h1
   ·exact h1
   ·have:=(h.end (by omega)).1
    omega
  have h2:=h.next hlt
  rw [h2.2.2.1] at h2
  exact h2
end Go.Proofs.YtpljdjmpamjkhaaGreatDoor
