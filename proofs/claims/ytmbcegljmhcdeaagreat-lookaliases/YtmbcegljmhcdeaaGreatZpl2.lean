/- A zone with a record put: what Put's last calls leave. -/
import Derived.Test.YtmbcegljmhcdeaaGreatTak
import Derived.Test.YtmbcegljmhcdeaaGreatDat
import Derived.BigQuiet
import Derived.Deep.QuietTactic
namespace Go.Proofs.YtmbcegljmhcdeaaGreat
set_option maxRecDepth 5000
open Go.RowKit
namespace D
def Soa.low (s:Soa):Soa:=⟨N.lowN s.main,N.lowN s.box,s.a,s.b,s.c,s.d,s.e⟩
def Sig.low (s:Sig):Sig:=⟨s.type,s.alg,s.labels,s.ttl,s.expire,s.begin_,s.tag,N.lowN s.signer,s.sig⟩
def small (l:List UInt8):Option (List UInt8 × List UInt8):=(nm l).map fun p=>(N.wire (N.lowN p.1),p.2)
def tok (l:List UInt8):Bool :=
 match l with
 | []=>false
 | k::r=>if r.length<k.toNat then false else if r.length=k.toNat then true else tok (r.drop k.toNat)
termination_by l.length
decreasing_by simp only [List.length_drop, List.length_cons]; omega
def txt (l:List UInt8):Option (List UInt8 × List UInt8):=if tok l then some (l, []) else none
def can (t:Nat) (l:List UInt8):Option (List UInt8 × List UInt8) :=
 if t=1 then by_ 4 l else if t=28 then by_ 16 l else if t=2\/t=5 then small l
 else if t=15 then (by_ 2 l).bind fun p=>(small p.2).map fun q=>(p.1++q.1,q.2)
 else if t=6 then (soa l).map fun p=>(soaB p.1.low,p.2)
 else if t=16 then txt l
 else if t=43 then (by_ 5 l).map fun p=>(p.1++p.2, [])
 else if t=46 then (sig l).map fun p=>(sigB p.1.low,p.2)
 else if t=48 then (key l).map fun p=>(keyB p.1,p.2)
 else if t=50 then (chain l).map fun p=>(chainB p.1,p.2)
 else if t=51 then (by_ 4 l).bind fun p=>(cnt p.2).map fun q=>(p.1++pc q.1,q.2)
 else some (l, [])
theorem size_low (n:List (List UInt8)):N.size (N.lowN n)=N.size n:=by
 unfold N.size N.lowN
 rw[List.map_map]
 congr 2
 apply List.map_congr_left
 intro l _
 simp[N.lowL_len]
theorem opn_len (k:Nat) : ∀ (b:List UInt8) (least:Nat) (m:List UInt16),b.length<=k->T.opn least b=some m->m.length<=8*b.length:=by
 induction k with
 | zero =>
  intro b least m hb h
  obtain rfl:b = []:=List.eq_nil_of_length_eq_zero (by omega)
  rw[T.opn_nil] at h;cases h;simp
 | succ k ih =>
  intro b least m hb h
  match b with
  | []=>rw[T.opn_nil] at h;cases h;simp
  | [x]=>rw[T.opn_one] at h;cases h
  | x::n::r =>
   rw[T.opn_two] at h
   split at h
   ·cases h
   ·rename_i hbad
    rw[Option.map_eq_some_iff] at h
    obtain⟨m',h1,rfl⟩:=h
    have h2:=ih _ _ _ (by simp only[List.length_cons,List.length_drop] at hb ⊢; omega) h1
    have h3:(T.typ x.toNat (r.take n.toNat)).length<=8*(r.take n.toNat).length:=by
     unfold T.typ T.places
     rw[List.length_map]
     exact Nat.le_trans (List.length_filter_le _ _) (by simp)
    have h4 : ¬ r.length<n.toNat:=fun e=>hbad (Or.inr (Or.inr (Or.inr (Or.inl e))))
    rw[List.length_append]
    simp only[List.length_cons,List.length_drop,List.length_take] at h2 h3 ⊢
    omega
theorem chain_len {l r:List UInt8} {c:Chain} (h:chain l=some (c,r)):(T.bmp c.types).length<=l.length/\c.types.length<=8*l.length:=by
 obtain⟨hl,_,_,_,_,_,_,_,k7⟩:=chain_back h
 have h1:(T.bmp c.types).length<=l.length:=by rw[hl];simp only[chainB,List.length_append];omega
 have h2:=opn_len _ _ 0 c.types (Nat.le_refl _) (T.opn_bmp _ _ _ (Nat.le_refl _) k7 (fun _ _=>Nat.zero_le _))
 exact⟨h1,by omega⟩
theorem tok_none {l:List UInt8} (h:cnt l=none):tok l=false:=by
 match l with
 | []=>rw[tok]
 | k::r =>
  unfold cnt n8 by_ at h
  simp only[Option.bind_some] at h
  split at h
  ·rename_i h1;rw[tok,if_pos h1]
  ·cases h
theorem tok_some {l x r:List UInt8} (h:cnt l=some (x,r)):tok l=(decide (r = []) || tok r)/\l=pc x++r/\r.length<l.length:=by
 obtain⟨e,hx⟩:=cnt_back h
 refine⟨?_,e,by rw[e];simp[pc];omega⟩
 rw[e]
 unfold pc
 rw[List.cons_append,tok,nat_u8 _ (by omega),if_neg (by rw[List.length_append];omega)]
 cases r with
 | nil=>simp
 | cons a r=>rw[if_neg (by simp),List.drop_left];simp
end D
theorem OwnS.sl {w:World} {base:Nat} {ao:Option Addr} {c:Nat} {n:List (List UInt8)} (h:OwnS w base (.slice ao n.length c) n):SlS w ao n:=by
 obtain⟨_,_,e,hs,_⟩:=h.open
 cases e;exact hs
theorem good_small {n:List (List UInt8)} (h:D.Good n):N.Small n:=small_of (by have:=h.2.2;omega)
theorem Rdr.kp {B T base:Nat} {l:List UInt8} {w w':World} (h:Rdr B T l w) (hk:Kp base w w') (hB:B<=base):Rdr B T l w':=by
 obtain⟨ao,c,h1,h2,h3,h4,h5,h6,h7⟩:=h
 exact⟨ao,c,hk.2 _ _ _ h1 (by decide),h2.below (hk.1.mono hB),h3,h4,h5,h6,Nat.le_trans h7 hk.1.size⟩
theorem Mv.kp {T:Nat} {w w1 w2:World} (h:Mv T w w1) (hk:Kp w.heap.size w1 w2):Mv T w w2 :=
 ⟨hk.1.os.trans h.os,hk.1.tape.trans h.tape,hk.1.output.trans h.output,Nat.le_trans h.size hk.1.size,fun k hk' hn=>(hk.1.block k hk').trans (h.block k hk' hn)⟩
theorem OwnB.len {w:World} {base:Nat} {v:Value} {l:List UInt8} (h:OwnB w base v l):lenOf v=l.length:=by
 obtain⟨ao,c,rfl,_⟩:=h.open
 rfl
theorem smallName_any (B T:Nat) (l:List UInt8) (w:World) (hR:Rdr B T l w) :
 Calls Tryz.prog 145 #[.pointer (some ⟨T,0,none⟩)] w fun e w'=>Got B T (D.small l) (fun x v w'=>OwnB w' w.heap.size v x) w e w':=by
 go_enter Tryz.func145,Tryz.ntmps145
 go_wp2_with fail
 refine (rname_any B T l _ hR).mono ?_
 rintro e w1 ⟨⟨n,r,v,ho,rfl,hx,hr⟩ | ⟨ho,rfl⟩,hm⟩
 ·obtain⟨_,hg⟩:=D.nm_back ho
  obtain⟨a1,c1,rfl,hs1,_⟩:=hx.open
  have S1:=hide hs1
  clear hs1
  go_wp2_with fail
  refine (lower_any n a1 n.length c1 _ rfl (by exact S1.out) (hide (good_small hg))).mono ?_
  rintro e w2 ⟨v2,rfl,hO2,hb2⟩
  obtain⟨a2,c2,rfl,hs2,_⟩:=hO2.open
  have S2:=hide hs2
  clear hs2
  go_wp2_with fail
  refine (wire_any (N.lowN n) a2 (N.lowN n).length c2 _ rfl (by exact S2.out) (hide (small_of (by rw[D.size_low];have:=hg.2.2;omega)))).mono ?_
  rintro e w3 ⟨v3,rfl,hO3,hb3⟩
  have hb:=hb2.trans (hb3.mono hb2.size)
  go_wp2
  go_ret
  exact⟨Or.inl ⟨_,r,_,by unfold D.small;rw[ho];rfl,rfl,hO3.lower (Nat.le_trans hm.size hb2.size),hr.below hb⟩,hm.trans (Mv.of hb)⟩
 ·unfold fell50
  go_wp2
  exact⟨rfl,Or.inr ⟨by unfold D.small;rw[ho];rfl,rfl⟩,hm⟩
set_option maxHeartbeats 400000 in
theorem takeTexts_any (B T:Nat) (l:List UInt8) (w:World) (hR:Rdr B T l w) :
 Calls Tryz.prog 148 #[.pointer (some ⟨T,0,none⟩)] w fun e w'=>Got B T (D.txt l) (fun x v w'=>OwnB w' w.heap.size v x) w e w':=by
 have hlen:=hR.len
 go_enter Tryz.func148,Tryz.ntmps148
 go_wp2_with fail
 refine (rcounted_any B T l _ hR).mono ?_
 rintro e w1 ⟨⟨x,r,v,ho,rfl,hx,hr⟩ | ⟨ho,rfl⟩,hm⟩
 rotate_left
 ·have ht:=D.tok_none ho
  unfold fell50
  go_wp2
  exact⟨rfl,Or.inr ⟨by unfold D.txt;rw[ht];rfl,rfl⟩,hm⟩
 obtain⟨ht,hl,hlt⟩:=D.tok_some ho
 obtain⟨_,hx255⟩:=D.cnt_back ho
 obtain⟨a1,c1,rfl,hs1,hn1,_⟩:=hx.open
 have S1:=hide hs1
 have N1:=hide hn1
 have HT:=hide ht
 have HL:=hide hl
 clear hs1 hn1 ht hl hx
 go_wp2_with fail
 refine (appendCounted_any x a1 x.length c1 w.heap.size (.slice none 0 0) [] _ (OwnB.nil _ _) (by exact hm.size) (by simp) rfl (by exact S1.out) N1.out (by omega) (by intro _ b o _ e;simp[Value.ownBlock] at e)).mono ?_
 rintro e w2 ⟨v2,rfl,hO2,hK2⟩
 have D2:=hide (hr.kp hK2 hR.base)
 have M2:=hide (hm.kp hK2)
 have O2:=hide hO2
 clear hO2 hK2 hr S1 hm
 go_wp2
 go_loopw [3] (fun v wr => ∃ (o r:List UInt8),OwnB wr w.heap.size v o/\Rdr B T r wr/\Mv T w wr/\Hid (o++r=l)/\Hid (D.tok l=(decide (r = []) || D.tok r))) (fun v _=>l.length - lenOf v)
 case atStart=>exact⟨_,r,O2.out,D2.out,M2.out,HL.out.symm,HT.out⟩
 case round =>
  clear O2 D2 M2 HL HT N1
  obtain⟨o,r,hO,hr,hm,HL,HT⟩:=hrel
  have hll:o.length+r.length=l.length:=by rw[<- HL.out,List.length_append]
  have hlo:=hO.len
  have HD:=hide hr
  have HO:=hide hO
  have HM:=hide hm
  clear hr hO hm
  go_wp2_with fail
  refine (rdone_any B T r _ (by exact HD.out)).mono ?_
  rintro e w3 ⟨rfl,rfl⟩
  by_cases hr0:r = []
  ·subst hr0
   go_wp2
   go_ret
   exact⟨Or.inl ⟨l, [],_,by unfold D.txt;rw[HT.out];rfl,rfl,by have:=HL.out;rw[List.append_nil] at this;rw[<- this];exact HO.out,HD.out⟩,HM.out⟩
  ·have hd:decide (r = [])=false:=decide_eq_false hr0
   rw[hd]
   rw[hd,Bool.false_or] at HT
   clear hd
   go_wp2_with fail
   refine (rcounted_any B T r _ (by exact HD.out)).mono ?_
   rintro e w4 ⟨⟨x4,r4,v4,ho4,rfl,hx4,hr4⟩ | ⟨ho4,rfl⟩,hm4⟩
   rotate_left
   ·have ht:=D.tok_none ho4
    rw[ht] at HT
    have hm5:=HM.out.trans hm4
    unfold fell50
    go_wp2
    exact⟨rfl,Or.inr ⟨by unfold D.txt;rw[HT.out];rfl,rfl⟩,hm5⟩
   obtain⟨ht,hl,hlt⟩:=D.tok_some ho4
   obtain⟨_,hx255⟩:=D.cnt_back ho4
   obtain⟨a1,c1,rfl,hs1,hn1,_⟩:=hx4.open
   have O4:=hide (HD.out.ownB hm4 HO.out)
   have hz4:w.heap.size<=w4.heap.size:=Nat.le_trans HM.out.size hm4.size
   have HNE:Hid (0<x4.length -> ∀ b o,a1=some ⟨b,o,none⟩->some b≠u3.ownBlock):=by
    intro hn b o' e e2
    have h1:=(HO.out.blk e2).2
    have h2:=(hx4.blk (g:=b) (by rw[e];rfl)).1
    omega
   have S1:=hide hs1
   have N1:=hide hn1
   have HT4:=hide (HT.out.trans ht)
   have HL4:Hid ((o++D.pc x4)++r4=l):=by rw[List.append_assoc, <- hl];exact HL.out
   have M4:=hide (HM.out.trans hm4)
   have D4:=hide hr4
   have hol:(o++D.pc x4).length=o.length+x4.length+1:=by simp[D.pc];omega
   have hlen4:(o++D.pc x4).length+r4.length=l.length:=by have:=congrArg List.length HL4.out;rwa [List.length_append] at this
   clear hs1 hn1 ht hl hx4 hm4 HM HD HO hr4
   go_wp2_with fail
   refine (appendCounted_any x4 a1 x4.length c1 w.heap.size u3 o _ (by exact O4.out) (by exact hz4) (by omega) rfl (by exact S1.out) N1.out (by omega) (by exact HNE.out)).mono ?_
   rintro e w5 ⟨v5,rfl,hO5,hK5⟩
   have hlo5:=hO5.len
   have D5:=hide (D4.out.kp hK5 hR.base)
   have M5:=hide (M4.out.kp hK5)
   go_wp2
   go_roundw
   case rel=>exact⟨_,r4,hO5,D5.out,M5.out,HL4,HT4⟩
   case measure=>omega
open Go.RowKit
theorem setNew_below {w w1:World} {g j:Nat} {v:Value} (h:Below w.heap.size w w1) (hg:w.heap.size<=g):Below w.heap.size w (w1.setCell ⟨g,j,none⟩ v):=h.setCell hg v
set_option maxHeartbeats 800000 in
theorem smallSig_any (s:D.Sig) (a1 a2:Option Addr) (n1 c1 n2 c2:Nat) (w:World) (h1:Hid (s.signer.length=n1)) (h2:Hid (s.sig.length=n2)) (hs1:SlS w a1 s.signer) (hs2:SlL w a2 s.sig) (hnil:a2=none->c2=0) (hz2:n2<=100000) (hk:s.Ok) :
 Calls Tryz.prog 150 #[.agg #[.int .u16 (s.type:Int),.int .u8 (s.alg:Int),.int .u8 (s.labels:Int),.int .u32 (s.ttl:Int),.int .u32 (s.expire:Int),.int .u32 (s.begin_:Int),.int .u16 (s.tag:Int),.slice a1 n1 c1,.slice a2 n2 c2]] w fun e w' => ∃ v',e = .returned v'/\OwnB w' w.heap.size v' (D.sigB s.low)/\Below w.heap.size w w':=by
 have S1:=hide hs1
 have S2:=hide hs2
 have NI:=hide hnil
 clear hs1 hs2 hnil
 obtain⟨type,alg,labels,ttl,expire,begin_,tag,signer,sig⟩:=s
 obtain⟨k1,k2,k3,k4,k5,k6,k7,k8⟩:=hk
 simp only at h1 h2 S1 S2 k1 k2 k3 k4 k5 k6 k7 k8 ⊢
 have m1:=hide (good_small k8)
 have hz1:N.size (N.lowN signer)<=1000:=by rw[D.size_low];have:=k8.2.2;omega
 have R0:=hide (RowAt.new w 175 #[.int .u16 (type:Int),.int .u8 (alg:Int),.int .u8 (labels:Int),.int .u32 (ttl:Int),.int .u32 (expire:Int),.int .u32 (begin_:Int),.int .u16 (tag:Int),.slice a1 n1 c1,.slice a2 n2 c2])
 have B0:=hide ((Below.refl w.heap.size w).alloc (Nat.le_refl _) (.cells #[.int .u16 (type:Int),.int .u8 (alg:Int),.int .u8 (labels:Int),.int .u32 (ttl:Int),.int .u32 (expire:Int),.int .u32 (begin_:Int),.int .u16 (tag:Int),.slice a1 n1 c1,.slice a2 n2 c2] 175))
 clear k8
 go_enter Tryz.func150,Tryz.ntmps150
 go_wp2_with fail
 refine (lower_any signer a1 n1 c1 _ h1 (by exact S1.out.alloc _) m1).mono ?_
 rintro e w1 ⟨v1,rfl,hO1,hb1⟩
 have hrow:=R0.out.below hb1 (by simp)
 obtain⟨a3,c3,rfl,_,_,_⟩:=hO1.open
 have g0:w1.cell? ⟨w.heap.size,0,none⟩=some (.int .u16 (type:Int)):=hrow.cell 0
 have g1:w1.cell? ⟨w.heap.size,1,none⟩=some (.int .u8 (alg:Int)):=hrow.cell 1
 have g2:w1.cell? ⟨w.heap.size,2,none⟩=some (.int .u8 (labels:Int)):=hrow.cell 2
 have g3:w1.cell? ⟨w.heap.size,3,none⟩=some (.int .u32 (ttl:Int)):=hrow.cell 3
 have g4:w1.cell? ⟨w.heap.size,4,none⟩=some (.int .u32 (expire:Int)):=hrow.cell 4
 have g5:w1.cell? ⟨w.heap.size,5,none⟩=some (.int .u32 (begin_:Int)):=hrow.cell 5
 have g6:w1.cell? ⟨w.heap.size,6,none⟩=some (.int .u16 (tag:Int)):=hrow.cell 6
 have g7:w1.cell? ⟨w.heap.size,7,none⟩=some (.slice a1 n1 c1):=hrow.cell 7
 have g8:w1.cell? ⟨w.heap.size,8,none⟩=some (.slice a2 n2 c2):=hrow.cell 8
 have e7:=hrow.frozen 7
 have O1:=hide (own_set (OwnS.lower (base':=w.heap.size) hO1 (by simp)) hrow (by decide) 7 (.slice a3 (N.lowN signer).length c3))
 have B1:=hide (setNew_below (g:=w.heap.size) (j:=7) (v := .slice a3 (N.lowN signer).length c3) (B0.out.trans (hb1.mono (by simp))) (Nat.le_refl _))
 clear hO1 hb1 R0 B0 hrow S1
 go_wp2_with fail
 refine (sigBytes_any ⟨type,alg,labels,ttl,expire,begin_,tag,N.lowN signer,sig⟩ a3 a2 (N.lowN signer).length c3 n2 c2 _ rfl h2 (by exact OwnS.sl O1.out) (by exact S2.out.below B1.out (Nat.le_refl _)) NI.out hz1 hz2 k1 k2 k3 k4 k5 k6 k7).mono ?_
 rintro e w2 ⟨v2,rfl,hO2,hb2⟩
 go_wp2
 go_ret
 have hz:=B1.out.size
 exact⟨_,rfl,hO2.lower hz,B1.out.trans (hb2.mono hz)⟩
set_option maxHeartbeats 1600000 in
theorem smallSoa_any (s:D.Soa) (a1 a2:Option Addr) (n1 c1 n2 c2:Nat) (w:World) (h1:Hid (s.main.length=n1)) (h2:Hid (s.box.length=n2)) (hs1:SlS w a1 s.main) (hs2:SlS w a2 s.box) (hk:s.Ok) :
 Calls Tryz.prog 146 #[.agg #[.slice a1 n1 c1,.slice a2 n2 c2,.int .u32 (s.a:Int),.int .u32 (s.b:Int),.int .u32 (s.c:Int),.int .u32 (s.d:Int),.int .u32 (s.e:Int)]] w fun e w' => ∃ v',e = .returned v'/\OwnB w' w.heap.size v' (D.soaB s.low)/\Below w.heap.size w w':=by
 have S1:=hide hs1
 have S2:=hide hs2
 clear hs1 hs2
 obtain⟨main,box,a,b,c,d,e⟩:=s
 obtain⟨k1,k2,k3,k4,k5,k6,k7⟩:=hk
 simp only at h1 h2 S1 S2 k1 k2 k3 k4 k5 k6 k7 ⊢
 have m1:=hide (good_small k1)
 have m2:=hide (good_small k2)
 have hz1:N.size (N.lowN main)<=1000:=by rw[D.size_low];have:=k1.2.2;omega
 have hz2:N.size (N.lowN box)<=1000:=by rw[D.size_low];have:=k2.2.2;omega
 have R0:=hide (RowAt.new w 166 #[.slice a1 n1 c1,.slice a2 n2 c2,.int .u32 (a:Int),.int .u32 (b:Int),.int .u32 (c:Int),.int .u32 (d:Int),.int .u32 (e:Int)])
 have B0:=hide ((Below.refl w.heap.size w).alloc (Nat.le_refl _) (.cells #[.slice a1 n1 c1,.slice a2 n2 c2,.int .u32 (a:Int),.int .u32 (b:Int),.int .u32 (c:Int),.int .u32 (d:Int),.int .u32 (e:Int)] 166))
 clear k1 k2
 go_enter Tryz.func146,Tryz.ntmps146
 go_wp2
 go_region_law (first
  | (refine step_call rfl 48 #[.slice a1 n1 c1] (by go_simp) (lower_any main a1 n1 c1 _ h1 (by exact S1.out.alloc _) m1) (by rintro e w' ⟨v,rfl,_⟩;exact⟨v,rfl⟩) ?_;rintro v1 w1 ⟨_,he,hO1,hb1⟩;cases he;have R1:=hide (RowAt.below (by exact R0.out) hb1 (by simp <;> omega));have p1:w1.cell? ⟨w.heap.size,1,none⟩=some (.slice a2 n2 c2):=R1.out.cell 1;have O1:=hide (OwnS.lower (base':=w.heap.size) hO1 (by simp <;> omega));have z1:w.heap.size<=w1.heap.size:=Nat.le_trans (by simp <;> omega) hb1.size;have B1:=hide ((below_allocs B0.out (Nat.le_refl _) (Or.inl rfl)).trans (hb1.mono (by simp <;> omega)));clear hO1 hb1)
  | (refine step_call rfl 48 #[.slice a2 n2 c2] (by go_simp) (lower_any box a2 n2 c2 _ h2 (by exact S2.out.below B1.out (Nat.le_refl _)) m2) (by rintro e w' ⟨v,rfl,_⟩;exact⟨v,rfl⟩) ?_;rintro v2 w2 ⟨_,he,hO2,hb2⟩;cases he;have hrow:=R1.out.below hb2 R1.out.lt;obtain⟨a3,c3,rfl,_,_,_⟩:=O1.out.open;obtain⟨a4,c4,rfl,_,_,_⟩:=hO2.open;have g0:w2.cell? ⟨w.heap.size,0,none⟩=some (.slice a1 n1 c1):=hrow.cell 0;have g1:w2.cell? ⟨w.heap.size,1,none⟩=some (.slice a2 n2 c2):=hrow.cell 1;have g2:w2.cell? ⟨w.heap.size,2,none⟩=some (.int .u32 (a:Int)):=hrow.cell 2;have g3:w2.cell? ⟨w.heap.size,3,none⟩=some (.int .u32 (b:Int)):=hrow.cell 3;have g4:w2.cell? ⟨w.heap.size,4,none⟩=some (.int .u32 (c:Int)):=hrow.cell 4;have g5:w2.cell? ⟨w.heap.size,5,none⟩=some (.int .u32 (d:Int)):=hrow.cell 5;have g6:w2.cell? ⟨w.heap.size,6,none⟩=some (.int .u32 (e:Int)):=hrow.cell 6;have e0:=hrow.frozen 0;have e1:=hrow.frozen 1;have O3:=hide (O1.out.below hb2);have O4:=hide (OwnS.lower (base':=w.heap.size) hO2 z1);have R2:=hide hrow;have B2:=hide (B1.out.trans (hb2.mono z1));clear hrow hO2 hb2 O1))
 all_goals
  have O5:=hide (own_set (own_set O3.out R2.out (by decide) 0 (.slice a3 (N.lowN main).length c3)) (R2.out.set 0 (.slice a3 (N.lowN main).length c3)) (by decide) 1 (.slice a4 (N.lowN box).length c4))
  have O6:=hide (own_set (own_set O4.out R2.out (by decide) 0 (.slice a3 (N.lowN main).length c3)) (R2.out.set 0 (.slice a3 (N.lowN main).length c3)) (by decide) 1 (.slice a4 (N.lowN box).length c4))
  have B5:=hide (setNew_below (g:=w.heap.size) (j:=1) (v := .slice a4 (N.lowN box).length c4) (setNew_below (g:=w.heap.size) (j:=0) (v := .slice a3 (N.lowN main).length c3) B2.out (Nat.le_refl _)) (Nat.le_refl _))
  clear O3 O4 B2 R2 R1 B1 R0 B0
  go_wp2_with fail
  refine (soaBytes_any ⟨N.lowN main,N.lowN box,a,b,c,d,e⟩ a3 a4 (N.lowN main).length c3 (N.lowN box).length c4 _ rfl rfl (by exact OwnS.sl O5.out) (by exact OwnS.sl O6.out) hz1 hz2 k3 k4 k5 k6 k7).mono ?_
  rintro e w3 ⟨v3,rfl,hO3,hb3⟩
  go_wp2
  go_ret
  have hz:=B5.out.size
  exact⟨_,rfl,hO3.lower hz,B5.out.trans (hb3.mono hz)⟩
open Go.RowKit
theorem OwnB.slOf {w:World} {base:Nat} {ao:Option Addr} {c:Nat} {n:List UInt8} (h:OwnB w base (.slice ao n.length c) n):SlL w ao n/\(ao=none->c=0):=by
 obtain⟨_,_,e,hs,hn,_⟩:=h.open
 cases e;exact⟨hs,hn⟩
theorem OwnH.slOf {w:World} {base:Nat} {ao:Option Addr} {c:Nat} {n:List UInt16} (h:OwnH w base (.slice ao n.length c) n):SlH w ao n/\(ao=none->c=0):=by
 obtain⟨_,_,e,hs,hn,_⟩:=h.open
 cases e;exact⟨hs,hn⟩
set_option maxHeartbeats 400000 in
theorem canon_1 (B T:Nat) (l:List UInt8) (w:World) (hR:Rdr B T l w) :
 Calls Tryz.prog 118 #[.pointer (some ⟨T,0,none⟩),.int .u16 1] w fun e w'=>Got B T (D.by_ 4 l) (fun x v w'=>OwnB w' w.heap.size v x) w e w':=by
 go_enter Tryz.func118,Tryz.ntmps118
 go_wp2_with fail
 refine (rbytes_any B T 4 l _ hR (by omega)).mono ?_
 rintro e w1 ⟨⟨x,r,v,ho,rfl,hx,hr⟩ | ⟨ho,rfl⟩,hm⟩
 ·go_wp2
  go_ret
  exact⟨Or.inl ⟨x,r,v,ho,rfl,hx,hr⟩,hm⟩
 ·unfold fell50
  go_wp2
  exact⟨rfl,Or.inr ⟨ho,rfl⟩,hm⟩
set_option maxHeartbeats 400000 in
theorem canon_28 (B T:Nat) (l:List UInt8) (w:World) (hR:Rdr B T l w) :
 Calls Tryz.prog 118 #[.pointer (some ⟨T,0,none⟩),.int .u16 28] w fun e w'=>Got B T (D.by_ 16 l) (fun x v w'=>OwnB w' w.heap.size v x) w e w':=by
 go_enter Tryz.func118,Tryz.ntmps118
 go_wp2_with fail
 refine (rbytes_any B T 16 l _ hR (by omega)).mono ?_
 rintro e w1 ⟨⟨x,r,v,ho,rfl,hx,hr⟩ | ⟨ho,rfl⟩,hm⟩
 ·go_wp2
  go_ret
  exact⟨Or.inl ⟨x,r,v,ho,rfl,hx,hr⟩,hm⟩
 ·unfold fell50
  go_wp2
  exact⟨rfl,Or.inr ⟨ho,rfl⟩,hm⟩
set_option maxHeartbeats 400000 in
theorem canon_2 (B T:Nat) (l:List UInt8) (w:World) (hR:Rdr B T l w) :
 Calls Tryz.prog 118 #[.pointer (some ⟨T,0,none⟩),.int .u16 2] w fun e w'=>Got B T (D.small l) (fun x v w'=>OwnB w' w.heap.size v x) w e w':=by
 go_enter Tryz.func118,Tryz.ntmps118
 go_wp2_with fail
 refine (smallName_any B T l _ hR).mono ?_
 rintro e w1 ⟨⟨x,r,v,ho,rfl,hx,hr⟩ | ⟨ho,rfl⟩,hm⟩
 ·go_wp2
  go_ret
  exact⟨Or.inl ⟨x,r,v,ho,rfl,hx,hr⟩,hm⟩
 ·unfold fell50
  go_wp2
  exact⟨rfl,Or.inr ⟨ho,rfl⟩,hm⟩
set_option maxHeartbeats 400000 in
theorem canon_5 (B T:Nat) (l:List UInt8) (w:World) (hR:Rdr B T l w) :
 Calls Tryz.prog 118 #[.pointer (some ⟨T,0,none⟩),.int .u16 5] w fun e w'=>Got B T (D.small l) (fun x v w'=>OwnB w' w.heap.size v x) w e w':=by
 go_enter Tryz.func118,Tryz.ntmps118
 go_wp2_with fail
 refine (smallName_any B T l _ hR).mono ?_
 rintro e w1 ⟨⟨x,r,v,ho,rfl,hx,hr⟩ | ⟨ho,rfl⟩,hm⟩
 ·go_wp2
  go_ret
  exact⟨Or.inl ⟨x,r,v,ho,rfl,hx,hr⟩,hm⟩
 ·unfold fell50
  go_wp2
  exact⟨rfl,Or.inr ⟨ho,rfl⟩,hm⟩
set_option maxHeartbeats 400000 in
theorem canon_16 (B T:Nat) (l:List UInt8) (w:World) (hR:Rdr B T l w) :
 Calls Tryz.prog 118 #[.pointer (some ⟨T,0,none⟩),.int .u16 16] w fun e w'=>Got B T (D.txt l) (fun x v w'=>OwnB w' w.heap.size v x) w e w':=by
 go_enter Tryz.func118,Tryz.ntmps118
 go_wp2_with fail
 refine (takeTexts_any B T l _ hR).mono ?_
 rintro e w1 ⟨⟨x,r,v,ho,rfl,hx,hr⟩ | ⟨ho,rfl⟩,hm⟩
 ·go_wp2
  go_ret
  exact⟨Or.inl ⟨x,r,v,ho,rfl,hx,hr⟩,hm⟩
 ·unfold fell50
  go_wp2
  exact⟨rfl,Or.inr ⟨ho,rfl⟩,hm⟩
set_option maxHeartbeats 400000 in
theorem canon_15 (B T:Nat) (l:List UInt8) (w:World) (hR:Rdr B T l w) :
 Calls Tryz.prog 118 #[.pointer (some ⟨T,0,none⟩),.int .u16 15] w fun e w'=>Got B T ((D.by_ 2 l).bind fun p=>(D.small p.2).map fun q=>(p.1++q.1,q.2)) (fun x v w'=>OwnB w' w.heap.size v x) w e w':=by
 go_enter Tryz.func118,Tryz.ntmps118
 go_wp2_with fail
 refine (rbytes_any B T 2 l _ hR (by omega)).mono ?_
 rintro e w1 ⟨⟨x,r,v,ho,rfl,hx,hr⟩ | ⟨ho,rfl⟩,hm⟩
 rotate_left
 ·unfold fell50
  go_wp2
  exact⟨rfl,Or.inr ⟨by rw[ho];rfl,rfl⟩,hm⟩
 have X:=hide hx
 have HO:=hide ho
 have HM:=hide hm
 have lx:=(D.by_back ho).2
 clear hx ho hm
 go_wp2_with fail
 refine (smallName_any B T r _ hr).mono ?_
 rintro e w2 ⟨⟨x2,r2,v2,ho2,rfl,hx2,hr2⟩ | ⟨ho2,rfl⟩,hm2⟩
 rotate_left
 ·unfold fell50
  go_wp2
  exact⟨rfl,Or.inr ⟨by rw[HO.out];simp[ho2],rfl⟩,HM.out.trans hm2⟩
 have X1:=hide (hr.ownB hm2 X.out)
 obtain⟨a9,c9,rfl,hs9,hn9,_⟩:=hx2.open
 have S9:=hide hs9
 have N9:=hide hn9
 have M2:=hide (HM.out.trans hm2)
 have D2:=hide hr2
 have l2:x2.length<=100000:=by
  unfold D.small at ho2
  rw[Option.map_eq_some_iff] at ho2
  obtain⟨⟨n,q⟩,h1,h2⟩:=ho2
  cases h2
  have:=(D.nm_back h1).2.2.2
  show (N.wire (N.lowN n)).length<=100000
  rw[N.wire_len,D.size_low]
  omega
 have z2:w.heap.size<=w2.heap.size:=M2.out.size
 have HO2:=hide ho2
 clear hs9 hn9 hx2 hm2 hr2 hr X HM ho2
 go_wp2_with (at_builtin;refine wpList_append_B rfl (.tmp 26) (.tmp 28) rfl w.heap.size _ x rfl (by exact X1.out) _ _ _ x2 rfl rfl (by exact S9.out) N9.out (by omega) z2 ?_;intro v6 w6 hO6 hG6;have hK6:=Kp.grown X1.out hG6 z2;clear hG6)
 go_ret
 exact⟨Or.inl ⟨x++x2,r2,_,by rw[HO.out];simp[HO2.out],rfl,hO6,D2.out.kp hK6 hR.base⟩,M2.out.kp hK6⟩
set_option maxHeartbeats 400000 in
theorem canon_43 (B T:Nat) (l:List UInt8) (w:World) (hR:Rdr B T l w) :
 Calls Tryz.prog 118 #[.pointer (some ⟨T,0,none⟩),.int .u16 43] w fun e w'=>Got B T ((D.by_ 5 l).map fun p=>(p.1++p.2, [])) (fun x v w'=>OwnB w' w.heap.size v x) w e w':=by
 go_enter Tryz.func118,Tryz.ntmps118
 go_wp2_with fail
 refine (rbytes_any B T 5 l _ hR (by omega)).mono ?_
 rintro e w1 ⟨⟨x,r,v,ho,rfl,hx,hr⟩ | ⟨ho,rfl⟩,hm⟩
 rotate_left
 ·unfold fell50
  go_wp2
  exact⟨rfl,Or.inr ⟨by rw[ho];rfl,rfl⟩,hm⟩
 have X:=hide hx
 have HO:=hide ho
 have HM:=hide hm
 have lx:=(D.by_back ho).2
 have lr:=hr.len
 clear hx ho hm
 go_wp2_with fail
 refine (rothers_any B T r _ hr).mono ?_
 rintro e w2 ⟨v2,rfl,hx2,hr2,hm2⟩
 have X1:=hide (hr.ownB hm2 X.out)
 obtain⟨a9,c9,rfl,hs9,hn9,_⟩:=hx2.open
 have S9:=hide hs9
 have N9:=hide hn9
 have M2:=hide (HM.out.trans hm2)
 have D2:=hide hr2
 have z2:w.heap.size<=w2.heap.size:=M2.out.size
 clear hs9 hn9 hx2 hm2 hr2 hr X HM
 go_wp2_with (at_builtin;refine wpList_append_B rfl (.tmp 43) (.tmp 45) rfl w.heap.size _ x rfl (by exact X1.out) _ _ _ r rfl rfl (by exact S9.out) N9.out (by omega) z2 ?_;intro v6 w6 hO6 hG6;have hK6:=Kp.grown X1.out hG6 z2;clear hG6)
 go_ret
 exact⟨Or.inl ⟨x++r, [],_,by rw[HO.out];rfl,rfl,hO6,D2.out.kp hK6 hR.base⟩,M2.out.kp hK6⟩
set_option maxHeartbeats 400000 in
theorem canon_51 (B T:Nat) (l:List UInt8) (w:World) (hR:Rdr B T l w) :
 Calls Tryz.prog 118 #[.pointer (some ⟨T,0,none⟩),.int .u16 51] w fun e w'=>Got B T ((D.by_ 4 l).bind fun p=>(D.cnt p.2).map fun q=>(p.1++D.pc q.1,q.2)) (fun x v w'=>OwnB w' w.heap.size v x) w e w':=by
 go_enter Tryz.func118,Tryz.ntmps118
 go_wp2_with fail
 refine (rbytes_any B T 4 l _ hR (by omega)).mono ?_
 rintro e w1 ⟨⟨x,r,v,ho,rfl,hx,hr⟩ | ⟨ho,rfl⟩,hm⟩
 rotate_left
 ·unfold fell50
  go_wp2
  exact⟨rfl,Or.inr ⟨by rw[ho];rfl,rfl⟩,hm⟩
 have X:=hide hx
 have HO:=hide ho
 have HM:=hide hm
 have lx:=(D.by_back ho).2
 clear hx ho hm
 go_wp2_with fail
 refine (rcounted_any B T r _ hr).mono ?_
 rintro e w2 ⟨⟨x2,r2,v2,ho2,rfl,hx2,hr2⟩ | ⟨ho2,rfl⟩,hm2⟩
 rotate_left
 ·unfold fell50
  go_wp2
  exact⟨rfl,Or.inr ⟨by rw[HO.out];simp[ho2],rfl⟩,HM.out.trans hm2⟩
 have X1:=hide (hr.ownB hm2 X.out)
 obtain⟨a9,c9,rfl,hs9,hn9,_⟩:=hx2.open
 have HNE:Hid (0<x2.length -> ∀ b o,a9=some ⟨b,o,none⟩->some b≠v.ownBlock):=by
  intro hn b o' e e2
  have h1:=(X.out.blk e2).2
  have h2:=(hx2.blk (g:=b) (by rw[e];rfl)).1
  omega
 have S9:=hide hs9
 have N9:=hide hn9
 have M2:=hide (HM.out.trans hm2)
 have D2:=hide hr2
 have l2:=(D.cnt_back ho2).2
 have z2:w.heap.size<=w2.heap.size:=M2.out.size
 have HO2:=hide ho2
 clear hs9 hn9 hx2 hm2 hr2 hr X HM ho2
 go_wp2_with fail
 refine (appendCounted_any x2 a9 x2.length c9 w.heap.size v x _ (by exact X1.out) (by exact z2) (by omega) rfl (by exact S9.out) N9.out (by omega) (by exact HNE.out)).mono ?_
 rintro e w6 ⟨v6,rfl,hO6,hK6⟩
 go_wp2
 go_ret
 exact⟨Or.inl ⟨x++D.pc x2,r2,_,by rw[HO.out];simp[HO2.out],rfl,hO6,D2.out.kp hK6 hR.base⟩,M2.out.kp hK6⟩
set_option maxHeartbeats 400000 in
theorem canon_6 (B T:Nat) (l:List UInt8) (w:World) (hR:Rdr B T l w) :
 Calls Tryz.prog 118 #[.pointer (some ⟨T,0,none⟩),.int .u16 6] w fun e w'=>Got B T ((D.soa l).map fun p=>(D.soaB p.1.low,p.2)) (fun x v w'=>OwnB w' w.heap.size v x) w e w':=by
 go_enter Tryz.func118,Tryz.ntmps118
 go_wp2_with fail
 refine (takeSoa_any B T l _ hR).mono ?_
 rintro e w1 ⟨⟨s,r,v,ho,rfl,⟨a1,c1,a2,c2,rfl,hO1,hO3⟩,hr⟩ | ⟨ho,rfl⟩,hm⟩
 rotate_left
 ·unfold fell50
  go_wp2
  exact⟨rfl,Or.inr ⟨by rw[ho];rfl,rfl⟩,hm⟩
 have hk:=(D.soa_back ho).2
 have S1:=hide (OwnS.sl hO1)
 have S2:=hide (OwnS.sl hO3)
 clear hO1 hO3
 have HO:=hide ho
 clear ho
 go_wp2_with fail
 refine (smallSoa_any s a1 a2 s.main.length c1 s.box.length c2 _ rfl rfl (by exact S1.out) (by exact S2.out) hk).mono ?_
 rintro e w2 ⟨v2,rfl,hO2,hb2⟩
 go_wp2
 go_ret
 exact⟨Or.inl ⟨_,r,_,by rw[HO.out];rfl,rfl,hO2.lower hm.size,hr.below hb2⟩,hm.trans (Mv.of hb2)⟩
set_option maxHeartbeats 400000 in
theorem canon_46 (B T:Nat) (l:List UInt8) (w:World) (hR:Rdr B T l w) :
 Calls Tryz.prog 118 #[.pointer (some ⟨T,0,none⟩),.int .u16 46] w fun e w'=>Got B T ((D.sig l).map fun p=>(D.sigB p.1.low,p.2)) (fun x v w'=>OwnB w' w.heap.size v x) w e w':=by
 go_enter Tryz.func118,Tryz.ntmps118
 go_wp2_with fail
 refine (takeSig_any B T l _ hR).mono ?_
 rintro e w1 ⟨⟨s,r,v,ho,rfl,⟨a1,c1,a2,c2,rfl,hO1,hO3⟩,hr⟩ | ⟨ho,rfl⟩,hm⟩
 rotate_left
 ·unfold fell50
  go_wp2
  exact⟨rfl,Or.inr ⟨by rw[ho];rfl,rfl⟩,hm⟩
 obtain⟨hl,hr0,hk⟩:=D.sig_back ho
 have hlen:=hR.len
 have hsl:s.sig.length<=8192:=by rw[hl] at hlen;simp only[D.sigB,List.length_append] at hlen;omega
 have S1:=hide (OwnS.sl hO1)
 have S2:=hide (OwnB.slOf hO3)
 clear hO1 hO3 hl hr0 hlen
 have HO:=hide ho
 clear ho
 go_wp2_with fail
 refine (smallSig_any s a1 a2 s.signer.length c1 s.sig.length c2 _ rfl rfl (by exact S1.out) (by exact S2.out.1) S2.out.2 (by omega) hk).mono ?_
 rintro e w2 ⟨v2,rfl,hO2,hb2⟩
 go_wp2
 go_ret
 exact⟨Or.inl ⟨_,r,_,by rw[HO.out];rfl,rfl,hO2.lower hm.size,hr.below hb2⟩,hm.trans (Mv.of hb2)⟩
set_option maxHeartbeats 400000 in
theorem canon_48 (B T:Nat) (l:List UInt8) (w:World) (hR:Rdr B T l w) :
 Calls Tryz.prog 118 #[.pointer (some ⟨T,0,none⟩),.int .u16 48] w fun e w'=>Got B T ((D.key l).map fun p=>(D.keyB p.1,p.2)) (fun x v w'=>OwnB w' w.heap.size v x) w e w':=by
 go_enter Tryz.func118,Tryz.ntmps118
 go_wp2_with fail
 refine (takeKey_any B T l _ hR).mono ?_
 rintro e w1 ⟨⟨s,r,v,ho,rfl,⟨a1,c1,rfl,hO1⟩,hr⟩ | ⟨ho,rfl⟩,hm⟩
 rotate_left
 ·unfold fell50
  go_wp2
  exact⟨rfl,Or.inr ⟨by rw[ho];rfl,rfl⟩,hm⟩
 obtain⟨hl,hr0,hk⟩:=D.key_back ho
 have hlen:=hR.len
 have hsl:s.key.length<=8192:=by rw[hl] at hlen;simp only[D.keyB,List.length_append] at hlen;omega
 have S1:=hide (OwnB.slOf hO1)
 clear hO1 hl hr0 hlen
 have HO:=hide ho
 clear ho
 go_wp2_with fail
 refine (keyBytes_any s a1 s.key.length c1 _ hk rfl (by exact S1.out.1) S1.out.2 (by omega)).mono ?_
 rintro e w2 ⟨v2,rfl,hO2,hb2⟩
 go_wp2
 go_ret
 exact⟨Or.inl ⟨_,r,_,by rw[HO.out];rfl,rfl,hO2.lower hm.size,hr.below hb2⟩,hm.trans (Mv.of hb2)⟩
set_option maxHeartbeats 400000 in
theorem canon_50 (B T:Nat) (l:List UInt8) (w:World) (hR:Rdr B T l w) :
 Calls Tryz.prog 118 #[.pointer (some ⟨T,0,none⟩),.int .u16 50] w fun e w'=>Got B T ((D.chain l).map fun p=>(D.chainB p.1,p.2)) (fun x v w'=>OwnB w' w.heap.size v x) w e w':=by
 go_enter Tryz.func118,Tryz.ntmps118
 go_wp2_with fail
 refine (takeChain_any B T l _ hR).mono ?_
 rintro e w1 ⟨⟨s,r,v,ho,rfl,⟨a1,c1,a2,c2,a3,c3,rfl,hO1,hO3,hO4⟩,hr⟩ | ⟨ho,rfl⟩,hm⟩
 rotate_left
 ·unfold fell50
  go_wp2
  exact⟨rfl,Or.inr ⟨by rw[ho];rfl,rfl⟩,hm⟩
 obtain⟨hl,hr0,k1,k2,k3,k4,k5,k6,k7⟩:=D.chain_back ho
 have hlen:=hR.len
 obtain⟨hbl,htl⟩:=D.chain_len ho
 have S1:=hide (OwnB.slOf hO1)
 have S2:=hide (OwnB.slOf hO3)
 have S3:=hide (OwnH.slOf hO4)
 clear hO1 hO3 hO4 hl hr0 k6
 have HO:=hide ho
 clear ho
 go_wp2_with fail
 refine (chainBytes_any s a1 a2 a3 s.salt.length c1 s.next.length c2 s.types.length c3 _ rfl rfl rfl (by exact S1.out.1) (by exact S2.out.1) (by exact S3.out.1) S1.out.2 S2.out.2 S3.out.2 (by omega) (by omega) (by omega) k7 k1 k2 k3 (by omega)).mono ?_
 rintro e w2 ⟨v2,rfl,hO2,hb2⟩
 go_wp2
 go_ret
 exact⟨Or.inl ⟨_,r,_,by rw[HO.out];rfl,rfl,hO2.lower hm.size,hr.below hb2⟩,hm.trans (Mv.of hb2)⟩
set_option maxHeartbeats 400000 in
theorem canon_else (B T t:Nat) (l:List UInt8) (w:World) (hR:Rdr B T l w) (h1:t≠1) (h28:t≠28) (h2:t≠2) (h5:t≠5) (h15:t≠15) (h6:t≠6) (h16:t≠16) (h43:t≠43) (h46:t≠46) (h48:t≠48) (h50:t≠50) (h51:t≠51) :
 Calls Tryz.prog 118 #[.pointer (some ⟨T,0,none⟩),.int .u16 (t:Int)] w fun e w'=>Got B T (some (l, [])) (fun x v w'=>OwnB w' w.heap.size v x) w e w':=by
 have b1:((t:Int) == 1)=false:=beq_eq_false_iff_ne.2 (by omega)
 have b28:((t:Int) == 28)=false:=beq_eq_false_iff_ne.2 (by omega)
 have b2:((t:Int) == 2)=false:=beq_eq_false_iff_ne.2 (by omega)
 have b5:((t:Int) == 5)=false:=beq_eq_false_iff_ne.2 (by omega)
 have b15:((t:Int) == 15)=false:=beq_eq_false_iff_ne.2 (by omega)
 have b6:((t:Int) == 6)=false:=beq_eq_false_iff_ne.2 (by omega)
 have b16:((t:Int) == 16)=false:=beq_eq_false_iff_ne.2 (by omega)
 have b43:((t:Int) == 43)=false:=beq_eq_false_iff_ne.2 (by omega)
 have b46:((t:Int) == 46)=false:=beq_eq_false_iff_ne.2 (by omega)
 have b48:((t:Int) == 48)=false:=beq_eq_false_iff_ne.2 (by omega)
 have b50:((t:Int) == 50)=false:=beq_eq_false_iff_ne.2 (by omega)
 have b51:((t:Int) == 51)=false:=beq_eq_false_iff_ne.2 (by omega)
 clear h1 h28 h2 h5 h15 h6 h16 h43 h46 h48 h50 h51
 go_enter Tryz.func118,Tryz.ntmps118
 go_wp2_with fail
 refine (rothers_any B T l _ hR).mono ?_
 rintro e w1 ⟨v,rfl,hx,hr,hm⟩
 go_wp2
 go_ret
 exact⟨Or.inl ⟨l, [],v,rfl,rfl,hx,hr⟩,hm⟩
theorem takeCanon_any (B T t:Nat) (l:List UInt8) (w:World) (hR:Rdr B T l w) :
 Calls Tryz.prog 118 #[.pointer (some ⟨T,0,none⟩),.int .u16 (t:Int)] w fun e w'=>Got B T (D.can t l) (fun x v w'=>OwnB w' w.heap.size v x) w e w':=by
 by_cases h1:t=1
 ·subst h1;exact canon_1 B T l w hR
 by_cases h28:t=28
 ·subst h28;exact canon_28 B T l w hR
 by_cases h2:t=2
 ·subst h2;exact canon_2 B T l w hR
 by_cases h5:t=5
 ·subst h5;exact canon_5 B T l w hR
 by_cases h15:t=15
 ·subst h15;exact canon_15 B T l w hR
 by_cases h6:t=6
 ·subst h6;exact canon_6 B T l w hR
 by_cases h16:t=16
 ·subst h16;exact canon_16 B T l w hR
 by_cases h43:t=43
 ·subst h43;exact canon_43 B T l w hR
 by_cases h46:t=46
 ·subst h46;exact canon_46 B T l w hR
 by_cases h48:t=48
 ·subst h48;exact canon_48 B T l w hR
 by_cases h50:t=50
 ·subst h50;exact canon_50 B T l w hR
 by_cases h51:t=51
 ·subst h51;exact canon_51 B T l w hR
 have e:D.can t l=some (l, []):=by simp[D.can,h1,h28,h2,h5,h15,h6,h16,h43,h46,h48,h50,h51]
 rw[e]
 exact canon_else B T t l w hR h1 h28 h2 h5 h15 h6 h16 h43 h46 h48 h50 h51
open Go.RowKit
namespace D
def full {α : Type} (l:List UInt8) (o:Option (α × List UInt8)):Option α := if 8192<l.length then none else o.bind fun p=>if p.2 = [] then some p.1 else none
theorem full_long {α : Type} {l:List UInt8} {o:Option (α × List UInt8)} (h:8192<l.length):full l o=none:=by unfold full;rw[if_pos h]
theorem full_none {α : Type} {l:List UInt8} {o:Option (α × List UInt8)} (h:o=none):full l o=none:=by unfold full;split;rfl;rw[h];rfl
theorem full_some {α : Type} {l:List UInt8} {o:Option (α × List UInt8)} {x : α} (hl:l.length<=8192) (h:o=some (x, [])):full l o=some x:=by unfold full;rw[if_neg (by omega),h];rfl
theorem full_more {α : Type} {l r:List UInt8} {o:Option (α × List UInt8)} {x : α} (h:o=some (x,r)) (hr:r ≠ []):full l o=none:=by
 unfold full
 split
 ·rfl
 ·rw[h];simp[hr]
theorem full_iff {α : Type} {l:List UInt8} {o:Option (α × List UInt8)} {x : α} : full l o=some x↔l.length<=8192/\o=some (x, []):=by
 constructor
 ·intro h
  unfold full at h
  split at h
  ·cases h
  ·rw[Option.bind_eq_some_iff] at h
   obtain⟨⟨y,r⟩,h1,h2⟩:=h
   simp only at h2
   split at h2
   ·cases h2;rename_i h3;rw[h1,h3];exact⟨by omega,rfl⟩
   ·cases h2
 ·rintro⟨h1,h2⟩;exact full_some h1 h2
end D
def Ans {α : Type} (o:Option α) (R:Nat -> α -> Value->World->Prop) (z:Value) (w:World) (e:Ending) (w':World):Prop :=
 ((∃ x v,o=some x/\e = .returned (.tuple #[v,.int .i64 0])/\R w.heap.size x v w')\/(o=none/\e = .returned (.tuple #[z,.int .i64 50])))/\Below w.heap.size w w'
def BytesV (base:Nat) (x:List UInt8) (v:Value) (w:World):Prop:=OwnB w base v x
theorem rdr_new {w W:World} {b:List UInt8} {ao:Option Addr} {c:Nat} (T:Nat) (hs:SlL w ao b) (hb:Below w.heap.size w W) (hT:RowAt W T 203 #[.slice ao b.length c]) (hw:w.heap.size<=T) (hc:b.length<=c) (hn:ao=none->c=0) (hl:b.length<=8192):Rdr w.heap.size T b W :=
 ⟨ao,c,hT,SlB.below (SlL.slB hs) hb,hc,hn,hw,hl,hb.size⟩
theorem canon1_any (B T t p:Nat) (l:List UInt8) (w:World) (hR:Rdr B T l w) (hp:w.cell? ⟨p,0,none⟩=some (.int .u16 (t:Int))) :
 Calls Tryz.prog 117 #[.pointer (some ⟨T,0,none⟩),.pointer (some ⟨p,0,none⟩)] w fun e w'=>Got B T (D.can t l) (fun x v w'=>OwnB w' w.heap.size v x) w e w':=by
 go_enter Tryz.func117,Tryz.ntmps117
 go_wp2_with fail
 refine (takeCanon_any B T t l _ hR).mono ?_
 rintro e w1 ⟨⟨x,r,v,ho,rfl,hx,hr⟩ | ⟨ho,rfl⟩,hm⟩
 ·go_wp2
  go_ret
  exact⟨Or.inl ⟨x,r,v,ho,rfl,hx,hr⟩,hm⟩
 ·unfold fell50
  go_wp2
  exact⟨rfl,Or.inr ⟨ho,rfl⟩,hm⟩
theorem wB1_fell (A:Nat) (ve:Value) (u:TypeId) (pv:Value) (w:World) (hq:w.cell? ⟨A,0,none⟩=some ve) (fq:w.frozen? ⟨A,0,none⟩=false) :
 CallsD Tryz.prog 142 #[.pointer (some ⟨A,0,none⟩)] (.panicking [{ v := .iface u pv,recovered:=false }]) w fun e u' w' =>
  e = .returned (.tuple #[])/\u' = .panicking [{ v := .iface u pv,recovered:=true }]/\w'=w.setCell ⟨A,0,none⟩ (.int .i64 50):=by
 refine callsD_of_wpS Tryz.func142 rfl fun c₀ cs hu=>?_
 apply wpS_seq
 apply wpS_region
 simp[wpOpsS,go_sem,recoverD,hu,Tryz.ntmps142,Exit.thenS]
 refine wpS_cond (t:=true) (by simp[Act.eval,Array.replicate]) ?_
 simp only[if_true]
 apply wpS_region
 simp[wpOpsS,go_sem,hq,fq,bodyPostS,results,Tryz.results142]
theorem wB1_idle (A:Nat) (w:World) :
 CallsD Tryz.prog 142 #[.pointer (some ⟨A,0,none⟩)] .returning w fun e u' w'=>e = .returned (.tuple #[])/\u' = .returning/\w'=w:=by
 refine callsD_of_wpS Tryz.func142 rfl fun c₀ cs hu=>?_
 apply wpS_seq
 apply wpS_region
 simp[wpOpsS,go_sem,recoverD,hu,Tryz.ntmps142,Exit.thenS]
 refine wpS_cond (t:=false) (by simp[Act.eval,Array.replicate]) ?_
 simp only[Bool.false_eq_true,if_false]
 refine wpS_of_wp (wp_skip ?_)
 cases c₀
 simp_all [bodyPostS,results,Tryz.results142]
set_option maxHeartbeats 800000 in
theorem wB_any (t p:Nat) (b:List UInt8) (ao:Option Addr) (len cap:Nat) (w:World) (hl:Hid (b.length=len)) (hs:SlL w ao b) (hc:len<=cap) (hnil:ao=none->cap=0) (hp:w.cell? ⟨p,0,none⟩=some (.int .u16 (t:Int))) (hpl:p<w.heap.size) :
 Calls Tryz.prog 116 #[.slice ao len cap,.func (.func 117) #[] #[.pointer (some ⟨p,0,none⟩)]] w fun e w'=>Ans (D.full b (D.can t b)) BytesV (.slice none 0 0) w e w':=by
 have hmf : ∀ (fn:Fn) (first cap:Array Value) (w:World),(Instr.makeFunc fn first cap).run Tryz.prog w = .ok (.func fn first cap) w:=fun _ _ _ _=>rfl
 have HS:=hide hs
 have NI:=hide hnil
 clear hs hnil
 have b0:=(Below.refl w.heap.size w).alloc (Nat.le_refl _) (.cells #[.int .i64 0] 80)
 have r0:=RowAt.new w 80 #[.int .i64 0]
 have B0:=hide b0
 have R0:=hide r0
 clear b0 r0
 rcases Nat.lt_or_ge 8192 len with hlt | hge
 ·have hlt':(8192:Int)<(len:Int):=by omega
  have HF:Hid (D.full b (D.can t b)=none):=D.full_long (by rw[hl.out];exact hlt)
  have k0:(w.alloc (.cells #[.int .i64 0] 80)).cell? ⟨w.heap.size,0,none⟩=some (.int .i64 0):=R0.out.cell 0
  go_enter_defers Tryz.func116,Tryz.ntmps116
  go_wp2
  refine leaves_cons (f:=142) (args := #[.pointer (some ⟨w.heap.size,0,none⟩)]) (by simp) (by simp[go_sem]) ?_
  refine (wB1_fell w.heap.size _ 80 _ _ (R0.out.cell 0) (R0.out.frozen 0)).mono ?_
  rintro e u' w'' ⟨rfl,rfl,hw⟩
  have q0:w''.cell? ⟨w.heap.size,0,none⟩=some (.int .i64 50):=by rw[hw];exact (R0.out.set 0 _).cell 0
  have hb:Below w.heap.size w w'':=by rw[hw];exact (B0.out).setCell (Nat.le_refl _) _
  simp[Leaves,settle,results,Tryz.results116,go_sem,q0]
  exact⟨Or.inr ⟨HF.out,rfl⟩,hb⟩
 ·have hge' : ¬ (8192:Int)<(len:Int):=by omega
  have R1:=hide (R0.out.alloc (.cells #[.slice ao len cap] 203))
  have b1:=B0.out.alloc (by simp) (.cells #[.slice ao len cap] 203)
  have hT:=RowAt.new (w.alloc (.cells #[.int .i64 0] 80)) 203 #[.slice ao len cap]
  rw[World.size_alloc] at hT
  have D1:Hid (Rdr w.heap.size (w.heap.size+1) b ((w.alloc (.cells #[.int .i64 0] 80)).alloc (.cells #[.slice ao len cap] 203))):=by
   have hT':=hT
   rw[<- hl.out] at hT' b1 ⊢
   exact rdr_new (w.heap.size+1) HS.out b1 hT' (by omega) (by rw[hl.out];exact hc) NI.out (by rw[hl.out];exact hge)
  have B1:=hide b1
  clear hT b1 R0 B0 HS NI
  go_enter_defers Tryz.func116,Tryz.ntmps116
  go_wp2_with fail
  refine (canon1_any w.heap.size (w.heap.size+1) t p b _ (by exact D1.out) (by exact (B1.out.cell (p:=⟨p,0,none⟩) hpl).trans hp)).mono ?_
  rintro e w1 ⟨⟨x,r,v,ho,rfl,hx,hr⟩ | ⟨ho,rfl⟩,hm⟩
  rotate_left
  ·have R2:=hide (row_mv R1.out (by omega) hm)
   have B2:=hide (B1.out.trans (hm.below (by omega) (by simp;omega)))
   have HF:Hid (D.full b (D.can t b)=none):=D.full_none ho
   have k2:w1.cell? ⟨w.heap.size,0,none⟩=some (.int .i64 0):=R2.out.cell 0
   clear ho hm B1 R1 D1
   unfold fell50
   go_wp2
   refine leaves_cons (f:=142) (args := #[.pointer (some ⟨w.heap.size,0,none⟩)]) (by simp) (by simp[go_sem]) ?_
   refine (wB1_fell w.heap.size _ 80 _ _ (R2.out.cell 0) (R2.out.frozen 0)).mono ?_
   rintro e u' w'' ⟨rfl,rfl,hw⟩
   have q0:w''.cell? ⟨w.heap.size,0,none⟩=some (.int .i64 50):=by rw[hw];exact (R2.out.set 0 _).cell 0
   have hb:Below w.heap.size w w'':=by rw[hw];exact (B2.out).setCell (Nat.le_refl _) _
   simp[Leaves,settle,results,Tryz.results116,go_sem,q0]
   exact⟨Or.inr ⟨HF.out,rfl⟩,hb⟩
  have R2:=hide (row_mv R1.out (by omega) hm)
  have B2:=hide (B1.out.trans (hm.below (by omega) (by simp;omega)))
  have k2:w1.cell? ⟨w.heap.size,0,none⟩=some (.int .i64 0):=R2.out.cell 0
  have f2:=R2.out.frozen 0
  have X:=hide (OwnB.lower hx (show w.heap.size<=_ by simp;omega))
  have HO:=hide ho
  clear ho hm hx B1 R1 D1
  go_wp2_with fail
  refine (rdone_any w.heap.size (w.heap.size+1) r _ hr).mono ?_
  rintro e w2 ⟨rfl,rfl⟩
  by_cases hr0:r = []
  ·subst hr0
   have HF:Hid (D.full b (D.can t b)=some x):=D.full_some (by rw[hl.out];exact hge) HO.out
   go_wp2
   refine leaves_cons (f:=142) (args := #[.pointer (some ⟨w.heap.size,0,none⟩)]) (by simp) (by simp[go_sem]) ?_
   refine (wB1_idle w.heap.size _).mono ?_
   rintro e u' w'' ⟨rfl,rfl,hw⟩
   have q0:w''.cell? ⟨w.heap.size,0,none⟩=some (.int .i64 0):=by rw[hw];exact (R2.out.set 0 _).cell 0
   have hb:Below w.heap.size w w'':=by rw[hw];exact B2.out.setCell (Nat.le_refl _) _
   have hX:BytesV w.heap.size x v w'':=by rw[hw];exact own_set X.out R2.out (by decide) _ _
   simp[Leaves,settle,results,Tryz.results116,go_sem,q0]
   exact⟨Or.inl ⟨x,_,HF.out,rfl,hX⟩,hb⟩
  ·have hd:decide (r = [])=false:=decide_eq_false hr0
   have HF:Hid (D.full b (D.can t b)=none):=D.full_more HO.out hr0
   rw[hd]
   go_wp2
   refine leaves_cons (f:=142) (args := #[.pointer (some ⟨w.heap.size,0,none⟩)]) (by simp) (by simp[go_sem]) ?_
   refine (wB1_fell w.heap.size _ 80 _ _ (R2.out.cell 0) (R2.out.frozen 0)).mono ?_
   rintro e u' w'' ⟨rfl,rfl,hw⟩
   have q0:w''.cell? ⟨w.heap.size,0,none⟩=some (.int .i64 50):=by rw[hw];exact (R2.out.set 0 _).cell 0
   have hb:Below w.heap.size w w'':=by rw[hw];exact (B2.out).setCell (Nat.le_refl _) _
   simp[Leaves,settle,results,Tryz.results116,go_sem,q0]
   exact⟨Or.inr ⟨HF.out,rfl⟩,hb⟩
open Go.RowKit
theorem Canon_any (t:Nat) (b:List UInt8) (ao:Option Addr) (len cap:Nat) (w:World) (hl:Hid (b.length=len)) (hs:SlL w ao b) (hc:len<=cap) (hnil:ao=none->cap=0) :
 Calls Tryz.prog 84 #[.int .u16 (t:Int),.slice ao len cap] w fun e w'=>Ans (D.full b (D.can t b)) BytesV (.slice none 0 0) w e w':=by
 have hmf : ∀ (fn:Fn) (first cap:Array Value) (w:World),(Instr.makeFunc fn first cap).run Tryz.prog w = .ok (.func fn first cap) w:=fun _ _ _ _=>rfl
 have HS:=hide hs
 have NI:=hide hnil
 have b0:=(Below.refl w.heap.size w).alloc (Nat.le_refl _) (.cells #[.int .u16 (t:Int)] 36)
 have R0:=hide (RowAt.new w 36 #[.int .u16 (t:Int)])
 have B0:=hide b0
 clear hs hnil b0
 go_enter Tryz.func84,Tryz.ntmps84
 go_wp2_with fail
 refine (wB_any t w.heap.size b ao len cap _ hl (by exact HS.out.alloc _) hc NI.out (by exact R0.out.cell 0) (by simp)).mono ?_
 rintro e w1 ⟨⟨x,v,ho,rfl,hx⟩ | ⟨ho,rfl⟩,hb⟩
 ·have hb1:=B0.out.trans (hb.mono (by simp))
  have HO:=hide ho
  clear ho
  go_wp2
  go_ret2
  exact⟨Or.inl ⟨x,v,HO.out,rfl,OwnB.lower hx (by simp)⟩,hb1⟩
 ·have hb1:=B0.out.trans (hb.mono (by simp))
  have HO:=hide ho
  clear ho
  go_wp2
  go_ret2
  exact⟨Or.inr ⟨HO.out,rfl⟩,hb1⟩
def codeOf {α : Type} (o:Option α):Int:=if o.isSome then 0 else 50
open Go.RowKit
theorem nput_any (w:World) {ρ : Nat->Role} {G:List (List UInt8)->Option Nd} {C:List (List UInt8)->Nat->Option Z.St} {K:Nat} (T:TreeAt w ρ G C K) (hK:K+1<=1000000) {p:List (List UInt8)} {x:Nd} (hx:G p=some x) (t:Nat) (ht:t<65536) (ttl cl:Nat) (c d:List UInt8) (na:Option Addr) (nl nc:Nat) (da:Option Addr) (dc:Nat) (ca:Option Addr) (cc:Nat)
 (hsd:SlL w da d) (hnd:da=none->dc=0) (hd8:d.length<=8192) (hsc:SlL w ca c) (hc8:c.length<=1000000) :
 Calls Tryz.prog 87 #[.pointer (some ⟨x.n,0,none⟩),recV na nl nc t cl ttl da d.length dc,.slice ca c.length cc] w fun e w'=>e = .returned (.tuple #[]) /\ ∃ ρ' x',TreeAt w' ρ' (gput G p (some x')) (Z.cput C p t ttl c d) (K+1)/\x'.n=x.n/\x'.s=x.s/\x'.b=x.b/\Grew w w' ρ ρ' G (gput G p (some x')):=by
 cases hC:C p t with
 | none=>exact nput_new w T hK hx t ht ttl cl c d na nl nc da dc ca cc hsd hnd hd8 hsc hc8 hC
 | some S =>
  cases hg:S.g c with
  | none=>exact nput_add w T hK hx t ht ttl cl c d na nl nc da dc ca cc hsd hnd hd8 hsc hc8 S hC hg
  | some d0=>exact nput_same w T hK hx t ht ttl cl c d na nl nc da dc ca cc hsd hnd hd8 hsc hc8 S hC d0 hg
def cn (t:Nat) (d:List UInt8):Option (List UInt8):=D.full d (D.can t d)
structure ZAt (w:World) (Zb:Nat) (A:List (List UInt8)) (L:List Z.R) (ρ : Nat->Role) (G:List (List UInt8)->Option Nd) (C:List (List UInt8)->Nat->Option Z.St) (K:Nat):Prop where
 row : ∃ ao cap,RowAt w Zb 94 #[.slice ao A.length cap,ptr (nodeN G []),.int .i64 (L.length:Int)]/\SlS w ao A/\A.length<=cap
 tree:TreeAt w ρ G C K
 of:Z.Of L C
 rise:L.Pairwise Z.rlt
 lows:Z.Lows L
 cov:Z.Cov G L
 num:L.length<=2000
 okk : ∀ x∈L,x.t<65536/\x.ttl<4294967296/\cn x.t x.d=some x.c/\x.d.length<=8192/\x.p.length<=128
 zr : ρ Zb = .none
structure ZM (Zb:Nat) (ρ : Nat->Role) (w w':World):Prop where
 os:w'.os=w.os
 tape:w'.tape=w.tape
 output:w'.output=w.output
 size:w.heap.size<=w'.heap.size
 block : ∀ i,i<w.heap.size->i≠Zb -> ρ i = .none->w'.heap[i]?=w.heap[i]?
theorem ZM.of_below {Zb:Nat} {ρ : Nat->Role} {w w':World} (h:Below w.heap.size w w'):ZM Zb ρ w w':=⟨h.os,h.tape,h.output,h.size,fun i hi _ _=>h.block i hi⟩
theorem ZM.of_mv {Zb:Nat} {ρ : Nat->Role} {w w':World} (h:ZMv ρ w w'):ZM Zb ρ w w':=⟨h.os,h.tape,h.output,h.size,fun i hi _ h0=>h.block i hi h0⟩
theorem ZM.trans {Zb:Nat} {ρ ρ':Nat->Role} {a b c:World} (h:ZM Zb ρ a b) (k:ZM Zb ρ' b c) (hr:More a ρ ρ'):ZM Zb ρ a c :=
 ⟨k.os.trans h.os,k.tape.trans h.tape,k.output.trans h.output,Nat.le_trans h.size k.size,fun i hi h1 h2=>(k.block i (Nat.lt_of_lt_of_le hi h.size) h1 (by rw[hr i hi];exact h2)).trans (h.block i hi h1 h2)⟩
theorem ZM.count {w:World} {Zb:Nat} {ρ : Nat->Role} {c0 c1 c2 u:Value} (h:RowAt w Zb 94 #[c0,c1,c2]):ZM Zb ρ w (w.setCell ⟨Zb,2,none⟩ u):=by
 have hlt:=h.lt
 refine⟨rfl,rfl,rfl,by simp,fun i hi h1 _=>?_⟩
 exact heap_setCell_other _ _ _ _ h1
theorem slL_zm {Zb n:Nat} {m:Int} {ρ : Nat->Role} {w w':World} (h:ZM Zb ρ w w') (hk : ∀ i, ρ i ≠ .none->ZObj w i) {ao:Option Addr} {len cap:Nat} (hz:RowAt w Zb 94 #[.slice ao len cap,ptr n,.int .i64 m]) {a:Option Addr} {l:List UInt8} (hs:SlL w a l):SlL w' a l:=fun hn=>by
 obtain⟨b,o,e,hlt,hc⟩:=hs hn
 have hb1:b≠Zb:=fun e2=>by
  have:=hc 0 hn
  rw[e2,hz.cell] at this
  match o with
  | 0=>simp at this
  | 1=>simp[ptr] at this
  | 2=>simp at this
  | o+3=>simp at this
 have hb2 : ρ b = .none:=Classical.byContradiction fun h0=>by
  obtain⟨m,hm⟩:=(hk b h0).cell (hc 0 hn)
  cases hm
 refine⟨b,o,e,Nat.lt_of_lt_of_le hlt h.size,fun j hj=>?_⟩
 rw[<- hc j hj]
 exact World.cell?_of_block (h.block b hlt hb1 hb2)
theorem slS_zm {Zb n:Nat} {m:Int} {ρ : Nat->Role} {w w':World} (h:ZM Zb ρ w w') (hk : ∀ i, ρ i ≠ .none->ZObj w i) {ao:Option Addr} {len cap:Nat} (hz:RowAt w Zb 94 #[.slice ao len cap,ptr n,.int .i64 m]) {a:Option Addr} {l:List (List UInt8)} (hs:SlS w a l):SlS w' a l:=fun hn=>by
 obtain⟨b,o,e,hlt,hc⟩:=hs hn
 have hb1:b≠Zb:=fun e2=>by
  have:=hc 0 hn
  rw[e2,hz.cell] at this
  match o with
  | 0=>simp at this
  | 1=>simp[ptr] at this
  | 2=>simp at this
  | o+3=>simp at this
 have hb2 : ρ b = .none:=Classical.byContradiction fun h0=>by
  obtain⟨m,hm⟩:=(hk b h0).cell (hc 0 hn)
  cases hm
 refine⟨b,o,e,Nat.lt_of_lt_of_le hlt h.size,fun j hj=>?_⟩
 rw[<- hc j hj]
 exact World.cell?_of_block (h.block b hlt hb1 hb2)
theorem ZAt.mono {w:World} {Zb:Nat} {A:List (List UInt8)} {L:List Z.R} {ρ : Nat->Role} {G:List (List UInt8)->Option Nd} {C:List (List UInt8)->Nat->Option Z.St} {K K':Nat} (h:ZAt w Zb A L ρ G C K) (hk:K<=K'):ZAt w Zb A L ρ G C K' := { h with tree:=h.tree.mono hk }
theorem ZAt.keep {w w':World} {Zb:Nat} {A:List (List UInt8)} {L:List Z.R} {ρ : Nat->Role} {G:List (List UInt8)->Option Nd} {C:List (List UInt8)->Nat->Option Z.St} {K:Nat} (h:ZAt w Zb A L ρ G C K) (hz:w'.heap[Zb]?=w.heap[Zb]?) (hb : ∀ i, ρ i ≠ .none->w'.heap[i]?=w.heap[i]?) (hs : ∀ ao l,SlL w ao l->SlL w' ao l) (hs2 : ∀ ao l,SlS w ao l->SlS w' ao l):ZAt w' Zb A L ρ G C K:=by
 obtain⟨ao,cap,h1,h2,h3⟩:=h.row
 exact { h with row:=⟨ao,cap,hz.trans h1,hs2 _ _ h2,h3⟩,tree:=h.tree.keep hb hs }
theorem ZAt.lt {w:World} {Zb:Nat} {A:List (List UInt8)} {L:List Z.R} {ρ : Nat->Role} {G:List (List UInt8)->Option Nd} {C:List (List UInt8)->Nat->Option Z.St} {K:Nat} (h:ZAt w Zb A L ρ G C K):Zb<w.heap.size:=by
 obtain⟨ao,cap,h1,_⟩:=h.row;exact h1.lt
theorem ZAt.bel {w w':World} {Zb:Nat} {A:List (List UInt8)} {L:List Z.R} {ρ : Nat->Role} {G:List (List UInt8)->Option Nd} {C:List (List UInt8)->Nat->Option Z.St} {K:Nat} (h:ZAt w Zb A L ρ G C K) (hb:Below w.heap.size w w'):ZAt w' Zb A L ρ G C K :=
 h.keep (hb.block _ h.lt) (fun i hi=>hb.block i (h.tree.kind i hi).lt) (fun _ _ hs=>hs.below hb (Nat.le_refl _)) (fun _ _ hs=>hs.below hb (Nat.le_refl _))
open Go.RowKit
namespace D
theorem low_good {n:List (List UInt8)} (h:Good n):Good (N.lowN n):=by
 refine⟨?_,?_,by rw[size_low];exact h.2.2⟩
 ·intro e
  simp only[N.lowN,List.mem_map] at e
  obtain⟨l,hl,e⟩:=e
  have:l = []:=by
   have:=congrArg List.length e
   rw[N.lowL_len] at this
   exact List.eq_nil_of_length_eq_zero this
  exact h.1 (this ▸ hl)
 ·intro l e
  simp only[N.lowN,List.mem_map] at e
  obtain⟨l',hl,rfl⟩:=e
  rw[N.lowL_len];exact h.2.1 l' hl
theorem low_low (n:List (List UInt8)):N.lowN (N.lowN n)=N.lowN n:=by
 unfold N.lowN
 rw[List.map_map]
 apply List.map_congr_left
 intro l _
 exact N.lowL_low l
theorem small_idem {l x r:List UInt8} (h:small l=some (x,r)) (q:List UInt8):small (x++q)=some (x,q)/\x.length+r.length=l.length:=by
 unfold small at h
 rw[Option.map_eq_some_iff] at h
 obtain⟨⟨n,r'⟩,h1,h2⟩:=h
 cases h2
 obtain⟨e,hg⟩:=nm_back h1
 constructor
 ·show (nm (N.wire (N.lowN n)++q)).map _=_
  rw[nm_fwd _ _ (low_good hg)]
  simp only[Option.map_some,low_low]
 ·show (N.wire (N.lowN n)).length+r'.length=l.length
  rw[e,List.length_append,N.wire_len,N.wire_len,size_low]
theorem by_len {k:Nat} {l x r:List UInt8} (h:by_ k l=some (x,r)):x.length=k/\x.length+r.length=l.length:=by
 obtain⟨e,h1⟩:=by_back h
 exact⟨h1,by rw[e,List.length_append]⟩
theorem soaB_len (s:Soa):(soaB s.low).length=(soaB s).length:=by
 unfold soaB Soa.low
 simp only[List.length_append,N.wire_len,size_low]
theorem sigB_len (s:Sig):(sigB s.low).length=(sigB s).length:=by
 unfold sigB Sig.low
 simp only[List.length_append,N.wire_len,size_low]
theorem can_idem {t:Nat} {l x:List UInt8} (h:can t l=some (x, [])):can t x=some (x, [])/\x.length=l.length:=by
 by_cases h1:t=1
 ·subst h1
  have h':by_ 4 l=some (x, []):=h
  obtain⟨e,e2⟩:=by_len h'
  refine⟨?_,by simpa using e2⟩
  show by_ 4 x=some (x, [])
  have:=by_fwd x [] 4 e
  rwa [List.append_nil] at this
 by_cases h28:t=28
 ·subst h28
  have h':by_ 16 l=some (x, []):=h
  obtain⟨e,e2⟩:=by_len h'
  refine⟨?_,by simpa using e2⟩
  show by_ 16 x=some (x, [])
  have:=by_fwd x [] 16 e
  rwa [List.append_nil] at this
 by_cases h2:t=2\/t=5
 ·have e : ∀ q,can t q=small q:=fun q=>by simp[can,h1,h28,h2]
  rw[e] at h ⊢
  obtain⟨a,b⟩:=small_idem h []
  rw[List.append_nil] at a
  exact⟨a,by simpa using b⟩
 have h2':t≠2:=fun e=>h2 (Or.inl e)
 have h5':t≠5:=fun e=>h2 (Or.inr e)
 by_cases h15:t=15
 ·subst h15
  have h':((by_ 2 l).bind fun p=>(small p.2).map fun q=>(p.1++q.1,q.2))=some (x, []):=h
  rw[Option.bind_eq_some_iff] at h'
  obtain⟨⟨p,r⟩,a1,a2⟩:=h'
  rw[Option.map_eq_some_iff] at a2
  obtain⟨⟨y,r2⟩,a3,a4⟩:=a2
  simp only[Prod.mk.injEq] at a4
  obtain⟨rfl,rfl⟩:=a4
  obtain⟨e1,e2⟩:=by_len a1
  obtain⟨f1,f2⟩:=small_idem a3 []
  rw[List.append_nil] at f1
  refine⟨?_,by simp only[List.length_append] at f2 ⊢; simp only[List.length_nil] at f2;omega⟩
  show ((by_ 2 (p++y)).bind fun p=>(small p.2).map fun q=>(p.1++q.1,q.2))=_
  rw[by_fwd p y 2 e1]
  simp only[Option.bind_some]
  rw[f1];rfl
 by_cases h6:t=6
 ·subst h6
  have h':((soa l).map fun p=>(soaB p.1.low,p.2))=some (x, []):=h
  rw[Option.map_eq_some_iff] at h'
  obtain⟨⟨s,r⟩,a1,a2⟩:=h'
  simp only[Prod.mk.injEq] at a2
  obtain⟨rfl,rfl⟩:=a2
  obtain⟨e,hk⟩:=soa_back a1
  have hk':s.low.Ok:=⟨low_good hk.1,low_good hk.2.1,hk.2.2⟩
  have hf:=soa_fwd s.low [] hk'
  rw[List.append_nil] at hf e
  refine⟨?_,by rw[e,soaB_len]⟩
  show ((soa (soaB s.low)).map fun p=>(soaB p.1.low,p.2))=_
  rw[hf]
  simp only[Option.map_some,Soa.low,low_low]
 by_cases h16:t=16
 ·subst h16
  have h':txt l=some (x, []):=h
  unfold txt at h'
  split at h'
  ·cases h'
   refine⟨h,rfl⟩
  ·cases h'
 by_cases h43:t=43
 ·subst h43
  have h':((by_ 5 l).map fun p=>(p.1++p.2,([]:List UInt8)))=some (x, []):=h
  rw[Option.map_eq_some_iff] at h'
  obtain⟨⟨p,r⟩,a1,a2⟩:=h'
  simp only[Prod.mk.injEq] at a2
  obtain⟨rfl,_⟩:=a2
  obtain⟨e1,_⟩:=by_back a1
  rw[<- e1]
  exact⟨by rw[h, <- e1],rfl⟩
 by_cases h46:t=46
 ·subst h46
  have h':((sig l).map fun p=>(sigB p.1.low,p.2))=some (x, []):=h
  rw[Option.map_eq_some_iff] at h'
  obtain⟨⟨s,r⟩,a1,a2⟩:=h'
  simp only[Prod.mk.injEq] at a2
  obtain⟨rfl,rfl⟩:=a2
  obtain⟨e,_,k1,k2,k3,k4,k5,k6,k7,k8⟩:=sig_back a1
  have hf:=sig_fwd s.low ⟨k1,k2,k3,k4,k5,k6,k7,low_good k8⟩
  rw[List.append_nil] at e
  refine⟨?_,by rw[e,sigB_len]⟩
  show ((sig (sigB s.low)).map fun p=>(sigB p.1.low,p.2))=_
  rw[hf]
  simp only[Option.map_some,Sig.low,low_low]
 by_cases h48:t=48
 ·subst h48
  have h':((key l).map fun p=>(keyB p.1,p.2))=some (x, []):=h
  rw[Option.map_eq_some_iff] at h'
  obtain⟨⟨s,r⟩,a1,a2⟩:=h'
  simp only[Prod.mk.injEq] at a2
  obtain⟨rfl,rfl⟩:=a2
  obtain⟨e,_,_⟩:=key_back a1
  rw[List.append_nil] at e
  rw[<- e]
  exact⟨by rw[h, <- e],rfl⟩
 by_cases h50:t=50
 ·subst h50
  have h':((chain l).map fun p=>(chainB p.1,p.2))=some (x, []):=h
  rw[Option.map_eq_some_iff] at h'
  obtain⟨⟨s,r⟩,a1,a2⟩:=h'
  simp only[Prod.mk.injEq] at a2
  obtain⟨rfl,rfl⟩:=a2
  obtain⟨e,_,_⟩:=chain_back a1
  rw[List.append_nil] at e
  rw[<- e]
  exact⟨by rw[h, <- e],rfl⟩
 by_cases h51:t=51
 ·subst h51
  have h':((by_ 4 l).bind fun p=>(cnt p.2).map fun q=>(p.1++pc q.1,q.2))=some (x, []):=h
  rw[Option.bind_eq_some_iff] at h'
  obtain⟨⟨p,r⟩,a1,a2⟩:=h'
  rw[Option.map_eq_some_iff] at a2
  obtain⟨⟨y,r2⟩,a3,a4⟩:=a2
  simp only[Prod.mk.injEq] at a4
  obtain⟨rfl,rfl⟩:=a4
  obtain⟨e1,_⟩:=by_back a1
  obtain⟨e2,_⟩:=cnt_back a3
  simp only[] at e2
  rw[List.append_nil] at e2
  have:p++pc y=l:=by rw[e1,e2]
  rw[this]
  exact⟨by rw[h,this],rfl⟩
 have e : ∀ q,can t q=some (q, []):=fun q=>by simp[can,h1,h28,h2',h5',h15,h6,h16,h43,h46,h48,h50,h51]
 rw[e] at h
 cases h
 exact⟨e _,rfl⟩
end D
open Go.RowKit
theorem cn_len {t:Nat} {d c:List UInt8} (h:cn t d=some c):c.length=d.length/\d.length<=8192/\cn t c=some c:=by
 obtain⟨h1,h2⟩:=D.full_iff.1 h
 obtain⟨h3,h4⟩:=D.can_idem h2
 exact⟨h4,h1,D.full_iff.2 ⟨by omega,h3⟩⟩
theorem Sane.small {n:List (List UInt8)} (h:N.Small n):Sane n:=fun l hl=>by have:=h.2 l hl;omega
set_option maxHeartbeats 1500000 in
theorem zput_name (w:World) (Zb:Nat) (A:List (List UInt8)) (L:List Z.R) (ρ : Nat->Role) (G:List (List UInt8)->Option Nd) (C:List (List UInt8)->Nat->Option Z.St) (K:Nat) (Zx:ZAt w Zb A L ρ G C K) (hA:Hid (N.Small A)) (n:List (List UInt8)) (na:Option Addr) (nl nc:Nat) (hl:Hid (n.length=nl)) (hnc:nl<=nc) (hs:SlS w na n) (hm:Hid (N.Small n)) (t:Nat) (cl ttl:Nat) (d:List UInt8) (da:Option Addr) (dc:Nat) (hsd:SlL w da d) (_hnd:da=none->dc=0) (_hdc:d.length<=dc) (hbad:N.chk n≠0\/N.within n A=false) :
 Calls Tryz.prog 44 #[.pointer (some ⟨Zb,0,none⟩),recV na nl nc t cl ttl da d.length dc] w fun e w'=>e = .returned (.tuple #[.bool false,.int .i64 110])/\Below w.heap.size w w':=by
 obtain⟨ck,hck⟩ : ∃ ck,N.chk n=ck:=⟨_,rfl⟩
 have hchk : ∀ W,SlS W na n->Calls Tryz.prog 82 #[.slice na nl nc] W fun e w'=>e = .returned (.int .i64 ck)/\w'=W:=fun W hW=>by rw[<- hck];exact check_any n na nl nc W hl hW hm
 obtain⟨wi,hwi⟩ : ∃ wi,N.within n A=wi:=⟨_,rfl⟩
 have hwith : ∀ (W:World) (aa:Option Addr) (ac:Nat),SlS W na n->SlS W aa A->Calls Tryz.prog 83 #[.slice na nl nc,.slice aa A.length ac] W fun e w'=>e = .returned (.bool wi) /\ ∃ m,w'=W.drewN m:=fun W aa ac h1 h2=>by
  rw[<- hwi]
  exact within_any n A na aa nl A.length nc ac W hl rfl h1 h2 (by have:=hm.out.1;have:=hl.out;omega) (by have:=hA.out.1;omega) hnc (Sane.small hm.out) (Sane.small hA.out)
 rw[hck,hwi] at hbad
 have hcq:ck=30\/ck=31\/ck=0:=by rw[<- hck];unfold N.chk;split;exact Or.inl rfl;split;exact Or.inr (Or.inl rfl);exact Or.inr (Or.inr rfl)
 have HCK:=hide hck
 have HWI:=hide hwi
 clear hck hwi
 obtain⟨aa,ac,hzr,hsA,hac⟩:=Zx.row
 have ha1:A.length<=1000000:=hA.out.1
 have hn1:nl<=1000000:=by rw[<- hl.out];exact hm.out.1
 obtain⟨w1,hw1⟩ : ∃ w1,w1=w.alloc (.cells #[.slice na nl nc,.int .u16 (t:Int),.int .u16 (cl:Int),.int .u32 (ttl:Int),.slice da d.length dc] 39):=⟨_,rfl⟩
 have hb1:Below w.heap.size w w1:=by rw[hw1];exact (Below.refl _ w).alloc (Nat.le_refl _) _
 have hR1:RowAt w1 w.heap.size 39 #[.slice na nl nc,.int .u16 (t:Int),.int .u16 (cl:Int),.int .u32 (ttl:Int),.slice da d.length dc]:=by rw[hw1];exact RowAt.new w _ _
 have hz1:RowAt w1 Zb 94 #[.slice aa A.length ac,ptr (nodeN G []),.int .i64 (L.length:Int)]:=hzr.below hb1 hzr.lt
 have x0:w1.cell? ⟨w.heap.size,0,none⟩=some (.slice na nl nc):=hR1.cell 0
 have x1:w1.cell? ⟨Zb,0,none⟩=some (.slice aa A.length ac):=hz1.cell 0
 have HZ:=hide Zx
 have HW1:=hide hw1
 have HB1:=hide hb1
 have HR1:=hide hR1
 have HZ1:=hide hz1
 have HS:=hide (hs.below hb1 (Nat.le_refl _))
 have HSA:=hide (hsA.below hb1 (Nat.le_refl _))
 have HSD:=hide (hsd.below hb1 (Nat.le_refl _))
 clear Zx hzr hw1 hb1 hR1 hz1 hs hsA hsd
 unfold recV
 go_enter Tryz.func44,Tryz.ntmps44
 go_wp2
 rw[<- HW1.out]
 rcases hcq with hcq | hcq | hcq
 all_goals subst hcq
 ·go_quiet (first
   | (go_at_call 82;exact Calls.quiet_of_same (hchk _ (by exact HS.out.below (below_drewN (Below.refl _ w1) _) (Nat.le_refl _))))
   | fail)
  go_wp2
  go_ret2
  exact⟨rfl,(below_drewN HB1.out _)⟩
 ·go_quiet (first
   | (go_at_call 82;exact Calls.quiet_of_same (hchk _ (by exact HS.out.below (below_drewN (Below.refl _ w1) _) (Nat.le_refl _))))
   | fail)
  go_wp2
  go_ret2
  exact⟨rfl,(below_drewN HB1.out _)⟩
 ·have hwf:wi=false:=by rcases hbad with h | h;exact absurd rfl h;exact h
  subst hwf
  go_quiet (first
   | (go_at_call 82;exact Calls.quiet_of_same (hchk _ (by exact HS.out.below (below_drewN (Below.refl _ w1) _) (Nat.le_refl _))))
   | (go_at_call 83;exact Calls.quiet_of (hwith _ aa ac (by exact HS.out.below (below_drewN (Below.refl _ w1) _) (Nat.le_refl _)) (by exact HSA.out.below (below_drewN (Below.refl _ w1) _) (Nat.le_refl _))))
   | fail)
  go_wp2
  go_ret2
  exact⟨rfl,(below_drewN HB1.out _)⟩
set_option maxHeartbeats 1500000 in
theorem zput_data (w:World) (Zb:Nat) (A:List (List UInt8)) (L:List Z.R) (ρ : Nat->Role) (G:List (List UInt8)->Option Nd) (C:List (List UInt8)->Nat->Option Z.St) (K:Nat) (Zx:ZAt w Zb A L ρ G C K) (hA:Hid (N.Small A)) (n:List (List UInt8)) (na:Option Addr) (nl nc:Nat) (hl:Hid (n.length=nl)) (hnc:nl<=nc) (hs:SlS w na n) (hm:Hid (N.Small n)) (t:Nat) (cl ttl:Nat) (d:List UInt8) (da:Option Addr) (dc:Nat) (hsd:SlL w da d) (hnd:da=none->dc=0) (hdc:d.length<=dc) (hgood:N.chk n=0) (hwin:N.within n A=true) (hbad:cl≠1\/cn t d=none) :
 Calls Tryz.prog 44 #[.pointer (some ⟨Zb,0,none⟩),recV na nl nc t cl ttl da d.length dc] w fun e w'=>e = .returned (.tuple #[.bool false,.int .i64 50])/\Below w.heap.size w w':=by
 obtain⟨ck,hck⟩ : ∃ ck,N.chk n=ck:=⟨_,rfl⟩
 have hchk : ∀ W,SlS W na n->Calls Tryz.prog 82 #[.slice na nl nc] W fun e w'=>e = .returned (.int .i64 0)/\w'=W:=fun W hW=>by rw[<- hgood];exact check_any n na nl nc W hl hW hm
 have hwith : ∀ (W:World) (aa:Option Addr) (ac:Nat),SlS W na n->SlS W aa A->Calls Tryz.prog 83 #[.slice na nl nc,.slice aa A.length ac] W fun e w'=>e = .returned (.bool true) /\ ∃ m,w'=W.drewN m:=fun W aa ac h1 h2=>by
  rw[<- hwin]
  exact within_any n A na aa nl A.length nc ac W hl rfl h1 h2 (by have:=hm.out.1;have:=hl.out;omega) (by have:=hA.out.1;omega) hnc (Sane.small hm.out) (Sane.small hA.out)
 clear hck ck
 obtain⟨aa,ac,hzr,hsA,hac⟩:=Zx.row
 have ha1:A.length<=1000000:=hA.out.1
 have hn1:nl<=1000000:=by rw[<- hl.out];exact hm.out.1
 obtain⟨w1,hw1⟩ : ∃ w1,w1=w.alloc (.cells #[.slice na nl nc,.int .u16 (t:Int),.int .u16 (cl:Int),.int .u32 (ttl:Int),.slice da d.length dc] 39):=⟨_,rfl⟩
 have hb1:Below w.heap.size w w1:=by rw[hw1];exact (Below.refl _ w).alloc (Nat.le_refl _) _
 have hR1:RowAt w1 w.heap.size 39 #[.slice na nl nc,.int .u16 (t:Int),.int .u16 (cl:Int),.int .u32 (ttl:Int),.slice da d.length dc]:=by rw[hw1];exact RowAt.new w _ _
 have hz1:RowAt w1 Zb 94 #[.slice aa A.length ac,ptr (nodeN G []),.int .i64 (L.length:Int)]:=hzr.below hb1 hzr.lt
 have x0:w1.cell? ⟨w.heap.size,0,none⟩=some (.slice na nl nc):=hR1.cell 0
 have x1:w1.cell? ⟨Zb,0,none⟩=some (.slice aa A.length ac):=hz1.cell 0
 have HZ:=hide Zx
 have HW1:=hide hw1
 have HB1:=hide hb1
 have HR1:=hide hR1
 have HZ1:=hide hz1
 have HS:=hide (hs.below hb1 (Nat.le_refl _))
 have HSA:=hide (hsA.below hb1 (Nat.le_refl _))
 have HSD:=hide (hsd.below hb1 (Nat.le_refl _))
 clear Zx hzr hw1 hb1 hR1 hz1 hs hsA hsd
 unfold recV
 go_enter Tryz.func44,Tryz.ntmps44
 go_wp2
 rw[<- HW1.out]
 go_quiet (first
  | (go_at_call 82;exact Calls.quiet_of_same (hchk _ (by exact HS.out.below (below_drewN (Below.refl _ w1) _) (Nat.le_refl _))))
  | (go_at_call 83;exact Calls.quiet_of (hwith _ aa ac (by exact HS.out.below (below_drewN (Below.refl _ w1) _) (Nat.le_refl _)) (by exact HSA.out.below (below_drewN (Below.refl _ w1) _) (Nat.le_refl _))))
  | fail)
 have hbq:Below w1.heap.size w1 (w1.drewN nq):=below_drewN (Below.refl _ w1) _
 have y1:(w1.drewN nq).cell? ⟨w.heap.size,1,none⟩=some (.int .u16 (t:Int)):=HR1.out.cell 1
 have y4:(w1.drewN nq).cell? ⟨w.heap.size,4,none⟩=some (.slice da d.length dc):=HR1.out.cell 4
 have HBQ:=hide hbq
 have HSDq:=hide (HSD.out.below hbq (Nat.le_refl _))
 clear hbq
 by_cases hcl:cl=1
 ·have hcn:cn t d=none:=by rcases hbad with h | h;exact absurd hcl h;exact h
  subst hcl
  go_wp2_with (first
   | (go_at_call 84;refine (Canon_any t d da d.length dc _ rfl (by exact HSDq.out) hdc hnd).mono ?_;rintro e w2 ⟨⟨x,v,ho,rfl,hx⟩ | ⟨ho,rfl⟩,hb2⟩;(· exact absurd (ho.symm.trans hcn) (by simp));have z2:w2.cell? ⟨w.heap.size,2,none⟩=some (.int .u16 1):=(HR1.out.below (HBQ.out.trans (hb2.mono HBQ.out.size)) HR1.out.lt).cell 2))
  go_ret2
  exact⟨rfl,HB1.out.trans ((HBQ.out.trans (hb2.mono HBQ.out.size)).mono HB1.out.size)⟩
 ·have hcl2:((cl:Int) != 1)=true:=by simp;omega
  go_wp2_with (first
   | (go_at_call 84;refine (Canon_any t d da d.length dc _ rfl (by exact HSDq.out) hdc hnd).mono ?_;rintro e w2 ⟨⟨x,v,ho,rfl,hx⟩ | ⟨ho,rfl⟩,hb2⟩;all_goals have z2:w2.cell? ⟨w.heap.size,2,none⟩=some (.int .u16 (cl:Int)):=(HR1.out.below (HBQ.out.trans (hb2.mono HBQ.out.size)) HR1.out.lt).cell 2))
  all_goals
   go_ret2
   exact⟨rfl,HB1.out.trans ((HBQ.out.trans (hb2.mono HBQ.out.size)).mono HB1.out.size)⟩
open Go.RowKit
theorem Found.dm {W w:World} {G:List (List UInt8)->Option Nd} {C:List (List UInt8)->Nat->Option Z.St} {K:Nat} {p:List (List UInt8)} {x:Nd} (h:Found W w G C K p x) (t T0:Nat) (mo:Option Nat) (hm:((C p t).map fun S=>setV S (x.dm t)).getD (.agg #[.int .u32 0,.map none]) = .agg #[.int .u32 (T0:Int),.map mo]):DM w mo (Z.got C p t) K:=by
 cases hC:C p t with
 | none =>
  rw[hC] at hm
  have e:mo=none:=by
   have:Value.agg #[.int .u32 0,.map none] = .agg #[.int .u32 (T0:Int),.map mo]:=hm
   simp at this;exact this.2.symm
  subst e
  intro y;unfold Z.got;rw[hC];rfl
 | some S =>
  rw[hC] at hm
  have e:mo=some (x.dm t):=by
   have:setV S (x.dm t) = .agg #[.int .u32 (T0:Int),.map mo]:=hm
   unfold setV at this
   simp at this;exact this.2.symm
  subst e
  obtain⟨f,h1,h2⟩:=h.node.data t S hC
  exact⟨f,h1,fun y=>by unfold Z.got;rw[hC];exact h2 y⟩
theorem slL_box {w:World} {sb:Nat} {T0:Int} {mo:Option Nat} (hb:RowAt w sb 102 #[.int .u32 T0,.map mo]) (j:Nat) (v:Value) {ao:Option Addr} {l:List UInt8} (hs:SlL w ao l):SlL (w.setCell ⟨sb,j,none⟩ v) ao l:=fun hn=>by
 obtain⟨g,o,e,hlt,hc⟩:=hs hn
 have hg:g≠sb:=fun e2=>by
  have:=hc 0 hn
  rw[e2,hb.cell] at this
  match o with
  | 0=>simp at this
  | 1=>simp at this
  | o+2=>simp at this
 refine⟨g,o,e,by rw[World.size_setCell];exact hlt,fun i hi=>?_⟩
 rw[<- hc i hi];exact World.cell?_of_block (heap_setCell_other _ _ _ _ hg)
theorem DM.box {w:World} {sb:Nat} {T0:Int} {m1 mo:Option Nat} {g:List UInt8->Option (List UInt8)} {K:Nat} (h:DM w mo g K) (hb:RowAt w sb 102 #[.int .u32 T0,.map m1]) (j:Nat) (v:Value):DM (w.setCell ⟨sb,j,none⟩ v) mo g K:=by
 cases mo with
 | none=>exact h
 | some m =>
  obtain⟨f,h1,h2⟩:=h
  refine⟨f,h1.heap (heap_setCell_other _ _ _ _ (fun e=>h1.row_ne hb e.symm)),fun y=>(h2 y).keep fun ao l=>slL_box hb j v⟩
structure PB (w2:World) (T0 K:Nat) (g:List UInt8->Option (List UInt8)) (sb:Nat) (mo:Option Nat) (wc:World):Prop where
 bel:Below w2.heap.size w2 wc
 box:RowAt wc sb 102 #[.int .u32 (T0:Int),.map mo]
 sz:w2.heap.size<=sb
 dm:DM wc mo g K
end Go.Proofs.YtmbcegljmhcdeaaGreat
namespace Go.Proofs.YtmbcegljmhcdeaaGreat
set_option maxRecDepth 5000
open Go.RowKit
set_option maxRecDepth 5000 in
theorem ZAt.put {w we w8 w9:World} {Zb:Nat} {A:List (List UInt8)} {L:List Z.R} {ρ ρ1 ρ2:Nat->Role} {G G1:List (List UInt8)->Option Nd} {C:List (List UInt8)->Nat->Option Z.St} {K K':Nat} (Zx:ZAt w Zb A L ρ G C K) (r:Z.R) (hlow:Z.Low r.p) (hok:r.t<65536/\r.ttl<4294967296/\cn r.t r.d=some r.c/\r.d.length<=8192/\r.p.length<=128) (hnum:(Z.put L r).length<=2000)
 (hme:ZM Zb ρ w we) (hkind : ∀ i, ρ i ≠ .none->ZObj we i) {aa:Option Addr} {ac:Nat} (hrow:RowAt we Zb 94 #[.slice aa A.length ac,ptr (nodeN G []),.int .i64 ((Z.put L r).length:Int)]) (hsA:SlS we aa A) (hac:A.length<=ac)
 (hg1:Grew we w8 ρ ρ1 G G1) {x1 x2:Nd} (hx1:G1 r.p=some x1) (hall : ∀ q,(G1 q).isSome↔(G q).isSome\/q <+: r.p) (T2:TreeAt w9 ρ2 (gput G1 r.p (some x2)) (Z.cput C r.p r.t r.ttl r.c r.d) K') (hg2:Grew w8 w9 ρ1 ρ2 G1 (gput G1 r.p (some x2))) :
 ZAt w9 Zb A (Z.put L r) ρ2 (gput G1 r.p (some x2)) (Z.cput C r.p r.t r.ttl r.c r.d) K'/\More w ρ ρ2/\ZM Zb ρ w w9:=by
 have hlt:Zb<w.heap.size:=Zx.lt
 have hm2:More we ρ ρ2:=hg1.more.trans hg2.more hg1.mv.size
 have hmore:More w ρ ρ2:=fun i hi=>hm2 i (Nat.lt_of_lt_of_le hi hme.size)
 have hz1 : ρ1 Zb = .none:=by rw[hg1.more Zb hrow.lt];exact Zx.zr
 have hze9:ZM Zb ρ we w9:=(ZM.of_mv hg1.mv).trans (ZM.of_mv hg2.mv) hg1.more
 have hr8:RowAt w8 Zb 94 #[.slice aa A.length ac,ptr (nodeN G []),.int .i64 ((Z.put L r).length:Int)]:=(hg1.mv.block Zb hrow.lt Zx.zr).trans hrow
 have hr9:RowAt w9 Zb 94 #[.slice aa A.length ac,ptr (nodeN G []),.int .i64 ((Z.put L r).length:Int)]:=(hg2.mv.block Zb hr8.lt hz1).trans hr8
 have hs9:SlS w9 aa A:=slS_zm hze9 hkind hrow hsA
 refine⟨⟨⟨aa,ac,by rw[hg2.root,hg1.root];exact hr9,hs9,hac⟩,T2,Zx.of.put r,Z.put_rise Zx.rise Zx.lows hlow,Z.put_lows Zx.lows hlow,fun q hq=>?_,hnum,fun x hx=>?_,by rw[hmore Zb hlt];exact Zx.zr⟩,hmore,hme.trans hze9 (More.refl _ _)⟩
 ·rw[gput_some hx1] at hq
  rcases (hall q).1 hq with h | h
  ·exact (Zx.cov.more r) q h
  ·obtain⟨x,hx,e⟩:=Z.put_has L r
   exact Or.inr ⟨x,hx,by rw[e];exact h⟩
 ·obtain⟨y,hy,rfl⟩:=Z.mem_put.1 hx
  rw[Z.setT_t,Z.setT_d,Z.setT_c,Z.setT_p]
  have hyk:y.t<65536/\y.ttl<4294967296/\cn y.t y.d=some y.c/\y.d.length<=8192/\y.p.length<=128:=by
   rcases hy with h | ⟨_,rfl⟩
   ·exact Zx.okk y h
   ·exact hok
  refine⟨hyk.1,?_,hyk.2.2⟩
  by_cases e:y.p=r.p/\y.t=r.t
  ·rw[Z.setT_at _ _ _ _ e];exact hok.2.1
  ·rw[Z.setT_off _ _ _ _ e];exact hyk.2.1
end Go.Proofs.YtmbcegljmhcdeaaGreat
